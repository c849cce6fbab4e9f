import Derived.Lib.ItoaNum
import Derived.Lib.TrimByte
import Derived.Lib.Repeat
import Derived.Test.YtpebgjpfgfimgaaGreatDoorMem
import Derived.Test.YtpebgjpfgfimgaaGreatDoorJ11
import Derived.Laws.ResultCell
import Derived.Test.YtpebgjpfgfimgaaGreatDoorJ10
import Derived.Deep.RegionWith
import Derived.Deep.DeepCutAuto
import Derived.Test.YtpebgjpfgfimgaaGreatDoorJ9
import Derived.Test.YtpebgjpfgfimgaaGreatDoorJ8
import Derived.Deep.LoopGhost
import Derived.Shelf.Spec.TrailingZeros
import Derived.Laws.OwnMore
import Derived.Maps.AppendAt
import Derived.Deep.AppendLies
import Derived.Test.YtpebgjpfgfimgaaGreatDoorCopied
import Derived.Lib.OthersKept
namespace Go.Proofs.YtpebgjpfgfimgaaGreatDoor
open Go.RowKit
set_option maxRecDepth 100000
set_option maxHeartbeats 0
def IsDg (c : UInt8) : Prop := 48 ≤ c.toNat ∧ c.toNat ≤ 57
def dval (l : List UInt8) : Nat := l.foldl (fun a c => a * 10 + (c.toNat - 48)) 0
theorem dval_nil : dval [] = 0 := rfl
theorem dval_snoc (l : List UInt8) (c : UInt8) : dval (l ++ [c]) = dval l * 10 + (c.toNat - 48) := by unfold dval; rw [List.foldl_append]; rfl
theorem dfold (r : List UInt8) : ∀ a, r.foldl (fun a c => a * 10 + (c.toNat - 48)) a = a * 10 ^ r.length + dval r := by
  induction r with
  | nil => intro a; simp [dval]
  | cons c r ih =>
    intro a
    have h1 := ih (a * 10 + (c.toNat - 48))
    have h2 := ih (0 * 10 + (c.toNat - 48))
    have h3 : dval (c :: r) = r.foldl (fun a c => a * 10 + (c.toNat - 48)) (0 * 10 + (c.toNat - 48)) := rfl
    rw [h3, h2, List.foldl_cons, h1, List.length_cons, Nat.pow_succ, Nat.add_mul, Nat.mul_assoc a 10, Nat.mul_comm 10 (10 ^ r.length), Nat.zero_mul, Nat.zero_add]
    omega
theorem dval_app (l r : List UInt8) : dval (l ++ r) = dval l * 10 ^ r.length + dval r := by
  show (l ++ r).foldl _ 0 = _
  rw [List.foldl_append, dfold]; rfl
theorem dval_cons (c : UInt8) (r : List UInt8) : dval (c :: r) = (c.toNat - 48) * 10 ^ r.length + dval r := by
  rw [show c :: r = [c] ++ r from rfl, dval_app]; simp [dval]
theorem dval_rep (n : Nat) : dval (List.replicate n 48) = 0 := by
  induction n with
  | zero => rfl
  | succ n ih => rw [List.replicate_succ, dval_cons, ih]; show (48 - 48) * _ + 0 = 0; omega
theorem dg_nat {d : Nat} (h : d < 10) : (UInt8.ofNat (48 + d)).toNat = 48 + d := by
  rw [UInt8.toNat_ofNat']; omega
theorem dec_big {u : Nat} (h : ¬ u < 10) : Lib.decDigits u = Lib.decDigits (u / 10) ++ [UInt8.ofNat (48 + u % 10)] := by rw [Lib.decDigits, dif_neg h]
theorem dec_dg (u : Nat) : ∀ c, c ∈ Lib.decDigits u → IsDg c := by
  induction u using Nat.strongRecOn with
  | _ u ih =>
    intro c hc
    by_cases h : u < 10
    · rw [Lib.decDigits_one h] at hc
      rw [List.mem_singleton.1 hc]
      unfold IsDg; rw [dg_nat h]; omega
    · rw [dec_big h] at hc
      rcases List.mem_append.1 hc with h1 | h1
      · exact ih (u / 10) (by omega) c h1
      · rw [List.mem_singleton.1 h1]
        unfold IsDg; rw [dg_nat (Nat.mod_lt _ (by decide))]; have := Nat.mod_lt u (by decide : 10 > 0); omega
theorem dval_dec (u : Nat) : dval (Lib.decDigits u) = u := by
  induction u using Nat.strongRecOn with
  | _ u ih =>
    by_cases h : u < 10
    · rw [Lib.decDigits_one h]; show 0 * 10 + ((UInt8.ofNat (48 + u)).toNat - 48) = u; rw [dg_nat h]; omega
    · rw [dec_big h, dval_snoc, ih (u / 10) (by omega), dg_nat (Nat.mod_lt _ (by decide))]; omega
theorem dg_eq {c : UInt8} (h : IsDg c) : UInt8.ofNat (48 + (c.toNat - 48)) = c := by
  unfold IsDg at h
  rw [show 48 + (c.toNat - 48) = c.toNat by omega]; simp
theorem dval_pos {c : UInt8} {r : List UInt8} (h : IsDg c) (h0 : c ≠ 48) : 0 < dval (c :: r) := by
  rw [dval_cons]
  unfold IsDg at h
  have h1 : c.toNat ≠ 48 := fun e => h0 (UInt8.toNat_inj.1 e)
  have h2 : 1 ≤ c.toNat - 48 := by omega
  have h3 : 0 < (10 : Nat) ^ r.length := Nat.pow_pos (by decide)
  have h4 := Nat.mul_le_mul h2 h3
  omega
theorem dec_of : ∀ (n : Nat) (l : List UInt8), l.length = n → (∀ c, c ∈ l → IsDg c) → (∀ c r, l = c :: r → c ≠ 48) → l ≠ [] → Lib.decDigits (dval l) = l
  | 0, l, hn, _, _, h0 => absurd (List.eq_nil_of_length_eq_zero hn) h0
  | n + 1, l, hn, hd, hh, h0 => by
    obtain ⟨l', c, rfl⟩ : ∃ l' c, l = l' ++ [c] := ⟨l.dropLast, l.getLast h0, (List.dropLast_concat_getLast h0).symm⟩
    have hc : IsDg c := hd c (by simp)
    have hlt : c.toNat - 48 < 10 := by unfold IsDg at hc; omega
    rw [dval_snoc]
    cases l' with
    | nil =>
      rw [dval_nil, Nat.zero_mul, Nat.zero_add, Lib.decDigits_one hlt, dg_eq hc]; rfl
    | cons d r =>
      have hd0 : d ≠ 48 := hh d (r ++ [c]) rfl
      have hdd : IsDg d := hd d (by simp)
      have hp := dval_pos (r := r) hdd hd0
      have ih := dec_of n (d :: r) (by simp at hn ⊢; omega) (fun x hx => hd x (List.mem_append.2 (.inl hx))) (fun x y e => by cases e; exact hd0) (by simp)
      rw [dec_big (by omega), show (dval (d :: r) * 10 + (c.toNat - 48)) / 10 = dval (d :: r) by omega, show (dval (d :: r) * 10 + (c.toNat - 48)) % 10 = c.toNat - 48 by omega, ih, dg_eq hc]
theorem trim_dec : ∀ (l : List UInt8), (∀ c, c ∈ l → IsDg c) → dval l ≠ 0 → Lib.trimLeftB l 48 = Lib.decDigits (dval l)
  | [], _, h0 => absurd rfl h0
  | c :: r, hd, h0 => by
    by_cases h : c = 48
    · subst h
      have e : dval (48 :: r) = dval r := by rw [dval_cons]; show (48 - 48) * _ + _ = _; omega
      rw [e] at h0 ⊢
      rw [← trim_dec r (fun x hx => hd x (List.mem_cons_of_mem _ hx)) h0]
      unfold Lib.trimLeftB
      rw [List.dropWhile_cons_of_pos (by decide)]
    · rw [dec_of _ _ rfl hd (fun x y e => by cases e; exact h) (by simp)]
      unfold Lib.trimLeftB
      rw [List.dropWhile_cons_of_neg (by simpa using h)]
def pad19 (v : Nat) : List UInt8 := List.replicate (19 - (Lib.decDigits v).length) 48 ++ Lib.decDigits v
def P19 : Nat := 10000000000000000000
theorem ndig_le : ∀ (n u : Nat), u < 10 ^ (n + 1) → Lib.nDigits u ≤ n + 1
  | 0, u, h => by rw [Lib.nDigits_small (by simpa using h)]; omega
  | n + 1, u, h => by
    by_cases h1 : u < 10
    · rw [Lib.nDigits_small h1]; omega
    · rw [Lib.nDigits_big h1]
      have := ndig_le n (u / 10) (by rw [Nat.pow_succ] at h; omega)
      omega
theorem ndig_le1 {n u : Nat} (hn : 1 ≤ n) (h : u < 10 ^ n) : Lib.nDigits u ≤ n := by
  obtain ⟨k, rfl⟩ : ∃ k, n = k + 1 := ⟨n - 1, by omega⟩
  exact ndig_le k u h
theorem pad_len {v : Nat} (h : v < P19) : (pad19 v).length = 19 ∧ (Lib.decDigits v).length ≤ 19 := by
  have h1 : Lib.nDigits v ≤ 18 + 1 := ndig_le 18 v (Nat.lt_of_lt_of_le h (by decide))
  rw [← Lib.decDigits_length] at h1
  unfold pad19
  rw [List.length_append, List.length_replicate]
  omega
theorem pad_val (v : Nat) : dval (pad19 v) = v := by unfold pad19; rw [dval_app, dval_rep, dval_dec]; omega
theorem pad_dg (v : Nat) : ∀ c, c ∈ pad19 v → IsDg c := by
  intro c hc
  rcases List.mem_append.1 hc with h | h
  · rw [List.eq_of_mem_replicate h]; unfold IsDg; decide
  · exact dec_dg v c h
def pval : List Nat → Nat
  | [] => 0
  | x :: r => x + P19 * pval r
def padT : List Nat → List UInt8
  | [] => []
  | x :: r => padT r ++ pad19 x
theorem pval_snoc (es : List Nat) (x : Nat) : pval (es ++ [x]) = pval es + P19 ^ es.length * x := by
  induction es with
  | nil => show x + P19 * 0 = 0 + P19 ^ 0 * x; rw [Nat.mul_zero, Nat.pow_zero]; omega
  | cons y r ih =>
    show y + P19 * pval (r ++ [x]) = y + P19 * pval r + _
    rw [ih, List.length_cons, Nat.mul_add, Nat.pow_succ, Nat.mul_comm (P19 ^ r.length) P19, Nat.mul_assoc]
    omega
theorem padT_len : ∀ (es : List Nat), (∀ x, x ∈ es → x < P19) → (padT es).length = 19 * es.length
  | [], _ => rfl
  | x :: r, h => by
    show (padT r ++ pad19 x).length = _
    rw [List.length_append, padT_len r (fun y hy => h y (List.mem_cons_of_mem _ hy)), (pad_len (h x (List.mem_cons_self ..))).1, List.length_cons]
    omega
theorem padT_val : ∀ (es : List Nat), (∀ x, x ∈ es → x < P19) → dval (padT es) = pval es
  | [], _ => rfl
  | x :: r, h => by
    show dval (padT r ++ pad19 x) = x + P19 * pval r
    rw [dval_app, (pad_len (h x (List.mem_cons_self ..))).1, pad_val, padT_val r (fun y hy => h y (List.mem_cons_of_mem _ hy)), show (10 : Nat) ^ 19 = P19 from by decide, Nat.mul_comm]
    omega
theorem padT_dg : ∀ (es : List Nat), ∀ c, c ∈ padT es → IsDg c
  | [], c, h => by cases h
  | x :: r, c, h => by
    rcases List.mem_append.1 (show c ∈ padT r ++ pad19 x from h) with h1 | h1
    · exact padT_dg r c h1
    · exact pad_dg x c h1
def TXN : Nat := 4900
def KKN : Nat := 20000
def TXL : Nat := 10 ^ TXN
theorem txl_pos : 0 < TXL := Nat.pow_pos (by decide)
theorem txl_le {a : Nat} (h : a < TXL) : (Lib.decDigits a).length ≤ 4900 := by unfold TXL at h; rw [Lib.decDigits_length]; exact ndig_le1 (n := TXN) (by decide) h
theorem txl_gt {a : Nat} (h : ¬ a < TXL) : 4900 < (Lib.decDigits a).length := by
  rw [Lib.decDigits_length]
  have h1 := Lib.lt_pow_nDigits a
  unfold TXL at h
  exact (Nat.pow_lt_pow_iff_right (a := 10) (n := TXN) (by decide : 1 < 10)).1 (Nat.lt_of_le_of_lt (Nat.not_lt.1 h) h1)
theorem repl1 (n : Nat) : Lib.repeatL [48] n = List.replicate n 48 := by
  induction n with
  | zero => rfl
  | succ n ih => rw [Lib.repeatL, ih, List.replicate_succ]; rfl
end Go.Proofs.YtpebgjpfgfimgaaGreatDoor
namespace Go.Proofs.YtpebgjpfgfimgaaGreatDoor
open Go.RowKit Go.Shelf Go.Sort
set_option maxRecDepth 100000
set_option maxHeartbeats 0
def TbP (w : World) : Prop := Lib.TabIs Tryz.prog w "internal/strconv.uint64pow10" .u64 Lib.pow10Tab
theorem TbP.below {w w' : World} (h : TbP w) (hb : Below w.heap.size w w') : TbP w' := by
  unfold TbP Lib.TabIs World.var? at *
  cases hg : Program.globalNamed Tryz.prog "internal/strconv.uint64pow10" with
  | none => simp [hg] at h
  | some g =>
    simp only [hg, Option.bind_some] at h ⊢
    have hlt : g < w.heap.size := by
      rcases Nat.lt_or_ge g w.heap.size with h1 | h1
      · exact h1
      · rw [Array.getElem?_eq_none h1] at h; simp at h
    rw [hb.block g hlt]
    exact h
theorem small_c (i : Nat) (h : i < 100) (w : World) : Calls Tryz.prog 88 #[.int .i64 i] w fun e w' => e = .returned (.string ⟨(Lib.decDigits i).toArray⟩) ∧ w' = w := Any.internal_strconv_small laysn283 i h w
theorem ndig_c (u : Nat) (h1 : 1 ≤ u) (h2 : u < 18446744073709551616) (w : World) (ht : TbP w) : Calls Tryz.prog 89 #[.int .u64 u] w fun e w' => e = .returned (.int .i64 (Lib.nDigits u)) ∧ w' = w := Any.internal_strconv_numDigits laysn284 u h1 h2 w ht
theorem fmt10_c (blk off cap : Nat) (u : Nat) (d : Array UInt8) (w : World) (hH : Holds (fun (b : UInt8) => Value.int .u8 (b.toNat : Int)) w blk off d) (hu : u < 10 ^ d.size) (hu64 : u < 18446744073709551616) (hsz : d.size < 4611686018427387904) :
    Calls Tryz.prog 90 #[.slice (some ⟨blk, off, none⟩) d.size cap, .int .u64 u] w fun e w' =>
      e = .returned (.tuple #[]) ∧ ∃ (n v' : Nat) (dk : Array UInt8), w' = (putRow (fun (b : UInt8) => Value.int .u8 (b.toNat : Int)) w blk off dk).drewN n ∧ Lib.FmtInv d.size u 0 v' dk := Any.internal_strconv_formatBase10 laysn285 blk off cap u d w hH hu hu64 hsz
theorem repeat_c (s : ByteArray) (c : Nat) (w : World) (hc : c ≤ 9223372036854775807) (hlen : s.size * c ≤ 140737488355328) :
    Calls Tryz.prog 40 #[.string s, .int .i64 c] w fun e w' => e = .returned (.string ⟨(Lib.repeatL s.data.toList c).toArray⟩) ∧ Below w.heap.size w w' := Any.strings_Repeat laysn105 laysX s c w hc hlen
theorem trim_c (s : ByteArray) (c : UInt8) (hc : c.toNat < 128) (w : World) :
    Calls Tryz.prog 18 #[.string s, .string ⟨#[c]⟩] w fun e w' => e = .returned (.string ⟨(Lib.trimLeftB s.data.toList c).toArray⟩) ∧ w' = w := Any.strings_TrimLeft_one laysn161 s c hc w
def BldP (B b : Nat) (l : List UInt8) (w : World) : Prop := Lib.IsBuilder 74 5 B b (Lib.byteCells l) w
theorem wstr_c (B b : Nat) (l : List UInt8) (s : ByteArray) (w : World) (h : BldP B b l w) (hlen : l.length + s.size ≤ 140737488355328) (hBw : B ≤ w.heap.size) :
    Calls Tryz.prog 39 #[.pointer (some ⟨b, 0, none⟩), .string s] w fun e w' => e = .returned (.tuple #[.int .i64 s.size, .nilIface]) ∧ BldP B b (l ++ s.data.toList) w' ∧ Below B w w' := by
  refine (Any.Builder_WriteString laysn166 laysX B b (Lib.byteCells l) s w h (by rw [Lib.byteCells_length]; exact hlen) hBw).mono ?_
  rintro e w' ⟨rfl, h1, h2⟩
  refine ⟨rfl, .inr ?_, h2⟩
  rw [Lib.byteCells_append, ← Lib.strCells_eq]
  exact h1
theorem bstr_c (B b : Nat) (l : List UInt8) (w : World) (h : BldP B b l w) (hBw : B ≤ w.heap.size) :
    Calls Tryz.prog 41 #[.pointer (some ⟨b, 0, none⟩)] w fun e w' => e = .returned (.string ⟨l.toArray⟩) ∧ Below B w w' := Any.Builder_String_any laysn169 laysX B b l w h hBw
theorem bldAt_below {T e : TypeId} {B b : Nat} {p : Value} {bs : List Value} {w w' : World} (h : Lib.BuilderAt T e B b p bs w) (hb : Below w.heap.size w w') : Lib.BuilderAt T e B b p bs w' := by
  obtain ⟨h1, v, h2, h3, h4⟩ := h
  have lt : ∀ {k : Nat} {o : Obj}, w.heap[k]? = some o → k < w.heap.size := fun {k o} hk => by
    rcases Nat.lt_or_ge k w.heap.size with h6 | h6
    · exact h6
    · rw [Array.getElem?_eq_none h6] at hk; cases hk
  refine ⟨h1, v, (hb.block _ (lt h2)).trans h2, ⟨h3.1, ?_⟩, h4⟩
  rcases h3.2 with h5 | ⟨g, cap, cur, h5, h6, h7, h8⟩
  · exact .inl h5
  · exact .inr ⟨g, cap, cur, h5, h6, (hb.block _ (lt h7)).trans h7, h8⟩
theorem BldP.below {B b : Nat} {l : List UInt8} {w w' : World} (h : BldP B b l w) (hb : Below w.heap.size w w') : BldP B b l w' := h.elim (fun x => .inl (bldAt_below x hb)) (fun x => .inr (bldAt_below x hb))
theorem BldP.new (w : World) : BldP w.heap.size w.heap.size [] (w.alloc (.cells #[.pointer none, .slice none 0 0] 74)) :=
  .inl ⟨Nat.le_refl _, .slice none 0 0, by first | (show (w.heap.push _)[w.heap.size]? = _; simp; done) | (rw [World.alloc_eq]; simp), ⟨rfl, .inl ⟨rfl, rfl⟩⟩, by simp [Value.ownBlock]⟩
theorem holds_zero0 (w : World) (T : TypeId) (nd : Nat) (hs : nd ≤ 24) : Holds (fun (b : UInt8) => Value.int .u8 (b.toNat : Int)) (w.alloc (.cells Lib.zeros24 T)) w.heap.size 0 (Array.replicate nd (0 : UInt8)) := fun j hj => by
  have hj' : j < nd := by simpa using hj
  refine ⟨?_, World.frozen?_alloc_new _ _ _ _⟩
  rw [World.cell?_alloc_new, Lib.zeros24_at _ (by omega), getElem!_pos _ j hj]
  simp
theorem fin0 (w : World) (o : Obj) (dk : Array UInt8) (k : Nat) : Below w.heap.size w ((putRow (fun (b : UInt8) => Value.int .u8 (b.toNat : Int)) (w.alloc o) w.heap.size 0 dk).drewN k) := by
  rw [alloc_eq_grow]
  obtain ⟨os', _, e⟩ := putRow_grow_new (fun (b : UInt8) => Value.int .u8 (b.toNat : Int)) w #[o] w.heap.size 0 dk (Nat.le_refl _)
  rw [e]
  exact ⟨rfl, rfl, rfl, by simp [grow, World.drewN], fun j hj => heap_grow_old (w.drewN k) os' hj⟩
theorem fmtu_in (u : Nat) (hu64 : u < 18446744073709551616) (w : World) (htab : TbP w) :
    Calls Tryz.prog 67 #[.int .u64 u, .int .i64 10] w fun e w' => e = .returned (.string ⟨(Lib.decDigits u).toArray⟩) ∧ Below w.heap.size w w' := by
  by_cases hs : u < 100
  · have hw1 : wrap64 (u : Int) = (u : Int) := by unfold wrap64; omega
    have hd1 : decide ((u : Int) < 100) = true := decide_eq_true (by omega)
    have hd2 : decide (u < 100) = true := decide_eq_true hs
    go_enter Tryz.func67, Tryz.ntmps67
    go_wp2_with (refine (small_c u hs _).mono ?_; rintro e w' ⟨rfl, rfl⟩)
    go_ret
    exact ⟨rfl, Below.refl _ _⟩
  · have hu1 : 1 ≤ u := by omega
    have hnd20 : Lib.nDigits u ≤ 20 := by have := Lib.numDigits_eq u hu1 hu64; split at this <;> omega
    have hd1 : decide ((u : Int) < 100) = false := decide_eq_false (by omega)
    have hd2 : decide (u < 100) = false := decide_eq_false hs
    have hal : Program.arrayLen Tryz.prog 121 = 24 := by simp [Program.arrayLen, Tryz.underlying121]
    have hsl1 : ∀ W, (Instr.sliceAt 121 (.pointer (some ⟨w.heap.size, 0, none⟩)) none (some (.int .i64 (Lib.nDigits u : Int))) none).run Tryz.prog W = .ok (.slice (some ⟨w.heap.size, 0, none⟩) (Lib.nDigits u) 24) W := fun W => by
      rw [run_sliceAt_array_h W 121 ⟨w.heap.size, 0, none⟩ (by simp [Program.arrayLen, Program.elem, Tryz.underlying121]) .i64 (Lib.nDigits u : Int) (by omega) (by rw [hal]; omega)]
      go_simp
    have hH0 := holds_zero0 w 121 (Lib.nDigits u) (by omega)
    have hfmt := fmt10_c w.heap.size 0 24 u (Array.replicate (Lib.nDigits u) 0) (w.alloc (.cells Lib.zeros24 121)) hH0 (by rw [Array.size_replicate]; exact Lib.lt_pow_nDigits u) hu64 (by rw [Array.size_replicate]; omega)
    rw [Array.size_replicate] at hfmt
    have HH0 : Hid (Holds (fun (b : UInt8) => Value.int .u8 (b.toNat : Int)) (w.alloc (.cells Lib.zeros24 121)) w.heap.size 0 (Array.replicate (Lib.nDigits u) (0 : UInt8))) := hH0
    clear hH0 hal
    go_enter Tryz.func67, Tryz.ntmps67
    go_wp2_with (go_at_call 89; refine (ndig_c u hu1 hu64 _ (Lib.tabIs_alloc htab _)).mono ?_; rintro e w' ⟨rfl, rfl⟩)
    refine hfmt.mono ?_
    rintro e w' ⟨rfl, k, v', dk, rfl, hF⟩
    have hcv : (convert 22 9 (.slice (some ⟨w.heap.size, 0, none⟩) (Lib.nDigits u) 24)).run Tryz.prog ((putRow (fun (b : UInt8) => Value.int .u8 (b.toNat : Int)) (w.alloc (.cells Lib.zeros24 121)) w.heap.size 0 dk).drewN k) = .ok (.string ⟨(Lib.decDigits u).toArray⟩) ((putRow (fun (b : UInt8) => Value.int .u8 (b.toNat : Int)) (w.alloc (.cells Lib.zeros24 121)) w.heap.size 0 dk).drewN k) := by
      have h := run_convert_bytes_back (P := Tryz.prog) ((putRow (fun (b : UInt8) => Value.int .u8 (b.toNat : Int)) (w.alloc (.cells Lib.zeros24 121)) w.heap.size 0 dk).drewN k) 22 9 5 ⟨w.heap.size, 0, none⟩ 24 (Lib.decDigits u) Tryz.underlying22 Tryz.underlying5 Tryz.underlying9 (fun j hj => by
        rw [Lib.row_is_numeral hF j hj, Lib.add_plain, World.cell?_drewN]
        exact cell?_putRow (fun (b : UInt8) => Value.int .u8 (b.toNat : Int)) _ w.heap.size 0 _ dk HH0.out (by rw [hF.size, Array.size_replicate]) j (by rw [hF.size]; rw [Lib.decDigits_length] at hj; exact hj))
      rw [Lib.decDigits_length] at h
      exact h
    go_wp2
    go_ret
    exact ⟨rfl, fin0 w _ dk k⟩
theorem fmtu_c (u : Nat) (hu64 : u < 18446744073709551616) (w : World) (htab : TbP w) :
    Calls Tryz.prog 38 #[.int .u64 u, .int .i64 10] w fun e w' => e = .returned (.string ⟨(Lib.decDigits u).toArray⟩) ∧ Below w.heap.size w w' := by
  go_enter Tryz.func38, Tryz.ntmps38
  go_wp2_with fail
  refine (fmtu_in u hu64 w htab).mono ?_
  rintro e w' ⟨rfl, hb⟩
  go_wp2_with fail
  go_ret
  exact ⟨rfl, hb⟩
end Go.Proofs.YtpebgjpfgfimgaaGreatDoor
namespace Go.Proofs.YtpebgjpfgfimgaaGreatDoor
open Go.RowKit Go.Shelf
set_option maxRecDepth 100000
set_option maxHeartbeats 0
def iv (s : Bool) (a : Nat) : Int := if s then -(a : Int) else (a : Int)
abbrev ZV (s : Bool) (p : Option Addr) (n c : Nat) : Value := .agg #[.bool s, .slice p n c]
def AnsI (B : Nat) (w' : World) (e : Ending) (z : Int) : Prop :=
  (z.natAbs < LIM ∧ ∃ p m zs, e = .returned (.tuple #[ZV (decide (z < 0)) p m m, .int .i64 0]) ∧ Own B w' p m zs ∧ Nf B64 zs z.natAbs ∧ m ≤ 8192) ∨
  (LIM ≤ z.natAbs ∧ e = .returned (.tuple #[ZV false none 0 0, .int .i64 5]))
theorem AnsI.ok {B : Nat} {w' : World} {e : Ending} {z : Int} (h : AnsI B w' e z) (hz : z.natAbs < LIM) : ∃ p m zs, e = .returned (.tuple #[ZV (decide (z < 0)) p m m, .int .i64 0]) ∧ Own B w' p m zs ∧ Nf B64 zs z.natAbs ∧ m ≤ 8192 := by
  rcases h with ⟨_, h⟩ | ⟨h, _⟩
  · exact h
  · omega
theorem AnsI.no {B : Nat} {w' : World} {e : Ending} {z : Int} (h : AnsI B w' e z) (hz : LIM ≤ z.natAbs) : e = .returned (.tuple #[ZV false none 0 0, .int .i64 5]) := by
  rcases h with ⟨h, _⟩ | ⟨_, h⟩
  · omega
  · exact h
theorem Num.zero {w : World} {p : Option Addr} {m c : Nat} {xs : List Nat} {a : Nat} (h : Num w p m c xs a) : m = 0 ↔ a = 0 := by
  rw [← h.nf.zero_iff B64_one, ← h.at_.len]
  exact ⟨List.eq_nil_of_length_eq_zero, fun e => by rw [e]; rfl⟩

theorem Row.oth {w : World} {g off n : Nat} {xs : List Nat} (h : Row w g off n xs) (g2 o2 : Nat) (v : Value) (hne : g ≠ g2) : Row (w.setCell ⟨g2, o2, none⟩ v) g off n xs := by
  refine ⟨h.len, h.dig, fun j hj => ?_, fun j hj => by rw [World.frozen?_setCell]; exact h.frozen j hj⟩
  exact (World.cell?_setCell_other _ _ _ _ (by intro e; apply hne; have := congrArg Addr.block e; simp at this; omega)).trans (h.cell j hj)
theorem bSet {B : Nat} {a w : World} (h : Below B a w) (g o : Nat) (v : Value) (hB : B ≤ g) : Below B a (w.setCell ⟨g, o, none⟩ v) :=
  h.trans ((Wr.refl g o 1 w).setCell o ⟨by omega, by omega⟩ v |>.below hB)
theorem Nf.lenpos {zs : List Nat} {n m : Nat} (h : Nf B64 zs n) (hl : zs.length = m) : decide (0 < m) = decide (0 < n) := by
  refine decide_eq_decide.2 ?_
  have := h.zero_iff B64_one
  constructor
  · intro hm
    rcases Nat.eq_zero_or_pos n with e | e
    · have := this.2 e; rw [this] at hl; simp at hl; omega
    · exact e
  · intro hn
    rcases Nat.eq_zero_or_pos m with e | e
    · have := this.1 (List.eq_nil_of_length_eq_zero (by omega)); omega
    · exact e
end Go.Proofs.YtpebgjpfgfimgaaGreatDoor
namespace Go.Proofs.YtpebgjpfgfimgaaGreatDoor
open Go.RowKit
set_option maxRecDepth 100000
set_option maxHeartbeats 0
variable {P : Program} {md : Region.Mode} {ops : Array Oper} {Q : Exit → Act → World → Prop} {J : World → Prop}
variable {P : Program} {md : Region.Mode} {ops : Array Oper} {Q : Exit → Act → World → Prop} {J : World → Prop}
end Go.Proofs.YtpebgjpfgfimgaaGreatDoor
namespace Go.Proofs.YtpebgjpfgfimgaaGreatDoor
open Go.RowKit Go.Shelf
set_option maxRecDepth 100000
set_option maxHeartbeats 0
structure Box (W : World) (g : Nat) (v0 v1 : Value) : Prop where
  c0 : W.cell? ⟨g, 0, none⟩ = some v0
  c1 : W.cell? ⟨g, 1, none⟩ = some v1
  f0 : W.frozen? ⟨g, 0, none⟩ = false
  f1 : W.frozen? ⟨g, 1, none⟩ = false
theorem Box.below {W W' : World} {g : Nat} {v0 v1 : Value} (h : Box W g v0 v1) (hb : Below W.heap.size W W') : Box W' g v0 v1 := by
  have hl : g < W.heap.size := World.block_lt_of_cell? W _ h.c0
  exact ⟨(hb.cell (p := ⟨g, 0, none⟩) hl).trans h.c0, (hb.cell (p := ⟨g, 1, none⟩) hl).trans h.c1, (hb.frozen (p := ⟨g, 0, none⟩) hl).trans h.f0, (hb.frozen (p := ⟨g, 1, none⟩) hl).trans h.f1⟩
theorem Box.new (w : World) (ty : TypeId) (v0 v1 : Value) : Box (w.alloc (.cells #[v0, v1] ty)) w.heap.size v0 v1 := ⟨by go_simp, by go_simp, by go_simp, by go_simp⟩
def Told (z : Int) (s : Bool) (m : Nat) (zs : List Nat) (er : Int) : Prop :=
  (z.natAbs < LIM ∧ s = decide (z < 0) ∧ Nf B64 zs z.natAbs ∧ m ≤ 8192 ∧ er = 0) ∨ (LIM ≤ z.natAbs ∧ s = false ∧ zs = [] ∧ m = 0 ∧ er = 5)
theorem AnsI.any {B : Nat} {w' : World} {e : Ending} {z : Int} (h : AnsI B w' e z) : ∃ s p m zs er, e = .returned (.tuple #[ZV s p m m, .int .i64 er]) ∧ At w' p m m zs ∧ Told z s m zs er := by
  rcases h with ⟨hz, p, m, zs, rfl, ho, hn, hm⟩ | ⟨hz, rfl⟩
  · exact ⟨_, p, m, zs, 0, rfl, ho.at_ hm, .inl ⟨hz, rfl, hn, hm, rfl⟩⟩
  · exact ⟨false, none, 0, [], 5, rfl, At.empty _ none 0 (by decide), .inr ⟨hz, rfl, rfl, rfl, rfl⟩⟩
theorem Told.inj {z : Int} {s s' : Bool} {m m' : Nat} {zs zs' : List Nat} {er er' : Int} (h : Told z s m zs er) (k : Told z s' m' zs' er') : s = s' ∧ zs = zs' ∧ er = er' := by
  rcases h with ⟨hz, rfl, hn, hm, rfl⟩ | ⟨hz, rfl, rfl, rfl, rfl⟩ <;> rcases k with ⟨kz, rfl, kn, km, rfl⟩ | ⟨kz, rfl, rfl, rfl, rfl⟩
  · exact ⟨rfl, hn.inj B64_one kn, rfl⟩
  · omega
  · omega
  · exact ⟨rfl, rfl, rfl⟩
theorem Told.er {z : Int} {s : Bool} {m : Nat} {zs : List Nat} {er : Int} (h : Told z s m zs er) : er = 0 ∨ er = 5 := by
  rcases h with ⟨_, _, _, _, rfl⟩ | ⟨_, _, _, _, rfl⟩
  · exact .inl rfl
  · exact .inr rfl
theorem Told.ok {z : Int} {s : Bool} {m : Nat} {zs : List Nat} {w : World} {p : Option Addr} (h : Told z s m zs 0) (a : At w p m m zs) : Num w p m m zs z.natAbs ∧ s = decide (z < 0) := by
  rcases h with ⟨_, h1, h2, h3, _⟩ | ⟨_, _, _, _, h⟩
  · exact ⟨⟨a, h2, h3⟩, h1⟩
  · exact absurd h (by decide)
theorem Told.no {z : Int} {s : Bool} {m : Nat} {zs : List Nat} (h : Told z s m zs 5) : LIM ≤ z.natAbs := by
  rcases h with ⟨_, _, _, _, h⟩ | ⟨h, _⟩
  · exact absurd h (by decide)
  · exact h
theorem iv_natAbs (s : Bool) (a : Nat) : (iv s a).natAbs = a := by cases s <;> simp [iv]
def TzIs (v k : Nat) : Prop := v % 2 ^ k = 0 ∧ v / 2 ^ k % 2 = 1
theorem TzIs.inj {v k l : Nat} (h : TzIs v k) (h' : TzIs v l) : k = l := by
  have aux : ∀ {a b : Nat}, TzIs v a → TzIs v b → ¬ a < b := by
    intro a b ha hb hab
    obtain ⟨d, hd⟩ : ∃ d, b = a + (d + 1) := ⟨b - a - 1, by omega⟩
    have h1 := Nat.dvd_of_mod_eq_zero hb.1
    obtain ⟨q, hq⟩ := h1
    have h2 := ha.2
    rw [hq, hd, Nat.pow_add, Nat.mul_assoc, Nat.mul_div_cancel_left _ (Nat.pow_pos (by decide)), Nat.pow_succ, Nat.mul_comm (2 ^ d) 2, Nat.mul_assoc, Nat.mul_mod_right] at h2
    exact absurd h2 (by decide)
  rcases Nat.lt_trichotomy k l with e | e | e
  · exact absurd e (aux h h')
  · exact e
  · exact absurd e (aux h' h)
theorem TzIs.ex : ∀ (v : Nat), 0 < v → ∃ k, TzIs v k := by
  intro v
  induction v using Nat.strongRecOn with
  | _ v ih =>
    intro hv
    rcases Nat.mod_two_eq_zero_or_one v with h | h
    · obtain ⟨k, h1, h2⟩ := ih (v / 2) (by omega) (by omega)
      refine ⟨k + 1, ?_, ?_⟩
      · rw [Nat.pow_succ, Nat.mul_comm, Nat.mod_mul, h, h1]
      · rw [Nat.pow_succ, Nat.mul_comm, ← Nat.div_div_eq_div_mul]; exact h2
    · exact ⟨0, by rw [Nat.pow_zero, Nat.mod_one], by rw [Nat.pow_zero, Nat.div_one]; exact h⟩
theorem TzIs.ge {v k n : Nat} (h : TzIs v k) (hn : v % 2 ^ n = 0) : n ≤ k := by
  rcases Nat.lt_or_ge k n with e | e
  · exfalso
    obtain ⟨d, hd⟩ : ∃ d, n = k + (d + 1) := ⟨n - k - 1, by omega⟩
    obtain ⟨q, hq⟩ := Nat.dvd_of_mod_eq_zero hn
    have h2 := h.2
    rw [hq, hd, Nat.pow_add, Nat.mul_assoc, Nat.mul_div_cancel_left _ (Nat.pow_pos (by decide)), Nat.pow_succ, Nat.mul_comm (2 ^ d) 2, Nat.mul_assoc, Nat.mul_mod_right] at h2
    exact absurd h2 (by decide)
  · exact e
def Tab (w : World) : Prop := TabAt 7 Lib.deBruijn64tab w
theorem Tab.below {w w' : World} (h : Tab w) (hb : Below w.heap.size w w') : Tab w' := by
  intro j hj
  have h1 := h j hj
  have hl : 7 < w.heap.size := World.block_lt_of_cell? w _ h1
  exact (hb.cell (p := ⟨7, j, none⟩) hl).trans h1
def TzO (v k : Nat) : Prop := (v = 0 ∧ k = 0) ∨ (v ≠ 0 ∧ TzIs v k)
theorem TzO.inj {v k l : Nat} (h : TzO v k) (h' : TzO v l) : k = l := by
  rcases h with ⟨h1, rfl⟩ | ⟨h1, h2⟩ <;> rcases h' with ⟨h3, rfl⟩ | ⟨h3, h4⟩
  · rfl
  · exact absurd h1 h3
  · exact absurd h3 h1
  · exact h2.inj h4
theorem TzO.ex (v : Nat) : ∃ k, TzO v k := by
  by_cases h : v = 0
  · exact ⟨0, .inl ⟨h, rfl⟩⟩
  · obtain ⟨k, hk⟩ := TzIs.ex v (by omega)
    exact ⟨k, .inr ⟨h, hk⟩⟩
def neUp (a d : Nat) : Bool := decide (d < 2 * (a % d)) || (decide (2 * (a % d) = d) && decide (a / d % 2 = 1))
def HfIs (r d : Nat) (h : Int) : Prop := (2 * r < d ∧ h = -1) ∨ (2 * r = d ∧ h = 0) ∨ (d < 2 * r ∧ h = 1)
theorem HfIs.up {a d : Nat} {h : Int} (k : HfIs (a % d) d h) : neUp a d = (decide (0 < h) || (decide (h = 0) && decide (a / d % 2 = 1))) := by
  unfold neUp
  rcases k with ⟨k, rfl⟩ | ⟨k, rfl⟩ | ⟨k, rfl⟩
  · rw [decide_eq_false (by omega), decide_eq_false (p := 2 * (a % d) = d) (by omega)]; rfl
  · rw [decide_eq_false (by omega), decide_eq_true (p := 2 * (a % d) = d) (by omega)]; rfl
  · rw [decide_eq_true (by omega)]; rfl
def mo (s t : Bool) (a b : Nat) : Int := iv t (if ((s != t) && decide (a % b ≠ 0)) = true then b - a % b else a % b)
def AnsZ (B : Nat) (w' : World) (v : Value) (z : Int) : Prop :=
  ∃ p m zs, v = ZV (decide (z < 0)) p m m ∧ Own B w' p m zs ∧ Nf B64 zs z.natAbs ∧ m ≤ 8192
theorem iv_lt (s : Bool) (n : Nat) : decide (iv s n < 0) = (s && decide (0 < n)) := by
  cases s
  · simp [iv]
  · simp only [iv, if_true, Bool.true_and]; exact decide_eq_decide.2 (by omega)
theorem AnsZ.mk {B : Nat} {w' : World} {p : Option Addr} {m : Nat} {zs : List Nat} {q : Nat} (s : Bool) (ho : Own B w' p m zs) (hn : Nf B64 zs q) (hm : m ≤ 8192) : AnsZ B w' (ZV (s && decide (0 < m)) p m m) (iv s q) :=
  ⟨p, m, zs, by rw [iv_lt, hn.lenpos ho.len], ho, by rw [iv_natAbs]; exact hn, hm⟩
theorem AnsZ.below {B : Nat} {w w' : World} {v : Value} {z : Int} (h : AnsZ B w v z) (hb : Below w.heap.size w w') : AnsZ B w' v z := by
  obtain ⟨p, m, zs, rfl, ho, hn, hm⟩ := h
  exact ⟨p, m, zs, rfl, ho.below hb, hn, hm⟩
structure B4q (W : World) (g : Nat) (v0 v1 v2 v3 : Value) : Prop where
  c0 : W.cell? ⟨g, 0, none⟩ = some v0
  c1 : W.cell? ⟨g, 1, none⟩ = some v1
  c2 : W.cell? ⟨g, 2, none⟩ = some v2
  c3 : W.cell? ⟨g, 3, none⟩ = some v3
  f0 : W.frozen? ⟨g, 0, none⟩ = false
  f1 : W.frozen? ⟨g, 1, none⟩ = false
  f2 : W.frozen? ⟨g, 2, none⟩ = false
  f3 : W.frozen? ⟨g, 3, none⟩ = false
theorem B4q.below {W W' : World} {g : Nat} {v0 v1 v2 v3 : Value} (h : B4q W g v0 v1 v2 v3) (hb : Below W.heap.size W W') : B4q W' g v0 v1 v2 v3 := by
  have hl : g < W.heap.size := World.block_lt_of_cell? W _ h.c0
  exact ⟨(hb.cell (p := ⟨g, 0, none⟩) hl).trans h.c0, (hb.cell (p := ⟨g, 1, none⟩) hl).trans h.c1, (hb.cell (p := ⟨g, 2, none⟩) hl).trans h.c2, (hb.cell (p := ⟨g, 3, none⟩) hl).trans h.c3,
    (hb.frozen (p := ⟨g, 0, none⟩) hl).trans h.f0, (hb.frozen (p := ⟨g, 1, none⟩) hl).trans h.f1, (hb.frozen (p := ⟨g, 2, none⟩) hl).trans h.f2, (hb.frozen (p := ⟨g, 3, none⟩) hl).trans h.f3⟩
theorem B4q.new (w : World) (ty : TypeId) (v0 v1 v2 v3 : Value) : B4q (w.alloc (.cells #[v0, v1, v2, v3] ty)) w.heap.size v0 v1 v2 v3 :=
  ⟨by go_simp, by go_simp, by go_simp, by go_simp, by go_simp, by go_simp, by go_simp, by go_simp⟩
theorem Box.lt {W : World} {g : Nat} {v0 v1 : Value} (h : Box W g v0 v1) : g < W.heap.size := World.block_lt_of_cell? W _ h.c0
theorem B4q.lt {W : World} {g : Nat} {v0 v1 v2 v3 : Value} (h : B4q W g v0 v1 v2 v3) : g < W.heap.size := World.block_lt_of_cell? W _ h.c0
theorem Own.setNot {B : Nat} {w : World} {p : Option Addr} {m : Nat} {zs : List Nat} (h : Own B w p m zs) (g2 o2 : Nat) (v : Value) (hne : ∀ g, p = some ⟨g, 0, none⟩ → 0 < m → g ≠ g2) : Own B (w.setCell ⟨g2, o2, none⟩ v) p m zs := by
  refine ⟨h.len, h.dig, ?_⟩
  rcases h.mem with h0 | ⟨g, hp, hB, hr⟩
  · exact .inl h0
  · by_cases hm : m = 0
    · exact .inl hm
    · exact .inr ⟨g, hp, hB, hr.oth g2 o2 v (hne g hp (by omega))⟩
structure GN (w : World) (p : Option Addr) (m a : Nat) : Prop where
  mem : ∃ xs, At w p m m xs ∧ Nf B64 xs a
  len : m ≤ 8192
theorem GN.below {w w' : World} {p : Option Addr} {m a : Nat} (h : GN w p m a) (hb : Below w.heap.size w w') : GN w' p m a := by
  obtain ⟨⟨zs, h1, h2⟩, h3⟩ := h
  exact ⟨⟨zs, h1.below hb, h2⟩, h3⟩
theorem GN.cast {w : World} {p : Option Addr} {m a b : Nat} (h : GN w p m a) (e : a = b) : GN w p m b := e ▸ h
theorem GN.zero {w : World} {p : Option Addr} {m a : Nat} (h : GN w p m a) : m = 0 ↔ a = 0 := by
  obtain ⟨⟨zs, h1, h2⟩, h3⟩ := h
  rw [← h2.zero_iff B64_one, ← h1.len]
  exact List.length_eq_zero_iff
theorem GN.nil (w : World) (p : Option Addr) : GN w p 0 0 := ⟨⟨[], At.empty w p 0 (Nat.zero_le _), Nf.nil _⟩, by omega⟩
theorem GN.own {B : Nat} {w : World} {p : Option Addr} {m a : Nat} {zs : List Nat} (h : Own B w p m zs) (k : Nf B64 zs a) (l : m ≤ 8192) : GN w p m a := ⟨⟨zs, h.at_ l, k⟩, l⟩
structure GO (B : Nat) (w : World) (p : Option Addr) (m a : Nat) : Prop where
  mem : ∃ xs, Own B w p m xs ∧ Nf B64 xs a
  len : m ≤ 8192
theorem GO.gn {B : Nat} {w : World} {p : Option Addr} {m a : Nat} (h : GO B w p m a) : GN w p m a := by
  obtain ⟨⟨zs, h1, h2⟩, h3⟩ := h
  exact GN.own h1 h2 h3
theorem GO.below {B : Nat} {w w' : World} {p : Option Addr} {m a : Nat} (h : GO B w p m a) (hb : Below w.heap.size w w') : GO B w' p m a := by
  obtain ⟨⟨zs, h1, h2⟩, h3⟩ := h
  exact ⟨⟨zs, h1.below hb, h2⟩, h3⟩
theorem GO.mono {B B' : Nat} {w : World} {p : Option Addr} {m a : Nat} (h : GO B w p m a) (hB : B' ≤ B) : GO B' w p m a := by
  obtain ⟨⟨zs, h1, h2⟩, h3⟩ := h
  exact ⟨⟨zs, h1.mono hB, h2⟩, h3⟩
theorem GO.set {B : Nat} {w : World} {p : Option Addr} {m a : Nat} (h : GO B w p m a) (g2 o2 : Nat) (v : Value) (hg : g2 < B) : GO B (w.setCell ⟨g2, o2, none⟩ v) p m a := by
  obtain ⟨⟨zs, h1, h2⟩, h3⟩ := h
  refine ⟨⟨zs, h1.setNot g2 o2 v (fun g hp hm => ?_), h2⟩, h3⟩
  obtain ⟨g3, e1, e2, _⟩ := h1.mem.resolve_left (by omega)
  rw [hp] at e1
  simp only [Option.some.injEq, Addr.mk.injEq, and_true] at e1
  omega
theorem GO.cast {B : Nat} {w : World} {p : Option Addr} {m a b : Nat} (h : GO B w p m a) (e : a = b) : GO B w p m b := e ▸ h
def GNs (w w' : World) (e : Ending) (a : Nat) : Prop := ∃ p m, e = .returned (.tuple #[.slice p m m, .int .i64 0]) ∧ GO w.heap.size w' p m a ∧ Below w.heap.size w w'
theorem glim_of {a K : Nat} (hK : K ≤ 100000) (h : a < 2 ^ K) : a < LIM := by
  obtain ⟨k, hk⟩ : ∃ k, k = 8192 := ⟨_, rfl⟩
  rw [LIM_eq k hk, show B64 = 2 ^ 64 from rfl, ← Nat.pow_mul]
  exact Nat.lt_of_lt_of_le h (Nat.pow_le_pow_right (by decide) (by omega))
theorem Ans.gn {w w' : World} {e : Ending} {a K : Nat} (h : Ans w.heap.size w' e a) (hb : Below w.heap.size w w') (hK : K ≤ 100000) (hl : a < 2 ^ K) : GNs w w' e a := by
  rcases h with ⟨_, p, m, zs, rfl, h1, h2, h3⟩ | ⟨h1, _⟩
  · exact ⟨_, _, rfl, ⟨⟨zs, h1, h2⟩, h3⟩, hb⟩
  · exact absurd (glim_of hK hl) (Nat.not_lt.2 h1)
theorem gn_add {w : World} {p : Option Addr} {m a : Nat} (h : GN w p m a) {q : Option Addr} {n b : Nat} (k : GN w q n b) {K : Nat} (hK : K ≤ 100000) (hb : a + b < 2 ^ K) : Calls Tryz.prog 31 #[.slice p m m, .slice q n n] w fun e w' => GNs w w' e (a + b) := by
  obtain ⟨⟨zs, h1, h2⟩, h3⟩ := h
  obtain ⟨⟨ys, k1, k2⟩, k3⟩ := k
  refine (add_ord h1 k1 h2 k2 h3 k3).mono ?_
  rintro e w' ⟨g, hb2⟩
  exact g.gn hb2 hK hb
theorem gn_mulw {w : World} {p : Option Addr} {m a : Nat} (h : GN w p m a) (v : Nat) (hv : v < B64) {K : Nat} (hK : K ≤ 100000) (hb : a * v < 2 ^ K) : Calls Tryz.prog 30 #[.slice p m m, U v] w fun e w' => GNs w w' e (a * v) := by
  obtain ⟨⟨zs, h1, h2⟩, h3⟩ := h
  refine (mulw_nf h1 h2 h3 v hv).mono ?_
  rintro e w' ⟨g, hb2⟩
  exact g.gn hb2 hK hb
theorem gn_word {w : World} (v : Nat) (hv : v < B64) : Calls Tryz.prog 22 #[U v] w fun e w' => ∃ p m, e = .returned (.slice p m m) ∧ GN w' p m v ∧ Below w.heap.size w w' := by
  refine (word_any v w hv).mono ?_
  rintro e w' ⟨p, m, zs, rfl, g1, g2, g3, hb⟩
  exact ⟨_, _, rfl, GN.own g1 g2 (by omega), hb⟩
end Go.Proofs.YtpebgjpfgfimgaaGreatDoor
namespace Go.Proofs.YtpebgjpfgfimgaaGreatDoor
open Go.RowKit
set_option maxRecDepth 100000
set_option maxHeartbeats 0
structure OwR (w : World) (hB : Nat) (lv : Value) (k : Nat) (es : List Nat) : Prop where
  row : w.ownsRow hB 34 1 lv k (cellsU es)
theorem OwR.below {w w' : World} {hB k : Nat} {lv : Value} {es : List Nat} (h : OwR w hB lv k es) (hb : Below w.heap.size w w') : OwR w' hB lv k es := by
  refine ⟨⟨h.row.1, ?_⟩⟩
  rcases h.row.2 with h2 | ⟨g, cap, cur, h2, h3, h4, h5⟩
  · exact .inl h2
  · have hg : g < w.heap.size := by
      rcases Nat.lt_or_ge g w.heap.size with h6 | h6
      · exact h6
      · rw [Array.getElem?_eq_none h6] at h4; cases h4
    exact .inr ⟨g, cap, cur, h2, h3, (hb.block _ hg).trans h4, h5⟩
theorem OwR.set {w : World} {hB k : Nat} {lv : Value} {es : List Nat} (h : OwR w hB lv k es) (g o : Nat) (v : Value) (hg : g < hB) : OwR (w.setCell ⟨g, o, none⟩ v) hB lv k es := ⟨ownsRow_setCell_below h.row (a := ⟨g, o, none⟩) hg v⟩
theorem OwR.cells {w : World} {hB k : Nat} {lv : Value} {es : List Nat} (h : OwR w hB lv k es) : ∃ p cap, lv = .slice p k cap ∧ ∀ j, j < k → ∃ g, p = some ⟨g, 0, none⟩ ∧ w.cell? ⟨g, j, none⟩ = some (U (es.getD j 0)) := by
  rcases h.row.2 with ⟨h1, h2⟩ | ⟨g, cap, cur, h1, h2, h3, h4⟩
  · exact ⟨none, 0, by rw [h1, h2], fun j hj => by omega⟩
  · refine ⟨_, cap, h1, fun j hj => ⟨g, rfl, ?_⟩⟩
    have h5 := h.row
    rw [h1] at h5
    rw [h5.cellAt j (by omega)]
    have hl : es.length = k := by have := h.row.1; unfold cellsU at this; rw [List.length_map] at this; omega
    unfold cellsU
    rw [List.getElem?_map, List.getElem?_eq_getElem (by omega), List.getD_eq_getElem?_getD, List.getElem?_eq_getElem (by omega)]
    rfl
theorem OwR.cap {w : World} {hB k c : Nat} {p : Option Addr} {es : List Nat} (h : OwR w hB (.slice p k c) k es) : k ≤ c := by
  rcases h.row.2 with ⟨h1, h2⟩ | ⟨g, cap, cur, h1, h2, h3, h4, _⟩
  · simp only [Value.slice.injEq] at h1; omega
  · simp only [Value.slice.injEq] at h1; omega
theorem OwR.lt {w : World} {hB k : Nat} {lv : Value} {es : List Nat} (h : OwR w hB lv k es) : ∀ b, lv.ownBlock = some b → hB ≤ b ∧ b < w.heap.size := h.row.lt
theorem At.growN {w w' : World} {p : Option Addr} {n c : Nat} {xs : List Nat} {row : Option Nat} (h : At w p n c xs) (hg : w.grownBy w' row) (hne : ∀ g off, p = some ⟨g, off, none⟩ → n ≠ 0 → some g ≠ row) : At w' p n c xs := by
  refine ⟨h.len, h.cap, h.big, h.dig, ?_⟩
  rcases h.cells with h1 | ⟨g', off, h1, h2⟩
  · exact .inl h1
  · by_cases h0 : n = 0
    · exact .inl h0
    · exact .inr ⟨g', off, h1, fun j hj => hg.cell (h2 j hj) (hne g' off h1 h0)⟩
end Go.Proofs.YtpebgjpfgfimgaaGreatDoor
namespace Go.Proofs.YtpebgjpfgfimgaaGreatDoor
open Go.RowKit Go.Shelf
set_option maxRecDepth 100000
set_option maxHeartbeats 0
theorem p19_pow {k a K : Nat} (h : P19 ^ k ≤ a) (hK : a < 2 ^ K) : 63 * k < K := by
  have h1 : (2 ^ 63 : Nat) ^ k ≤ P19 ^ k := Nat.pow_le_pow_left (by decide) k
  rw [← Nat.pow_mul] at h1
  exact (Nat.pow_lt_pow_iff_right (by decide : 1 < 2)).1 (Nat.lt_of_le_of_lt (Nat.le_trans h1 h) hK)
theorem own_blk9 {B : Nat} {w : World} {p : Option Addr} {m : Nat} {zs : List Nat} (h : Own B w p m zs) (h8 : m ≤ 8192) : ∀ g off, p = some ⟨g, off, none⟩ → m ≠ 0 → B ≤ g ∧ g < w.heap.size := fun g off e hm => by
  obtain ⟨g1, e1, h2, h3⟩ := h.mem.resolve_left hm
  rw [e] at e1; simp only [Option.some.injEq, Addr.mk.injEq, and_true] at e1
  refine ⟨by omega, ?_⟩
  have h4 := (h.at_ h8).cells.resolve_left hm
  obtain ⟨g4, o4, e4, hc⟩ := h4
  rw [e] at e4; simp only [Option.some.injEq, Addr.mk.injEq, and_true] at e4
  rw [e4.1]; exact World.block_lt_of_cell? w _ (hc 0 (by omega))
theorem padT_drop {es : List Nat} {k i : Nat} (hl : es.length = k) (hi : i < k) : padT (es.drop (k - i)) ++ pad19 (es.getD (k - 1 - i) 0) = padT (es.drop (k - (i + 1))) := by
  have e : es.drop (k - (i + 1)) = es.getD (k - 1 - i) 0 :: es.drop (k - i) := by
    rw [show k - (i + 1) = k - 1 - i by omega, show k - i = (k - 1 - i) + 1 by omega, List.getD_eq_getElem?_getD, List.getElem?_eq_getElem (by omega), List.drop_eq_getElem_cons (by omega)]; rfl
  rw [e]; rfl
theorem padded_ok {p : Option Addr} {m c a : Nat} {xs : List Nat} {w : World} (h : At w p m c xs) (hx : Nf B64 xs a) (hm : m ≤ 8192) (ha : a < 2 ^ KKN) (ht : TbP w) :
    Calls Tryz.prog 19 #[.slice p m c] w fun en w' => ∃ l : List UInt8, en = .returned (.string ⟨l.toArray⟩) ∧ (∀ c, c ∈ l → IsDg c) ∧ dval l = a ∧ Below w.heap.size w w' := by
  obtain ⟨i0, hi, hz0, hz1, hz2⟩ := info_parts Tryz.infoU64
  obtain ⟨KK, hKK, hK2⟩ : ∃ K : Nat, K = KKN ∧ K = 20000 := ⟨KKN, rfl, rfl⟩
  rw [← hKK] at ha
  have HT : Hid (TbP w) := ht
  have HA : Hid (a < 2 ^ KK ∧ KK = 20000) := ⟨ha, hK2⟩
  have AT0 : Hid (At w p m c xs ∧ Nf B64 xs a ∧ m ≤ 8192) := ⟨h, hx, hm⟩
  have HB : Hid (∀ g off, p = some ⟨g, off, none⟩ → m ≠ 0 → g < w.heap.size) := fun g off e hm0 => by
    obtain ⟨g1, o1, e1, hc⟩ := h.cells.resolve_left hm0
    rw [e] at e1; simp only [Option.some.injEq, Addr.mk.injEq, and_true] at e1
    rw [e1.1]; exact World.block_lt_of_cell? w _ (hc 0 (by omega))
  clear h hx hm ha hKK hK2 ht
  go_enter Tryz.func19, Tryz.ntmps19
  go_wp2_with fail
  have hbw : Below w.heap.size w w := Below.refl _ _
  go_loopg [0, 3] a (fun gk av lv wr => ∃ (x k m1 c1 : Nat) (es xs1 : List Nat) (p1 : Option Addr), gk = x ∧ av = .slice p1 m1 c1 ∧ At wr p1 m1 c1 xs1 ∧ Nf B64 xs1 x ∧ m1 ≤ 8192 ∧ OwR wr w.heap.size lv k es ∧ es.length = k ∧ (∀ y, y ∈ es → y < P19) ∧ pval es + P19 ^ k * x = a ∧ k ≤ 401 ∧ (∀ g off, p1 = some ⟨g, off, none⟩ → m1 ≠ 0 → some g ≠ lv.ownBlock) ∧ Below w.heap.size w wr)
  case atStart => exact ⟨a, 0, m, c, [], xs, p, rfl, rfl, AT0.out.1, AT0.out.2.1, AT0.out.2.2, ⟨⟨rfl, .inl ⟨rfl, rfl⟩⟩⟩, rfl, fun y hy => absurd hy (by simp), by show 0 + P19 ^ 0 * a = a; rw [Nat.pow_zero]; omega, by omega, fun g off _ _ h => (by cases h), hbw⟩
  case round =>
    obtain ⟨x, k, m1, c1, es, xs1, p1, rfl, rfl, xA, xN, xm, xO, xl, xd, xv, xk, xs2, hbr⟩ := hrel
    clear hbw HB AT0
    have hbw := hbr
    have AT1 : Hid (At wr p1 m1 c1 xs1) := xA
    have NF1 : Hid (Nf B64 xs1 gk ∧ m1 ≤ 8192) := ⟨xN, xm⟩
    have OW : Hid (OwR wr w.heap.size u3 k es) := xO
    have HE : Hid (es.length = k ∧ (∀ y, y ∈ es → y < P19) ∧ pval es + P19 ^ k * gk = a ∧ k ≤ 401) := ⟨xl, xd, xv, xk⟩
    have HSP : Hid (∀ g off, p1 = some ⟨g, off, none⟩ → m1 ≠ 0 → some g ≠ u3.ownBlock) := xs2
    have hmx : m1 = 0 ↔ gk = 0 := by rw [← xN.zero_iff B64_one, ← xA.len]; exact List.length_eq_zero_iff
    clear xA xN xO xl xd xv xs2 hbr xm xk
    by_cases hm1 : m1 = 0
    · obtain rfl : gk = 0 := hmx.1 hm1
      clear hmx
      subst hm1
      obtain ⟨pp, cc, rfl, hcl⟩ := OW.out.cells
      have HC : Hid (∀ j, j < k → ∃ g, pp = some ⟨g, 0, none⟩ ∧ wr.cell? ⟨g, j, none⟩ = some (U (es.getD j 0))) := hcl
      clear hcl AT1 HSP NF1 OW
      go_wp2_with fail
      obtain ⟨W0, hW0⟩ : ∃ W0, W0 = (wr.alloc (.cells #[.pointer none, .slice none 0 0] 74)) := ⟨_, rfl⟩
      have BL0 : Hid (BldP wr.heap.size wr.heap.size [] W0) := by rw [hW0]; exact BldP.new wr
      have HB0 : Hid (Below wr.heap.size wr W0) := by rw [hW0]; exact below1 wr _
      rw [← hW0]
      clear hW0
      obtain ⟨gb, hgb⟩ : ∃ g, g = wr.heap.size := ⟨_, rfl⟩
      rw [← hgb] at BL0 HB0
      have HGB : Hid (gb = wr.heap.size) := hgb
      rw [← hgb]
      clear hgb
      obtain ⟨V0, hV0⟩ : ∃ V, V = wr := ⟨_, rfl⟩
      subst hV0
      have HT0 : Hid (TbP V0) := HT.out.below hbw
      clear HT
      have hbw0 := hbw
      clear hbw
      go_loopg [26] k (fun gk iv wr => ∃ (i : Nat), i + gk = k ∧ iv = .int .i64 (i : Int) ∧ BldP gb gb (padT (es.drop (k - i))) wr ∧ Below gb V0 wr)
      case atStart => exact ⟨0, by omega, rfl, by rw [Nat.sub_zero, List.drop_of_length_le (by rw [HE.out.1]; exact Nat.le_refl _)]; exact BL0.out, HB0.out⟩
      case round =>
        obtain ⟨i, hig, rfl, xb, hbr⟩ := hrel
        clear BL0 HB0
        have BL : Hid (BldP gb gb (padT (es.drop (k - i))) wr) := xb
        have hbw := hbr
        clear xb hbr
        by_cases hi2 : i < k
        · obtain ⟨g1, rfl⟩ : ∃ g, gk = g + 1 := ⟨gk - 1, by omega⟩
          obtain ⟨j, hj⟩ : ∃ j, j = k - 1 - i := ⟨_, rfl⟩
          obtain ⟨e, he⟩ : ∃ e, e = es.getD j 0 := ⟨_, rfl⟩
          obtain ⟨gp, rfl, hc0⟩ := HC.out j (by omega)
          have hcj : wr.cell? ⟨gp, j, none⟩ = some (U e) := by rw [he]; exact (hbw.cell (p := ⟨gp, j, none⟩) (by rw [HGB.out]; exact World.block_lt_of_cell? V0 _ hc0)).trans hc0
          have HE2 : Hid (e < P19 ∧ j = k - 1 - i ∧ e = es.getD j 0 ∧ i < k ∧ i + (g1 + 1) = k) := ⟨by rw [he, List.getD_eq_getElem?_getD, List.getElem?_eq_getElem (by rw [HE.out.1]; omega)]; exact HE.out.2.1 _ (List.getElem_mem _), hj, he, hi2, hig⟩
          have hk401 := HE.out.2.2.2
          have hj2 : 0 ≤ (j : Int) ∧ (j : Int) < (k : Int) := by omega
          have hj3 : j < k := by omega
          have wi1 : wrap64 ((k : Int) - 1) = ((k - 1 : Nat) : Int) := by simp only [wrap64]; omega
          have wi2 : wrap64 (((k - 1 : Nat) : Int) - (i : Int)) = (j : Int) := by simp only [wrap64]; omega
          have wi3 : wrap64 ((i : Int) + 1) = ((i + 1 : Nat) : Int) := by simp only [wrap64]; omega
          have hd1 : decide ((i : Int) < (k : Int)) = true := decide_eq_true (by omega)
          have hd2 : decide (i < k) = true := decide_eq_true (by omega)
          have hcj2 : wr.cell? ⟨gp, k - 1 - i, none⟩ = some (U e) := by rw [← hj]; exact hcj
          clear hcj wi1 wi2 hj2 hj3
          clear he hj hc0
          go_wp2_with fail
          clear hd1 hd2 hcj2
          have HSG : Hid (gb ≤ wr.heap.size) := by have := hbw.size; have := HGB.out; show _ ≤ _; omega
          refine (fmtu_c e (by have := HE2.out.1; unfold P19 at this; omega) wr (HT0.out.below (HGB.out ▸ hbw))).mono ?_
          rintro en v1 ⟨rfl, hb1⟩
          have BL1 : Hid (BldP gb gb (padT (es.drop (k - i))) v1) := BL.out.below hb1
          have hbw1 := hbw.trans (hb1.mono HSG.out)
          clear BL hbw
          obtain ⟨ds, hds⟩ : ∃ ds : ByteArray, ds = ⟨(Lib.decDigits e).toArray⟩ := ⟨_, rfl⟩
          rw [← hds]
          obtain ⟨sn, hsn⟩ : ∃ n : Nat, n = 19 - ds.size := ⟨_, rfl⟩
          have hsz : ds.size = (Lib.decDigits e).length := by rw [hds]; rfl
          have hs19 : ds.size ≤ 19 := by rw [hsz]; exact (pad_len HE2.out.1).2
          have wq : wrap64 (19 - (ds.size : Int)) = (sn : Int) := by simp only [wrap64]; omega
          have HD : Hid (ds = ⟨(Lib.decDigits e).toArray⟩ ∧ sn = 19 - ds.size ∧ ds.size ≤ 19 ∧ ds.size = (Lib.decDigits e).length) := ⟨hds, hsn, hs19, hsz⟩
          clear hds hsn hsz hs19
          go_wp2_with fail
          have HSG1 : Hid (gb ≤ v1.heap.size) := by have := HSG.out; have := hb1.size; show _ ≤ _; omega
          refine (repeat_c ⟨#[48]⟩ sn v1 (by have := HD.out.2.1; omega) (by have := HD.out.2.1; show 1 * sn ≤ _; omega)).mono ?_
          rintro en v2 ⟨rfl, hb2⟩
          have BL2 : Hid (BldP gb gb (padT (es.drop (k - i))) v2) := BL1.out.below hb2
          have hbw2 := hbw1.trans (hb2.mono HSG1.out)
          have HSG2 : Hid (gb ≤ v2.heap.size) := by have := HSG1.out; have := hb2.size; show _ ≤ _; omega
          clear BL1 hbw1 hb1 wq
          obtain ⟨rs, hrs⟩ : ∃ rs : ByteArray, rs = ⟨(Lib.repeatL [48] sn).toArray⟩ := ⟨_, rfl⟩
          rw [show (⟨(Lib.repeatL (⟨#[48]⟩ : ByteArray).data.toList sn).toArray⟩ : ByteArray) = rs from hrs.symm]
          have HRS : Hid (rs.data.toList = List.replicate sn 48 ∧ rs.size = sn) := by rw [hrs, repl1]; exact ⟨rfl, by show (List.replicate sn (48 : UInt8)).toArray.size = sn; simp⟩
          clear hrs hb2
          have HPL : Hid ((padT (es.drop (k - i))).length ≤ 7619) := by show _ ≤ _; rw [padT_len _ (fun y hy => HE.out.2.1 y (List.mem_of_mem_drop hy)), List.length_drop, HE.out.1]; omega
          go_wp2_with fail
          refine (wstr_c gb gb (padT (es.drop (k - i))) rs v2 BL2.out (by have := HPL.out; have := HRS.out.2; have := HD.out; omega) HSG2.out).mono ?_
          rintro en v3 ⟨rfl, hB3, hb3⟩
          have BL3 : Hid (BldP gb gb (padT (es.drop (k - i)) ++ rs.data.toList) v3) := hB3
          have HSG3 : Hid (gb ≤ v3.heap.size) := by have := HSG2.out; have := hb3.size; show _ ≤ _; omega
          have hbw3 := hbw2.trans hb3
          clear hB3 hb3 hbw2 BL2
          go_wp2_with fail
          refine (wstr_c gb gb (padT (es.drop (k - i)) ++ rs.data.toList) ds v3 BL3.out (by rw [List.length_append, HRS.out.1, List.length_replicate]; have := HPL.out; have := HD.out; omega) HSG3.out).mono ?_
          rintro en v4 ⟨rfl, hB4, hb4⟩
          have hbw4 := hbw3.trans hb4
          clear hb4 hbw3 BL3
          go_wp2_with fail
          go_roundg g1
          case measure => omega
          case rel =>
            refine ⟨i + 1, by have := HE2.out.2.2.2.2; omega, by first | rfl | go_num, ?_, hbw4⟩
            have h1 := HE2.out
            have h2 := padT_drop HE.out.1 h1.2.2.2.1
            rw [← h1.2.1, ← h1.2.2.1] at h2
            rw [← h2]
            unfold pad19
            rw [← HD.out.2.2.2, ← HD.out.2.1, ← HRS.out.1, ← List.append_assoc]
            have h3 : ds.data.toList = Lib.decDigits e := by rw [HD.out.1]
            rw [h3] at hB4
            exact hB4
        · obtain rfl : i = k := by omega
          have hd1 : decide ((i : Int) < (i : Int)) = false := decide_eq_false (by omega)
          have hd2 : decide (i < i) = false := decide_eq_false (by omega)
          have HSG : Hid (gb ≤ wr.heap.size) := by have := hbw.size; have := HGB.out; show _ ≤ _; omega
          clear hi2 hig
          go_wp2_with fail
          refine (bstr_c gb gb (padT (es.drop (i - i))) wr BL.out HSG.out).mono ?_
          rintro en v1 ⟨rfl, hb1⟩
          have hbw1 := hbw.trans hb1
          clear hbw hb1
          rw [Nat.sub_self, List.drop_zero]
          go_wp2_with fail
          go_ret
          exact ⟨_, rfl, padT_dg es, by rw [padT_val es HE.out.2.1]; have := HE.out.2.2.1; omega, Below.on hbw0 (HGB.out ▸ hbw1)⟩
    · have hx0 : 1 ≤ gk := by omega
      have hk400 : k ≤ 400 := by have h1 := HE.out.2.2.1; have h2 := HA.out; have h3 : P19 ^ k * 1 ≤ P19 ^ k * gk := Nat.mul_le_mul_left _ hx0; have h4 := p19_pow (k := k) (a := a) (K := KK) (by omega) h2.1; omega
      have hd1 : decide ((0 : Int) < (m1 : Int)) = true := decide_eq_true (by omega)
      have hd2 : decide (0 < m1) = true := decide_eq_true (by omega)
      clear hmx hm1
      go_wp2_with fail
      clear hd1 hd2
      have HBK : Hid (∀ b, u3.ownBlock = some b → w.heap.size ≤ b ∧ b < wr.heap.size) := OW.out.lt
      refine (divw_nf AT1.out NF1.out.1 NF1.out.2 10000000000000000000 (by decide) (by decide)).mono ?_
      rintro e v1 ⟨⟨p2, m2, zs, rfl, hO, hN, hm2⟩, hb1⟩
      have AT2 : Hid (Own wr.heap.size v1 p2 m2 zs ∧ Nf B64 zs (gk / P19) ∧ m2 ≤ 8192) := ⟨hO, hN, hm2⟩
      clear hO hN hm2 AT1 NF1 HSP
      have OW1 : Hid (OwR v1 w.heap.size u3 k es) := OW.out.below hb1
      have HS1 : Hid (wr.heap.size ≤ v1.heap.size) := hb1.size
      clear OW
      have hbw1 := Below.on hbw hb1
      clear hbw hb1
      obtain ⟨r, hr⟩ : ∃ r, r = gk % 10000000000000000000 := ⟨_, rfl⟩
      rw [← hr]
      have HR : Hid (r = gk % P19 ∧ 1 ≤ gk) := ⟨hr, hx0⟩
      clear hr hx0
      have OWA : Hid ((v1.alloc (.cells #[U r] 34)).ownsRow w.heap.size 34 1 u3 k (cellsU es)) := OW1.out.row.alloc _
      have HSZ : Hid (w.heap.size ≤ (v1.alloc (.cells #[U r] 34)).heap.size ∧ (v1.alloc (.cells #[U r] 34)).heap.size = v1.heap.size + 1) := ⟨by have := hbw1.size; simp; omega, by simp⟩
      clear OW1
      go_wp2_with (at_builtin; refine wpList_append_own_at _ rfl _ _ 23 rfl w.heap.size 34 i0 (.int .u64 0) 1 8 Tryz.underlying23 hi hz0 hz1 hz2 rfl (by decide) _ _ _ rfl OWA.out ⟨v1.heap.size, 0, none⟩ 1 1 [U r] rfl rfl (cell_one_new _ _ _) (by intro u hu; simp at hu; subst hu; rfl) (by unfold maxLen; omega) (by omega) HSZ.out.1 ?_; intro v6 w6 hown6 hgr6 hnil6 hat6)
      go_roundg (gk / P19)
      case measure => exact Nat.div_lt_self HR.out.2 (by decide)
      case rel =>
        have hb2 := own_blk9 AT2.out.1 AT2.out.2.2
        have hbk := HBK.out
        have hs := HSZ.out
        have hs1 := HS1.out
        have hbwa : Below w.heap.size w (v1.alloc (.cells #[U r] 34)) := Below.on hbw1 (below1 v1 _)
        refine ⟨_, k + 1, m2, m2, es ++ [r], zs, p2, rfl, rfl, ((AT2.out.1.at_ AT2.out.2.2).alloc _).growN hgr6 ?_, AT2.out.2.1, AT2.out.2.2, ⟨?_⟩, by rw [List.length_append, HE.out.1]; rfl, ?_, ?_, ?_, ?_, ?_⟩
        · intro g off e0 hm h; have h1 := hb2 g off e0 hm; have h2 := hbk g h.symm; omega
        · have e0 : cellsU (es ++ [r]) = cellsU es ++ [U r] := by unfold cellsU; rw [List.map_append]; rfl
          rw [e0]; exact hown6
        · intro y hy; rcases List.mem_append.1 hy with h1 | h1
          · exact HE.out.2.1 y h1
          · rw [List.mem_singleton.1 h1, HR.out.1]; exact Nat.mod_lt _ (by decide)
        · rw [pval_snoc, HE.out.1, Nat.pow_succ, HR.out.1, Nat.mul_assoc, Nat.add_assoc, ← Nat.mul_add, Nat.mod_add_div]; exact HE.out.2.2.1
        · omega
        · intro g off e0 hm h; have h1 := hb2 g off e0 hm; rcases hat6 with h3 | h3
          · rw [h3] at h; have h2 := hbk g h.symm; omega
          · rw [h3] at h; simp only [Option.some.injEq] at h; omega
        · exact hbwa.grown hgr6 hbwa.size fun b hb => (hbk b hb).1
structure RN (w : World) (p : Option Addr) (m a : Nat) : Prop where
  mem : ∃ zs, At32 w p m m zs ∧ Nf B32 zs a
  len : m ≤ 4000
theorem RN.below {w w' : World} {p : Option Addr} {m a : Nat} (h : RN w p m a) (hb : Below w.heap.size w w') : RN w' p m a := by
  obtain ⟨⟨zs, h1, h2⟩, h3⟩ := h
  exact ⟨⟨zs, h1.below hb, h2⟩, h3⟩
theorem RN.cast {w : World} {p : Option Addr} {m a b : Nat} (h : RN w p m a) (e : a = b) : RN w p m b := e ▸ h
theorem rn_len {w : World} {p : Option Addr} {m c a K : Nat} {zs : List Nat} (h : At32 w p m c zs) (hN : Nf B32 zs a) (hK : K ≤ 100000) (hb : a < 2 ^ K) : m ≤ 4000 := by
  rw [← h.len]
  obtain ⟨k, hk⟩ : ∃ k, k = 3200 := ⟨_, rfl⟩
  refine Nat.le_trans ((hN.len_le (k := k) (by decide)).2 (Nat.lt_of_lt_of_le hb ?_)) (by omega)
  rw [show B32 = 2 ^ 32 from rfl, ← Nat.pow_mul]
  exact Nat.pow_le_pow_right (by decide) (by omega)
theorem RN.mk2 {w : World} {p : Option Addr} {m a K : Nat} {zs : List Nat} (h : At32 w p m m zs) (hN : Nf B32 zs a) (hK : K ≤ 100000) (hb : a < 2 ^ K) : RN w p m a := ⟨⟨zs, h, hN⟩, rn_len h hN hK hb⟩
theorem RN.zero {w : World} {p : Option Addr} {m a : Nat} (h : RN w p m a) : m = 0 ↔ a = 0 := by
  obtain ⟨⟨zs, h1, h2⟩, h3⟩ := h
  rw [← h2.zero_iff (by decide), ← h1.len]
  exact List.length_eq_zero_iff
def sb (s : ByteArray) (i : Nat) : Nat := if h : i < s.size then (s[i]'h).toNat else 0
theorem sb_eq {s : ByteArray} {i : Nat} (h : i < s.size) : (s[i]'h).toNat = sb s i := by unfold sb; rw [dif_pos h]
def IsD (s : ByteArray) (i : Nat) : Prop := 48 ≤ sb s i ∧ sb s i ≤ 57
def dN (s : ByteArray) : Nat → Nat
  | 0 => 0
  | i + 1 => dN s i * 10 + (sb s i - 48)
theorem dN_succ (s : ByteArray) (i : Nat) : dN s (i + 1) = dN s i * 10 + (sb s i - 48) := rfl
theorem dN_lt {s : ByteArray} : ∀ {i : Nat}, (∀ j, j < i → IsD s j) → dN s i < 10 ^ i
  | 0, _ => by show 0 < 1; decide
  | i + 1, h => by
    have h1 := dN_lt (fun j hj => h j (by omega) : ∀ j, j < i → IsD s j)
    have h2 := h i (by omega)
    rw [dN_succ, Nat.pow_succ]
    unfold IsD at h2
    omega
theorem ten_pow {n K : Nat} (h : 4 * n ≤ K) : (10 : Nat) ^ n ≤ 2 ^ K := by
  refine Nat.le_trans (Nat.pow_le_pow_left (by decide : 10 ≤ 2 ^ 4) n) ?_
  rw [← Nat.pow_mul]
  exact Nat.pow_le_pow_right (by decide) (by omega)
def RdOk (s : ByteArray) : Prop := s.size ≤ 4900 ∧ s.size ≠ 0 ∧ ∀ j, j < s.size → IsD s j
def rdErr (s : ByteArray) : Int := if 4900 < s.size then 7 else 8
theorem extended_ok {p : Option Addr} {m a : Nat} {w : World} (h : GN w p m a) (v x : Nat) (hv : v < B64) (hx : x < B64) {K : Nat} (hK : K ≤ 100000) (hb : a * v + x < 2 ^ K) :
    Calls Tryz.prog 15 #[.slice p m m, U v, U x] w fun en w' => ∃ q l, en = .returned (.slice q l l) ∧ GO w.heap.size w' q l (a * v + x) ∧ Below w.heap.size w w' := by
  have HA : Hid (GN w p m a) := h
  have HX : Hid (v < B64 ∧ x < B64 ∧ K ≤ 100000 ∧ a * v + x < 2 ^ K ∧ a * v < 2 ^ K) := ⟨hv, hx, hK, hb, by omega⟩
  clear h hv hx hb hK
  go_enter Tryz.func15, Tryz.ntmps15
  go_wp2_with fail
  have hbw : Below w.heap.size w w := Below.refl _ _
  refine (gn_mulw HA.out v HX.out.1 HX.out.2.2.1 HX.out.2.2.2.2).mono ?_
  rintro e v1 ⟨p1, m1, rfl, hR, hb1⟩
  have GN1 : Hid (GN v1 p1 m1 (a * v)) := hR.gn
  clear hR
  replace HA : Hid (GN v1 p m a) := HA.out.below hb1
  replace hbw := Below.on hbw hb1
  clear hb1
  clear HA
  go_wp2_with fail
  refine (gn_word x HX.out.2.1).mono ?_
  rintro e v2 ⟨p2, m2, rfl, hR, hb2⟩
  have GN2 : Hid (GN v2 p2 m2 x) := hR
  clear hR
  replace GN1 : Hid (GN v2 p1 m1 (a * v)) := GN1.out.below hb2
  replace hbw := Below.on hbw hb2
  clear hb2
  go_wp2_with fail
  have HS1 : Hid (w.heap.size ≤ v2.heap.size) := hbw.size
  refine (gn_add GN1.out GN2.out HX.out.2.2.1 HX.out.2.2.2.1).mono ?_
  rintro e v3 ⟨p3, m3, rfl, hR, hb3⟩
  have GO3 : Hid (GO v2.heap.size v3 p3 m3 (a * v + x)) := hR
  clear hR
  replace GN1 : Hid (GN v3 p1 m1 (a * v)) := GN1.out.below hb3
  replace GN2 : Hid (GN v3 p2 m2 x) := GN2.out.below hb3
  replace hbw := Below.on hbw hb3
  clear hb3
  go_wp2_with fail
  go_ret
  exact ⟨_, _, rfl, GO3.out.mono HS1.out, hbw⟩
def TxA (xs : List Nat) (s : ByteArray) (e : Int) : Prop := (formB xs = true ∧ valB B64 xs < TXL ∧ s = ⟨(Lib.decDigits (valB B64 xs)).toArray⟩ ∧ e = 0) ∨ (formB xs = true ∧ ¬ valB B64 xs < TXL ∧ s = ⟨#[]⟩ ∧ e = 5) ∨ (formB xs = false ∧ s = ⟨#[]⟩ ∧ e = 2)
theorem TxA.uniq {xs : List Nat} {s t : ByteArray} {e f : Int} (h : TxA xs s e) (k : TxA xs t f) : s = t ∧ e = f := by
  rcases h with ⟨h1, h2, rfl, rfl⟩ | ⟨h1, h2, rfl, rfl⟩ | ⟨h1, rfl, rfl⟩ <;> rcases k with ⟨k1, k2, rfl, rfl⟩ | ⟨k1, k2, rfl, rfl⟩ | ⟨k1, rfl, rfl⟩
  · exact ⟨rfl, rfl⟩
  · exact absurd h2 k2
  · rw [h1] at k1; cases k1
  · exact absurd k2 h2
  · exact ⟨rfl, rfl⟩
  · rw [h1] at k1; cases k1
  · rw [h1] at k1; cases k1
  · rw [h1] at k1; cases k1
  · exact ⟨rfl, rfl⟩
theorem txl_bits {a : Nat} (h : 19600 < bitsN a) : ¬ a < TXL := by
  have h0 : a ≠ 0 := fun e => by rw [e, bitsN_zero] at h; omega
  have h1 := bitsN_le a h0
  have h2 : (10 : Nat) ^ TXN ≤ 2 ^ (bitsN a - 1) := ten_pow (by unfold TXN; omega)
  unfold TXL
  omega
theorem bits_kk {a : Nat} (h : ¬ 19600 < bitsN a) : a < 2 ^ KKN := Nat.lt_of_lt_of_le (bitsN_lt a) (Nat.pow_le_pow_right (by decide) (by unfold KKN; omega))
theorem text_ok {p : Option Addr} {m c : Nat} {xs : List Nat} {w : World} (h : At w p m c xs) (ht : TbP w) :
    Calls Tryz.prog 6 #[.slice p m c] w fun en w' => ∃ s er, en = .returned (.tuple #[.string s, .int .i64 er]) ∧ TxA xs s er ∧ Below w.heap.size w w' := by
  have AT : Hid (At w p m c xs ∧ TbP w) := ⟨h, ht⟩
  have hl := h.len
  clear ht
  cases hf : formB xs with
  | false =>
    have HF : Hid (formB xs = false) := hf
    go_enter Tryz.func6, Tryz.ntmps6
    go_wp2_with fail
    refine (form_false AT.out.1 hf).mono ?_
    rintro e w1 ⟨rfl, rfl⟩
    clear h
    go_wp2_with fail
    go_ret2
    exact ⟨_, _, rfl, .inr (.inr ⟨HF.out, rfl, rfl⟩), Below.refl _ _⟩
  | true =>
    have hnf := formB_nf hf h.dig
    have HF : Hid (formB xs = true ∧ Nf B64 xs (valB B64 xs) ∧ xs.length ≤ 8192 ∧ xs.length = m) := ⟨hf, hnf.1, hnf.2, hl⟩
    have hmz : m = 0 ↔ valB B64 xs = 0 := by rw [← hnf.1.zero_iff B64_one, ← hl]; exact List.length_eq_zero_iff
    clear h hnf
    by_cases hm0 : m = 0
    · have HV : Hid (valB B64 xs = 0) := hmz.1 hm0
      subst hm0
      clear hmz
      go_enter Tryz.func6, Tryz.ntmps6
      go_wp2_with fail
      refine (form_true AT.out.1 hf).mono ?_
      rintro e w1 ⟨rfl, rfl⟩
      clear hf
      go_wp2_with fail
      go_ret2
      refine ⟨_, _, rfl, .inl ⟨HF.out.1, by rw [HV.out]; exact txl_pos, ?_, rfl⟩, Below.refl _ _⟩
      rw [HV.out, Lib.decDigits_one (by decide)]; rfl
    · have hm1 : ((m : Int) == 0) = false := by simp; omega
      obtain ⟨bn, hbn⟩ : ∃ b, b = bitsN (valB B64 xs) := ⟨_, rfl⟩
      have HBN : Hid (bn = bitsN (valB B64 xs)) := hbn
      have HVZ : Hid (valB B64 xs ≠ 0) := fun e => hm0 (hmz.2 e)
      clear hmz
      go_enter Tryz.func6, Tryz.ntmps6
      go_wp2_with fail
      refine (form_true AT.out.1 hf).mono ?_
      rintro e w1 ⟨rfl, rfl⟩
      clear hf
      go_wp2_with fail
      refine (bits_any AT.out.1 (by have := HF.out; omega)).mono ?_
      rintro e w1 ⟨rfl, rfl⟩
      rw [← hbn]
      clear hbn
      by_cases hb : 19600 < bn
      · have hd1 : decide ((19600 : Int) < (bn : Int)) = true := decide_eq_true (by omega)
        have hd2 : decide (19600 < bn) = true := decide_eq_true hb
        have HNL : Hid (¬ valB B64 xs < TXL) := txl_bits (HBN.out ▸ hb)
        go_wp2_with fail
        go_ret2
        exact ⟨_, _, rfl, .inr (.inl ⟨HF.out.1, HNL.out, rfl, rfl⟩), Below.refl _ _⟩
      · have hd1 : decide ((19600 : Int) < (bn : Int)) = false := decide_eq_false (by omega)
        have hd2 : decide (19600 < bn) = false := decide_eq_false hb
        have HKK : Hid (valB B64 xs < 2 ^ KKN) := bits_kk (HBN.out ▸ hb)
        clear hb
        go_wp2_with fail
        clear hd1 hd2
        refine (padded_ok AT.out.1 HF.out.2.1 (by have := HF.out; omega) HKK.out AT.out.2).mono ?_
        rintro e v1 ⟨l, rfl, hdg, hdv, hb1⟩
        have HL : Hid ((∀ c, c ∈ l → IsDg c) ∧ dval l = valB B64 xs) := ⟨hdg, hdv⟩
        clear hdg hdv
        go_wp2_with fail
        refine (trim_c ⟨l.toArray⟩ 48 (by decide) v1).mono ?_
        rintro e v2 ⟨rfl, rfl⟩
        have htr : Lib.trimLeftB (⟨l.toArray⟩ : ByteArray).data.toList 48 = Lib.decDigits (valB B64 xs) := by have h1 := trim_dec l HL.out.1 (by rw [HL.out.2]; exact HVZ.out); rw [HL.out.2] at h1; exact h1
        rw [htr]
        clear htr
        obtain ⟨ds, hds⟩ : ∃ ds : ByteArray, ds = ⟨(Lib.decDigits (valB B64 xs)).toArray⟩ := ⟨_, rfl⟩
        rw [← hds]
        have hsz : ds.size = (Lib.decDigits (valB B64 xs)).length := by rw [hds]; rfl
        have HD : Hid (ds = ⟨(Lib.decDigits (valB B64 xs)).toArray⟩) := hds
        clear hds
        by_cases hlt : valB B64 xs < TXL
        · have hs : ds.size ≤ 4900 := by rw [hsz]; exact txl_le hlt
          have hd1 : decide ((4900 : Int) < (ds.size : Int)) = false := decide_eq_false (by omega)
          have hd2 : decide (4900 < ds.size) = false := decide_eq_false (by omega)
          have HLT : Hid (valB B64 xs < TXL) := hlt
          clear hsz hlt hs
          go_wp2_with fail
          go_ret2
          exact ⟨_, _, rfl, .inl ⟨HF.out.1, HLT.out, HD.out, rfl⟩, hb1⟩
        · have hs : 4900 < ds.size := by rw [hsz]; exact txl_gt hlt
          have hd1 : decide ((4900 : Int) < (ds.size : Int)) = true := decide_eq_true (by omega)
          have hd2 : decide (4900 < ds.size) = true := decide_eq_true hs
          have HLT : Hid (¬ valB B64 xs < TXL) := hlt
          clear hsz hlt hs
          go_wp2_with fail
          go_ret2
          exact ⟨_, _, rfl, .inr (.inl ⟨HF.out.1, HLT.out, rfl, rfl⟩), hb1⟩
theorem At32.growN {w w' : World} {p : Option Addr} {n c : Nat} {xs : List Nat} {row : Option Nat} (h : At32 w p n c xs) (hg : w.grownBy w' row) (hne : ∀ g off, p = some ⟨g, off, none⟩ → n ≠ 0 → some g ≠ row) : At32 w' p n c xs := by
  refine ⟨h.len, h.cap, h.big, h.dig, ?_⟩
  rcases h.cells with h1 | ⟨g', off, h1, h2⟩
  · exact .inl h1
  · by_cases h0 : n = 0
    · exact .inl h0
    · exact .inr ⟨g', off, h1, fun j hj => hg.cell (h2 j hj) (hne g' off h1 h0)⟩
theorem Tryz.infoU8 : (Tryz.prog.info? 5).map (fun i => (i.zero, i.size, i.bytes)) = some (some (.int .u8 0), 1, 1) := by kernel_rfl
structure OwB8 (w : World) (hB : Nat) (lv : Value) (k : Nat) (l : List UInt8) : Prop where
  row : w.ownsRow hB 5 1 lv k (Lib.byteCells l)
theorem OwB8.below {w w' : World} {hB k : Nat} {lv : Value} {l : List UInt8} (h : OwB8 w hB lv k l) (hb : Below w.heap.size w w') : OwB8 w' hB lv k l := by
  refine ⟨⟨h.row.1, ?_⟩⟩
  rcases h.row.2 with h2 | ⟨g, cap, cur, h2, h3, h4, h5⟩
  · exact .inl h2
  · have hg : g < w.heap.size := by
      rcases Nat.lt_or_ge g w.heap.size with h6 | h6
      · exact h6
      · rw [Array.getElem?_eq_none h6] at h4; cases h4
    exact .inr ⟨g, cap, cur, h2, h3, (hb.block _ hg).trans h4, h5⟩
theorem OwB8.len {w : World} {hB k : Nat} {lv : Value} {l : List UInt8} (h : OwB8 w hB lv k l) : l.length = k := by
  have h1 := h.row.1
  rw [Lib.byteCells_length] at h1; omega
theorem OwB8.cells {w : World} {hB k : Nat} {lv : Value} {l : List UInt8} (h : OwB8 w hB lv k l) : ∃ p cap, lv = .slice p k cap ∧ k ≤ cap ∧ cap ≤ maxLen ∧ ∀ j, j < k → ∃ g, p = some ⟨g, 0, none⟩ ∧ w.cell? ⟨g, j, none⟩ = some (.int .u8 ((l.getD j 0).toNat : Int)) := by
  rcases h.row.2 with ⟨h1, h2⟩ | ⟨g, cap, cur, h1, h2, h3, h4, h4b, h5⟩
  · exact ⟨none, 0, by rw [h1, h2], by omega, by unfold maxLen; omega, fun j hj => by omega⟩
  · refine ⟨_, cap, h1, h4, h4b, fun j hj => ⟨g, rfl, ?_⟩⟩
    have h6 := h.row
    have hl := h.len
    rw [h1] at h6
    rw [h6.cellAt j (by omega)]
    unfold Lib.byteCells
    rw [List.getElem?_map, List.getElem?_eq_getElem (by omega), List.getD_eq_getElem?_getD, List.getElem?_eq_getElem (by omega)]
    rfl
theorem takeB (l : List UInt8) (n : Nat) (h : n < l.length) : l.take (n + 1) = l.take n ++ [l.getD n 0] := by
  rw [List.take_add_one, List.getD_eq_getElem?_getD, List.getElem?_eq_getElem h]; rfl
theorem dec_low {s : ByteArray} {i : Nat} (h : i < s.size) (hd : sb s i < 128) : Utf8.decode s i = (sb s i, 1) := by
  rw [decode_ascii s i h (by rw [sb_eq h]; exact hd), sb_eq h]
theorem dec_bad {s : ByteArray} {i : Nat} (h : i < s.size) (hd : ¬ IsD s i) : (Utf8.decode s i).1 < 48 ∨ 57 < (Utf8.decode s i).1 := by
  by_cases h1 : sb s i < 128
  · rw [dec_low h h1]; unfold IsD at hd; show sb s i < 48 ∨ 57 < sb s i; omega
  · exact .inr (Nat.lt_of_lt_of_le (by decide) (decode_high s i h (by rw [sb_eq h]; omega)).1)
theorem cell_iter {w : World} {k : Nat} {s : ByteArray} {pos pos' : Nat} (hk : w.heap[k]? = some (.stringIter s pos)) {a : Addr} {v : Value} (h : w.cell? a = some v) : (w.iterAt k s pos').cell? a = some v := by
  by_cases e : a.block = k
  · exfalso
    rw [← e] at hk
    simp [World.cell?, hk] at h
  · rw [World.cell?_of_block (Lib.iterAt_other w k a.block s pos' e)]; exact h
theorem GN.iter {w : World} {k : Nat} {s : ByteArray} {pos : Nat} (hk : w.heap[k]? = some (.stringIter s pos)) (pos' : Nat) {p : Option Addr} {m a : Nat} (h : GN w p m a) : GN (w.iterAt k s pos') p m a := by
  obtain ⟨⟨zs, h1, h2⟩, h3⟩ := h
  refine ⟨⟨zs, ⟨h1.len, h1.cap, h1.big, h1.dig, ?_⟩, h2⟩, h3⟩
  rcases h1.cells with h0 | ⟨g, off, rfl, hc⟩
  · exact .inl h0
  · exact .inr ⟨g, off, rfl, fun j hj => cell_iter hk (hc j hj)⟩
theorem rdw {t pc k : Nat} (h1 : pc < 10 ^ k) (h2 : k < 19) (h3 : 48 ≤ t) (h4 : t ≤ 57) : IntKind.u64.wrap (10 * (pc : Int) + ((t - 48 : Nat) : Int)) = ((10 * pc + (t - 48) : Nat) : Int) ∧ IntKind.u64.wrap (10 * (pc : Int)) = ((10 * pc : Nat) : Int) ∧ IntKind.u64.wrap (10 * ((10 ^ k : Nat) : Int)) = ((10 ^ (k + 1) : Nat) : Int) := by
  have h5 : (10 : Nat) ^ k ≤ 10 ^ 18 := Nat.pow_le_pow_right (by decide) (by omega)
  have h6 : (10 : Nat) ^ (k + 1) = 10 * 10 ^ k := by rw [Nat.pow_succ, Nat.mul_comm]
  simp only [IntKind.wrap_u64]
  rw [h6]
  generalize 10 ^ k = z at *
  omega
theorem rdu {t : Nat} (h3 : 48 ≤ t) (h4 : t ≤ 57) : IntKind.i32.wrap ((t : Int) - 48) = ((t - 48 : Nat) : Int) ∧ IntKind.u64.wrap ((t - 48 : Nat) : Int) = ((t - 48 : Nat) : Int) := by
  rw [IntKind.wrap_u64, IntKind.wrap_i32]; omega
theorem read_ok (s : ByteArray) {w : World} : Calls Tryz.prog 5 #[.string s] w fun en w' => ((RdOk s ∧ ∃ q l, en = .returned (.tuple #[.slice q l l, .int .i64 0]) ∧ GO w.heap.size w' q l (dN s s.size)) ∨ (¬ RdOk s ∧ en = .returned (.tuple #[.slice none 0 0, .int .i64 (rdErr s)]))) ∧ Below w.heap.size w w' := by
  by_cases h1 : 4900 < s.size
  · have h1' : decide ((4900 : Int) < (s.size : Int)) = true := decide_eq_true (by omega)
    have h1'' : decide (4900 < s.size) = true := decide_eq_true h1
    have HE : Hid (rdErr s = 7 ∧ ¬ RdOk s) := ⟨by unfold rdErr; rw [if_pos h1], fun h => by unfold RdOk at h; omega⟩
    clear h1
    go_enter Tryz.func5, Tryz.ntmps5
    go_wp2_with fail
    go_ret2
    exact ⟨.inr ⟨HE.out.2, by rw [HE.out.1]; rfl⟩, Below.refl _ _⟩
  by_cases h2 : s.size = 0
  · have HE : Hid (rdErr s = 8 ∧ ¬ RdOk s) := ⟨by unfold rdErr; rw [if_neg h1], fun h => by unfold RdOk at h; omega⟩
    obtain rfl : s = ⟨#[]⟩ := by cases s with | mk d => cases d with | mk l => cases l with | nil => rfl | cons a l => simp [ByteArray.size] at h2
    clear h1 h2
    go_enter Tryz.func5, Tryz.ntmps5
    go_wp2_with fail
    go_ret2
    exact ⟨.inr ⟨HE.out.2, by rw [HE.out.1]; rfl⟩, Below.refl _ _⟩
  have h1' : decide ((4900 : Int) < (s.size : Int)) = false := decide_eq_false (by omega)
  have h1'' : decide (4900 < s.size) = false := decide_eq_false h1
  have h2' : (s.toList == []) = false := by simp only [beq_eq_false_iff_ne, ne_eq]; intro h; apply h2; rw [ByteArray.toList_eq] at h; show s.data.size = 0; rw [← Array.length_toList, h]; rfl
  have HE : Hid (s.size ≤ 4900 ∧ s.size ≠ 0 ∧ rdErr s = 8) := ⟨by omega, h2, by unfold rdErr; rw [if_neg h1]⟩
  clear h1 h2
  go_enter Tryz.func5, Tryz.ntmps5
  go_wp2_with fail
  obtain ⟨W0, hW0⟩ : ∃ W0, W0 = w.iter s 0 := ⟨_, rfl⟩
  have HI : Hid (W0.heap[w.heap.size]? = some (.stringIter s 0)) := by rw [hW0]; exact World.iter_heap w s 0
  have hbw : Below w.heap.size w W0 := by rw [hW0]; exact below1 w _
  rw [← hW0]
  clear hW0 h1' h1'' h2'
  obtain ⟨gi, hgi⟩ : ∃ g, g = w.heap.size := ⟨_, rfl⟩
  have HGI : Hid (w.heap.size ≤ gi) := by rw [hgi]; exact Nat.le_refl _
  rw [← hgi] at HI
  rw [← hgi]
  clear hgi
  go_loopg [4, 5, 6] s.size (fun gk vv pv sv wr => ∃ (pos k a pc m : Nat) (p : Option Addr), pos + gk = s.size ∧ vv = .slice p m m ∧ pv = U pc ∧ sv = U (10 ^ k) ∧ k < 19 ∧ pc < 10 ^ k ∧ a * 10 ^ k + pc = dN s pos ∧ (∀ j, j < pos → IsD s j) ∧ GN wr p m a ∧ wr.heap[gi]? = some (.stringIter s pos) ∧ Below w.heap.size w wr)
  case atStart => exact ⟨0, 0, 0, 0, 0, none, by omega, rfl, rfl, rfl, by decide, by decide, rfl, fun j hj => by omega, GN.nil _ _, HI.out, hbw⟩
  case round =>
    obtain ⟨pos, k, a, pc, m, p, hig, rfl, rfl, rfl, hk, hpc, hval, hdig, xg, xi, hbr⟩ := hrel
    clear HI hbw
    have GNa : Hid (GN wr p m a) := xg
    have HI : Hid (wr.heap[gi]? = some (.stringIter s pos)) := xi
    have hbw := hbr
    have HV : Hid (a * 10 ^ k + pc = dN s pos ∧ pc < 10 ^ k ∧ k < 19 ∧ ∀ j, j < pos → IsD s j) := ⟨hval, hpc, hk, hdig⟩
    clear xg xi hbr hval hpc hk hdig
    by_cases hp : pos < s.size
    · by_cases hd : IsD s pos
      · obtain ⟨g, rfl⟩ : ∃ g, gk = g + 1 := ⟨gk - 1, by omega⟩
        have hnx := fun ty => Lib.run_next_any_at (P := Tryz.prog) wr gi s pos ty HI.out hp
        have hd0 := hd
        unfold IsD at hd0
        have hdec := dec_low hp (by omega)
        obtain ⟨t, ht⟩ : ∃ t, t = sb s pos := ⟨_, rfl⟩
        rw [hdec, ← ht] at hnx
        rw [← ht] at hd0
        have hw1 := rdu hd0.1 hd0.2
        have hw2 := rdw (t := t) HV.out.2.1 HV.out.2.2.1 hd0.1 hd0.2
        have HD : Hid (IsD s pos ∧ t = sb s pos ∧ pos < s.size ∧ pos + (g + 1) = s.size) := ⟨hd, ht, hp, hig⟩
        obtain ⟨c, hc⟩ : ∃ c, c = t - 48 := ⟨_, rfl⟩
        obtain ⟨z, hz⟩ : ∃ z, z = 10 ^ k := ⟨_, rfl⟩
        obtain ⟨z1, hz1⟩ : ∃ z, z = 10 ^ (k + 1) := ⟨_, rfl⟩
        obtain ⟨q, hq⟩ : ∃ q, q = 10 * pc + c := ⟨_, rfl⟩
        obtain ⟨q0, hq0⟩ : ∃ q, q = 10 * pc := ⟨_, rfl⟩
        rw [← hc] at hw1 hw2
        rw [← hz, ← hz1, ← hq, ← hq0] at hw2
        rw [← hz]
        have HZ : Hid (c = t - 48 ∧ z = 10 ^ k ∧ z1 = 10 ^ (k + 1) ∧ q = 10 * pc + c) := ⟨hc, hz, hz1, hq⟩
        have t1 : decide ((t : Int) < 48) = false := decide_eq_false (by omega)
        have t2 : decide ((57 : Int) < (t : Int)) = false := decide_eq_false (by omega)
        have t3 : decide (t < 48) = false := decide_eq_false (by omega)
        have t4 : decide (57 < t) = false := decide_eq_false (by omega)
        obtain ⟨wa, wb⟩ := hw1
        obtain ⟨wc, wd, we⟩ := hw2
        have wc' : IntKind.u64.wrap ((q0 : Int) + (c : Int)) = (q : Int) := by rw [IntKind.wrap_u64] at wc ⊢; omega
        have HVV := HV.out
        by_cases hk : k = 18
        · have e19 : ((z1 : Int) == 10000000000000000000) = true := by rw [hz1, hk]; decide
          have HZ1 : Hid (z1 < B64 ∧ q < B64) := by have h9 := HVV.2.1; rw [hk] at h9; refine ⟨by rw [hz1, hk]; decide, ?_⟩; show q < 18446744073709551616; rw [show (10 : Nat) ^ 18 = 1000000000000000000 by decide] at h9; omega
          have HK18 : Hid (k = 18) := hk
          have HN : Hid (a * z1 + q = dN s (pos + 1) ∧ q < z1) := by rw [dN_succ, ← HVV.1, hz1, hq, hc, ht, Nat.pow_succ]; rw [ht] at hd0; have h5 := HVV.2.1; generalize 10 ^ k = y at *; refine ⟨?_, by omega⟩; rw [Nat.add_mul, Nat.mul_comm 10 pc, Nat.mul_assoc, Nat.add_assoc]
          have HDD : Hid (∀ j, j < pos + 1 → IsD s j) := fun j hj => by rcases Nat.lt_or_ge j pos with h | h; exact HVV.2.2.2 j h; rw [show j = pos by omega]; exact hd
          clear hd hp hig hdec ht hd0 hc hz hz1 hq hq0 hk HVV
          go_wp2_with fail
          clear t1 t2 t3 t4 wa wb wc wd we wc' e19 hnx
          have GNb : Hid (GN (wr.iterAt gi s (pos + 1)) p m a) := GN.iter HI.out _ GNa.out
          have HI2 : Hid ((wr.iterAt gi s (pos + 1)).heap[gi]? = some (.stringIter s (pos + 1))) := Lib.iterAt_heap wr gi s pos (pos + 1) HI.out
          have hbw2 : Below w.heap.size w (wr.iterAt gi s (pos + 1)) := Lib.below_iterAt hbw HGI.out s _
          generalize (wr.iterAt gi s (pos + 1)) = W1 at *
          clear GNa HI hbw
          obtain ⟨KK, hK1, hK2⟩ : ∃ K : Nat, K ≤ 100000 ∧ 19600 ≤ K := ⟨20000, by decide, by decide⟩
          refine (extended_ok GNb.out z1 q HZ1.out.1 HZ1.out.2 (K := KK) hK1 (by rw [HN.out.1]; exact Nat.lt_of_lt_of_le (dN_lt HDD.out) (ten_pow (by have h1 := HE.out.1; have h2 := HD.out.2.2.1; omega)))).mono ?_
          rintro e v1 ⟨p1, m1, rfl, hR, hb1⟩
          clear hK1 hK2
          have GN1 : Hid (GN v1 p1 m1 (a * z1 + q)) := hR.gn
          clear hR
          have HI3 : Hid (v1.heap[gi]? = some (.stringIter s (pos + 1))) := (hb1.block gi (Array.getElem?_eq_some_iff.1 HI2.out).1).trans HI2.out
          have hbw3 := Below.on hbw2 hb1
          clear GNb HI2 hbw2 hb1
          go_wp2_with fail
          go_roundg g
          case measure => omega
          case rel => exact ⟨pos + 1, 0, dN s (pos + 1), 0, m1, p1, by have := HD.out.2.2.2; omega, rfl, rfl, rfl, by decide, by decide, by rw [Nat.pow_zero, Nat.mul_one, Nat.add_zero], HDD.out, HN.out.1 ▸ GN1.out, HI3.out, hbw3⟩
        · have e19 : ((z1 : Int) == 10000000000000000000) = false := by rw [hz1, beq_eq_false_iff_ne]; have h9 : (10 : Nat) ^ (k + 1) ≤ 10 ^ 18 := Nat.pow_le_pow_right (by decide) (by have := HVV.2.2.1; omega); rw [show (10 : Nat) ^ 18 = 1000000000000000000 by decide] at h9; omega
          have HK18 : Hid (k ≠ 18) := hk
          have HN : Hid (a * z1 + q = dN s (pos + 1) ∧ q < z1) := by rw [dN_succ, ← HVV.1, hz1, hq, hc, ht, Nat.pow_succ]; rw [ht] at hd0; have h5 := HVV.2.1; generalize 10 ^ k = y at *; refine ⟨?_, by omega⟩; rw [Nat.add_mul, Nat.mul_comm 10 pc, Nat.mul_assoc, Nat.add_assoc]
          have HDD : Hid (∀ j, j < pos + 1 → IsD s j) := fun j hj => by rcases Nat.lt_or_ge j pos with h | h; exact HVV.2.2.2 j h; rw [show j = pos by omega]; exact hd
          clear hd hp hig hdec ht hd0 hc hz hz1 hq hq0 hk HVV
          go_wp2_with fail
          clear t1 t2 t3 t4 wa wb wc wd we wc' e19 hnx
          have GNb : Hid (GN (wr.iterAt gi s (pos + 1)) p m a) := GN.iter HI.out _ GNa.out
          have HI2 : Hid ((wr.iterAt gi s (pos + 1)).heap[gi]? = some (.stringIter s (pos + 1))) := Lib.iterAt_heap wr gi s pos (pos + 1) HI.out
          have hbw2 : Below w.heap.size w (wr.iterAt gi s (pos + 1)) := Lib.below_iterAt hbw HGI.out s _
          generalize (wr.iterAt gi s (pos + 1)) = W1 at *
          clear GNa HI hbw
          go_roundg g
          case measure => omega
          case rel => exact ⟨pos + 1, k + 1, a, q, m, p, by have := HD.out.2.2.2; omega, rfl, rfl, by rw [HZ.out.2.2.1], by have h1 := HV.out.2.2.1; have h2 := HK18.out; omega, by rw [← HZ.out.2.2.1]; exact HN.out.2, by rw [← HZ.out.2.2.1]; exact HN.out.1, HDD.out, GNb.out, HI2.out, hbw2⟩
      · have hnx := fun ty => Lib.run_next_any_at (P := Tryz.prog) wr gi s pos ty HI.out hp
        have hdec := dec_bad hp hd
        have HNO : Hid (¬ RdOk s) := fun h => hd (h.2.2 pos hp)
        obtain ⟨t, ht⟩ : ∃ t, t = (Utf8.decode s pos).1 := ⟨_, rfl⟩
        obtain ⟨l, hl⟩ : ∃ t, t = (Utf8.decode s pos).2 := ⟨_, rfl⟩
        rw [← ht, ← hl] at hnx
        rw [← ht] at hdec
        obtain ⟨z, hz⟩ : ∃ z, z = 10 ^ k := ⟨_, rfl⟩
        rw [← hz]
        clear hp hd ht hl hz hig
        rcases hdec with hdec | hdec
        · have t1 : decide ((t : Int) < 48) = true := decide_eq_true (by omega)
          have t3 : decide (t < 48) = true := decide_eq_true (by omega)
          clear hdec
          go_wp2_with fail
          go_ret2
          exact ⟨.inr ⟨HNO.out, by rw [HE.out.2.2]; rfl⟩, Lib.below_iterAt hbw HGI.out s _⟩
        · have t1 : decide ((t : Int) < 48) = false := decide_eq_false (by omega)
          have t3 : decide (t < 48) = false := decide_eq_false (by omega)
          have t2 : decide ((57 : Int) < (t : Int)) = true := decide_eq_true (by omega)
          have t4 : decide (57 < t) = true := decide_eq_true (by omega)
          clear hdec
          go_wp2_with fail
          go_ret2
          exact ⟨.inr ⟨HNO.out, by rw [HE.out.2.2]; rfl⟩, Lib.below_iterAt hbw HGI.out s _⟩
    · have hnx := fun ty => Lib.run_next_end_at (P := Tryz.prog) wr gi s pos ty HI.out hp
      obtain rfl : pos = s.size := by omega
      have HOK : Hid (RdOk s) := ⟨HE.out.1, HE.out.2.1, HV.out.2.2.2⟩
      obtain ⟨z, hz⟩ : ∃ z, z = 10 ^ k := ⟨_, rfl⟩
      have HZ1 : Hid (z < B64 ∧ pc < B64 ∧ a * z + pc = dN s s.size) := by have h1 := HV.out; have h9 : (10 : Nat) ^ k ≤ 10 ^ 18 := Nat.pow_le_pow_right (by decide) (by omega); rw [← hz] at h1 h9; exact ⟨Nat.lt_of_le_of_lt h9 (by decide), Nat.lt_trans h1.2.1 (Nat.lt_of_le_of_lt h9 (by decide)), h1.1⟩
      rw [← hz]
      clear hz hig hp
      go_wp2_with fail
      clear hnx
      have HSZ : Hid (w.heap.size ≤ wr.heap.size) := hbw.size
      obtain ⟨KK, hK1, hK2⟩ : ∃ K : Nat, K ≤ 100000 ∧ 19600 ≤ K := ⟨20000, by decide, by decide⟩
      refine (extended_ok GNa.out z pc HZ1.out.1 HZ1.out.2.1 (K := KK) hK1 (by rw [HZ1.out.2.2]; exact Nat.lt_of_lt_of_le (dN_lt HOK.out.2.2) (ten_pow (by have h1 := HE.out.1; omega)))).mono ?_
      rintro e v1 ⟨p1, m1, rfl, hR, hb1⟩
      clear hK1 hK2
      have GO1 : Hid (GO w.heap.size v1 p1 m1 (a * z + pc)) := hR.mono HSZ.out
      have hbw2 := Below.on hbw hb1
      clear hR hbw hb1
      go_wp2_with fail
      go_ret2
      exact ⟨.inl ⟨HOK.out, _, _, rfl, HZ1.out.2.2 ▸ GO1.out⟩, hbw2⟩
theorem sb_list (s : ByteArray) (i : Nat) (h : i < s.size) : sb s i = (s.data.toList.getD i 0).toNat := by
  unfold sb
  rw [dif_pos h, List.getD_eq_getElem?_getD, List.getElem?_eq_getElem (by rw [Array.length_toList]; exact h)]; rfl
theorem dN_list (s : ByteArray) : ∀ i, i ≤ s.size → dN s i = dval (s.data.toList.take i)
  | 0, _ => rfl
  | i + 1, h => by
    rw [dN_succ, dN_list s i (by omega), takeB _ i (by rw [Array.length_toList]; exact h), dval_snoc, sb_list s i (by omega)]
theorem dN_all (s : ByteArray) : dN s s.size = dval s.data.toList := by
  rw [dN_list s s.size (Nat.le_refl _), List.take_of_length_le (by rw [Array.length_toList]; exact Nat.le_refl _)]
structure BB (w : World) (g n : Nat) (f : Nat → Nat) : Prop where
  cell : ∀ j, j < n → w.cell? ⟨g, j, none⟩ = some (.int .u8 (f j : Int))
  frz : ∀ j, j < n → w.frozen? ⟨g, j, none⟩ = false
theorem BB.below {w w' : World} {g n : Nat} {f : Nat → Nat} (h : BB w g n f) (hb : Below w.heap.size w w') : BB w' g n f :=
  ⟨fun j hj => (hb.cell (p := ⟨g, j, none⟩) (World.block_lt_of_cell? w _ (h.cell j hj))).trans (h.cell j hj), fun j hj => (hb.frozen (p := ⟨g, j, none⟩) (World.block_lt_of_cell? w _ (h.cell j hj))).trans (h.frz j hj)⟩
theorem BB.set {w : World} {g n : Nat} {f : Nat → Nat} (h : BB w g n f) (k y : Nat) (hk : k < n) : BB (w.setCell ⟨g, k, none⟩ (.int .u8 (y : Int))) g n (fun j => if j = k then y else f j) := by
  refine ⟨fun j hj => ?_, fun j hj => by rw [World.frozen?_setCell]; exact h.frz j hj⟩
  by_cases e : j = k
  · subst e; rw [if_pos rfl]; exact World.cell?_setCell_same _ _ _ (h.cell j hj)
  · rw [if_neg e, World.cell?_setCell_other _ _ _ _ (fun h9 => e (by simpa using (congrArg Addr.off h9).symm))]; exact h.cell j hj
theorem BB.cast {w : World} {g n : Nat} {f f' : Nat → Nat} (h : BB w g n f) (e : ∀ j, j < n → f j = f' j) : BB w g n f' := ⟨fun j hj => by rw [← e j hj]; exact h.cell j hj, h.frz⟩
theorem madeB (n : Nat) : (madeCells (Value.cells (.int .u8 0)) (n * 1)).toList = List.replicate n (Value.int .u8 0) := by
  have h : madeCells (Value.cells (.int .u8 0)) (n * 1) = Array.replicate n (Value.int .u8 0) := by
    refine Array.ext (by simp [madeCells]) fun i h1 h2 => ?_
    simp [madeCells, Value.cells, Nat.mod_one]
  rw [h]; simp
theorem made_bb {w w1 : World} {n : Nat} (hown : w1.ownsRow w.heap.size 5 1 (.slice (some ⟨w.heap.size, 0, none⟩) n n) n (madeCells (Value.cells (.int .u8 0)) (n * 1)).toList) (hgrow : w.grownBy w1 none) :
    BB w1 w.heap.size n (fun _ => 0) ∧ Below w.heap.size w w1 := by
  rw [madeB] at hown
  refine ⟨⟨fun j hj => ?_, fun j hj => ?_⟩, (Below.refl _ _).grown hgrow (Nat.le_refl _) (fun k hk => by simp at hk)⟩
  · rw [hown.cellAt j (by omega), List.getElem?_replicate, if_pos hj]; rfl
  · rcases hown.2 with ⟨h1, _⟩ | ⟨g, cap, cur, h1, h2, h3, _⟩
    · cases h1
    · simp only [Value.slice.injEq, Option.some.injEq, Addr.mk.injEq] at h1
      rw [h1.1.1]; exact frozen_of_row w1 g j _ _ h3
theorem bb_conv {w : World} {g n c : Nat} {f : Nat → Nat} {l : List UInt8} (h : BB w g n f) (hl : l.length = n) (hf : ∀ j, j < n → (l.getD j 0).toNat = f j) :
    (convert 22 9 (.slice (some ⟨g, 0, none⟩) n c)).run Tryz.prog w = .ok (.string ⟨l.toArray⟩) w := by
  have h1 := run_convert_bytes_back (P := Tryz.prog) w 22 9 5 ⟨g, 0, none⟩ c l Tryz.underlying22 Tryz.underlying5 Tryz.underlying9 (fun j hj => by
    rw [Lib.add_plain, Nat.zero_add, h.cell j (by omega), ← hf j (by omega), List.getD_eq_getElem?_getD, List.getElem?_eq_getElem hj]; rfl)
  rw [hl] at h1
  exact h1
def R9 (n : Nat) : List UInt8 := List.replicate n 57
theorem dval_nines : ∀ n, dval (R9 n) + 1 = 10 ^ n
  | 0 => rfl
  | n + 1 => by
    have ih := dval_nines n
    show dval (57 :: R9 n) + 1 = _
    rw [dval_cons, show (R9 n).length = n from List.length_replicate, Nat.pow_succ]
    show (57 - 48) * _ + _ + 1 = _
    omega
theorem r9_get {n j : Nat} (h : j < n) : ((R9 n).getD j 0).toNat = 57 := by
  unfold R9
  rw [List.getD_eq_getElem?_getD, List.getElem?_replicate, if_pos h]; rfl
theorem r9_dg {n : Nat} : ∀ c, c ∈ R9 n → IsDg c := by
  intro c hc
  rw [List.eq_of_mem_replicate hc]; exact ⟨by decide, by decide⟩
theorem r9_sz (n : Nat) : (⟨(R9 n).toArray⟩ : ByteArray).size = n := by show (R9 n).toArray.size = n; unfold R9; simp
theorem r9_ok {n : Nat} (hn : n = TXN) : RdOk ⟨(R9 n).toArray⟩ ∧ dN ⟨(R9 n).toArray⟩ n = TXL - 1 := by
  have hs := r9_sz n
  refine ⟨⟨by rw [hs, hn]; decide, by rw [hs, hn]; decide, fun j hj => ?_⟩, ?_⟩
  · rw [hs] at hj
    unfold IsD
    rw [sb_list _ j (by rw [hs]; exact hj)]
    have h1 : (⟨(R9 n).toArray⟩ : ByteArray).data.toList = R9 n := by simp
    rw [h1, r9_get hj]
    exact ⟨by decide, by decide⟩
  · have h1 := dN_all ⟨(R9 n).toArray⟩
    rw [hs] at h1
    rw [h1]
    have h2 : (⟨(R9 n).toArray⟩ : ByteArray).data.toList = R9 n := by simp
    rw [h2]
    have h3 := dval_nines n
    unfold TXL
    rw [← hn]
    omega
theorem r9_dec {n : Nat} (hn : n = TXN) : Lib.decDigits (TXL - 1) = R9 n := by
  have h3 := dval_nines n
  have h4 : TXL - 1 = dval (R9 n) := by unfold TXL; rw [← hn]; omega
  rw [h4]
  refine dec_of _ _ rfl r9_dg (fun c r e => ?_) (fun e => ?_)
  · have h5 : c ∈ R9 n := by rw [e]; exact List.mem_cons_self ..
    rw [List.eq_of_mem_replicate h5]; decide
  · have h5 := congrArg List.length e
    unfold R9 at h5
    rw [List.length_replicate, hn] at h5
    exact absurd h5 (by decide)
theorem rd_long {s : ByteArray} (h : 4900 < s.size) : ¬ RdOk s ∧ rdErr s = 7 := ⟨fun k => by have := k.1; omega, by unfold rdErr; rw [if_pos h]⟩
theorem rd_badc {s : ByteArray} (h : ¬ 4900 < s.size) {j : Nat} (hj : j < s.size) (hd : ¬ IsD s j) : ¬ RdOk s ∧ rdErr s = 8 := ⟨fun k => hd (k.2.2 j hj), by unfold rdErr; rw [if_neg h]⟩
theorem txl_kk : TXL < 2 ^ KKN := by
  unfold TXL
  refine Nat.lt_of_le_of_lt (ten_pow (K := 4 * TXN) (Nat.le_refl _)) (Nat.pow_lt_pow_right (by decide) (by decide))
theorem nf_len_kk {xs : List Nat} {a : Nat} (h : Nf B64 xs a) (ha : a < 2 ^ KKN) : xs.length ≤ 8192 := by
  obtain ⟨k, hk⟩ : ∃ k : Nat, k = 313 := ⟨_, rfl⟩
  have h1 : a < B64 ^ k := by
    refine Nat.lt_of_lt_of_le ha ?_
    rw [show B64 = 2 ^ 64 from rfl, ← Nat.pow_mul]
    exact Nat.pow_le_pow_right (by decide) (by unfold KKN; omega)
  have h2 := (h.len_le B64_one (k := k)).2 h1
  omega
theorem app_size (a b : ByteArray) : (a ++ b).size = a.size + b.size := ByteArray.size_append
theorem set_len (n k : Nat) (x : UInt8) : ((R9 n).set k x).length = n := by unfold R9; simp
theorem set_get {n k : Nat} {x : UInt8} (hk : k < n) {j : Nat} (hj : j < n) : (((R9 n).set k x).getD j 0).toNat = if j = k then x.toNat else 57 := by
  rw [List.getD_eq_getElem?_getD, List.getElem?_set]
  by_cases e : j = k
  · subst e; rw [if_pos rfl, if_pos (by unfold R9; simpa using hk), if_pos rfl]; rfl
  · rw [if_neg (fun h => e h.symm), if_neg e, ← List.getD_eq_getElem?_getD]; exact r9_get hj
theorem set_sz (n k : Nat) (x : UInt8) : (⟨((R9 n).set k x).toArray⟩ : ByteArray).size = n := by show ((R9 n).set k x).toArray.size = n; unfold R9; simp
theorem set_bad {n : Nat} (hn : n = TXN) : ¬ RdOk ⟨((R9 n).set 7 120).toArray⟩ ∧ rdErr ⟨((R9 n).set 7 120).toArray⟩ = 8 := by
  have hs := set_sz n 7 120
  have h7 : 7 < n := by rw [hn]; decide
  refine rd_badc (j := 7) (by rw [hs, hn]; decide) (by rw [hs]; exact h7) ?_
  unfold IsD
  rw [sb_list _ 7 (by rw [hs]; exact h7)]
  have h1 : (⟨((R9 n).set 7 120).toArray⟩ : ByteArray).data.toList = (R9 n).set 7 120 := by simp
  rw [h1, set_get h7 h7, if_pos rfl]
  decide
def Z1 (n : Nat) : List Nat := List.replicate n 0 ++ [1]
theorem z1_val : ∀ n, valB B64 (Z1 n) = B64 ^ n
  | 0 => by simp [Z1, valB]
  | n + 1 => by
    show valB B64 (0 :: Z1 n) = _
    rw [valB_cons, z1_val n, Nat.pow_succ]
    rw [Nat.zero_add, Nat.mul_comm]
theorem z1_len (n : Nat) : (Z1 n).length = n + 1 := by simp [Z1]
theorem z1_dig (n : Nat) : Dig B64 (Z1 n) := by
  intro x hx
  rcases List.mem_append.1 hx with h | h
  · rw [List.eq_of_mem_replicate h]; decide
  · rw [List.mem_singleton.1 h]; decide
theorem z1_top (n : Nat) : Top (Z1 n) := by
  intro x hx
  unfold Z1 at hx
  rw [List.getLast?_append] at hx
  simp at hx
  omega
theorem z1_nf (n : Nat) : Nf B64 (Z1 n) (B64 ^ n) := ⟨z1_dig n, z1_top n, z1_val n⟩
theorem z1_get (n : Nat) : (Z1 n).getD n 0 = 1 := by
  unfold Z1
  rw [List.getD_eq_getElem?_getD, List.getElem?_append_right (by simp)]; simp
theorem z1_take (k : Nat) : (((List.replicate (k + 2) 0).set k 1).set (k + 1) 1).take (k + 1) = Z1 k := by
  have h1 : List.replicate (k + 2) 0 = List.replicate k 0 ++ [0, 0] := by rw [← List.replicate_append_replicate]; rfl
  rw [h1, List.set_append_right _ _ (by simp), List.set_append_right _ _ (by simp)]
  simp [Z1, List.take_append]
theorem long_form {xs : List Nat} (h : xs.length = 8193) : formB xs = false := by
  unfold formB; rw [h]; exact decide_eq_false (fun k => absurd k.1 (by decide))
theorem long_tx {xs : List Nat} {s : ByteArray} {e : Int} (hf : formB xs = false) (h : TxA xs s e) : s = ⟨#[]⟩ ∧ e = 2 := h.uniq (.inr (.inr ⟨hf, rfl, rfl⟩))
theorem long_qr {xs ys us vs : List Nat} {e : Int} (hf : formB xs = false) (h : QrA xs ys us vs e) : us = [] ∧ vs = [] ∧ e = 2 := h.uniq (.inr (.inr ⟨by rw [hf]; rfl, rfl, rfl, rfl⟩))
theorem long_ro {xs us vs : List Nat} {e : Int} (hf : formB xs = false) (h : RoA xs us vs e) : us = [] ∧ vs = [] ∧ e = 2 := h.uniq (.inr ⟨hf, rfl, rfl, rfl⟩)
theorem five_0 {us vs : List Nat} {e : Int} (h : QrA [5, 0] [] us vs e) : e = 2 := (long_qr (by decide +kernel) h).2.2
theorem five_z {us vs : List Nat} {e : Int} (h : QrA [5] [] us vs e) : e = 4 := (h.uniq (.inr (.inl ⟨by decide +kernel, by decide +kernel, rfl, rfl, rfl, rfl⟩))).2.2
theorem z1_qr {j : Nat} {us vs : List Nat} {e : Int} (hj : j = 8190) (h : QrA (Z1 (j + 1)) [0, 1] us vs e) : us = Z1 j ∧ vs = [] ∧ e = 0 := by
  have hv : valB B64 [0, 1] = B64 := by decide +kernel
  have hx := z1_val (j + 1)
  have hB : 0 < B64 := by decide
  refine h.uniq (.inl ⟨(z1_nf (j + 1)).form (by rw [z1_len]; omega), by decide +kernel, by rw [hv]; omega, ?_, ?_, rfl⟩)
  · rw [hv, hx, Nat.pow_succ, Nat.mul_div_cancel _ hB]; exact z1_nf j
  · rw [hv, hx, Nat.pow_succ, Nat.mul_mod_left]; exact ⟨(by intro x hx; cases hx), (by intro x hx; cases hx), rfl⟩
theorem rep_dig (n : Nat) : Dig B64 (List.replicate n 0) := fun x hx => by rw [List.eq_of_mem_replicate hx]; decide
theorem rep_cell {w : World} {g n : Nat} (h : Blk w g (List.replicate n 0)) (j : Nat) (hj : j < n) : w.cell? ⟨g, j, none⟩ = some (.int .u64 0) ∧ w.frozen? ⟨g, j, none⟩ = false := by
  have r := h.row (rep_dig n)
  have h1 := r.cell j (by simpa using hj)
  have h2 := r.frozen j (by simpa using hj)
  rw [Nat.zero_add] at h1 h2
  rw [List.getD_eq_getElem?_getD, List.getElem?_replicate, if_pos hj] at h1
  exact ⟨h1, h2⟩
theorem long_row {w : World} {g n : Nat} (h : Blk w g (List.replicate n 0)) (hn : n = 8193) : Row ((w.setCell ⟨g, 8191, none⟩ (.int .u64 1)).setCell ⟨g, 8192, none⟩ (.int .u64 1)) g 0 n (((List.replicate n 0).set 8191 1).set 8192 1) := by
  have r := h.row (rep_dig n)
  rw [List.length_replicate] at r
  exact (r.set 8191 1 (by omega) (by decide)).set 8192 1 (by omega) (by decide)
theorem long_take {n j : Nat} (hn : n = 8193) (hj : j = 8190) : (((List.replicate n 0).set 8191 1).set 8192 1).take 8192 = Z1 (j + 1) := by
  have h := z1_take (j + 1)
  rw [← show (8191 : Nat) = j + 1 by omega, ← show n = 8191 + 2 by omega] at h
  rw [← show (8191 : Nat) = j + 1 by omega]
  exact h
theorem Row.cut {w : World} {g n : Nat} {xs : List Nat} (h : Row w g 0 n xs) (k : Nat) (hk : k ≤ n) (hb : n ≤ maxLen) : At w (some ⟨g, 0, none⟩) k n (xs.take k) := by
  refine ⟨by rw [List.length_take, h.len]; omega, hk, hb, fun x hx => h.dig x (List.mem_of_mem_take hx), .inr ⟨g, 0, rfl, fun j hj => ?_⟩⟩
  rw [h.cell j (by omega), List.getD_eq_getElem?_getD, List.getD_eq_getElem?_getD, List.getElem?_take, if_pos hj]
theorem natdivLimits_w {w : World} (ht : TbP w) :
    Calls Tryz.prog 3 #[] w fun en w' => en = .returned (.bool true) ∧ Below w.heap.size w w' := by
  obtain ⟨i0, hi, hz0, hz1, hz2⟩ := info_parts Tryz.infoU8
  obtain ⟨j0, ji, jz0, jz1, jz2⟩ := info_parts Tryz.infoU64
  obtain ⟨N, hN⟩ : ∃ N : Nat, N = 4900 := ⟨_, rfl⟩
  have HN : Hid (N = 4900) := hN
  have HT : Hid (TbP w) := ht
  clear ht hN
  go_enter Tryz.func3, Tryz.ntmps3
  go_wp2_with (at_make; refine wpList_make_full _ rfl _ _ 22 rfl w.heap.size 5 i0 (.int .u8 0) 1 Tryz.underlying22 hi hz0 hz1 _ _ _ _ N rfl rfl (by have := HN.out; omega) (by have := HN.out; omega) (by have := HN.out; rw [hz2]; omega) (by have := HN.out; unfold maxLen; omega) (Nat.le_refl _) ?_; intro w1 hown hgrow)
  obtain ⟨hbb, hb1⟩ := made_bb hown hgrow
  clear hown hgrow
  obtain ⟨g9, hg9⟩ : ∃ g, Hid (g = w.heap.size) := ⟨_, rfl⟩
  rw [← hg9.out] at hbb
  rw [← hg9.out]
  have HG : Hid (w.heap.size ≤ g9) := by rw [hg9.out]; exact Nat.le_refl _
  have B0 : Hid (BB w1 g9 N (fun _ => 0)) := hbb
  have hbw := hb1
  clear hbb hb1
  go_loopg [2] N (fun gk iv wr => ∃ i : Nat, i + gk = N ∧ iv = .int .i64 i ∧ BB wr g9 N (fun j => if j < i then 57 else 0) ∧ Below w.heap.size w wr)
  case atStart => exact ⟨0, by omega, rfl, B0.out.cast (fun j _ => by rw [if_neg (by omega)]), hbw⟩
  case round =>
    obtain ⟨i, hig, rfl, xb, hbr⟩ := hrel
    clear B0 hbw
    have hbw := hbr
    have BB0 : Hid (BB wr g9 N (fun j => if j < i then 57 else 0)) := xb
    have hN6 : N ≤ 4900 := by have := HN.out; omega
    clear xb hbr
    by_cases hi2 : i < N
    · obtain ⟨g1, rfl⟩ : ∃ g, gk = g + 1 := ⟨gk - 1, by omega⟩
      have hc0 := BB0.out.cell i hi2
      have hf0 := BB0.out.frz i hi2
      have hgl : g9 < wr.heap.size := World.block_lt_of_cell? wr _ hc0
      have hd1 : decide ((i : Int) < (N : Int)) = true := decide_eq_true (by omega)
      have hd2 : decide (i < N) = true := decide_eq_true hi2
      go_wp2_with fail
      go_roundg g1
      case measure => omega
      case rel => exact ⟨i + 1, by omega, by first | rfl | go_num, (BB0.out.set i 57 hi2).cast (fun j _ => by by_cases e : j = i; (rw [if_pos e, if_pos (by omega)]); (rw [if_neg e]; by_cases h : j < i; (rw [if_pos h, if_pos (by omega)]); (rw [if_neg h, if_neg (by omega)]))), bSet hbw _ _ _ HG.out⟩
    · obtain rfl : i = N := by omega
      have B9 : Hid (BB wr g9 i (fun _ => 57)) := BB0.out.cast (fun j hj => by rw [if_pos hj])
      clear BB0 hi2 hig
      have hd1 : decide ((i : Int) < (i : Int)) = false := decide_eq_false (by omega)
      have hd2 : decide (i < i) = false := decide_eq_false (by omega)
      obtain ⟨S9, hS9⟩ : ∃ s : ByteArray, Hid (s = ⟨(R9 i).toArray⟩) := ⟨_, rfl⟩
      have hsz9 : S9.size = i := by rw [hS9.out]; exact r9_sz i
      have HSZ9 : Hid (S9.size = 4900) := by rw [hsz9]; exact HN.out
      have hs6 : S9.size ≤ 4900 := by rw [HSZ9.out]; exact Nat.le_refl _
      clear hsz9
      have HTN : Hid (i = TXN) := HN.out
      have hcv : ∀ W c, BB W g9 i (fun _ => 57) → (convert 22 9 (.slice (some ⟨g9, 0, none⟩) i c)).run Tryz.prog W = .ok (.string S9) W := fun W c hB => by rw [hS9.out]; exact bb_conv hB (by unfold R9; simp) (fun j hj => r9_get hj)
      have hcv1 := hcv wr i B9.out
      have HCV := hcv
      clear hcv
      go_wp2_with fail
      have hR9 : RdOk S9 ∧ dN S9 i = TXL - 1 := by rw [hS9.out]; exact r9_ok HTN.out
      have HD9 : Hid (dN S9 S9.size = TXL - 1) := by rw [HSZ9.out, ← HN.out]; exact hR9.2
      refine (read_ok S9).mono ?_
      rintro e v1 ⟨⟨-, p1, m1, rfl, hG⟩ | ⟨hn, -⟩, hb1⟩
      rotate_left
      · exact absurd hR9.1 hn
      obtain ⟨⟨zs1, hz1, hz2⟩, hz3⟩ := hG.gn
      rw [HD9.out] at hz2
      have hml1 := hz1.len
      clear hR9 hG hcv1
      have A1 : Hid (At v1 p1 m1 m1 zs1) := hz1
      have N1 : Hid (Nf B64 zs1 (TXL - 1) ∧ m1 ≤ 8192 ∧ zs1.length = m1) := ⟨hz2, hz3, hml1⟩
      clear hz1 hz2 hml1
      replace B9 : Hid (BB v1 g9 i (fun _ => 57)) := B9.out.below hb1
      replace hbw := Below.on hbw hb1
      clear hb1
      go_wp2_with fail
      have hpos : 0 < TXL := by unfold TXL; exact Nat.pow_pos (by decide)
      refine (text_ok A1.out (HT.out.below hbw)).mono ?_
      rintro e v2 ⟨t2, er2, rfl, hT, hb2⟩
      have hval := N1.out.1.val
      have hT2 := hT.uniq (.inl ⟨N1.out.1.form (by rw [N1.out.2.2]; exact N1.out.2.1), by rw [hval]; omega, rfl, rfl⟩)
      rw [hval, r9_dec HTN.out, ← hS9.out] at hT2
      obtain ⟨hq, rfl⟩ := hT2
      obtain rfl := hq.symm
      clear hT hval hpos
      replace B9 : Hid (BB v2 g9 i (fun _ => 57)) := B9.out.below hb2
      replace A1 : Hid _ := A1.out.below hb2
      replace hbw := Below.on hbw hb2
      clear hb2
      have hcv1 := HCV v2 i B9.out
      go_wp2_with fail
      clear hcv1
      refine (rv_from A1.out N1.out.2.1).mono ?_
      rintro e v3 ⟨p3, m3, rfl, hr3, hb3⟩
      rw [N1.out.1.val] at hr3
      clear A1
      replace B9 : Hid (BB v3 g9 i (fun _ => 57)) := B9.out.below hb3
      replace hbw := Below.on hbw hb3
      clear hb3
      have R3 : Hid (RV v3 p3 m3 (TXL - 1)) := hr3
      clear hr3
      go_wp2_with fail
      refine (rv_word 1 (by decide) v3).mono ?_
      rintro e v4 ⟨p4, m4, rfl, hr4, hb4⟩
      replace B9 : Hid (BB v4 g9 i (fun _ => 57)) := B9.out.below hb4
      replace R3 : Hid (RV v4 p3 m3 (TXL - 1)) := R3.out.below hb4
      replace hbw := Below.on hbw hb4
      clear hb4
      go_wp2_with fail
      have hpos : TXL - 1 + 1 = TXL := by have : 0 < TXL := (by unfold TXL; exact Nat.pow_pos (by decide)); omega
      refine (rv_add R3.out hr4 (K := KKN) (by decide) (by rw [hpos]; exact txl_kk)).mono ?_
      rintro e v5 ⟨p5, m5, rfl, hr5, hb5⟩
      rw [hpos] at hr5
      clear hpos hr4
      clear R3
      replace B9 : Hid (BB v5 g9 i (fun _ => 57)) := B9.out.below hb5
      replace hbw := Below.on hbw hb5
      clear hb5
      go_wp2_with fail
      refine (rv_to hr5).mono ?_
      rintro e v6 ⟨g6, m6, c6, us6, rfl, hA6, hN6b, hb6⟩
      have hml6 := hA6.len
      replace B9 : Hid (BB v6 g9 i (fun _ => 57)) := B9.out.below hb6
      replace hbw := Below.on hbw hb6
      clear hb6
      have A6 : Hid (At v6 (some ⟨g6, 0, none⟩) m6 c6 us6 ∧ Nf B64 us6 TXL) := ⟨hA6, hN6b⟩
      clear hA6 hN6b hml6 hr5
      go_wp2_with fail
      refine (text_ok A6.out.1 (HT.out.below hbw)).mono ?_
      rintro e v7 ⟨t7, er7, rfl, hT, hb7⟩
      have hval := A6.out.2.val
      have hT2 := hT.uniq (.inr (.inl ⟨A6.out.2.form (nf_len_kk A6.out.2 txl_kk), by rw [hval]; omega, rfl, rfl⟩))
      obtain ⟨rfl, rfl⟩ := hT2
      clear hT hval A6
      replace B9 : Hid (BB v7 g9 i (fun _ => 57)) := B9.out.below hb7
      replace hbw := Below.on hbw hb7
      clear hb7
      have hcv1 := HCV v7 i B9.out
      go_wp2_with fail
      clear hcv1
      obtain ⟨T9, hT9⟩ : ∃ t : ByteArray, Hid (t = S9 ++ ⟨#[57]⟩) := ⟨_, rfl⟩
      rw [← hT9.out]
      have hrl := rd_long (s := T9) (by rw [hT9.out, app_size, HSZ9.out]; decide)
      refine (read_ok T9).mono ?_
      rintro e v8 ⟨⟨hn, -⟩ | ⟨-, rfl⟩, hb8⟩
      · exact absurd hn hrl.1
      rw [hrl.2]
      clear hrl
      replace B9 : Hid (BB v8 g9 i (fun _ => 57)) := B9.out.below hb8
      replace hbw := Below.on hbw hb8
      clear hb8
      go_wp2_with fail
      have hb0 := below1 v8 (.cells #[.int .u64 5, .int .u64 0] 34)
      refine (quorem_A (lit_at v8 _ [5, 0] 2 rfl rfl (dig2 (by decide) (by decide)) (by decide)) (At.empty _ _ _ (by decide))).mono ?_
      rintro e v9 ⟨us, vs, er, ⟨q1, l1, k1, q2, l2, k2, rfl, -, -⟩, hQ, hb9⟩
      obtain rfl := five_0 hQ
      have hb9' := Below.on hb0 hb9
      clear hb0 hb9 hQ
      replace B9 : Hid (BB v9 g9 i (fun _ => 57)) := B9.out.below hb9'
      replace hbw := Below.on hbw hb9'
      clear hb9'
      go_wp2_with fail
      have hb0 := below1 v9 (.cells #[.int .u64 5] 34)
      refine (quorem_A (lit_at v9 _ [5] 1 rfl rfl (dig1 (by decide)) (by decide)) (At.empty _ _ _ (by decide))).mono ?_
      rintro e v10 ⟨us, vs, er, ⟨q3, l3, k3, q4, l4, k4, rfl, -, -⟩, hQ, hb9⟩
      obtain rfl := five_z hQ
      have hb9' := Below.on hb0 hb9
      clear hb0 hb9 hQ
      replace B9 : Hid (BB v10 g9 i (fun _ => 57)) := B9.out.below hb9'
      replace hbw := Below.on hbw hb9'
      clear hb9'
      obtain ⟨L, hL⟩ : ∃ N : Nat, N = 8193 := ⟨_, rfl⟩
      have HLL : Hid (L = 8193) := hL
      have hL1 : L ≤ 8193 := by omega
      have hL2 : 8193 ≤ L := by omega
      clear hL
      go_wp2_with (at_make; refine wpList_make_full _ rfl _ _ 23 rfl v10.heap.size 34 j0 (.int .u64 0) 1 Tryz.underlying23 ji jz0 jz1 _ _ _ _ L rfl rfl (by have := HLL.out; omega) (by have := HLL.out; omega) (by have := HLL.out; rw [jz2]; omega) (by have := HLL.out; unfold maxLen; omega) (Nat.le_refl _) ?_; intro w2 hown hgrow; obtain ⟨hblk, hb2⟩ := made_blk hown hgrow; clear hown hgrow; have hc1 := (rep_cell hblk 8191 (by omega)).1; have hf1 := (rep_cell hblk 8191 (by omega)).2; have hc2 := (rep_cell hblk 8192 (by omega)).1; have hf2 := (rep_cell hblk 8192 (by omega)).2; have HK : Hid (Blk w2 v10.heap.size (List.replicate L 0) ∧ Below v10.heap.size v10 w2) := ⟨hblk, hb2⟩; clear hblk hb2; have hd3 : decide ((8191 : Int) < (L : Int)) = true := decide_eq_true (by omega); have hd4 : decide ((8192 : Int) < (L : Int)) = true := decide_eq_true (by omega); have hd5 : decide (8191 < L) = true := decide_eq_true (by omega); have hd6 : decide (8192 < L) = true := decide_eq_true (by omega))
      obtain ⟨w3, hw3⟩ : ∃ W9 : World, W9 = (w2.setCell ⟨v10.heap.size, 8191, none⟩ (.int .u64 1)).setCell ⟨v10.heap.size, 8192, none⟩ (.int .u64 1) := ⟨_, rfl⟩
      have hb3 : Below v10.heap.size v10 w3 := by rw [hw3]; exact bSet (bSet HK.out.2 _ _ _ (Nat.le_refl _)) _ _ _ (Nat.le_refl _)
      have RL : Hid (Row w3 v10.heap.size 0 L (((List.replicate L 0).set 8191 1).set 8192 1)) := by rw [hw3]; exact long_row HK.out.1 HLL.out
      have hsz : w2.heap.size = w3.heap.size := by rw [hw3]; simp
      rw [← hw3, hsz]
      clear hsz hw3 HK hc1 hf1 hc2 hf2
      obtain ⟨g2, hg2⟩ : ∃ g, Hid (g = v10.heap.size) := ⟨_, rfl⟩
      rw [← hg2.out] at RL
      rw [← hg2.out]
      obtain ⟨j, HJ⟩ : ∃ j : Nat, Hid (j = 8190) := ⟨_, rfl⟩
      have hac : At w3 (some ⟨g2, 0, none⟩) 8192 L (Z1 (j + 1)) := by have h9 := RL.out.cut 8192 (by omega) (by unfold maxLen; omega); rwa [long_take HLL.out HJ.out] at h9
      have hal := RL.out.at_ (c := L) (Nat.le_refl _) (by unfold maxLen; omega)
      have HF : Hid (formB (((List.replicate L 0).set 8191 1).set 8192 1) = false) := long_form (by rw [RL.out.len]; exact HLL.out)
      obtain ⟨xl, hxl⟩ : ∃ x : List Nat, x = ((List.replicate L 0).set 8191 1).set 8192 1 := ⟨_, rfl⟩
      rw [← hxl] at HF hal
      clear hxl RL
      replace B9 : Hid (BB w3 g9 i (fun _ => 57)) := B9.out.below hb3
      replace hbw := Below.on hbw hb3
      clear hb3
      have AL : Hid (At w3 (some ⟨g2, 0, none⟩) L L xl) := hal
      have AC : Hid (At w3 (some ⟨g2, 0, none⟩) 8192 L (Z1 (j + 1))) := hac
      clear hal hac
      have hb0 := below1 w3 (.cells #[.int .u64 2] 34)
      refine (quorem_A (AL.out.alloc _) (lit_at w3 _ [2] 1 rfl rfl (dig1 (by decide)) (by decide))).mono ?_
      rintro e v11 ⟨us, vs, er, ⟨q5, l5, k5, q6, l6, k6, rfl, hA5, -⟩, hQ, hb9⟩
      obtain ⟨rfl, rfl, rfl⟩ := long_qr HF.out hQ
      obtain rfl : l5 = 0 := hA5.len.symm
      have hb9' := Below.on hb0 hb9
      clear hb0 hb9 hQ hA5
      replace B9 : Hid (BB v11 g9 i (fun _ => 57)) := B9.out.below hb9'
      replace AL : Hid _ := AL.out.below hb9'
      replace AC : Hid _ := AC.out.below hb9'
      replace hbw := Below.on hbw hb9'
      clear hb9'
      go_wp2_with fail
      refine (text_ok AL.out (HT.out.below hbw)).mono ?_
      rintro e v12 ⟨t12, er12, rfl, hT, hb12⟩
      obtain ⟨rfl, rfl⟩ := long_tx HF.out hT
      clear hT
      replace B9 : Hid (BB v12 g9 i (fun _ => 57)) := B9.out.below hb12
      replace AL : Hid _ := AL.out.below hb12
      replace AC : Hid _ := AC.out.below hb12
      replace hbw := Below.on hbw hb12
      clear hb12
      go_wp2_with fail
      refine (root_A AL.out).mono ?_
      rintro e v13 ⟨us, vs, er, ⟨q7, l7, k7, q8, l8, k8, rfl, -, -⟩, hQ, hb9⟩
      obtain ⟨rfl, rfl, rfl⟩ := long_ro HF.out hQ
      clear hQ
      replace B9 : Hid (BB v13 g9 i (fun _ => 57)) := B9.out.below hb9
      replace AL : Hid _ := AL.out.below hb9
      replace AC : Hid _ := AC.out.below hb9
      replace hbw := Below.on hbw hb9
      clear hb9
      clear AL
      go_wp2_with fail
      have hb0 := below1 v13 (.cells #[.int .u64 0, .int .u64 1] 34)
      refine (quorem_A (AC.out.alloc _) (lit_at v13 _ [0, 1] 2 rfl rfl (dig2 (by decide) (by decide)) (by decide))).mono ?_
      rintro e v14 ⟨us, vs, er, ⟨q9, l9, k9, q10, l10, k10, rfl, hA9, hA10⟩, hQ, hb9⟩
      obtain ⟨rfl, rfl, rfl⟩ := z1_qr HJ.out hQ
      obtain rfl : l10 = 0 := hA10.len.symm
      obtain rfl : l9 = 8191 := by have h9 := hA9.len; rw [z1_len] at h9; have := HJ.out; omega
      have hk9 := hA9.cap
      have hb9' := Below.on hb0 hb9
      obtain ⟨g9q, o9q, rfl, hcl⟩ : ∃ g off, q9 = some ⟨g, off, none⟩ ∧ ∀ i, i < 8191 → v14.cell? ⟨g, off + i, none⟩ = some (U ((Z1 j).getD i 0)) := by
        rcases hA9.cells with h0 | h0
        · exact absurd h0 (by decide)
        · exact h0
      have hcq : v14.cell? ⟨g9q, o9q + 8190, none⟩ = some (.int .u64 1) := by
        have h9 := hcl 8190 (by decide)
        have h10 : (Z1 j).getD 8190 0 = 1 := by rw [show (8190 : Nat) = j from HJ.out.symm]; exact z1_get j
        rw [h10] at h9; exact h9
      clear hb0 hb9 hQ hA9 hA10 hcl
      clear AC
      replace B9 : Hid (BB v14 g9 i (fun _ => 57)) := B9.out.below hb9'
      replace hbw := Below.on hbw hb9'
      clear hb9'
      have h7 : 7 < i := by have := HN.out; omega
      have hc7 : v14.cell? ⟨g9, 7, none⟩ = some (.int .u8 57) := B9.out.cell 7 h7
      have hf7 := B9.out.frz 7 h7
      have hd7 : decide ((7 : Int) < (i : Int)) = true := decide_eq_true (by omega)
      have hd8 : decide (7 < i) = true := decide_eq_true h7
      obtain ⟨X9, hX9⟩ : ∃ s : ByteArray, Hid (s = ⟨((R9 i).set 7 120).toArray⟩) := ⟨_, rfl⟩
      have HSX : Hid (X9.size = 4900) := by rw [hX9.out, set_sz]; exact HN.out
      have hs7 : X9.size ≤ 4900 := by rw [HSX.out]; exact Nat.le_refl _
      have BX : Hid (BB (v14.setCell ⟨g9, 7, none⟩ (.int .u8 120)) g9 i (fun j => if j = 7 then 120 else 57)) := B9.out.set 7 120 h7
      have hcx : ∀ W c, BB W g9 i (fun j => if j = 7 then 120 else 57) → (convert 22 9 (.slice (some ⟨g9, 0, none⟩) i c)).run Tryz.prog W = .ok (.string X9) W := fun W c hB => by rw [hX9.out]; exact bb_conv hB (set_len _ _ _) (fun j hj => set_get (x := 120) h7 hj)
      have hcv2 := hcx _ i BX.out
      go_wp2_with fail
      clear hcv2 hc7 hf7 hcq
      have hrb : ¬ RdOk X9 ∧ rdErr X9 = 8 := by rw [hX9.out]; exact set_bad HTN.out
      refine (read_ok X9).mono ?_
      rintro e v15 ⟨⟨hn, -⟩ | ⟨-, rfl⟩, hb15⟩
      · exact absurd hn hrb.1
      rw [hrb.2]
      have hcv3 := hcx v15 i (BX.out.below hb15)
      have hbw' := Below.on (bSet hbw _ _ _ HG.out) hb15
      clear hb15 hrb BX hbw B9
      have hbw := hbw'
      clear hbw'
      go_wp2_with fail
      clear hcv3
      obtain ⟨Y9, hY9⟩ : ∃ t : ByteArray, Hid (t = X9 ++ ⟨#[120]⟩) := ⟨_, rfl⟩
      rw [← hY9.out]
      have hrl := rd_long (s := Y9) (by rw [hY9.out, app_size, HSX.out]; decide)
      refine (read_ok Y9).mono ?_
      rintro e v16 ⟨⟨hn, -⟩ | ⟨-, rfl⟩, hb16⟩
      · exact absurd hn hrl.1
      rw [hrl.2]
      have hbw' := Below.on hbw hb16
      clear hrl hb16 hbw
      go_wp2_with fail
      go_ret
      exact ⟨rfl, hbw'⟩
end Go.Proofs.YtpebgjpfgfimgaaGreatDoor
