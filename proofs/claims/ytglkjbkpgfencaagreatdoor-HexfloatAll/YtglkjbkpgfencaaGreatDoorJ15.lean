import Derived.WalkSmall
import Derived.Laws.Concat
import Derived.Test.YtglkjbkpgfencaaGreatDoorJ14
import Derived.Test.YtglkjbkpgfencaaGreatDoorJ12
import Derived.Test.YtglkjbkpgfencaaGreatDoorJ13
import Derived.Test.YtglkjbkpgfencaaGreatDoorJ10
import Derived.Test.YtglkjbkpgfencaaGreatDoorJ9
import Derived.Test.YtglkjbkpgfencaaGreatDoorJ11
import Derived.Laws.Cover1
import Derived.Deep.RegionLaw
import Derived.Deep.LoopGhost
namespace Go.Proofs.YtglkjbkpgfencaaGreatDoor
open Go.RowKit Go.Shelf

def TbP (w : World) : Prop := Lib.TabIs Tryz.prog w "internal/strconv.uint64pow10" .u64 Lib.pow10Tab
theorem TbP.below {w w' : World} (h : TbP w) (hb : Below w.heap.size w w') : TbP w' := by
  unfold TbP Lib.TabIs World.var? at *
  cases hg : Program.globalNamed Tryz.prog "internal/strconv.uint64pow10" with
  | none => simp [hg] at h
  | some g =>
    simp only [hg, Option.bind_some] at h ⊢
    have hlt : g < w.heap.size := by
      rcases Nat.lt_or_ge g w.heap.size with h1 | h1
      · exact h1
      · rw [Array.getElem?_eq_none h1] at h; simp at h
    rw [hb.block g hlt]
    exact h
open Go.Sort in
theorem belGrow (w : World) (k : Nat) (os : Array Obj) : Below w.heap.size w (grow (w.drewN k) os) :=
  ⟨rfl, rfl, rfl, by simp [grow], fun i hi => by show ((w.drewN k).heap ++ os)[i]? = _; rw [Array.getElem?_append_left (by show i < w.heap.size; omega)]; rfl⟩
theorem repeat_c (l : List UInt8) (c : Nat) (w : World) (hc : c ≤ 100000) (hl : l.length ≤ 100000) :
    Calls Tryz.prog 83 #[.string (bs l), .int .i64 c] w fun e w' => e = .returned (.string (bs (Lib.repeatL l c))) ∧ Below w.heap.size w w' :=
  Any.strings_Repeat laytn105 laytX (bs l) c w (by omega) (by rw [bs_size]; exact Nat.le_trans (Nat.mul_le_mul hl hc) (by decide))
theorem trimrb_c (l : List UInt8) (c : UInt8) (w : World) (hl : l.length ≤ 100000) :
    Calls Tryz.prog 108 #[.string (bs l), .int .u8 c.toNat] w fun e w' => e = .returned (.string (bs (Lib.trimRightB l c))) ∧ w' = w :=
  Any.strings_trimRightByte laytn232 (bs l) c w (by rw [bs_size]; omega)
theorem itoa_c (n : Int) (h0 : -1000000 ≤ n) (h1 : n ≤ 1000000) (w : World) (htab : TbP w) :
    Calls Tryz.prog 44 #[.int .i64 n] w fun e w' => e = .returned (.string (bs (Lib.itoa n))) ∧ Below w.heap.size w w' :=
  (Any.strconv_Itoa laytn171 n (by omega) (by omega) w htab).mono fun e w' ⟨he, k, os, hw⟩ => ⟨he, hw ▸ belGrow w k os⟩
theorem repl1 (n : Nat) : Lib.repeatL [48] n = List.replicate n 48 := by
  induction n with
  | zero => rfl
  | succ n ih => rw [Lib.repeatL, ih, List.replicate_succ]; rfl
theorem hexL_len : ∀ (f x : Nat), (hexL f x).length ≤ f
  | 0, _ => Nat.le_refl _
  | f + 1, x => by
    show (if x < 16 then _ else _ : List UInt8).length ≤ _
    split
    · show 1 ≤ f + 1; omega
    · rw [List.length_append]; have := hexL_len f (x / 16); show _ + 1 ≤ _; omega
theorem hexL_ne {f : Nat} (hf : 0 < f) (x : Nat) : 0 < (hexL f x).length := by
  cases f with
  | zero => omega
  | succ f =>
    show 0 < (if x < 16 then _ else _ : List UInt8).length
    split
    · exact Nat.one_pos
    · rw [List.length_append]; exact Nat.lt_of_lt_of_le Nat.one_pos (Nat.le_add_left _ _)
def frF (x : Nat) : List UInt8 := Lib.trimRightB (List.replicate (16 - (hexL 16 x).length) 48 ++ hexL 16 x) 48
theorem ndig_le (u : Nat) : Lib.nDigits u ≤ u / 10 + 1 := by
  induction u using Nat.strongRecOn with
  | ind u ih =>
    by_cases h : u < 10
    · rw [Lib.nDigits_small h]; omega
    · rw [Lib.nDigits_big h]; have := ih (u / 10) (by omega); omega
theorem itoa_len {n : Int} (h0 : -100000 ≤ n) (h1 : n ≤ 100000) : (Lib.itoa n).length ≤ 100000 := by
  unfold Lib.itoa
  split
  · rw [List.length_cons, Lib.decDigits_length]; have := ndig_le n.natAbs; omega
  · rw [Lib.decDigits_length]; have := ndig_le n.toNat; omega
def sgT (n : Int) : List UInt8 := if n < 0 then Lib.itoa n else 43 :: Lib.itoa n
set_option maxRecDepth 20000 in
set_option maxHeartbeats 0 in
theorem trimr_c {l : List UInt8} {w : World} (hl : 1 ≤ l.length ∧ l.length ≤ 100000) :
    Calls Tryz.prog 82 #[.string (bs l), .string ⟨#[48]⟩] w fun en w' => en = .returned (.string (bs (Lib.trimRightB l 48))) ∧ w' = w := by
  have H : Hid (1 ≤ l.length ∧ l.length ≤ 100000) := hl
  have he : (bs l).toList.isEmpty = false := emp1 (by intro h; rw [h] at hl; exact absurd hl.1 (by decide))
  clear hl
  go_enter Tryz.func82, Tryz.ntmps82
  go_wp2_with fail
  refine (trimrb_c l 48 _ H.out.2).mono ?_
  rintro e w2 ⟨rfl, rfl⟩
  go_wp2_with fail
  go_ret
  exact ⟨rfl, rfl⟩
set_option maxRecDepth 20000 in
set_option maxHeartbeats 0 in
theorem fraction_c {x : Nat} {w : World} (hx : x < B64) (hT : Tab w) :
    Calls Tryz.prog 48 #[U x] w fun en w' => en = .returned (.string (bs (frF x))) ∧ Below w.heap.size w w' := by
  have H : Hid (x < B64 ∧ Tab w) := ⟨hx, hT⟩
  clear hx hT
  go_enter Tryz.func48, Tryz.ntmps48
  go_wp2_with fail
  refine (fmt16 H.out.1 H.out.2).mono ?_
  rintro e w2 ⟨rfl, hb2⟩
  have HB2 : Hid (Below w.heap.size w w2) := hb2
  obtain ⟨d, hd⟩ : ∃ d, d = hexL 16 x := ⟨_, rfl⟩
  have HD : Hid (d = hexL 16 x) := hd
  have hdl : d.length ≤ 16 := by rw [hd]; exact hexL_len 16 x
  have hd1 : 0 < d.length := by rw [hd]; exact hexL_ne (by decide) x
  rw [← hd]
  clear hb2 hd
  obtain ⟨n, hn⟩ : ∃ n, n = 16 - d.length := ⟨_, rfl⟩
  have hn16 : n ≤ 15 := by omega
  have HN : Hid (n = 16 - d.length ∧ 0 < d.length ∧ d.length ≤ 16) := ⟨hn, hd1, hdl⟩
  have hsz : (bs d).size = 16 - n := by rw [bs_size]; omega
  clear hdl hd1 hn
  go_wp2_with fail
  rw [show (16 : Int) - ((16 - n : Nat) : Int) = (n : Int) by omega]
  refine (repeat_c [48] n _ (by omega) (by decide)).mono ?_
  rintro e w3 ⟨rfl, hb3⟩
  rw [repl1]
  have HB3 : Hid (Below w.heap.size w w3) := Below.on HB2.out hb3
  obtain ⟨r, hr⟩ : ∃ r, r = List.replicate n (48 : UInt8) := ⟨_, rfl⟩
  rw [← hr]
  have HR : Hid (r = List.replicate n (48 : UInt8)) := hr
  have hrl : r.length = n := by rw [hr, List.length_replicate]
  have hcat : ∀ W, (Op.stringOp .add (bs r) (bs d)).run Tryz.prog W = .ok (.string (bs (r ++ d))) W := fun W => cat_run r d W (by have := HN.out; omega)
  have hsr : (bs r).size = n := by rw [bs_size, hrl]
  have hbd : ¬ ((bs r).size + (bs d).size > 9223372036854775807) := by rw [hsr, hsz]; omega
  clear hb3 hr HB2
  go_wp2_with fail
  refine (trimr_c (l := r ++ d) (by rw [List.length_append]; have := HN.out; omega)).mono ?_
  rintro e w4 ⟨rfl, rfl⟩
  go_wp2_with fail
  go_ret
  exact ⟨by unfold frF; rw [← HD.out, HR.out, HN.out.1]; rfl, HB3.out⟩
set_option maxRecDepth 20000 in
set_option maxHeartbeats 0 in
theorem signed_c {n : Int} {w : World} (h0 : -100000 ≤ n) (h1 : n ≤ 100000) (hT : TbP w) :
    Calls Tryz.prog 49 #[.int .i64 n] w fun en w' => en = .returned (.string (bs (sgT n))) ∧ Below w.heap.size w w' := by
  have H : Hid (-100000 ≤ n ∧ n ≤ 100000 ∧ TbP w) := ⟨h0, h1, hT⟩
  have hlen : (Lib.itoa n).length ≤ 100000 := itoa_len h0 h1
  clear h0 h1 hT
  by_cases hn : n < 0
  · have hd : decide (n < 0) = true := decide_eq_true hn
    have HS : Hid (sgT n = Lib.itoa n) := if_pos hn
    clear hn
    go_enter Tryz.func49, Tryz.ntmps49
    go_wp2_with fail
    refine (itoa_c n (by have := H.out; omega) (by have := H.out; omega) _ H.out.2.2).mono ?_
    rintro e w2 ⟨rfl, hb⟩
    go_wp2_with fail
    go_ret
    exact ⟨by rw [HS.out]; rfl, hb⟩
  have hd : decide (n < 0) = false := decide_eq_false hn
  have HS : Hid (sgT n = 43 :: Lib.itoa n) := if_neg hn
  clear hn
  go_enter Tryz.func49, Tryz.ntmps49
  go_wp2_with fail
  refine (itoa_c n (by have := H.out; omega) (by have := H.out; omega) _ H.out.2.2).mono ?_
  rintro e w2 ⟨rfl, hb⟩
  have hcat : ∀ W, (Op.stringOp .add ⟨#[43]⟩ (bs (Lib.itoa n))).run Tryz.prog W = .ok (.string (bs (43 :: Lib.itoa n))) W := fun W => cat_run [43] (Lib.itoa n) W (by show 1 + _ ≤ _; omega)
  have hbd : ¬ ((⟨#[43]⟩ : ByteArray).size + (bs (Lib.itoa n)).size > 9223372036854775807) := by rw [bs_size]; show ¬ (1 + _ > _); omega
  go_wp2_with fail
  go_ret
  exact ⟨by rw [HS.out]; rfl, hb⟩
end Go.Proofs.YtglkjbkpgfencaaGreatDoor

namespace Go.Proofs.YtglkjbkpgfencaaGreatDoor
open Go.RowKit Go.Shelf

def dgF (man : Nat) : List UInt8 := frF (man * 2 ^ (64 - (bitsN man - 1)) % B64)
def exF (man : Nat) (exp : Int) : List UInt8 :=
  if man = 0 then [48, 120, 48, 112, 43, 48] else [48, 120, 49] ++ (if dgF man = [] then [] else 46 :: dgF man) ++ [112] ++ sgT (exp + (bitsN man - 1 : Nat))
theorem bitsN_le64 {x : Nat} (h : x < B64) : bitsN x ≤ 64 := by
  by_cases h0 : x = 0
  · rw [h0, bitsN_zero]; omega
  · refine Nat.le_of_not_lt fun h1 => ?_
    have h2 := bitsN_le x h0
    have h3 : 2 ^ 64 ≤ 2 ^ (bitsN x - 1) := Nat.pow_le_pow_right (by decide) (by omega)
    exact absurd (Nat.lt_of_le_of_lt (Nat.le_trans h3 h2) h) (by decide)
theorem bitsN_posX {x : Nat} (h : x ≠ 0) : 0 < bitsN x := by rw [bitsN_half x h]; omega
theorem frF_len (x : Nat) : (frF x).length ≤ 32 := by
  unfold frF Lib.trimRightB
  rw [List.length_reverse]
  refine Nat.le_trans (List.dropWhile_sublist _).length_le ?_
  rw [List.length_reverse, List.length_append, List.length_replicate]
  have := hexL_len 16 x
  omega
set_option maxRecDepth 20000 in
set_option maxHeartbeats 0 in
theorem exact_0 {exp : Int} {w : World} :
    Calls Tryz.prog 18 #[U 0, .int .i64 exp] w fun en w' => en = .returned (.string (bs (exF 0 exp))) ∧ Below w.heap.size w w' := by
  go_enter Tryz.func18, Tryz.ntmps18
  go_wp2_with fail
  go_ret
  exact ⟨rfl, Below.refl _ _⟩
set_option maxRecDepth 20000 in
set_option maxHeartbeats 0 in
theorem exact_n {man : Nat} {exp : Int} {w : World} (h0 : man ≠ 0) (h1 : man < B64) (he : -2000 ≤ exp ∧ exp ≤ 2000) (hT : Tab w) (hP : TbP w) :
    Calls Tryz.prog 18 #[U man, .int .i64 exp] w fun en w' => en = .returned (.string (bs (exF man exp))) ∧ Below w.heap.size w w' := by
  have H : Hid (man ≠ 0 ∧ man < B64 ∧ (-2000 ≤ exp ∧ exp ≤ 2000) ∧ Tab w ∧ TbP w) := ⟨h0, h1, he, hT, hP⟩
  have hd : decide ((man : Int) = 0) = false := decide_eq_false (by omega)
  have hm0 : ¬ ((man : Int) = 0) := by omega
  clear h0 h1 he hT hP
  go_enter Tryz.func18, Tryz.ntmps18
  go_wp2_with fail
  refine (len_any man _ H.out.2.1).mono ?_
  rintro e w2 ⟨rfl, rfl⟩
  obtain ⟨t, ht⟩ : ∃ t, t = bitsN man - 1 := ⟨_, rfl⟩
  have hbn := bitsN_le64 H.out.2.1
  have hbp := bitsN_posX H.out.1
  have ht1 : (bitsN man : Int) - 1 = (t : Int) := by omega
  have htt : t ≤ 63 := by omega
  have HTT : Hid (t = bitsN man - 1) := ht
  rw [show bitsN man = t + 1 by omega]
  clear ht hbn hbp ht1
  go_wp2_with fail
  obtain ⟨y, hy⟩ : ∃ y, y = man * 2 ^ (64 - t) % B64 := ⟨_, rfl⟩
  have hyw : IntKind.u64.wrap ((man : Int) * 2 ^ (64 - t)) = (y : Int) := by rw [IntKind.wrap_u64, hy]; rw [Int.natCast_emod, Int.natCast_mul, Int.natCast_pow]; rfl
  have HY : Hid (y < B64 ∧ dgF man = frF y) := ⟨by rw [hy]; exact Nat.mod_lt _ (by decide), by unfold dgF; rw [← HTT.out, hy]⟩
  rw [hyw]
  clear hy hyw
  refine (fraction_c HY.out.1 H.out.2.2.2.1).mono ?_
  rintro e w3 ⟨rfl, hb3⟩
  have hql := frF_len y
  obtain ⟨q, hq⟩ : ∃ q, q = frF y := ⟨_, rfl⟩
  rw [← hq]
  rw [← hq] at hql HY
  have HB3 : Hid (Below w2.heap.size w2 w3) := hb3
  have HP3 : Hid (TbP w3) := H.out.2.2.2.2.below hb3
  have hx1 := H.out.2.2.1.1
  have hx2 := H.out.2.2.1.2
  obtain ⟨n, hn⟩ : ∃ n, n = exp + (t : Int) := ⟨_, rfl⟩
  have HNN : Hid (n = exp + (t : Int) ∧ -100000 ≤ n ∧ n ≤ 100000) := ⟨hn, by omega, by omega⟩
  clear hq hb3
  have hE0 : exF man exp = [48, 120, 49] ++ (if q = [] then [] else 46 :: q) ++ [112] ++ sgT n := by unfold exF; rw [if_neg H.out.1, HY.out.2, hn, HTT.out]
  have HE : Hid (exF man exp = [48, 120, 49] ++ (if q = [] then [] else 46 :: q) ++ [112] ++ sgT n) := hE0
  clear hE0
  have hsl : (sgT n).length ≤ 100001 := by have h := itoa_len HNN.out.2.1 HNN.out.2.2; unfold sgT; split <;> (try rw [List.length_cons]) <;> omega
  by_cases hq0 : q = []
  · subst hq0
    have hem : (bs ([] : List UInt8)).toList.isEmpty = true := emp0
    have hsh : (⟨#[48, 120, 49]⟩ : ByteArray) ++ (⟨#[112]⟩ : ByteArray) = bs [48, 120, 49, 112] := rfl
    go_wp2_with fail
    obtain ⟨T, hT⟩ : ∃ T : List UInt8, T = [48, 120, 49, 112] := ⟨_, rfl⟩
    rw [← hT]
    rw [← hn]
    refine (signed_c HNN.out.2.1 HNN.out.2.2 HP3.out).mono ?_
    rintro e w4 ⟨rfl, hb4⟩
    have HB4 : Hid (Below w2.heap.size w2 w4) := Below.on HB3.out hb4
    have hTl : T.length ≤ 100 := by rw [hT]; simp <;> omega
    have hTE : exF man exp = T ++ sgT n := by rw [HE.out, hT]; rfl
    have HTE : Hid (exF man exp = T ++ sgT n) := hTE
    clear hTE
    obtain ⟨s, hs⟩ : ∃ s, s = sgT n := ⟨_, rfl⟩
    rw [← hs] at HTE hsl
    rw [← hs]
    have hcB : ∀ W, (Op.stringOp .add (bs T) (bs s)).run Tryz.prog W = .ok (.string (bs (T ++ s))) W := fun W => cat_run T s W (by omega)
    have hbB : ¬ ((bs T).size + (bs s).size > 9223372036854775807) := by rw [bs_size, bs_size]; omega
    clear hs hT hb4
    go_wp2_with fail
    go_ret
    exact ⟨by rw [HTE.out]; rfl, HB4.out⟩
  · have hem : (bs q).toList.isEmpty = false := emp1 hq0
    have hcC : ∀ W, (Op.stringOp .add ⟨#[46]⟩ (bs q)).run Tryz.prog W = .ok (.string (bs (46 :: q))) W := fun W => cat_run [46] q W (by show 1 + _ ≤ _; omega)
    have hbC : ¬ ((⟨#[46]⟩ : ByteArray).size + (bs q).size > 9223372036854775807) := by rw [bs_size]; show ¬ (1 + _ > _); omega
    have hcD : ∀ W, (Op.stringOp .add ⟨#[48, 120, 49]⟩ (bs (46 :: q))).run Tryz.prog W = .ok (.string (bs ([48, 120, 49] ++ 46 :: q))) W := fun W => cat_run [48, 120, 49] (46 :: q) W (by show 3 + (_ + 1) ≤ _; omega)
    have hbD : ¬ ((⟨#[48, 120, 49]⟩ : ByteArray).size + (bs (46 :: q)).size > 9223372036854775807) := by rw [bs_size]; show ¬ (3 + (_ + 1) > _); omega
    have hbA : ¬ ((bs (48 :: 120 :: 49 :: 46 :: q)).size + (⟨#[112]⟩ : ByteArray).size > 9223372036854775807) := by rw [bs_size]; show ¬ (_ + 1 > _); simp <;> omega
    have hsh : bs (48 :: 120 :: 49 :: 46 :: q) ++ (⟨#[112]⟩ : ByteArray) = bs (48 :: 120 :: 49 :: 46 :: (q ++ [112])) := bs_cat _ [112]
    go_wp2_with fail
    obtain ⟨T, hT⟩ : ∃ T : List UInt8, T = 48 :: 120 :: 49 :: 46 :: (q ++ [112]) := ⟨_, rfl⟩
    rw [← hT]
    rw [← hn]
    refine (signed_c HNN.out.2.1 HNN.out.2.2 HP3.out).mono ?_
    rintro e w4 ⟨rfl, hb4⟩
    have HB4 : Hid (Below w2.heap.size w2 w4) := Below.on HB3.out hb4
    have hTl : T.length ≤ 100 := by rw [hT]; simp <;> omega
    have hTE : exF man exp = T ++ sgT n := by rw [HE.out, hT]; rw [if_neg hq0]; simp
    have HTE : Hid (exF man exp = T ++ sgT n) := hTE
    clear hTE
    obtain ⟨s, hs⟩ : ∃ s, s = sgT n := ⟨_, rfl⟩
    rw [← hs] at HTE hsl
    rw [← hs]
    have hcB : ∀ W, (Op.stringOp .add (bs T) (bs s)).run Tryz.prog W = .ok (.string (bs (T ++ s))) W := fun W => cat_run T s W (by omega)
    have hbB : ¬ ((bs T).size + (bs s).size > 9223372036854775807) := by rw [bs_size, bs_size]; omega
    clear hs hT hb4
    go_wp2_with fail
    go_ret
    exact ⟨by rw [HTE.out]; rfl, HB4.out⟩
def printF (le : Int) (H S I b : Nat) : List UInt8 :=
  if I < b % S then [110, 97, 110] else (if S ≤ b then [45] else []) ++ (if b % S = I then [105, 110, 102] else exF (b % S - (b % S / H - 1) * H) (le + ((b % S / H - 1 : Nat) : Int)))
theorem exF_len {man : Nat} {e : Int} (h0 : -2000 ≤ e) (h1 : e ≤ 2000) (hm : man < B64) : (exF man e).length ≤ 100200 := by
  unfold exF
  split
  · show 6 ≤ _; omega
  · have h1 : (dgF man).length ≤ 32 := frF_len _
    have h2 := bitsN_le64 hm
    have h3 : (sgT (e + (bitsN man - 1 : Nat))).length ≤ 100001 := by
      have h := itoa_len (n := e + (bitsN man - 1 : Nat)) (by omega) (by omega)
      unfold sgT
      split <;> (try rw [List.length_cons]) <;> omega
    simp only [List.length_append]
    split
    · show 3 + 0 + 1 + _ ≤ _; omega
    · have h4 : (46 :: dgF man).length ≤ 33 := by rw [List.length_cons]; omega
      show 3 + _ + 1 + _ ≤ _; omega
theorem exact_c {man : Nat} {exp : Int} {w : World} (h1 : man < B64) (he : -2000 ≤ exp ∧ exp ≤ 2000) (hT : Tab w) (hP : TbP w) :
    Calls Tryz.prog 18 #[U man, .int .i64 exp] w fun en w' => en = .returned (.string (bs (exF man exp))) ∧ Below w.heap.size w w' := by
  by_cases h0 : man = 0
  · subst h0; exact exact_0
  · exact exact_n h0 h1 he hT hP
theorem cls4 {H I z : Nat} (hH : 0 < H) (hHI : H ≤ I) : (clsN H I z = 4 ↔ I < z) ∧ (clsN H I z = 3 ↔ z = I) := by
  unfold clsN
  constructor <;> (split <;> (try split) <;> (try split) <;> (try split)) <;> omega
set_option maxRecDepth 20000 in
set_option maxHeartbeats 0 in
theorem print_c {f p m le : Int} {S I H sd : Nat} {Be : Int} (J : Jn f p m le S I H sd Be) (hSg : ∀ w, Calls Tryz.prog 16 #[WV p m le] w fun e w' => e = .returned (U S) ∧ Below w.heap.size w w') (hAN : ∀ b : Nat, b < 2 * S → bits BinOp.andNot IntKind.u64 (b : Int) (S : Int) = ((b % S : Nat) : Int)) {b : Nat} {w : World} (hb : b < 2 * S) (hT : Tab w) (hP : TbP w) :
    Calls Tryz.prog 8 #[.int .i64 f, U b] w fun en w' => en = .returned (.tuple #[.string (bs (printF le H S I b)), .int .i64 0]) ∧ Below w.heap.size w w' := by
  have HJ : Hid (Jn f p m le S I H sd Be) := J
  have HSg : Hid (∀ w, Calls Tryz.prog 16 #[WV p m le] w fun e w' => e = .returned (U S) ∧ Below w.heap.size w w') := hSg
  have HX : Hid (b < 2 * S ∧ Tab w ∧ TbP w) := ⟨hb, hT, hP⟩
  have han := hAN b hb
  obtain ⟨z, hz⟩ : ∃ z, z = b % S := ⟨_, rfl⟩
  rw [← hz] at han
  have HZ : Hid (z = b % S) := hz
  clear J hSg hAN hb hT hP hz
  go_enter Tryz.func8, Tryz.ntmps8
  go_wp2_with fail
  refine (HJ.out.cl b _ HX.out.1).mono ?_
  rintro e w2 ⟨rfl, hb2⟩
  rw [← HZ.out]
  have HB2 : Hid (Below w.heap.size w w2) := hb2
  obtain ⟨c, hc⟩ : ∃ c, c = clsN H I z := ⟨_, rfl⟩
  rw [← hc]
  have HC : Hid (c = clsN H I z) := hc
  clear hb2 hc
  by_cases hn : c = 4
  · have hIz : I < z := (cls4 HJ.out.jm.pm.hp (by have := HJ.out.jm.pm.h2; omega)).1.1 (HC.out ▸ hn)
    have HPR : Hid (printF le H S I b = [110, 97, 110]) := by have h := hIz; rw [HZ.out] at h; exact if_pos h
    clear hIz
    go_wp2_with fail
    go_ret2
    exact ⟨by rw [HPR.out]; rfl, HB2.out⟩
  · have hIz : ¬ I < z := fun h => hn (HC.out.trans ((cls4 HJ.out.jm.pm.hp (by have := HJ.out.jm.pm.h2; omega)).1.2 h))
    have HIZ : Hid (¬ I < z) := hIz
    have hd4 : (c == 4) = false := by simpa using hn
    clear hIz
    go_wp2_with fail
    refine (HJ.out.jm.pm.fm.of _).mono ?_
    rintro e w3 ⟨rfl, hb3⟩
    have HB3 : Hid (Below w.heap.size w w3) := Below.on HB2.out hb3
    clear hb3 HB2
    go_wp2_with fail
    refine (HSg.out _).mono ?_
    rintro e w4 ⟨rfl, hb4⟩
    have HB4 : Hid (Below w.heap.size w w4) := Below.on (Below.on HB3.out (below1 w3 _)) hb4
    clear hb4 HB3
    by_cases h3 : c = 3
    · have hzI : z = I := (cls4 HJ.out.jm.pm.hp (by have := HJ.out.jm.pm.h2; omega)).2.1 (HC.out ▸ h3)
      have hd3 : (c == 3) = true := by simpa using h3
      have HTX : Hid (printF le H S I b = (if S ≤ b then [45] else []) ++ [105, 110, 102]) := by unfold printF; rw [← HZ.out, if_neg HIZ.out, if_pos hzI]; rfl
      clear hzI
      have HTL : Hid (([105, 110, 102] : List UInt8).length ≤ 100200) := by show 3 ≤ _; omega
      have hzb : (z = b) ↔ ¬ S ≤ b := by have h1 := HZ.out; have h2 := HX.out.1; constructor <;> intro h <;> (first | (intro h3; rw [Nat.mod_eq_sub_mod h3, Nat.mod_eq_of_lt (by omega)] at h1; have := HJ.out.jm.pm.fm.lt; omega) | (rw [Nat.mod_eq_of_lt (by omega)] at h1; exact h1))
      by_cases hsg : S ≤ b
      · have hzz : ¬ (z : Int) = (b : Int) := fun h => (hzb.1 (by omega)) hsg
        have hzd : ((z : Int) == (b : Int)) = false := by simpa using hzz
        have HTY : Hid (printF le H S I b = 45 :: [105, 110, 102]) := by rw [HTX.out, if_pos hsg]; rfl
        have hcat : ∀ W, (Op.stringOp .add ⟨#[45]⟩ (bs ([105, 110, 102]))).run Tryz.prog W = .ok (.string (bs (45 :: [105, 110, 102]))) W := fun W => cat_run [45] ([105, 110, 102]) W (by show 1 + _ ≤ _; have := HTL.out; omega)
        have hbA : ¬ ((⟨#[45]⟩ : ByteArray).size + (bs ([105, 110, 102])).size > 9223372036854775807) := by rw [bs_size]; show ¬ (1 + _ > _); have := HTL.out; omega
        clear hzb
        go_wp2_with fail
        go_ret2
        exact ⟨by rw [HTY.out]; rfl, HB4.out⟩
      · have hzz : z = b := hzb.2 hsg
        have hzz2 : (z : Int) = (b : Int) := by omega
        have HTY : Hid (printF le H S I b = [105, 110, 102]) := by rw [HTX.out, if_neg hsg]; rfl
        clear hzb
        go_wp2_with fail
        go_ret2
        exact ⟨by rw [HTY.out]; rfl, HB4.out⟩
    · have hzI : z ≠ I := fun h => h3 (HC.out.trans ((cls4 HJ.out.jm.pm.hp (by have := HJ.out.jm.pm.h2; omega)).2.2 h))
      have hzlt : z < I := by have := HIZ.out; omega
      have hd3 : (c == 3) = false := by simpa using h3
      have HZI : Hid (z < I) := hzlt
      have HTX0 : Hid (printF le H S I b = (if S ≤ b then [45] else []) ++ exF (z - (z / H - 1) * H) (le + ((z / H - 1 : Nat) : Int))) := by unfold printF; rw [← HZ.out, if_neg HIZ.out, if_neg hzI]; rfl
      clear hzI hzlt
      go_wp2_with fail
      have hzS : z % S = z := Nat.mod_eq_of_lt (by have := HZI.out; have := HJ.out.jm.pm.fm.lt; omega)
      refine (split_ok HJ.out.jm.pm z (by have := HZI.out; have := HJ.out.jm.pm.fm.lt; omega) (by rw [hzS]; exact HZI.out) _).mono ?_
      rintro e w5 ⟨rfl, hb5⟩
      rw [hzS]
      have HB5 : Hid (Below w.heap.size w w5) := Below.on HB4.out hb5
      have hst := HJ.out.jm.pm.st z HZI.out
      have hlo := HJ.out.jm.pm.lo
      have hle := HJ.out.jm.pm.fm.le
      have hlt := HJ.out.jm.pm.fm.lt
      obtain ⟨mn, hmn⟩ : ∃ mn, mn = z - (z / H - 1) * H := ⟨_, rfl⟩
      obtain ⟨ex, hex⟩ : ∃ ex : Int, ex = le + ((z / H - 1 : Nat) : Int) := ⟨_, rfl⟩
      have HME : Hid (mn < B64 ∧ -2000 ≤ ex ∧ ex ≤ 2000) := ⟨Nat.lt_of_le_of_lt (by rw [hmn]; exact Nat.sub_le _ _) (Nat.lt_of_lt_of_le HZI.out (Nat.le_trans (Nat.le_of_lt hlt) (Nat.le_trans hle (by decide)))), by omega, by omega⟩
      rw [← hmn, ← hex] at HTX0
      rw [← hmn, ← hex]
      generalize decide (S ≤ z) = sb
      clear hb5 hzS hst hlo hle hlt hmn hex HB4
      go_wp2_with fail
      refine (exact_c HME.out.1 HME.out.2 (HX.out.2.1.below HB5.out) (HX.out.2.2.below HB5.out)).mono ?_
      rintro e w6 ⟨rfl, hb6⟩
      have HB6 : Hid (Below w.heap.size w w6) := Below.on HB5.out hb6
      have htl := exF_len HME.out.2.1 HME.out.2.2 HME.out.1
      obtain ⟨tx, htx⟩ : ∃ tx, tx = exF mn ex := ⟨_, rfl⟩
      rw [← htx] at htl HTX0
      rw [← htx]
      have HTL : Hid (tx.length ≤ 100200) := htl
      have HTX := HTX0
      clear htl htx hb6 HB5 HTX0
      have hzb : (z = b) ↔ ¬ S ≤ b := by have h1 := HZ.out; have h2 := HX.out.1; constructor <;> intro h <;> (first | (intro h3; rw [Nat.mod_eq_sub_mod h3, Nat.mod_eq_of_lt (by omega)] at h1; have := HJ.out.jm.pm.fm.lt; omega) | (rw [Nat.mod_eq_of_lt (by omega)] at h1; exact h1))
      by_cases hsg : S ≤ b
      · have hzz : ¬ (z : Int) = (b : Int) := fun h => (hzb.1 (by omega)) hsg
        have hzd : ((z : Int) == (b : Int)) = false := by simpa using hzz
        have HTY : Hid (printF le H S I b = 45 :: tx) := by rw [HTX.out, if_pos hsg]; rfl
        have hcat : ∀ W, (Op.stringOp .add ⟨#[45]⟩ (bs (tx))).run Tryz.prog W = .ok (.string (bs (45 :: tx))) W := fun W => cat_run [45] (tx) W (by show 1 + _ ≤ _; have := HTL.out; omega)
        have hbA : ¬ ((⟨#[45]⟩ : ByteArray).size + (bs (tx)).size > 9223372036854775807) := by rw [bs_size]; show ¬ (1 + _ > _); have := HTL.out; omega
        clear hzb
        go_wp2_with fail
        go_ret2
        exact ⟨by rw [HTY.out]; rfl, HB6.out⟩
      · have hzz : z = b := hzb.2 hsg
        have hzz2 : (z : Int) = (b : Int) := by omega
        have HTY : Hid (printF le H S I b = tx) := by rw [HTX.out, if_neg hsg]; rfl
        clear hzb
        go_wp2_with fail
        go_ret2
        exact ⟨by rw [HTY.out]; rfl, HB6.out⟩
end Go.Proofs.YtglkjbkpgfencaaGreatDoor

namespace Go.Proofs.YtglkjbkpgfencaaGreatDoor
open Go.RowKit Go.Shelf

theorem hm9 {p : Prop} (h : p) : Hid p := h
structure Hf (f p m le : Int) (S I H sd : Nat) (Be : Int) (Q : Nat) : Prop where
  j : Jn f p m le S I H sd Be
  q : ∀ w, Calls Tryz.prog 22 #[WV p m le] w fun e w' => e = .returned (U Q) ∧ Below w.heap.size w w'
  s : ∀ w, Calls Tryz.prog 16 #[WV p m le] w fun e w' => e = .returned (U S) ∧ Below w.heap.size w w'
  an : ∀ b : Nat, b < 2 * S → bits BinOp.andNot IntKind.u64 (b : Int) (S : Int) = ((b % S : Nat) : Int)
theorem hf_32 : Hf 32 32 24 (-149) 2147483648 2139095040 8388608 23 128 2143289345 := ⟨jn_32, wquiet_32, sign_32, fun b hb => sign_andNot b _ 31 rfl (by decide) hb⟩
theorem hf_64 : Hf 64 64 53 (-1074) 9223372036854775808 9218868437227405312 4503599627370496 52 1024 9221120237041090561 := ⟨jn_64, wquiet_64, sign_64, fun b hb => sign_andNot b _ 63 rfl (by decide) hb⟩
theorem aw_parse : parseF (-1074) 52 1024 9223372036854775808 9218868437227405312 9221120237041090561 [45, 48, 120, 49, 46, 56, 112, 49] = (13837309855095848960, 0) := by decide +kernel
theorem aw_print : printF (-1074) 4503599627370496 9223372036854775808 9218868437227405312 4609434218613702656 = [48, 120, 49, 46, 56, 112, 43, 48] := by decide +kernel
theorem bs_eqL (l p : List UInt8) : ((bs l).toList == p) = decide (l = p) := by
  rw [Lib.toList_data, bs_data]
  by_cases h : l = p
  · subst h; simp
  · simp [h]
theorem aw_eq : ((bs [48, 120, 49, 46, 56, 112, 43, 48]).toList == [48, 120, 49, 46, 56, 112, 43, 48]) = true := by rw [Lib.toList_data, bs_data]; rfl
structure Wd (w : World) : Prop where
  t : Tab w
  b : 0 < w.heap.size
  p : TbP w
theorem Wd.below {w w' : World} (h : Wd w) (hb : Below w.heap.size w w') : Wd w' := ⟨h.t.below hb, Nat.lt_of_lt_of_le h.b hb.size, h.p.below hb⟩
theorem Hf.parse {f p m le : Int} {S I H sd Q : Nat} {Be : Int} (h : Hf f p m le S I H sd Be Q) (l : List UInt8) {w : World} (hw : Wd w) {x : Nat} {e : Int} (hp : parseF le sd Be S I Q l = (x, e)) :
    Calls Tryz.prog 9 #[.int .i64 f, .string (bs l)] w fun en w' => en = .returned (.tuple #[U x, .int .i64 e]) ∧ Below w.heap.size w w' := by
  have h1 := parse_c h.j h.q (l := l) hw.t hw.b
  rw [hp] at h1
  exact h1
theorem Hf.print {f p m le : Int} {S I H sd Q : Nat} {Be : Int} (h : Hf f p m le S I H sd Be Q) {b : Nat} {w : World} (hb : b < 2 * S) (hw : Wd w) {t : List UInt8} (ht : printF le H S I b = t) :
    Calls Tryz.prog 8 #[.int .i64 f, U b] w fun en w' => en = .returned (.tuple #[.string (bs t), .int .i64 0]) ∧ Below w.heap.size w w' := by
  have h1 := print_c h.j h.s h.an hb hw.t hw.p
  rw [ht] at h1
  exact h1
set_option maxRecDepth 20000 in
set_option maxHeartbeats 0 in
theorem awake10 {w : World} (hw : Wd w) :
    Calls Tryz.prog 6 #[] w fun en w' => en = .returned (.bool true) ∧ Below w.heap.size w w' := by
  have HW : Hid (Wd w) := hw
  clear hw
  go_enter Tryz.func6, Tryz.ntmps6
  go_wp2_with fail
  refine (hf_64.parse [45, 48, 120, 49, 46, 56, 112, 49] HW.out aw_parse).mono ?_
  rintro e w1 ⟨rfl, hb1⟩
  have HB : Hid (Below w.heap.size w w1) := hb1
  clear hb1
  go_wp2_with fail
  refine (hf_64.print (b := 4609434218613702656) (by decide) (HW.out.below HB.out) aw_print).mono ?_
  rintro e w2 ⟨rfl, hb2⟩
  have HB2 : Hid (Below w.heap.size w w2) := Below.on HB.out hb2
  clear hb2
  go_wp2_with fail
  go_ret
  exact ⟨congrArg (fun b => Ending.returned (.bool b)) aw_eq, HB2.out⟩
theorem pre_cons (c : UInt8) (l : List UInt8) : Lib.hasPrefix (c :: l) [c] = true := List.isPrefixOf_iff_prefix.2 ⟨l, rfl⟩
theorem pre_other {c d : UInt8} (l : List UInt8) (h : c ≠ d) : Lib.hasPrefix (c :: l) [d] = false := by
  unfold Lib.hasPrefix
  rw [List.isPrefixOf_cons_cons, show (d == c) = false by simpa using (Ne.symm h)]; rfl
theorem minus_p (l : List UInt8) : minusF (43 :: l) = (false, l) := by unfold minusF; rw [if_pos (pre_cons _ _)]; rfl
theorem minus_m (l : List UInt8) : minusF (45 :: l) = (true, l) := by unfold minusF; rw [if_neg (by rw [pre_other _ (by decide)]; decide), if_pos (pre_cons _ _)]; rfl
theorem minus_n {l : List UInt8} (h : ∀ c r, l = c :: r → c ≠ 43 ∧ c ≠ 45) : minusF l = (false, l) := by
  cases l with
  | nil => rfl
  | cons c r => unfold minusF; rw [if_neg (by rw [pre_other _ (h c r rfl).1]; decide), if_neg (by rw [pre_other _ (h c r rfl).2]; decide)]
end Go.Proofs.YtglkjbkpgfencaaGreatDoor

namespace Go.Proofs.YtglkjbkpgfencaaGreatDoor
open Go.RowKit Go.Shelf

theorem tw_app {p A r : List UInt8} (hA : ∀ c ∈ A, c ∈ p) (hr : ∀ c t, r = c :: t → c ∉ p) : (A ++ r).takeWhile (p.contains ·) = A ∧ Lib.trimLeftS (A ++ r) p = r := by
  have hA' : ∀ c ∈ A, p.contains c = true := fun c hc => List.contains_iff_mem.2 (hA c hc)
  have h2 : r.takeWhile (p.contains ·) = [] ∧ r.dropWhile (p.contains ·) = r := by
    cases r with
    | nil => exact ⟨rfl, rfl⟩
    | cons c t =>
      have h3 : p.contains c = false := by
        cases h : p.contains c with
        | false => rfl
        | true => exact absurd (List.contains_iff_mem.1 h) (hr c t rfl)
      rw [List.takeWhile_cons, List.dropWhile_cons, h3]
      exact ⟨rfl, rfl⟩
  unfold Lib.trimLeftS
  rw [List.takeWhile_append_of_pos hA', List.dropWhile_append_of_pos hA', h2.1, h2.2, List.append_nil]
  exact ⟨rfl, rfl⟩
theorem pre_same (p r : List UInt8) : Lib.hasPrefix (p ++ r) p = true := List.isPrefixOf_iff_prefix.2 (List.prefix_append _ _)
theorem takes_same (p : List UInt8) (ps : List (List UInt8)) (r : List UInt8) : takesF (p :: ps) (p ++ r) = some r := by
  unfold takesF; rw [if_pos (pre_same p r), List.drop_left]
theorem takes_snd {p q r : List UInt8} (ps : List (List UInt8)) (h : Lib.hasPrefix (q ++ r) p = false) : takesF (p :: q :: ps) (q ++ r) = some r := by
  unfold takesF; rw [if_neg (by rw [h]; decide)]; exact takes_same q ps r
theorem pre_ne {c d : UInt8} {l p : List UInt8} (h : c ≠ d) : Lib.hasPrefix (c :: l) (d :: p) = false := by
  unfold Lib.hasPrefix
  rw [List.isPrefixOf_cons_cons, show (d == c) = false by simpa using (Ne.symm h)]; rfl
theorem takes_not {c d : UInt8} {r : List UInt8} (h : c ≠ d) : takesF [[d]] (c :: r) = none := by
  unfold takesF; rw [if_neg (by rw [pre_ne h]; decide)]; rfl
theorem hexs_mem {c : UInt8} (h : hexd c = true) : c ∈ hexs := by
  have h1 : ∀ n, n < 256 → hexdN n = true → UInt8.ofNat n ∈ hexs := by decide +kernel
  have h2 := h1 c.toNat c.toNat_lt h
  rwa [UInt8.ofNat_toNat] at h2
theorem digs_plain {A r : List UInt8} {c : UInt8} (hA : ∀ c ∈ A, hexd c = true) (hc : c ∉ hexs) (h46 : c ≠ 46) : digsF hexs (A ++ c :: r) = (A, 0, c :: r) := by
  obtain ⟨h1, h2⟩ := tw_app (p := hexs) (A := A) (r := c :: r) (fun c hc => hexs_mem (hA c hc)) (by rintro d t ⟨rfl⟩; exact hc)
  unfold digsF
  rw [h2, takes_not h46, h1]
theorem digs_point {A B r : List UInt8} {c : UInt8} (hA : ∀ c ∈ A, hexd c = true) (hB : ∀ c ∈ B, hexd c = true) (hc : c ∉ hexs) : digsF hexs (A ++ 46 :: (B ++ c :: r)) = (A ++ B, B.length, c :: r) := by
  obtain ⟨h1, h2⟩ := tw_app (p := hexs) (A := A) (r := 46 :: (B ++ c :: r)) (fun c hc => hexs_mem (hA c hc)) (by rintro d t ⟨rfl⟩; decide)
  obtain ⟨h3, h4⟩ := tw_app (p := hexs) (A := B) (r := c :: r) (fun c hc => hexs_mem (hB c hc)) (by rintro d t ⟨rfl⟩; exact hc)
  unfold digsF
  rw [h2, show (46 : UInt8) :: (B ++ c :: r) = [46] ++ (B ++ c :: r) from rfl, takes_same [46] [] _]
  show (_, _, _) = _
  rw [show ([46] : List UInt8) ++ (B ++ c :: r) = 46 :: (B ++ c :: r) from rfl, h1, h3, h4]
def ExT (E : List UInt8) (n : Int) : Prop := (expF E).1 ≠ [] ∧ (expF E).2.1 = n ∧ (expF E).2.2 = []
theorem numF_plain {x p : UInt8} {A E : List UInt8} {n : Int} (hx : x = 120 ∨ x = 88) (hp : p = 112 ∨ p = 80) (hA : ∀ c ∈ A, hexd c = true) (hA0 : A ≠ []) (hE : ExT E n) :
    numF (48 :: x :: (A ++ p :: E)) = some (Lib.trimLeftS A [48], 0, n) := by
  have h1 : takesF [[48, 120], [48, 88]] (48 :: x :: (A ++ p :: E)) = some (A ++ p :: E) := by
    rcases hx with rfl | rfl
    · exact takes_same [48, 120] [[48, 88]] _
    · refine takes_snd (p := [48, 120]) (q := [48, 88]) [] ?_
      unfold Lib.hasPrefix; rfl
  have h2 : digsF hexs (A ++ p :: E) = (A, 0, p :: E) := digs_plain hA (by rcases hp with rfl | rfl <;> decide) (by rcases hp with rfl | rfl <;> decide)
  have h3 : takesF [[112], [80]] (p :: E) = some E := by
    rcases hp with rfl | rfl
    · exact takes_same [112] [[80]] _
    · exact takes_snd (p := [112]) (q := [80]) [] (pre_ne (by decide))
  rw [numF_s h1 (by rw [h2]; exact hA0) (by rw [h2]; exact h3), if_neg hE.1, if_pos hE.2.2, h2, hE.2.1]
theorem numF_point {x p : UInt8} {A B E : List UInt8} {n : Int} (hx : x = 120 ∨ x = 88) (hp : p = 112 ∨ p = 80) (hA : ∀ c ∈ A, hexd c = true) (hB : ∀ c ∈ B, hexd c = true) (hA0 : A ++ B ≠ []) (hE : ExT E n) :
    numF (48 :: x :: (A ++ 46 :: (B ++ p :: E))) = some (Lib.trimLeftS (A ++ B) [48], B.length, n) := by
  have h1 : takesF [[48, 120], [48, 88]] (48 :: x :: (A ++ 46 :: (B ++ p :: E))) = some (A ++ 46 :: (B ++ p :: E)) := by
    rcases hx with rfl | rfl
    · exact takes_same [48, 120] [[48, 88]] _
    · refine takes_snd (p := [48, 120]) (q := [48, 88]) [] ?_
      unfold Lib.hasPrefix; rfl
  have h2 : digsF hexs (A ++ 46 :: (B ++ p :: E)) = (A ++ B, B.length, p :: E) := digs_point hA hB (by rcases hp with rfl | rfl <;> decide)
  have h3 : takesF [[112], [80]] (p :: E) = some E := by
    rcases hp with rfl | rfl
    · exact takes_same [112] [[80]] _
    · exact takes_snd (p := [112]) (q := [80]) [] (pre_ne (by decide))
  rw [numF_s h1 (by rw [h2]; exact hA0) (by rw [h2]; exact h3), if_neg hE.1, if_pos hE.2.2, h2, hE.2.1]
theorem farF_snoc (n : Nat) (l : List UInt8) (c : UInt8) : farF n (l ++ [c]) = min (10 * farF n l + (c.toNat - 48)) 100000 := by
  induction l generalizing n with
  | nil => rfl
  | cons d l ih => exact ih _
theorem decc {d : Nat} (h : d < 10) : (UInt8.ofNat (48 + d)).toNat = 48 + d ∧ UInt8.ofNat (48 + d) ∈ decs := by
  obtain rfl | rfl | rfl | rfl | rfl | rfl | rfl | rfl | rfl | rfl : d = 0 ∨ d = 1 ∨ d = 2 ∨ d = 3 ∨ d = 4 ∨ d = 5 ∨ d = 6 ∨ d = 7 ∨ d = 8 ∨ d = 9 := by omega
  all_goals exact ⟨rfl, by decide⟩
theorem dec_read (u : Nat) : farF 0 (Lib.decDigits u) = min u 100000 ∧ (∀ c ∈ Lib.decDigits u, c ∈ decs) ∧ Lib.decDigits u ≠ [] := by
  induction u using Nat.strongRecOn with
  | ind u ih =>
    rw [Lib.decDigits]
    split
    · rename_i h
      refine ⟨?_, ?_, by simp⟩
      · show min (10 * 0 + ((UInt8.ofNat (48 + u)).toNat - 48)) 100000 = _
        rw [(decc h).1]; congr 1; omega
      · intro c hc; rw [List.mem_singleton] at hc; rw [hc]; exact (decc h).2
    · rename_i h
      obtain ⟨i1, i2, i3⟩ := ih (u / 10) (by omega)
      refine ⟨?_, ?_, by simp⟩
      · rw [farF_snoc, i1, (decc (Nat.mod_lt u (by decide))).1]; omega
      · intro c hc
        rw [List.mem_append] at hc
        rcases hc with hc | hc
        · exact i2 c hc
        · rw [List.mem_singleton] at hc; rw [hc]; exact (decc (Nat.mod_lt u (by decide))).2
theorem exp_plain {E : List UInt8} (hE : ∀ c ∈ E, c ∈ decs) (h0 : E ≠ []) : ExT E (farF 0 E : Nat) ∧ ExT (45 :: E) (-((farF 0 E : Nat) : Int)) ∧ ExT (43 :: E) (farF 0 E : Nat) := by
  obtain ⟨h1, h2⟩ := tw_app (p := decs) (A := E) (r := []) hE (by rintro d t ⟨⟩)
  rw [List.append_nil] at h1 h2
  have hm0 : minusF E = (false, E) := by
    cases E with
    | nil => rfl
    | cons c r =>
      have hc := hE c (List.mem_cons_self ..)
      unfold minusF
      rw [if_neg (by rw [pre_ne (by rintro rfl; revert hc; decide)]; decide), if_neg (by rw [pre_ne (by rintro rfl; revert hc; decide)]; decide)]
  have hm1 : minusF (45 :: E) = (true, E) := by unfold minusF; rw [if_neg (by rw [pre_ne (by decide)]; decide), if_pos (show Lib.hasPrefix (45 :: E) [45] = true from pre_same [45] E)]; rfl
  have hm2 : minusF (43 :: E) = (false, E) := by unfold minusF; rw [if_pos (show Lib.hasPrefix (43 :: E) [43] = true from pre_same [43] E)]; rfl
  refine ⟨?_, ?_, ?_⟩
  · unfold ExT expF; rw [hm0]; refine ⟨?_, ?_, h2⟩
    · show E.takeWhile (decs.contains ·) ≠ []; rw [h1]; exact h0
    · show ((farF 0 (E.takeWhile (decs.contains ·)) : Nat) : Int) = _; rw [h1]
  · unfold ExT expF; rw [hm1]; refine ⟨?_, ?_, h2⟩
    · show E.takeWhile (decs.contains ·) ≠ []; rw [h1]; exact h0
    · show -((farF 0 (E.takeWhile (decs.contains ·)) : Nat) : Int) = _; rw [h1]
  · unfold ExT expF; rw [hm2]; refine ⟨?_, ?_, h2⟩
    · show E.takeWhile (decs.contains ·) ≠ []; rw [h1]; exact h0
    · show ((farF 0 (E.takeWhile (decs.contains ·)) : Nat) : Int) = _; rw [h1]
theorem exp_itoa {n : Int} (h0 : -100000 ≤ n) (h1 : n ≤ 100000) : ExT (Lib.itoa n) n ∧ (0 ≤ n → ExT (43 :: Lib.itoa n) n) := by
  unfold Lib.itoa
  split
  · rename_i h
    obtain ⟨a1, a2, a3⟩ := dec_read n.natAbs
    have hx := (exp_plain a2 a3).2.1
    rw [a1, show (-((min n.natAbs 100000 : Nat) : Int)) = n by omega] at hx
    exact ⟨hx, fun h2 => by omega⟩
  · rename_i h
    obtain ⟨a1, a2, a3⟩ := dec_read n.toNat
    have hx := (exp_plain a2 a3).1
    have hy := (exp_plain a2 a3).2.2
    rw [a1, show ((min n.toNat 100000 : Nat) : Int) = n by omega] at hx hy
    exact ⟨hx, fun _ => hy⟩
theorem hexF_n (n : Nat) (b : List UInt8) : hexF n b = n * 16 ^ b.length + hexF 0 b := by
  induction b generalizing n with
  | nil => show n = n * 1 + 0; omega
  | cons c b ih =>
    show hexF (16 * n + hexv c) b = n * 16 ^ (b.length + 1) + hexF (16 * 0 + hexv c) b
    rw [ih (16 * n + hexv c), ih (16 * 0 + hexv c), Nat.pow_succ, Nat.mul_zero, Nat.zero_add, Nat.add_mul, show 16 * n * 16 ^ b.length = n * (16 ^ b.length * 16) by rw [Nat.mul_comm 16 n, Nat.mul_assoc, Nat.mul_comm 16]]
    omega
theorem hxc_v {d : Nat} (h : d < 16) : hexv (UInt8.ofNat (hxc d)) = d ∧ hexd (UInt8.ofNat (hxc d)) = true := by
  have h1 : ∀ d, d < 16 → hexv (UInt8.ofNat (hxc d)) = d ∧ hexd (UInt8.ofNat (hxc d)) = true := by decide +kernel
  exact h1 d h
theorem hexL_in : ∀ (f x : Nat), ∀ c ∈ hexL f x, hexd c = true
  | 0, _, c, h => by cases h
  | f + 1, x, c, h => by
    have h1 : c ∈ (if x < 16 then [UInt8.ofNat (hxc x)] else hexL f (x / 16) ++ [UInt8.ofNat (hxc (x % 16))]) := h
    split at h1
    · rename_i hx; rw [List.mem_singleton] at h1; rw [h1]; exact (hxc_v hx).2
    · rw [List.mem_append] at h1
      rcases h1 with h1 | h1
      · exact hexL_in f _ c h1
      · rw [List.mem_singleton] at h1; rw [h1]; exact (hxc_v (Nat.mod_lt _ (by decide))).2
theorem hexL_val : ∀ (f x : Nat), x < 16 ^ f → hexF 0 (hexL f x) = x
  | 0, x, h => by have : x < 1 := h; show 0 = x; omega
  | f + 1, x, h => by
    show hexF 0 (if x < 16 then [UInt8.ofNat (hxc x)] else hexL f (x / 16) ++ [UInt8.ofNat (hxc (x % 16))]) = x
    split
    · rename_i hx; show 16 * 0 + hexv _ = x; rw [(hxc_v hx).1]; omega
    · rw [hexF_app, hexL_val f _ (by rw [Nat.pow_succ] at h; omega)]
      show 16 * (x / 16) + hexv _ = x
      rw [(hxc_v (Nat.mod_lt _ (by decide))).1]; omega
theorem rnp_eq {f p m l : Int} {S I H sd : Nat} {Be : Int} (J : Jn f p m l S I H sd Be) {x e : Int} {Z : Nat} (hx : 0 ≤ x) (he : -4194304 ≤ e) (h : RNz H l I (dv x e) Z) : rnp l sd Be S I x e = Z := by
  obtain ⟨Y, _, h2, h3, _⟩ := rnp_is J x e he
  rw [show ((x.natAbs : Nat) : Int) = x by omega] at h2
  rw [h3, if_neg (by omega)]
  exact h2.uniq h
theorem parseF_of {le : Int} {sd : Nat} {Be : Int} {S I Q : Nat} {l r ds : List UInt8} {be : Nat} {ex : Int} {neg : Bool} (hl : l.length ≤ 4000) (hm : minusF l = (neg, r)) (hn : numF r = some (ds, be, ex)) :
    parseF le sd Be S I Q l = (sgq S neg (rnp le sd Be S I (hexF 0 ds : Int) (ex - 4 * ((be : Nat) : Int))), 0) := by
  have h1 : l ≠ [110, 97, 110] := by
    rintro rfl
    have h2 : minusF [110, 97, 110] = (false, [110, 97, 110]) := by decide +kernel
    rw [h2] at hm
    cases hm
    have h3 : numF [110, 97, 110] = none := by decide +kernel
    rw [h3] at hn; cases hn
  have h2 : (minusF l).2 ≠ [105, 110, 102] := by
    rw [hm]
    rintro rfl
    have h3 : numF [105, 110, 102] = none := by decide +kernel
    rw [h3] at hn; cases hn
  rw [parseF_num (by omega) h1 h2 (by rw [hm]; exact hn), hm]
theorem minus_0 (r : List UInt8) : minusF (48 :: r) = (false, 48 :: r) := by
  unfold minusF
  rw [if_neg (by rw [pre_ne (by decide)]; decide), if_neg (by rw [pre_ne (by decide)]; decide)]
theorem minus_s (neg : Bool) (r : List UInt8) : minusF ((if neg then [45] else []) ++ 48 :: r) = (neg, 48 :: r) := by
  cases neg
  · exact minus_0 r
  · exact minus_m (48 :: r)
end Go.Proofs.YtglkjbkpgfencaaGreatDoor

namespace Go.Proofs.YtglkjbkpgfencaaGreatDoor
open Go.RowKit Go.Shelf

def findF (a b : UInt8) : List UInt8 → Option Nat
  | [] => none
  | c :: l => if c = a ∨ c = b then some 0 else (findF a b l).map (· + 1)
theorem find_at {a b c : UInt8} {A r : List UInt8} (hA : ∀ d ∈ A, d ≠ a ∧ d ≠ b) (hc : c = a ∨ c = b) : findF a b (A ++ c :: r) = some A.length := by
  induction A with
  | nil => show (if c = a ∨ c = b then some 0 else _) = _; rw [if_pos hc]; rfl
  | cons d A ih =>
    have hd := hA d (List.mem_cons_self ..)
    rw [show findF a b ((d :: A) ++ c :: r) = (if d = a ∨ d = b then some 0 else (findF a b (A ++ c :: r)).map (· + 1)) from rfl, if_neg (by rintro (h | h); exact hd.1 h; exact hd.2 h), ih (fun x hx => hA x (List.mem_cons_of_mem _ hx))]; rfl
theorem find_no {a b : UInt8} {A : List UInt8} (hA : ∀ d ∈ A, d ≠ a ∧ d ≠ b) : findF a b A = none := by
  induction A with
  | nil => rfl
  | cons d A ih =>
    have hd := hA d (List.mem_cons_self ..)
    show (if d = a ∨ d = b then some 0 else _) = _
    rw [if_neg (by rintro (h | h); exact hd.1 h; exact hd.2 h), ih (fun x hx => hA x (List.mem_cons_of_mem _ hx))]; rfl
theorem find_some {a b : UInt8} : ∀ {l : List UInt8} {i : Nat}, findF a b l = some i → ∃ c r, l = l.take i ++ c :: r ∧ (c = a ∨ c = b) ∧ r = l.drop (i + 1) ∧ i < l.length
  | [], _, h => by cases h
  | d :: l, i, h => by
    have h1 : (if d = a ∨ d = b then some 0 else (findF a b l).map (· + 1)) = some i := h
    split at h1
    · rename_i hd
      cases h1
      exact ⟨d, l, rfl, hd, rfl, Nat.succ_pos _⟩
    · cases hf : findF a b l with
      | none => rw [hf] at h1; cases h1
      | some j =>
        rw [hf] at h1
        obtain rfl : j + 1 = i := Option.some.inj h1
        obtain ⟨c, r, k1, k2, k3, k4⟩ := find_some hf
        exact ⟨c, r, congrArg (d :: ·) k1, k2, k3, Nat.succ_lt_succ k4⟩
def hugeF : Nat → List UInt8 → Nat
  | n, [] => n
  | n, c :: l => hugeF (min (10 * n + (c.toNat - 48)) 1099511627776) l
theorem huge_far : ∀ (l : List UInt8) (n : Nat), farF (min n 100000) l = min (hugeF n l) 100000
  | [], _ => rfl
  | c :: l, n => by
    show farF (min (10 * min n 100000 + (c.toNat - 48)) 100000) l = min (hugeF (min (10 * n + (c.toNat - 48)) 1099511627776) l) 100000
    rw [← huge_far l]
    congr 1; omega
theorem huge_le : ∀ (l : List UInt8) (n : Nat), n ≤ 1099511627776 → hugeF n l ≤ 1099511627776
  | [], _, h => h
  | _ :: l, _, _ => huge_le l _ (Nat.min_le_right _ _)
def powF (l : List UInt8) : Option Int :=
  if (minusF l).2 = [] ∨ ¬ (∀ c ∈ (minusF l).2, c ∈ decs) then none else some (if (minusF l).1 then -((hugeF 0 (minusF l).2 : Nat) : Int) else ((hugeF 0 (minusF l).2 : Nat) : Int))
def FarR (ex Ed : Int) : Prop := (ex = Ed ∧ -100000 < Ed ∧ Ed < 100000) ∨ (ex = 100000 ∧ 100000 ≤ Ed ∧ Ed ≤ 1099511627776) ∨ (ex = -100000 ∧ Ed ≤ -100000 ∧ -1099511627776 ≤ Ed)
theorem far_rel (l : List UInt8) (neg : Bool) : FarR (if neg then -((farF 0 l : Nat) : Int) else ((farF 0 l : Nat) : Int)) (if neg then -((hugeF 0 l : Nat) : Int) else ((hugeF 0 l : Nat) : Int)) := by
  have h1 := huge_far l 0
  have h2 := huge_le l 0 (by decide)
  rw [show min 0 100000 = 0 by decide] at h1
  rw [h1]
  unfold FarR
  cases neg
  · show (((min (hugeF 0 l) 100000 : Nat) : Int) = _ ∧ _) ∨ _ ∨ _
    simp only [Bool.false_eq_true, if_false]
    omega
  · simp only [if_true]
    omega
theorem decs_all {l : List UInt8} : Lib.trimLeftS l decs = [] ↔ ∀ c ∈ l, c ∈ decs := by
  constructor
  · intro h c hc
    have h1 := List.takeWhile_append_dropWhile (p := (decs.contains ·)) (l := l)
    have h2 : l.dropWhile (decs.contains ·) = [] := h
    rw [h2, List.append_nil] at h1
    rw [← h1] at hc
    exact List.contains_iff_mem.1 (List.all_eq_true.1 (List.all_takeWhile (p := (decs.contains ·)) (l := l)) c hc)
  · intro h
    have h1 := (tw_app (p := decs) (A := l) (r := []) h (by rintro d t ⟨⟩)).2
    rwa [List.append_nil] at h1
theorem pow_of {E : List UInt8} {ex : Int} (h : ExT E ex) : ∃ Ed, powF E = some Ed ∧ FarR ex Ed := by
  obtain ⟨h1, h2, h3⟩ := h
  have hall : ∀ c ∈ (minusF E).2, c ∈ decs := decs_all.1 h3
  have htw : (minusF E).2.takeWhile (decs.contains ·) = (minusF E).2 := by
    have k1 := List.takeWhile_append_dropWhile (p := (decs.contains ·)) (l := (minusF E).2)
    have k2 : (minusF E).2.dropWhile (decs.contains ·) = [] := h3
    rwa [k2, List.append_nil] at k1
  have hne : (minusF E).2 ≠ [] := by rw [← htw]; exact h1
  refine ⟨_, if_neg (by rintro (k | k); exact hne k; exact k hall), ?_⟩
  have h4 : (if (minusF E).1 then -((farF 0 ((minusF E).2.takeWhile (decs.contains ·)) : Nat) : Int) else ((farF 0 ((minusF E).2.takeWhile (decs.contains ·)) : Nat) : Int)) = ex := h2
  rw [htw] at h4
  rw [← h4]
  exact far_rel _ _
theorem pow_inv {E : List UInt8} {Ed : Int} (h : powF E = some Ed) : ∃ ex, ExT E ex := by
  unfold powF at h
  split at h
  · cases h
  · rename_i hn
    have hne : (minusF E).2 ≠ [] := fun k => hn (.inl k)
    have hall : ∀ c ∈ (minusF E).2, c ∈ decs := Classical.byContradiction fun k => hn (.inr k)
    have htw : (minusF E).2.takeWhile (decs.contains ·) = (minusF E).2 := by
      have k1 := (tw_app (p := decs) (A := (minusF E).2) (r := []) hall (by rintro d t ⟨⟩)).1
      rwa [List.append_nil] at k1
    refine ⟨_, ?_, rfl, decs_all.2 hall⟩
    show (minusF E).2.takeWhile (decs.contains ·) ≠ []
    rw [htw]; exact hne
def cutF (D : List UInt8) : List UInt8 × Nat :=
  match findF 46 46 D with
  | none => (D, 0)
  | some i => (D.take i ++ D.drop (i + 1), D.length - i - 1)
def docR (r : List UInt8) : Option (Nat × Int) :=
  match findF 112 80 r with
  | none => none
  | some i => match powF (r.drop (i + 1)) with
    | none => none
    | some Ed => if (cutF (r.take i)).1 = [] ∨ (cutF (r.take i)).1.all hexd = false then none else some (hexF 0 (cutF (r.take i)).1, Ed - 4 * (((cutF (r.take i)).2 : Nat) : Int))
def docF : List UInt8 → Option (Nat × Int)
  | c :: x :: r => if c = 48 ∧ (x = 120 ∨ x = 88) then docR r else none
  | _ => none
theorem hex_no {A : List UInt8} (hA : ∀ c ∈ A, hexd c = true) : ∀ d ∈ A, (d ≠ 112 ∧ d ≠ 80) ∧ (d ≠ 46 ∧ d ≠ 46) := by
  intro d hd
  have h := hA d hd
  refine ⟨⟨?_, ?_⟩, ⟨?_, ?_⟩⟩ <;> (rintro rfl; revert h; decide)
theorem len_snoc (X : List UInt8) (p : UInt8) : X.length + 1 = (X ++ [p]).length := by rw [List.length_append]; rfl
theorem docF_plain {x p : UInt8} {A E : List UInt8} {Ed : Int} (hx : x = 120 ∨ x = 88) (hp : p = 112 ∨ p = 80) (hA : ∀ c ∈ A, hexd c = true) (hA0 : A ≠ []) (hE : powF E = some Ed) :
    docF (48 :: x :: (A ++ p :: E)) = some (hexF 0 A, Ed - 4 * ((0 : Nat) : Int)) := by
  rw [show docF (48 :: x :: (A ++ p :: E)) = docR (A ++ p :: E) from if_pos ⟨rfl, hx⟩]
  unfold docR
  rw [find_at (fun d hd => (hex_no hA d hd).1) hp]
  show (match powF ((A ++ p :: E).drop (A.length + 1)) with | none => none | some Ed => _) = _
  rw [show (A ++ p :: E).drop (A.length + 1) = E by rw [show A ++ p :: E = (A ++ [p]) ++ E by simp, show A.length + 1 = (A ++ [p]).length by simp, List.drop_left], hE]
  show (if (cutF ((A ++ p :: E).take A.length)).1 = [] ∨ _ then none else _) = _
  rw [List.take_left]
  have hc : cutF A = (A, 0) := by unfold cutF; rw [find_no (fun d hd => (hex_no hA d hd).2)]
  rw [hc, if_neg (by rintro (h | h); exact hA0 h; exact absurd (List.all_eq_true.2 hA) (by rw [h]; decide))]
theorem docF_point {x p : UInt8} {A B E : List UInt8} {Ed : Int} (hx : x = 120 ∨ x = 88) (hp : p = 112 ∨ p = 80) (hA : ∀ c ∈ A, hexd c = true) (hB : ∀ c ∈ B, hexd c = true) (hA0 : A ++ B ≠ []) (hE : powF E = some Ed) :
    docF (48 :: x :: (A ++ 46 :: (B ++ p :: E))) = some (hexF 0 (A ++ B), Ed - 4 * ((B.length : Nat) : Int)) := by
  have hr : A ++ 46 :: (B ++ p :: E) = (A ++ 46 :: B) ++ p :: E := by simp
  have hD : ∀ d ∈ A ++ 46 :: B, d ≠ 112 ∧ d ≠ 80 := by
    intro d hd
    rw [List.mem_append, List.mem_cons] at hd
    rcases hd with h | rfl | h
    · exact (hex_no hA d h).1
    · decide
    · exact (hex_no hB d h).1
  rw [show docF (48 :: x :: (A ++ 46 :: (B ++ p :: E))) = docR (A ++ 46 :: (B ++ p :: E)) from if_pos ⟨rfl, hx⟩]
  unfold docR
  rw [hr, find_at hD hp]
  show (match powF (((A ++ 46 :: B) ++ p :: E).drop ((A ++ 46 :: B).length + 1)) with | none => none | some Ed => _) = _
  rw [show ((A ++ 46 :: B) ++ p :: E).drop ((A ++ 46 :: B).length + 1) = E by rw [show (A ++ 46 :: B) ++ p :: E = ((A ++ 46 :: B) ++ [p]) ++ E by simp, show (A ++ 46 :: B).length + 1 = ((A ++ 46 :: B) ++ [p]).length from len_snoc _ _, List.drop_left], hE]
  show (if (cutF (((A ++ 46 :: B) ++ p :: E).take (A ++ 46 :: B).length)).1 = [] ∨ _ then none else _) = _
  rw [List.take_left]
  have hc : cutF (A ++ 46 :: B) = (A ++ B, B.length) := by
    unfold cutF
    rw [find_at (fun d hd => (hex_no hA d hd).2) (.inl rfl)]
    show ((A ++ 46 :: B).take A.length ++ (A ++ 46 :: B).drop (A.length + 1), (A ++ 46 :: B).length - A.length - 1) = _
    rw [List.take_left, show (A ++ 46 :: B).drop (A.length + 1) = B by rw [show A ++ 46 :: B = (A ++ [46]) ++ B by simp, show A.length + 1 = (A ++ [46]).length by simp, List.drop_left], List.length_append, List.length_cons]
    congr 1; omega
  have hAB : ∀ c ∈ A ++ B, hexd c = true := fun c hc => by rw [List.mem_append] at hc; exact hc.elim (hA c) (hB c)
  rw [hc, if_neg (by rintro (h | h); exact hA0 h; exact absurd (List.all_eq_true.2 hAB) (by rw [h]; decide))]
theorem takes_inv {ps : List (List UInt8)} {l r : List UInt8} (h : takesF ps l = some r) : ∃ p ∈ ps, l = p ++ r := by
  induction ps with
  | nil => cases h
  | cons p ps ih =>
    unfold takesF at h
    split at h
    · rename_i h1
      cases h
      obtain ⟨t, ht⟩ := List.isPrefixOf_iff_prefix.1 h1
      exact ⟨p, List.mem_cons_self .., by rw [← ht, List.drop_left]⟩
    · obtain ⟨q, hq, h2⟩ := ih h
      exact ⟨q, List.mem_cons_of_mem _ hq, h2⟩
theorem tw_split (l : List UInt8) : l = l.takeWhile (hexs.contains ·) ++ Lib.trimLeftS l hexs := by
  exact (List.takeWhile_append_dropWhile (p := (hexs.contains ·)) (l := l)).symm
theorem doc_of_num {l ds : List UInt8} {be : Nat} {ex : Int} (h : numF l = some (ds, be, ex)) : ∃ D Ed, ds = Lib.trimLeftS D [48] ∧ docF l = some (hexF 0 D, Ed - 4 * ((be : Nat) : Int)) ∧ FarR ex Ed := by
  unfold numF at h
  split at h
  · cases h
  · rename_i r1 h1
    obtain ⟨q, hq, rfl⟩ := takes_inv h1
    have hx : ∃ x, (x = 120 ∨ x = 88) ∧ q ++ r1 = 48 :: x :: r1 := by
      rcases List.mem_cons.1 hq with rfl | hq2
      · exact ⟨120, .inl rfl, rfl⟩
      · obtain rfl := List.mem_singleton.1 hq2
        exact ⟨88, .inr rfl, rfl⟩
    obtain ⟨x, hx1, hx2⟩ := hx
    rw [hx2]
    split at h
    · cases h
    · rename_i hD
      split at h
      · cases h
      · rename_i r2 h2
        split at h
        · cases h
        · rename_i hE1
          split at h
          · rename_i hE2
            cases h
            obtain ⟨pp, hpp, hr⟩ := takes_inv h2
            have hp : ∃ p, (p = 112 ∨ p = 80) ∧ pp ++ r2 = p :: r2 := by
              rcases List.mem_cons.1 hpp with rfl | hq2
              · exact ⟨112, .inl rfl, rfl⟩
              · obtain rfl := List.mem_singleton.1 hq2
                exact ⟨80, .inr rfl, rfl⟩
            obtain ⟨p, hp1, hp2⟩ := hp
            rw [hp2] at hr
            obtain ⟨Ed, hEd, hF⟩ := pow_of (E := r2) ⟨hE1, rfl, hE2⟩
            have hA : ∀ c ∈ r1.takeWhile (hexs.contains ·), hexd c = true := hexs_in
            cases h46 : takesF [[46]] (Lib.trimLeftS r1 hexs) with
            | none =>
              have hdg : digsF hexs r1 = (r1.takeWhile (hexs.contains ·), 0, Lib.trimLeftS r1 hexs) := by unfold digsF; rw [h46]
              rw [hdg] at hD hr ⊢
              have hr2 : Lib.trimLeftS r1 hexs = p :: r2 := hr
              refine ⟨r1.takeWhile (hexs.contains ·), Ed, rfl, ?_, hF⟩
              have hs := tw_split r1
              rw [hr2] at hs
              have hd := docF_plain hx1 hp1 hA hD hEd
              rw [← hs] at hd
              exact hd
            | some t =>
              have hdg : digsF hexs r1 = (r1.takeWhile (hexs.contains ·) ++ t.takeWhile (hexs.contains ·), (t.takeWhile (hexs.contains ·)).length, Lib.trimLeftS t hexs) := by unfold digsF; rw [h46]
              rw [hdg] at hD hr ⊢
              have hr2 : Lib.trimLeftS t hexs = p :: r2 := hr
              refine ⟨r1.takeWhile (hexs.contains ·) ++ t.takeWhile (hexs.contains ·), Ed, rfl, ?_, hF⟩
              have hB : ∀ c ∈ t.takeWhile (hexs.contains ·), hexd c = true := hexs_in
              obtain ⟨q4, hq4, h4⟩ := takes_inv h46
              obtain rfl := List.mem_singleton.1 hq4
              have hs := tw_split r1
              rw [h4] at hs
              have ht := tw_split t
              rw [hr2] at ht
              have hd := docF_point hx1 hp1 hA hB hD hEd
              rw [← ht] at hd
              rw [show (46 : UInt8) :: t = [46] ++ t from rfl, ← hs] at hd
              exact hd
          · cases h
theorem num_of_doc {l : List UInt8} {v : Nat × Int} (h : docF l = some v) : ∃ t, numF l = some t := by
  cases l with
  | nil => cases h
  | cons c l =>
    cases l with
    | nil => cases h
    | cons x r =>
      have h0 : (if c = 48 ∧ (x = 120 ∨ x = 88) then docR r else none) = some v := h
      split at h0
      · rename_i hcx
        obtain ⟨rfl, hx⟩ := hcx
        unfold docR at h0
        cases hf : findF 112 80 r with
        | none => rw [hf] at h0; cases h0
        | some i =>
          rw [hf] at h0
          obtain ⟨p, E, hr, hp, hE, hi⟩ := find_some hf
          cases hw : powF (r.drop (i + 1)) with
          | none => simp only [hw] at h0; cases h0
          | some Ed =>
            simp only [hw] at h0
            rw [← hE] at hw
            obtain ⟨ex, hEx⟩ := pow_inv hw
            split at h0
            · cases h0
            · rename_i hn
              have hne : (cutF (r.take i)).1 ≠ [] := fun k => hn (.inl k)
              have hall : ∀ c ∈ (cutF (r.take i)).1, hexd c = true := by
                cases ha : (cutF (r.take i)).1.all hexd with
                | false => exact absurd (.inr ha) hn
                | true => exact List.all_eq_true.1 ha
              rw [hr]
              cases hpt : findF 46 46 (r.take i) with
              | none =>
                have hc : cutF (r.take i) = (r.take i, 0) := by unfold cutF; rw [hpt]
                rw [hc] at hne hall
                exact ⟨_, numF_plain hx hp hall hne hEx⟩
              | some j =>
                obtain ⟨d, B, hD, hd, hB, hj⟩ := find_some hpt
                obtain rfl : d = 46 := hd.elim id id
                have hc : cutF (r.take i) = ((r.take i).take j ++ (r.take i).drop (j + 1), (r.take i).length - j - 1) := by unfold cutF; rw [hpt]
                rw [hc] at hne hall
                rw [← hB] at hne hall
                have hn2 := numF_point (A := (r.take i).take j) (B := B) hx hp (fun c hc => hall c (List.mem_append_left _ hc)) (fun c hc => hall c (List.mem_append_right _ hc)) hne hEx
                have e : r.take i ++ p :: E = (r.take i).take j ++ 46 :: (B ++ p :: E) := by
                  have e1 := congrArg (fun t => t ++ p :: E) hD
                  exact e1.trans (by simp)
                exact ⟨_, (congrArg (fun t => numF (48 :: x :: t)) e).trans hn2⟩
      · cases h0
end Go.Proofs.YtglkjbkpgfencaaGreatDoor

namespace Go.Proofs.YtglkjbkpgfencaaGreatDoor
open Go.RowKit Go.Shelf

end Go.Proofs.YtglkjbkpgfencaaGreatDoor

namespace Go.Proofs.YtglkjbkpgfencaaGreatDoor
open Go.RowKit Go.Shelf

theorem hexd_w {c : UInt8} : (48 ≤ (c.toNat : Int) ∧ (c.toNat : Int) ≤ 57 ∧ hexd c = true) ∨ (97 ≤ (c.toNat : Int) ∧ (c.toNat : Int) ≤ 102 ∧ hexd c = true) ∨ (65 ≤ (c.toNat : Int) ∧ (c.toNat : Int) ≤ 70 ∧ hexd c = true) ∨ ((c.toNat : Int) < 48 ∧ hexd c = false) ∨ (57 < (c.toNat : Int) ∧ (c.toNat : Int) < 65 ∧ hexd c = false) ∨ (70 < (c.toNat : Int) ∧ (c.toNat : Int) < 97 ∧ hexd c = false) ∨ (102 < (c.toNat : Int) ∧ hexd c = false) := by
  have h : ∀ n, n < 256 → (48 ≤ n ∧ n ≤ 57 ∧ hexdN n = true) ∨ (97 ≤ n ∧ n ≤ 102 ∧ hexdN n = true) ∨ (65 ≤ n ∧ n ≤ 70 ∧ hexdN n = true) ∨ (n < 48 ∧ hexdN n = false) ∨ (57 < n ∧ n < 65 ∧ hexdN n = false) ∨ (70 < n ∧ n < 97 ∧ hexdN n = false) ∨ (102 < n ∧ hexdN n = false) := by decide +kernel
  have h1 := h c.toNat c.toNat_lt
  unfold hexd
  rcases h1 with ⟨h1, h2, h3⟩ | ⟨h1, h2, h3⟩ | ⟨h1, h2, h3⟩ | ⟨h1, h3⟩ | ⟨h1, h2, h3⟩ | ⟨h1, h2, h3⟩ | ⟨h1, h3⟩
  · exact .inl ⟨by omega, by omega, h3⟩
  · exact .inr (.inl ⟨by omega, by omega, h3⟩)
  · exact .inr (.inr (.inl ⟨by omega, by omega, h3⟩))
  · exact .inr (.inr (.inr (.inl ⟨by omega, h3⟩)))
  · exact .inr (.inr (.inr (.inr (.inl ⟨by omega, by omega, h3⟩))))
  · exact .inr (.inr (.inr (.inr (.inr (.inl ⟨by omega, by omega, h3⟩)))))
  · exact .inr (.inr (.inr (.inr (.inr (.inr ⟨by omega, h3⟩)))))
end Go.Proofs.YtglkjbkpgfencaaGreatDoor

namespace Go.Proofs.YtglkjbkpgfencaaGreatDoor
open Go.RowKit Go.Shelf

theorem bs_get (l : List UInt8) (i : Nat) (h : i < (bs l).size) : ((bs l)[i]'h) = l.getD i 0 := by
  show l[i] = _
  rw [List.getD_eq_getElem?_getD, List.getElem?_eq_getElem h]; rfl
def fiI (a b : UInt8) (l : List UInt8) : Int := match findF a b l with | none => -1 | some i => (i : Int)
theorem drop_cons {l : List UInt8} {i : Nat} (h : i < l.length) : l.drop i = l.getD i 0 :: l.drop (i + 1) := by
  rw [List.drop_eq_getElem_cons h, List.getD_eq_getElem?_getD, List.getElem?_eq_getElem h]; rfl
theorem find_drop {a b : UInt8} {l : List UInt8} {i : Nat} (h : ∀ j, j < i → l.getD j 0 ≠ a ∧ l.getD j 0 ≠ b) (hi : i < l.length) (hc : l.getD i 0 = a ∨ l.getD i 0 = b) : findF a b l = some i := by
  have h1 := find_at (a := a) (b := b) (A := l.take i) (r := l.drop (i + 1)) (c := l.getD i 0) (by
    intro d hd
    obtain ⟨j, hj, he⟩ := List.getElem_of_mem hd
    rw [List.length_take] at hj
    have h2 := h j (by omega)
    rw [List.getD_eq_getElem?_getD, List.getElem?_eq_getElem (by omega : j < l.length)] at h2
    rw [List.getElem_take] at he
    rw [← he]; exact h2) hc
  rw [← drop_cons hi, List.take_append_drop, List.length_take] at h1
  rw [h1]; congr 1; omega
theorem find_none {a b : UInt8} {l : List UInt8} (h : ∀ j, j < l.length → l.getD j 0 ≠ a ∧ l.getD j 0 ≠ b) : findF a b l = none := by
  refine find_no fun d hd => ?_
  obtain ⟨j, hj, he⟩ := List.getElem_of_mem hd
  have h2 := h j hj
  rw [List.getD_eq_getElem?_getD, List.getElem?_eq_getElem hj] at h2
  rw [← he]; exact h2
theorem u8_ne {a b : UInt8} (h : ¬ (a.toNat : Int) = (b.toNat : Int)) : a ≠ b := fun e => h (by rw [e])
theorem u8_eq {a b : UInt8} (h : (a.toNat : Int) = (b.toNat : Int)) : a = b := UInt8.toNat_inj.1 (by omega)
set_option maxRecDepth 20000 in
set_option maxHeartbeats 0 in
theorem rfind_c (l : List UInt8) (hl : l.length ≤ 10000) (a b : UInt8) (w : World) :
    Calls Tryz.prog 67 #[.string (bs l), .int .u8 (a.toNat : Int), .int .u8 (b.toNat : Int)] w fun en w' => en = .returned (.int .i64 (fiI a b l)) ∧ w' = w := by
  have hs : (bs l).size = l.length := bs_size l
  have HL : Hid (l.length ≤ 10000) := hl
  go_enter Tryz.func67, Tryz.ntmps67
  go_wp2_with fail
  go_loopg [7] l.length (fun gk iv wr => ∃ i : Nat, i + gk = l.length ∧ iv = .int .i64 i ∧ (∀ j, j < i → l.getD j 0 ≠ a ∧ l.getD j 0 ≠ b) ∧ wr = w)
  case atStart => exact ⟨0, by omega, rfl, fun j hj => absurd hj (Nat.not_lt_zero _), rfl⟩
  case round =>
    obtain ⟨i, hig, rfl, hkn, rfl⟩ := hrel
    cases gk with
    | zero =>
      obtain rfl : i = l.length := by omega
      have HF : Hid (fiI a b l = -1) := by unfold fiI; rw [find_none hkn]; rfl
      have hnl : ¬ (l.length : Int) < (l.length : Int) := by omega
      clear hkn hig
      go_wp2_with fail
      go_ret
      exact ⟨by rw [HF.out]; rfl, rfl⟩
    | succ g =>
      have hil : (i : Int) < (l.length : Int) := by omega
      have hi0 : (0 : Int) ≤ (i : Int) := by omega
      have hiK : i < (bs l).size := by omega
      have hgi := bs_get l i hiK
      have wi : wrap64 ((i : Int) + 1) = ((i + 1 : Nat) : Int) := by have := HL.out; simp only [wrap64]; omega
      have HK := hm9 hkn
      have HI : Hid (i < l.length) := by show _ < _; omega
      obtain ⟨d, hd⟩ : ∃ d, d = l.getD i 0 := ⟨_, rfl⟩
      rw [← hd] at hgi
      have HDD := hm9 hd
      have hgn : ((((bs l)[i]'hiK).toNat : Nat) : Int) = (d.toNat : Int) := by rw [hgi]
      clear hkn hd hgi
      by_cases ha : (d.toNat : Int) = (a.toNat : Int)
      · have HF : Hid (fiI a b l = (i : Int)) := by unfold fiI; rw [find_drop HK.out HI.out (by rw [← HDD.out]; exact .inl (u8_eq ha))]; rfl
        go_wp2_with fail
        go_ret
        exact ⟨by rw [HF.out]; rfl, rfl⟩
      · have HA := hm9 (u8_ne ha)
        have hab : ((d.toNat : Int) == (a.toNat : Int)) = false := by simpa using ha
        by_cases hb : (d.toNat : Int) = (b.toNat : Int)
        · have HF : Hid (fiI a b l = (i : Int)) := by unfold fiI; rw [find_drop HK.out HI.out (by rw [← HDD.out]; exact .inr (u8_eq hb))]; rfl
          go_wp2_with fail
          go_ret
          exact ⟨by rw [HF.out]; rfl, rfl⟩
        · have HB := hm9 (u8_ne hb)
          have hbb : ((d.toNat : Int) == (b.toNat : Int)) = false := by simpa using hb
          go_wp2_with fail
          go_roundg g
          case measure => omega
          case rel =>
            refine ⟨i + 1, by omega, by go_num, fun j hj => ?_, rfl⟩
            rcases Nat.lt_or_ge j i with h2 | h2
            · exact HK.out j h2
            · obtain rfl : j = i := by omega
              rw [← HDD.out]; exact ⟨HA.out, HB.out⟩
theorem hexv_w {c : UInt8} (h : hexd c = true) : ((hexv c : Nat) : Int) = if (c.toNat : Int) ≤ 57 then (c.toNat : Int) - 48 else if (97 : Int) ≤ (c.toNat : Int) then (c.toNat : Int) - 97 + 10 else (c.toNat : Int) - 65 + 10 := by
  have h1 : ∀ n, n < 256 → hexdN n = true → ((hexvN n : Nat) : Int) = if (n : Int) ≤ 57 then (n : Int) - 48 else if (97 : Int) ≤ (n : Int) then (n : Int) - 97 + 10 else (n : Int) - 65 + 10 := by decide +kernel
  exact h1 c.toNat c.toNat_lt h
set_option maxRecDepth 20000 in
set_option maxHeartbeats 0 in
theorem rdigit_c (c : UInt8) (w : World) : Calls Tryz.prog 69 #[.int .u8 (c.toNat : Int)] w fun en w' => en = .returned (.int .i64 (if hexd c then ((hexv c : Nat) : Int) else -1)) ∧ w' = w := by
  rcases hexd_w (c := c) with ⟨h1, h2, h3⟩ | ⟨h1, h2, h3⟩ | ⟨h1, h2, h3⟩ | ⟨h1, h3⟩ | ⟨h1, h2, h3⟩ | ⟨h1, h2, h3⟩ | ⟨h1, h3⟩
  · have HX : Hid ((if hexd c then ((hexv c : Nat) : Int) else -1) = (c.toNat : Int) - 48) := by show _ = _; rw [if_pos h3, hexv_w h3]; split <;> (try split) <;> omega
    have p1 : (48 : Int) ≤ (c.toNat : Int) := by omega
    have p2 : (c.toNat : Int) ≤ 57 := by omega
    have q1 : ¬ (97 : Int) ≤ (c.toNat : Int) := by omega
    have q2 : (c.toNat : Int) ≤ 102 := by omega
    have r1 : ¬ (65 : Int) ≤ (c.toNat : Int) := by omega
    have r2 : (c.toNat : Int) ≤ 70 := by omega
    rw [HX.out]
    clear h3 h1 h2
    go_enter Tryz.func69, Tryz.ntmps69
    go_wp2_with fail
    go_ret
    exact ⟨by first | rfl | (congr 3; omega), rfl⟩
  · have HX : Hid ((if hexd c then ((hexv c : Nat) : Int) else -1) = (c.toNat : Int) - 97 + 10) := by show _ = _; rw [if_pos h3, hexv_w h3]; split <;> (try split) <;> omega
    have p1 : (48 : Int) ≤ (c.toNat : Int) := by omega
    have p2 : ¬ (c.toNat : Int) ≤ 57 := by omega
    have q1 : (97 : Int) ≤ (c.toNat : Int) := by omega
    have q2 : (c.toNat : Int) ≤ 102 := by omega
    have r1 : (65 : Int) ≤ (c.toNat : Int) := by omega
    have r2 : ¬ (c.toNat : Int) ≤ 70 := by omega
    rw [HX.out]
    clear h3 h1 h2
    go_enter Tryz.func69, Tryz.ntmps69
    go_wp2_with fail
    go_ret
    exact ⟨by first | rfl | (congr 3; omega), rfl⟩
  · have HX : Hid ((if hexd c then ((hexv c : Nat) : Int) else -1) = (c.toNat : Int) - 65 + 10) := by show _ = _; rw [if_pos h3, hexv_w h3]; split <;> (try split) <;> omega
    have p1 : (48 : Int) ≤ (c.toNat : Int) := by omega
    have p2 : ¬ (c.toNat : Int) ≤ 57 := by omega
    have q1 : ¬ (97 : Int) ≤ (c.toNat : Int) := by omega
    have q2 : (c.toNat : Int) ≤ 102 := by omega
    have r1 : (65 : Int) ≤ (c.toNat : Int) := by omega
    have r2 : (c.toNat : Int) ≤ 70 := by omega
    rw [HX.out]
    clear h3 h1 h2
    go_enter Tryz.func69, Tryz.ntmps69
    go_wp2_with fail
    go_ret
    exact ⟨by first | rfl | (congr 3; omega), rfl⟩
  · have HX : Hid ((if hexd c then ((hexv c : Nat) : Int) else -1) = -1) := by rw [h3]; rfl
    have p1 : ¬ (48 : Int) ≤ (c.toNat : Int) := by omega
    have p2 : (c.toNat : Int) ≤ 57 := by omega
    have q1 : ¬ (97 : Int) ≤ (c.toNat : Int) := by omega
    have q2 : (c.toNat : Int) ≤ 102 := by omega
    have r1 : ¬ (65 : Int) ≤ (c.toNat : Int) := by omega
    have r2 : (c.toNat : Int) ≤ 70 := by omega
    rw [HX.out]
    clear h3 h1
    go_enter Tryz.func69, Tryz.ntmps69
    go_wp2_with fail
    go_ret
    exact ⟨by first | rfl | (congr 3; omega), rfl⟩
  · have HX : Hid ((if hexd c then ((hexv c : Nat) : Int) else -1) = -1) := by rw [h3]; rfl
    have p1 : (48 : Int) ≤ (c.toNat : Int) := by omega
    have p2 : ¬ (c.toNat : Int) ≤ 57 := by omega
    have q1 : ¬ (97 : Int) ≤ (c.toNat : Int) := by omega
    have q2 : (c.toNat : Int) ≤ 102 := by omega
    have r1 : ¬ (65 : Int) ≤ (c.toNat : Int) := by omega
    have r2 : (c.toNat : Int) ≤ 70 := by omega
    rw [HX.out]
    clear h3 h1 h2
    go_enter Tryz.func69, Tryz.ntmps69
    go_wp2_with fail
    go_ret
    exact ⟨by first | rfl | (congr 3; omega), rfl⟩
  · have HX : Hid ((if hexd c then ((hexv c : Nat) : Int) else -1) = -1) := by rw [h3]; rfl
    have p1 : (48 : Int) ≤ (c.toNat : Int) := by omega
    have p2 : ¬ (c.toNat : Int) ≤ 57 := by omega
    have q1 : ¬ (97 : Int) ≤ (c.toNat : Int) := by omega
    have q2 : (c.toNat : Int) ≤ 102 := by omega
    have r1 : (65 : Int) ≤ (c.toNat : Int) := by omega
    have r2 : ¬ (c.toNat : Int) ≤ 70 := by omega
    rw [HX.out]
    clear h3 h1 h2
    go_enter Tryz.func69, Tryz.ntmps69
    go_wp2_with fail
    go_ret
    exact ⟨by first | rfl | (congr 3; omega), rfl⟩
  · have HX : Hid ((if hexd c then ((hexv c : Nat) : Int) else -1) = -1) := by rw [h3]; rfl
    have p1 : (48 : Int) ≤ (c.toNat : Int) := by omega
    have p2 : ¬ (c.toNat : Int) ≤ 57 := by omega
    have q1 : (97 : Int) ≤ (c.toNat : Int) := by omega
    have q2 : ¬ (c.toNat : Int) ≤ 102 := by omega
    have r1 : (65 : Int) ≤ (c.toNat : Int) := by omega
    have r2 : ¬ (c.toNat : Int) ≤ 70 := by omega
    rw [HX.out]
    clear h3 h1
    go_enter Tryz.func69, Tryz.ntmps69
    go_wp2_with fail
    go_ret
    exact ⟨by first | rfl | (congr 3; omega), rfl⟩
theorem minus_l (l : List UInt8) : minusF l = match l with | [] => (false, []) | c :: r => if c = 43 then (false, r) else if c = 45 then (true, r) else (false, c :: r) := by
  cases l with
  | nil => rfl
  | cons c r =>
    show _ = if c = 43 then (false, r) else if c = 45 then (true, r) else (false, c :: r)
    by_cases h1 : c = 43
    · subst h1; rw [if_pos rfl]; exact minus_p r
    by_cases h2 : c = 45
    · subst h2; rw [if_neg h1, if_pos rfl]; exact minus_m r
    rw [if_neg h1, if_neg h2]
    exact minus_n (fun d s h => by cases h; exact ⟨h1, h2⟩)
theorem bs_tail (c : UInt8) (r : List UInt8) : (bs (c :: r)).extract 1 (bs (c :: r)).size = bs r := by
  apply ByteArray.ext
  apply Array.ext'
  rw [Lib.extract_data, bs_data, bs_data, bs_size]
  show (((c :: r).drop 1)).take _ = r
  exact List.take_of_length_le (by show r.length ≤ r.length + 1 - 1; omega)
set_option maxRecDepth 20000 in
set_option maxHeartbeats 0 in
theorem rsigned_e (w : World) : Calls Tryz.prog 36 #[.string (bs ([] : List UInt8))] w fun en w' => en = .returned (.tuple #[.string (bs (minusF ([] : List UInt8)).2), .bool (minusF ([] : List UInt8)).1]) ∧ Below w.heap.size w w' := by
  obtain ⟨l, hl⟩ : ∃ l, l = ([] : List UInt8) := ⟨_, rfl⟩
  rw [← hl]
  have HM : Hid (minusF l = (false, [])) := by rw [hl, minus_l]; rfl
  have hem : (bs l).toList.isEmpty = true := by rw [hl]; exact emp0
  have HB : Hid (bs (minusF l).2 = bs l) := by rw [HM.out, hl]; rfl
  have hs : (bs l).size = 0 := by rw [hl]; rfl
  clear hl
  go_enter Tryz.func36, Tryz.ntmps36
  go_wp2_with fail
  go_ret2
  exact ⟨by rw [HB.out, HM.out]; rfl, Below.refl _ _⟩
set_option maxRecDepth 20000 in
set_option maxHeartbeats 0 in
theorem rsigned_p (r : List UInt8) (w : World) : Calls Tryz.prog 36 #[.string (bs (43 :: r))] w fun en w' => en = .returned (.tuple #[.string (bs (minusF (43 :: r)).2), .bool (minusF (43 :: r)).1]) ∧ Below w.heap.size w w' := by
  obtain ⟨l, hl⟩ : ∃ l, l = (43 :: r) := ⟨_, rfl⟩
  rw [← hl]
  have HM : Hid (minusF l = (false, r)) := by rw [hl, minus_l]; rfl
  have hem : (bs l).toList.isEmpty = false := emp1 (by rw [hl]; simp)
  have hs : (bs l).size = r.length + 1 := by rw [hl]; exact bs_size _
  have hg0 : (((bs l)[0]'(by rw [hs]; exact Nat.succ_pos _)).toNat : Int) = 43 := by subst hl; rfl
  have hx1 : (bs l).extract 1 (bs l).size = bs r := by rw [hl]; exact bs_tail _ r
  have hx2 : (bs l).extract 1 (r.length + 1) = bs r := by rw [← hs]; exact hx1
  have hle : 1 ≤ (bs l).size := by omega
  have hle2 : (1 : Int) ≤ (r.length : Int) + 1 := by omega
  have HB : Hid (bs (minusF l).2 = bs r) := by rw [HM.out]; rfl
  clear hl
  go_enter Tryz.func36, Tryz.ntmps36
  go_wp2_with fail
  have hbw : Below w.heap.size w w := Below.refl _ _
  obtain ⟨V, hV⟩ : ∃ W1, W1 = w.drew := ⟨_, rfl⟩
  have hbd : Below w.heap.size w V := by rw [hV]; exact bDrew1 (Below.refl _ _)
  replace hbw := Below.on hbw hbd
  clear hbd
  have HJ : Hid ((fun W' : World => True) V) := trivial
  refine wp_region_J (fun W' => True) (by kernel_rfl) ?_
  rw [← hV]
  clear hV
  refine wpJ_tk 0 (v := ?v1x0) rfl ?hy1x0 HJ.out ?_
  case hy1x0 => (intro W' hJ; have j0 := hJ; go_simp; first | done | with_reducible rfl)
  refine wpJ_tk 1 (v := ?v2x1) rfl ?hy2x1 HJ.out ?_
  case hy2x1 => (intro W' hJ; have j0 := hJ; go_simp; first | done | with_reducible rfl)
  refine wpJ_tk 2 (v := ?v3x2) rfl ?hy3x2 HJ.out ?_
  case hy3x2 => (intro W' hJ; have j0 := hJ; go_simp; first | done | with_reducible rfl)
  refine wpJ_tk 3 (v := ?v4x3) rfl ?hy4x3 HJ.out ?_
  case hy4x3 => (intro W' hJ; have j0 := hJ; go_simp; first | done | with_reducible rfl)
  refine wpJ_tk 4 (v := ?v5x4) rfl ?hy5x4 HJ.out ?_
  case hy5x4 => (intro W' hJ; have j0 := hJ; go_simp; first | done | with_reducible rfl)
  go_simp
  refine wpJ_tk 5 (v := ?v6x5) rfl ?hy6x5 HJ.out ?_
  case hy6x5 => (intro W' hJ; have j0 := hJ; go_simp; first | done | with_reducible rfl)
  refine wpJ_tk 6 (v := ?v7x6) rfl ?hy7x6 HJ.out ?_
  case hy7x6 => (intro W' hJ; have j0 := hJ; go_simp; first | done | with_reducible rfl)
  refine wpJ_done (by kernel_rfl) ?_ _
  clear HJ
  go_wp2_with fail
  go_ret2
  exact ⟨by rw [HB.out, HM.out]; rfl, hbw⟩
set_option maxRecDepth 20000 in
set_option maxHeartbeats 0 in
theorem rsigned_m (r : List UInt8) (w : World) : Calls Tryz.prog 36 #[.string (bs (45 :: r))] w fun en w' => en = .returned (.tuple #[.string (bs (minusF (45 :: r)).2), .bool (minusF (45 :: r)).1]) ∧ Below w.heap.size w w' := by
  obtain ⟨l, hl⟩ : ∃ l, l = (45 :: r) := ⟨_, rfl⟩
  rw [← hl]
  have HM : Hid (minusF l = (true, r)) := by rw [hl, minus_l]; rfl
  have hem : (bs l).toList.isEmpty = false := emp1 (by rw [hl]; simp)
  have hs : (bs l).size = r.length + 1 := by rw [hl]; exact bs_size _
  have hg0 : (((bs l)[0]'(by rw [hs]; exact Nat.succ_pos _)).toNat : Int) = 45 := by subst hl; rfl
  have hx1 : (bs l).extract 1 (bs l).size = bs r := by rw [hl]; exact bs_tail _ r
  have hx2 : (bs l).extract 1 (r.length + 1) = bs r := by rw [← hs]; exact hx1
  have hle : 1 ≤ (bs l).size := by omega
  have hle2 : (1 : Int) ≤ (r.length : Int) + 1 := by omega
  have HB : Hid (bs (minusF l).2 = bs r) := by rw [HM.out]; rfl
  clear hl
  go_enter Tryz.func36, Tryz.ntmps36
  go_wp2_with fail
  have hbw : Below w.heap.size w w := Below.refl _ _
  obtain ⟨V, hV⟩ : ∃ W1, W1 = w.drew := ⟨_, rfl⟩
  have hbd : Below w.heap.size w V := by rw [hV]; exact bDrew1 (Below.refl _ _)
  replace hbw := Below.on hbw hbd
  clear hbd
  have HJ : Hid ((fun W' : World => True) V) := trivial
  refine wp_region_J (fun W' => True) (by kernel_rfl) ?_
  rw [← hV]
  clear hV
  refine wpJ_tk 0 (v := ?v8x0) rfl ?hy8x0 HJ.out ?_
  case hy8x0 => (intro W' hJ; have j0 := hJ; go_simp; first | done | with_reducible rfl)
  refine wpJ_tk 1 (v := ?v9x1) rfl ?hy9x1 HJ.out ?_
  case hy9x1 => (intro W' hJ; have j0 := hJ; go_simp; first | done | with_reducible rfl)
  refine wpJ_tk 2 (v := ?v10x2) rfl ?hy10x2 HJ.out ?_
  case hy10x2 => (intro W' hJ; have j0 := hJ; go_simp; first | done | with_reducible rfl)
  refine wpJ_tk 3 (v := ?v11x3) rfl ?hy11x3 HJ.out ?_
  case hy11x3 => (intro W' hJ; have j0 := hJ; go_simp; first | done | with_reducible rfl)
  refine wpJ_tk 4 (v := ?v12x4) rfl ?hy12x4 HJ.out ?_
  case hy12x4 => (intro W' hJ; have j0 := hJ; go_simp; first | done | with_reducible rfl)
  go_simp
  refine wpJ_tk 5 (v := ?v13x5) rfl ?hy13x5 HJ.out ?_
  case hy13x5 => (intro W' hJ; have j0 := hJ; go_simp; first | done | with_reducible rfl)
  refine wpJ_tk 6 (v := ?v14x6) rfl ?hy14x6 HJ.out ?_
  case hy14x6 => (intro W' hJ; have j0 := hJ; go_simp; first | done | with_reducible rfl)
  refine wpJ_done (by kernel_rfl) ?_ _
  clear HJ
  go_wp2_with fail
  go_ret2
  exact ⟨by rw [HB.out, HM.out]; rfl, hbw⟩
set_option maxRecDepth 20000 in
set_option maxHeartbeats 0 in
theorem rsigned_n {c : UInt8} {r : List UInt8} (h1 : c ≠ 43) (h2 : c ≠ 45) (w : World) : Calls Tryz.prog 36 #[.string (bs (c :: r))] w fun en w' => en = .returned (.tuple #[.string (bs (minusF (c :: r)).2), .bool (minusF (c :: r)).1]) ∧ Below w.heap.size w w' := by
  obtain ⟨l, hl⟩ : ∃ l, l = (c :: r) := ⟨_, rfl⟩
  rw [← hl]
  have HM : Hid (minusF l = (false, c :: r)) := by rw [hl, minus_l]; show (if c = 43 then _ else _) = _; rw [if_neg h1, if_neg h2]
  have hem : (bs l).toList.isEmpty = false := emp1 (by rw [hl]; simp)
  have hs : (bs l).size = r.length + 1 := by rw [hl]; exact bs_size _
  have hg0 : (((bs l)[0]'(by rw [hs]; exact Nat.succ_pos _)).toNat : Int) = (c.toNat : Int) := by subst hl; rfl
  have hx1 : (bs l).extract 1 (bs l).size = bs r := by rw [hl]; exact bs_tail _ r
  have hx2 : (bs l).extract 1 (r.length + 1) = bs r := by rw [← hs]; exact hx1
  have hle : 1 ≤ (bs l).size := by omega
  have hle2 : (1 : Int) ≤ (r.length : Int) + 1 := by omega
  have hn43 : ¬ (c.toNat : Int) = 43 := fun h => h1 (u8_eq h)
  have hn45 : ¬ (c.toNat : Int) = 45 := fun h => h2 (u8_eq h)
  have hq43 : ((c.toNat : Int) == 43) = false := by have h := hn43; simpa using h
  have hq45 : ((c.toNat : Int) == 45) = false := by have h := hn45; simpa using h
  have HB : Hid (bs (minusF l).2 = bs l) := by rw [HM.out, hl]; rfl
  clear hl
  go_enter Tryz.func36, Tryz.ntmps36
  go_wp2_with fail
  go_ret2
  exact ⟨by rw [HB.out, HM.out]; rfl, Below.refl _ _⟩
theorem rsigned_c (l : List UInt8) (w : World) : Calls Tryz.prog 36 #[.string (bs l)] w fun en w' => en = .returned (.tuple #[.string (bs (minusF l).2), .bool (minusF l).1]) ∧ Below w.heap.size w w' := by
  cases l with
  | nil => exact rsigned_e w
  | cons c r =>
    by_cases h1 : c = 43
    · subst h1; exact rsigned_p r w
    by_cases h2 : c = 45
    · subst h2; exact rsigned_m r w
    exact rsigned_n h1 h2 w
end Go.Proofs.YtglkjbkpgfencaaGreatDoor

namespace Go.Proofs.YtglkjbkpgfencaaGreatDoor
open Go.RowKit Go.Shelf

def powI (l : List UInt8) : Int := match powF l with | none => 0 | some e => e
def powB (l : List UInt8) : Bool := match powF l with | none => false | some _ => true
theorem huge_snoc (n : Nat) (l : List UInt8) (c : UInt8) : hugeF n (l ++ [c]) = min (10 * hugeF n l + (c.toNat - 48)) 1099511627776 := by
  induction l generalizing n with
  | nil => rfl
  | cons d l ih => exact ih _
theorem take_snoc {l : List UInt8} {i : Nat} (h : i < l.length) : l.take (i + 1) = l.take i ++ [l.getD i 0] := by
  rw [List.take_succ_eq_append_getElem h, List.getD_eq_getElem?_getD, List.getElem?_eq_getElem h]; rfl
theorem mem_getD {l : List UInt8} {c : UInt8} (h : c ∈ l) : ∃ j, j < l.length ∧ l.getD j 0 = c := by
  obtain ⟨j, hj, he⟩ := List.getElem_of_mem h
  exact ⟨j, hj, by rw [List.getD_eq_getElem?_getD, List.getElem?_eq_getElem hj]; exact he⟩
theorem getD_mem {l : List UInt8} {j : Nat} (h : j < l.length) : l.getD j 0 ∈ l := by
  rw [List.getD_eq_getElem?_getD, List.getElem?_eq_getElem h]; exact List.getElem_mem _
theorem decs_iff (c : UInt8) : c ∈ decs ↔ 48 ≤ c.toNat ∧ c.toNat ≤ 57 := by
  have h : ∀ n, n < 256 → (UInt8.ofNat n ∈ decs ↔ 48 ≤ n ∧ n ≤ 57) := by decide +kernel
  have h2 := h c.toNat c.toNat_lt
  rwa [UInt8.ofNat_toNat] at h2
set_option maxRecDepth 20000 in
set_option maxHeartbeats 0 in
theorem rpower_c (l : List UInt8) (hl : l.length ≤ 10000) (w : World) :
    Calls Tryz.prog 68 #[.string (bs l)] w fun en w' => en = .returned (.tuple #[.int .i64 (powI l), .bool (powB l)]) ∧ Below w.heap.size w w' := by
  have HL : Hid (l.length ≤ 10000) := hl
  go_enter Tryz.func68, Tryz.ntmps68
  go_wp2_with fail
  refine (rsigned_c l _).mono ?_
  rintro en w1 ⟨rfl, hb1⟩
  have HB := hm9 hb1
  obtain ⟨t, ht⟩ : ∃ t, t = (minusF l).2 := ⟨_, rfl⟩
  obtain ⟨m, hm⟩ : ∃ m, m = (minusF l).1 := ⟨_, rfl⟩
  rw [← ht, ← hm]
  have HT : Hid (t = (minusF l).2 ∧ m = (minusF l).1 ∧ t.length ≤ 10000) := ⟨ht, hm, by rw [ht]; have := minusF_len l; have := HL.out; omega⟩
  have hs : (bs t).size = t.length := bs_size t
  clear hb1 ht hm hl
  by_cases h0 : t = []
  · have hem : (bs t).toList.isEmpty = true := by rw [h0]; exact emp0
    have HP : Hid (powF l = none) := by show _ = _; unfold powF; rw [← HT.out.1, if_pos (.inl h0)]
    have HQ : Hid (powI l = 0 ∧ powB l = false) := by unfold powI powB; rw [HP.out]; exact ⟨rfl, rfl⟩
    clear h0
    go_wp2_with fail
    go_ret2
    exact ⟨by rw [HQ.out.1, HQ.out.2]; rfl, HB.out⟩
  · have hem : (bs t).toList.isEmpty = false := emp1 h0
    have H0 := hm9 h0
    clear h0
    go_wp2_with fail
    go_loopg [5, 6] t.length (fun gk ev iv wr => ∃ i : Nat, i + gk = t.length ∧ ev = .int .i64 ((hugeF 0 (t.take i) : Nat) : Int) ∧ iv = .int .i64 i ∧ (∀ j, j < i → t.getD j 0 ∈ decs) ∧ wr = w1)
    case atStart => exact ⟨0, by omega, rfl, rfl, fun j hj => absurd hj (Nat.not_lt_zero _), rfl⟩
    case round =>
      obtain ⟨i, hig, rfl, rfl, hkn, rfl⟩ := hrel
      obtain ⟨ee, hee⟩ : ∃ ee, ee = hugeF 0 (t.take i) := ⟨_, rfl⟩
      have HE : Hid (ee = hugeF 0 (t.take i) ∧ ee ≤ 1099511627776) := ⟨hee, by rw [hee]; exact huge_le _ _ (by decide)⟩
      rw [← hee]
      clear hee
      have HK := hm9 hkn
      clear hkn
      cases gk with
      | zero =>
        obtain rfl : i = t.length := by omega
        have HP : Hid (powF l = some (if m then -((ee : Nat) : Int) else ((ee : Nat) : Int))) := by
          have h1 : ¬ (t = [] ∨ ¬ ∀ c ∈ t, c ∈ decs) := by
            rintro (h | h)
            · exact H0.out h
            · refine h (fun c hc => ?_)
              obtain ⟨j, hj, rfl⟩ := mem_getD hc
              exact HK.out j hj
          show _ = _
          unfold powF
          rw [← HT.out.1, ← HT.out.2.1, if_neg h1, HE.out.1, List.take_length]
        have hnl : ¬ (t.length : Int) < (t.length : Int) := by omega
        clear hig
        cases m
        · have HQ : Hid (powI l = ((ee : Nat) : Int) ∧ powB l = true) := by unfold powI powB; rw [HP.out]; exact ⟨rfl, rfl⟩
          go_wp2_with fail
          go_ret2
          exact ⟨by rw [HQ.out.1, HQ.out.2]; rfl, HB.out⟩
        · have HQ : Hid (powI l = -((ee : Nat) : Int) ∧ powB l = true) := by unfold powI powB; rw [HP.out]; exact ⟨rfl, rfl⟩
          have hwn : wrap64 (-((ee : Nat) : Int)) = -((ee : Nat) : Int) := by have := HE.out.2; simp only [wrap64]; omega
          have hwm : IntKind.i64.wrap (-((ee : Nat) : Int)) = -((ee : Nat) : Int) := by have := HE.out.2; simp [IntKind.wrap, IntKind.signed, IntKind.bits]; omega
          go_wp2_with fail
          go_ret2
          exact ⟨by rw [HQ.out.1, HQ.out.2]; rfl, HB.out⟩
      | succ g =>
        have hil : (i : Int) < (t.length : Int) := by omega
        have hi0 : (0 : Int) ≤ (i : Int) := by omega
        have hiK : i < (bs t).size := by omega
        have hgi := bs_get t i hiK
        have wi : wrap64 ((i : Int) + 1) = ((i + 1 : Nat) : Int) := by have := HT.out; simp only [wrap64]; omega
        have HI : Hid (i < t.length) := by show _ < _; omega
        obtain ⟨d, hd⟩ : ∃ d, d = t.getD i 0 := ⟨_, rfl⟩
        rw [← hd] at hgi
        have HDD := hm9 hd
        have hgn : ((((bs t)[i]'hiK).toNat : Nat) : Int) = (d.toNat : Int) := by rw [hgi]
        clear hd hgi
        by_cases hdd : d ∈ decs
        rotate_left
        · have HP : Hid (powF l = none) := by
            have h1 : t = [] ∨ ¬ ∀ c ∈ t, c ∈ decs := .inr (fun h => hdd (by rw [HDD.out]; exact h _ (getD_mem HI.out)))
            show _ = _
            unfold powF
            rw [← HT.out.1, if_pos h1]
          have HQ : Hid (powI l = 0 ∧ powB l = false) := by unfold powI powB; rw [HP.out]; exact ⟨rfl, rfl⟩
          have hdn : ¬ (48 ≤ d.toNat ∧ d.toNat ≤ 57) := fun h => hdd ((decs_iff d).2 h)
          clear hdd
          by_cases h48 : (d.toNat : Int) < 48
          · clear hdn
            go_wp2_with fail
            go_ret2
            exact ⟨by rw [HQ.out.1, HQ.out.2]; rfl, HB.out⟩
          · have h57 : (57 : Int) < (d.toNat : Int) := by omega
            clear hdn
            go_wp2_with fail
            go_ret2
            exact ⟨by rw [HQ.out.1, HQ.out.2]; rfl, HB.out⟩
        · have hd2 := (decs_iff d).1 hdd
          have HDC := hm9 hdd
          have h48 : ¬ (d.toNat : Int) < 48 := by omega
          have h57 : ¬ (57 : Int) < (d.toNat : Int) := by omega
          obtain ⟨e2, he2⟩ : ∃ e2, e2 = min (10 * ee + (d.toNat - 48)) 1099511627776 := ⟨_, rfl⟩
          have HE2 : Hid (e2 = hugeF 0 (t.take (i + 1))) := by rw [he2, take_snoc HI.out, huge_snoc, ← HDD.out, ← HE.out.1]; rfl
          have hw1 : wrap64 (10 * (ee : Int)) = 10 * (ee : Int) := by have := HE.out.2; simp only [wrap64]; omega
          have hw2 : IntKind.u8.wrap ((d.toNat : Int) - 48) = (d.toNat : Int) - 48 := by simp [IntKind.wrap, IntKind.signed, IntKind.bits]; omega
          have hw4 : wrap64 ((d.toNat : Int) - 48) = (d.toNat : Int) - 48 := by simp only [wrap64]; omega
          have hw3 : wrap64 (10 * (ee : Int) + ((d.toNat : Int) - 48)) = 10 * (ee : Int) + ((d.toNat : Int) - 48) := by have := HE.out.2; simp only [wrap64]; omega
          have hmn : min (10 * (ee : Int) + ((d.toNat : Int) - 48)) 1099511627776 = (e2 : Int) := by rw [he2]; omega
          clear hd2 hdd he2
          go_wp2_with fail
          go_roundg g
          case measure => omega
          case rel =>
            refine ⟨i + 1, by omega, congrArg (fun x : Nat => Value.int .i64 (x : Int)) HE2.out, by go_num, fun j hj => ?_, rfl⟩
            rcases Nat.lt_or_ge j i with h2 | h2
            · exact HK.out j h2
            · obtain rfl : j = i := by omega
              rw [← HDD.out]; exact HDC.out
end Go.Proofs.YtglkjbkpgfencaaGreatDoor

namespace Go.Proofs.YtglkjbkpgfencaaGreatDoor
open Go.RowKit Go.Shelf

theorem trimR_split (l : List UInt8) (c : UInt8) : ∃ k, l = Lib.trimRightB l c ++ List.replicate k c := by
  have h := List.takeWhile_append_dropWhile (p := (· == c)) (l := l.reverse)
  refine ⟨(l.reverse.takeWhile (· == c)).length, ?_⟩
  have h2 : l = (l.reverse.dropWhile (· == c)).reverse ++ (l.reverse.takeWhile (· == c)).reverse := by rw [← List.reverse_append, h, List.reverse_reverse]
  have h3 : (l.reverse.takeWhile (· == c)).reverse = List.replicate (l.reverse.takeWhile (· == c)).length c := by
    rw [List.eq_replicate_iff]
    refine ⟨List.length_reverse, fun b hb => ?_⟩
    rw [List.mem_reverse] at hb
    have := List.all_eq_true.1 (List.all_takeWhile (p := (· == c)) (l := l.reverse)) b hb
    simpa using this
  unfold Lib.trimRightB
  rw [← h3]
  exact h2
theorem hexF_zeros (n k : Nat) : hexF n (List.replicate k 48) = n * 16 ^ k := by
  induction k generalizing n with
  | zero => show n = n * 1; omega
  | succ k ih =>
    rw [List.replicate_succ]
    show hexF (16 * n + hexv 48) (List.replicate k 48) = _
    rw [ih, show hexv 48 = 0 by decide, Nat.pow_succ, Nat.add_zero, Nat.mul_comm 16 n, Nat.mul_assoc, Nat.mul_comm 16]
theorem frF_val {x : Nat} (hx : x < 16 ^ 16) : ∃ k, (frF x).length + k = 16 ∧ hexF 0 (frF x) * 16 ^ k = x ∧ ∀ c ∈ frF x, hexd c = true := by
  have hl := hexL_len 16 x
  obtain ⟨k, hk⟩ := trimR_split (List.replicate (16 - (hexL 16 x).length) 48 ++ hexL 16 x) 48
  have hlen := congrArg List.length hk
  rw [List.length_append, List.length_append, List.length_replicate, List.length_replicate] at hlen
  have hv := congrArg (hexF 0) hk
  rw [hexF_app, hexF_app, hexF_zeros, hexF_zeros, Nat.zero_mul, hexL_val 16 x hx] at hv
  refine ⟨k, ?_, ?_, ?_⟩
  · unfold frF; omega
  · unfold frF; exact hv.symm
  · intro c hc
    have h2 : c ∈ List.replicate (16 - (hexL 16 x).length) 48 ++ hexL 16 x := by rw [hk]; exact List.mem_append_left _ hc
    rw [List.mem_append] at h2
    rcases h2 with h2 | h2
    · rw [(List.mem_replicate.1 h2).2]; decide
    · exact hexL_in _ _ c h2
theorem dv_cong {x y : Int} {a b : Int} (k : Nat) (ha : -4194304 ≤ a) (_ : -4194304 ≤ b) (hab : b = a + k) (h : x = y * ((2 ^ k : Nat) : Int)) : dv x a = dv y b := by
  rw [hab, dv_up k ha, h]
theorem sixteen (k : Nat) : (16 : Nat) ^ k = 2 ^ (4 * k) := by rw [show (16 : Nat) = 2 ^ 4 by decide, ← Nat.pow_mul]
theorem itoa_short {n : Int} (h0 : -3000 ≤ n) (h1 : n ≤ 3000) : (Lib.itoa n).length ≤ 302 := by
  unfold Lib.itoa
  split
  · rw [List.length_cons, Lib.decDigits_length]; have := ndig_le n.natAbs; omega
  · rw [Lib.decDigits_length]; have := ndig_le n.toNat; omega
theorem exF_num {man : Nat} {exp : Int} (h0 : man ≠ 0) (h1 : man < B64) (he : -2000 ≤ exp ∧ exp ≤ 2000) :
    ∃ r ds be ex, exF man exp = 48 :: r ∧ numF (48 :: r) = some (ds, be, ex) ∧ dv (hexF 0 ds : Int) (ex - 4 * ((be : Nat) : Int)) = dv (man : Int) exp ∧ -4194304 ≤ ex - 4 * ((be : Nat) : Int) ∧ r.length ≤ 500 := by
  have hb1 := bitsN_le64 h1
  have hb2 := bitsN_posX h0
  obtain ⟨t, ht⟩ : ∃ t, t = bitsN man - 1 := ⟨_, rfl⟩
  have hlo : 2 ^ t ≤ man := by rw [ht]; exact bitsN_le man h0
  have hhi : man < 2 ^ (t + 1) := by rw [ht, show bitsN man - 1 + 1 = bitsN man by omega]; exact bitsN_lt man
  obtain ⟨y, hy⟩ : ∃ y, y = man * 2 ^ (64 - t) % B64 := ⟨_, rfl⟩
  have hyB : y < 16 ^ 16 := by rw [hy]; exact Nat.mod_lt _ (by decide)
  have hp : 2 ^ t * 2 ^ (64 - t) = B64 := by rw [← Nat.pow_add, show t + (64 - t) = 64 by omega]; rfl
  have hy2 : B64 + y = man * 2 ^ (64 - t) := by
    have a1 : B64 ≤ man * 2 ^ (64 - t) := by rw [← hp]; exact Nat.mul_le_mul_right _ hlo
    have a2 : man * 2 ^ (64 - t) < B64 + B64 := by
      rw [show B64 + B64 = 2 ^ (t + 1) * 2 ^ (64 - t) by rw [Nat.pow_succ, Nat.mul_assoc, Nat.mul_comm 2, ← Nat.mul_assoc, hp]; omega]
      exact Nat.mul_lt_mul_of_pos_right hhi (Nat.two_pow_pos _)
    rw [hy, Nat.mod_eq_sub_mod a1, Nat.mod_eq_of_lt (by omega)]; omega
  obtain ⟨k, hk1, hk2, hk3⟩ := frF_val hyB
  have hdg : dgF man = frF y := by unfold dgF; rw [← ht, hy]
  obtain ⟨q, hq⟩ : ∃ q, q = frF y := ⟨_, rfl⟩
  rw [← hq] at hk1 hk2 hk3 hdg
  obtain ⟨n, hn⟩ : ∃ n : Int, n = exp + (t : Int) := ⟨_, rfl⟩
  have hE : ExT (sgT n) n := by
    have h := exp_itoa (n := n) (by omega) (by omega)
    unfold sgT
    split
    · exact h.1
    · exact h.2 (by omega)
  have hsl : (sgT n).length ≤ 400 := by
    have h := itoa_short (n := n) (by omega) (by omega)
    unfold sgT
    split <;> (try rw [List.length_cons]) <;> omega
  have hval : dv (hexF 0 (49 :: q) : Int) (n - 4 * ((q.length : Nat) : Int)) = dv (man : Int) exp := by
    have e1 : hexF 0 (49 :: q) * 16 ^ k = man * 2 ^ (64 - t) := by
      show hexF (16 * 0 + hexv 49) q * 16 ^ k = _
      rw [hexF_n, Nat.add_mul, hk2, show 16 * 0 + hexv 49 = 1 by decide, Nat.one_mul, ← Nat.pow_add, hk1, ← hy2]; rfl
    have e2 : (hexF 0 (49 :: q) * 2 ^ (4 * k) : Nat) = man * 2 ^ (64 - t) := by rw [← sixteen]; exact e1
    have c1 : dv (((hexF 0 (49 :: q) * 2 ^ (4 * k) : Nat) : Int)) (n - 64) = dv (hexF 0 (49 :: q) : Int) (n - 4 * ((q.length : Nat) : Int)) :=
      dv_cong (4 * k) (by omega) (by omega) (by omega) (by rw [Int.natCast_mul])
    have c2 : dv (((man * 2 ^ (64 - t) : Nat) : Int)) (n - 64) = dv (man : Int) exp :=
      dv_cong (64 - t) (by omega) (by omega) (by omega) (by rw [Int.natCast_mul])
    rw [← c1, e2, c2]
  by_cases hq0 : q = []
  · refine ⟨120 :: ([49] ++ 112 :: sgT n), [49], 0, n, ?_, ?_, ?_, by omega, ?_⟩
    · unfold exF; rw [if_neg h0, hdg, if_pos hq0, ← ht, hn]; rfl
    · have h := numF_plain (x := 120) (p := 112) (A := [49]) (.inl rfl) (.inl rfl) (by decide) (by decide) hE
      rw [h]; rfl
    · rw [hq0] at hval; exact hval
    · simp only [List.length_cons, List.length_append, List.length_nil]; omega
  · refine ⟨120 :: ([49] ++ 46 :: (q ++ 112 :: sgT n)), 49 :: q, q.length, n, ?_, ?_, hval, by omega, ?_⟩
    · unfold exF; rw [if_neg h0, hdg, if_neg hq0, ← ht, hn]; simp
    · have h := numF_point (x := 120) (p := 112) (A := [49]) (B := q) (.inl rfl) (.inl rfl) (by decide) hk3 (by simp) hE
      rw [h]; rfl
    · simp only [List.length_cons, List.length_append, List.length_nil]; omega
theorem vs_dv {H z : Nat} {le : Int} (hl : -4194303 ≤ le) : dv ((z - (z / H - 1) * H : Nat) : Int) (le + ((z / H - 1 : Nat) : Int)) = dv (vs H z : Int) le := by
  rw [dv_up _ (by omega)]
  unfold vs
  rw [Int.natCast_mul]
end Go.Proofs.YtglkjbkpgfencaaGreatDoor

namespace Go.Proofs.YtglkjbkpgfencaaGreatDoor
open Go.RowKit Go.Shelf

structure WinRel32 (w : World) (g off n : Nat) (W D d b : Nat) (ws : List Nat) (wr : World) : Prop where
  wrs : Wr g off (n + 1) w wr
  row : Row32 wr g off (n + 1) ws
  db : d < B32
  bb : b ≤ 1
  ge : W / D ≤ d
  sum : valB B32 ws + D * d = W + B32 ^ (n + 1) * b
theorem WinRel32.done {w : World} {g off n W D d : Nat} {ws : List Nat} {wr : World} (h : WinRel32 w g off n W D d 0 ws wr) (hD : 0 < D) : d = W / D ∧ valB B32 ws = W % D := by
  have h1 := h.sum; have h2 := h.ge
  rw [Nat.mul_zero, Nat.add_zero] at h1
  have h3 : d ≤ W / D := (Nat.le_div_iff_mul_le hD).2 (by rw [Nat.mul_comm]; omega)
  have h4 : d = W / D := by omega
  refine ⟨h4, ?_⟩
  have h5 := Nat.div_add_mod W D
  rw [← h4] at h5
  omega
structure DgS (w : World) (g off n : Nat) (us vs : List Nat) (q k cy ow : Nat) (dk : List Nat) (wr : World) : Prop where
  wrs : Wr g off (n + 1) w wr
  row : Row32 wr g off (n + 1) dk
  hi : dk.drop k = us.drop k
  car : cy < B32
  owb : ow ≤ 1
  fin : k = n + 1 → cy = 0
  sum : valB B32 (dk.take k) + valB B32 (vs.take k) * q = valB B32 (us.take k) + B32 ^ k * (ow + cy)
theorem dgs_abs {P B S V U q d y u o c o' c' : Nat} (h : S + V * q = U + P * (o + c)) (hs : o + c + d + y * q = u + B * (o' + c')) : S + P * d + (V + P * y) * q = U + P * u + P * B * (o' + c') := by
  have e1 : P * (o + c + d + y * q) = P * (u + B * (o' + c')) := by rw [hs]
  rw [Nat.mul_add P (o + c + d) (y * q), Nat.mul_add P (o + c) d, Nat.mul_add P u] at e1
  have e2 : P * (y * q) = P * y * q := (Nat.mul_assoc _ _ _).symm
  have e3 : P * (B * (o' + c')) = P * B * (o' + c') := (Nat.mul_assoc _ _ _).symm
  rw [e2, e3] at e1
  rw [Nat.add_mul]
  generalize P * y * q = X1 at *
  generalize P * B * (o' + c') = X2 at *
  generalize P * (o + c) = X3 at *
  generalize P * d = X4 at *
  generalize P * u = X5 at *
  omega
theorem DgS.step {w : World} {g off n : Nat} {us vs : List Nat} {q k cy ow : Nat} {dk : List Nat} {wr : World} (h : DgS w g off n us vs q k cy ow dk wr) (hk : k < n + 1) (hvl : vs.length = n)
    {y u c1 lo cy' ow' d : Nat} (hy : y = vs.getD k 0) (hu : u = dk.getD k 0) (hc1 : c1 = cy + y * q) (hlo : c1 = lo + B32 * cy') (hcy' : cy' < B32) (how' : ow' ≤ 1) (hd : d + lo + ow = u + B32 * ow') (hdb : d < B32) :
    DgS w g off n us vs q (k + 1) cy' ow' (dk.set k d) (wr.setCell ⟨g, off + k, none⟩ (V d)) := by
  have hlen := h.row.len
  refine ⟨h.wrs.setCell (off + k) ⟨by omega, by omega⟩ _, h.row.set k d hk hdb, ?_, hcy', how', ?_, ?_⟩
  · rw [drop_set_lt]; exact drop_succ_of_drop h.hi
  · intro hkn
    have h0 : y = 0 := by
      rw [hy, List.getD_eq_getElem?_getD, List.getElem?_eq_none (by omega)]; rfl
    rw [h0, Nat.zero_mul] at hc1
    have := h.car
    rcases Nat.eq_zero_or_pos cy' with e | e
    · exact e
    · have : B32 * 1 ≤ B32 * cy' := Nat.mul_le_mul_left _ e
      omega
  · have huu : u = us.getD k 0 := hu.trans (getD_of_drop h.hi)
    rw [take_set_succ dk k d (by omega), valB_snoc, List.length_take, hlen, Nat.min_eq_left (by omega), valB_take_any _ us k, valB_take_any _ vs k, ← huu, ← hy, Nat.pow_succ]
    refine dgs_abs h.sum ?_
    rw [Nat.mul_add]
    omega
structure DgA (w : World) (g off n : Nat) (ws vs : List Nat) (k cy : Nat) (dk : List Nat) (wr : World) : Prop where
  wrs : Wr g off (n + 1) w wr
  row : Row32 wr g off (n + 1) dk
  hi : dk.drop k = ws.drop k
  car : cy ≤ 1
  sum : valB B32 (dk.take k) + B32 ^ k * cy = valB B32 (ws.take k) + valB B32 (vs.take k)
theorem DgA.step {w : World} {g off n : Nat} {ws vs : List Nat} {k cy : Nat} {dk : List Nat} {wr : World} (h : DgA w g off n ws vs k cy dk wr) (hk : k < n + 1)
    {y u lo cy' : Nat} (hy : y = vs.getD k 0) (hu : u = dk.getD k 0) (hs : cy + u + y = lo + B32 * cy') (hlo : lo < B32) (hcy' : cy' ≤ 1) :
    DgA w g off n ws vs (k + 1) cy' (dk.set k lo) (wr.setCell ⟨g, off + k, none⟩ (V lo)) := by
  have hlen := h.row.len
  refine ⟨h.wrs.setCell (off + k) ⟨by omega, by omega⟩ _, h.row.set k lo hk hlo, ?_, hcy', ?_⟩
  · rw [drop_set_lt]; exact drop_succ_of_drop h.hi
  · have huu : u = ws.getD k 0 := hu.trans (getD_of_drop h.hi)
    rw [take_set_succ dk k lo (by omega), valB_snoc, List.length_take, hlen, Nat.min_eq_left (by omega), valB_take_any _ ws k, valB_take_any _ vs k, ← huu, ← hy, Nat.pow_succ]
    have e1 := h.sum
    have e2 : B32 ^ k * (cy + u + y) = B32 ^ k * (lo + B32 * cy') := by rw [hs]
    rw [Nat.mul_add, Nat.mul_add, Nat.mul_add, ← Nat.mul_assoc] at e2
    omega
end Go.Proofs.YtglkjbkpgfencaaGreatDoor

namespace Go.Proofs.YtglkjbkpgfencaaGreatDoor
open Go.RowKit Go.Shelf

end Go.Proofs.YtglkjbkpgfencaaGreatDoor

namespace Go.Proofs.YtglkjbkpgfencaaGreatDoor
open Go.RowKit Go.Shelf

theorem Blk32.own {w : World} {g base : Nat} {xs : List Nat} (h : Blk32 w g xs) (hb : base ≤ g) (hm : xs.length ≤ maxLen) : w.ownsRow base 118 1 (.slice (some ⟨g, 0, none⟩) xs.length xs.length) xs.length (cellsV xs) :=
  ⟨by simp [cellsV], .inr ⟨g, xs.length, (cellsV xs).toArray, rfl, hb, h, Nat.le_refl _, hm, by simp [cellsV], by rw [Nat.mul_one]; exact List.take_of_length_le (by simp [cellsV])⟩⟩
end Go.Proofs.YtglkjbkpgfencaaGreatDoor

namespace Go.Proofs.YtglkjbkpgfencaaGreatDoor
open Go.RowKit Go.Shelf

structure RSmR (w : World) (g N : Nat) (xs : List Nat) (v c i cy : Nat) (ss : List Nat) (wr : World) : Prop where
  bel : Below g w wr
  own : wr.ownsRow g 118 1 (.slice (some ⟨g, 0, none⟩) i N) i (cellsV ss)
  len : ss.length = i
  dig : Dig B32 ss
  car : cy < B32
  sum : valB B32 ss + B32 ^ i * cy = valB B32 (xs.take i) * v + c
theorem rsm_step {xs ss : List Nat} {i cy x v c lo hh : Nat} (h : valB B32 ss + B32 ^ i * cy = valB B32 (xs.take i) * v + c) (hl : ss.length = i) (ex : x = xs.getD i 0) (hs : cy + x * v = lo + B32 * hh) :
    valB B32 (ss ++ [lo]) + B32 ^ (i + 1) * hh = valB B32 (xs.take (i + 1)) * v + c := by
  rw [valB_snoc, hl, valB_take_any _ xs i, ← ex, Nat.pow_succ, Nat.add_mul]
  have e1 : B32 ^ i * (cy + x * v) = B32 ^ i * (lo + B32 * hh) := by rw [hs]
  rw [Nat.mul_add, Nat.mul_add, ← Nat.mul_assoc, ← Nat.mul_assoc] at e1
  omega
theorem own_at32 {wr : World} {g i N : Nat} {ss : List Nat} (ho : wr.ownsRow g 118 1 (.slice (some ⟨g, 0, none⟩) i N) i (cellsV ss)) (hl : ss.length = i) (hd : Dig B32 ss) : At32 wr (some ⟨g, 0, none⟩) i N ss := by
  rcases ho.2 with ⟨h', _⟩ | ⟨g', cap', cur, h', hbase, hgc, hcap', hmx, hsz, htake⟩
  · simp at h'
  · simp only [Value.slice.injEq, Option.some.injEq, Addr.mk.injEq, and_true, true_and] at h'
    obtain ⟨rfl, rfl⟩ := h'
    refine ⟨hl, hcap', hmx, hd, .inr ⟨g, 0, rfl, fun jj hj => ?_⟩⟩
    rw [Nat.zero_add, cell_of_row wr g jj _ _ _ hgc]
    have e1 := cellsV_get ss jj (by rw [hl]; exact hj)
    rw [← htake, Nat.mul_one, List.getElem?_take, if_pos hj] at e1
    rw [← Array.getElem?_toList]; exact e1

set_option maxRecDepth 20000 in
set_option maxHeartbeats 0 in
theorem rsmall_any {p : Option Addr} {n c : Nat} {xs : List Nat} {a v u : Nat} {w : World} (h : At32 w p n c xs) (hx : Nf B32 xs a) (hn : n ≤ 4398046511104) (hv : v < B32) (hu : u < B32) :
    Calls Tryz.prog 70 #[.slice p n c, V v, V u] w fun e w' => ∃ g zs, e = .returned (.slice (some ⟨g, 0, none⟩) zs.length zs.length) ∧ Blk32 w' g zs ∧ Nf B32 zs (a * v + u) ∧ zs.length ≤ n + 1 ∧ Below w.heap.size w w' := by
  obtain ⟨i0, hi, hz0, hz1, hz2⟩ := info_parts Tryz.infoU32
  have HX : Hid (Nf B32 xs a) := hx
  have HLX : Hid (xs.length = n) := h.len
  have hcap := h.cap; have hbig := h.big
  unfold maxLen at hbig
  have huw : IntKind.u64.wrap (u : Int) = (u : Int) := wrap_mod _ _ (by rw [B32_eq] at hu; omega)
  clear hx
  go_enter Tryz.func70, Tryz.ntmps70
  go_wp2_with (at_make; refine wpList_make_own _ rfl _ _ 84 rfl w.heap.size 118 i0 (.int .u32 0) 1 Tryz.underlying84 hi hz0 hz1 _ _ _ (n + 1) rfl rfl (by omega) (by rw [hz2]; omega) (by unfold maxLen; omega) (Nat.le_refl _) ?_; intro w1 hown hgrow)
  have hb1 : Below w.heap.size w w1 := (Below.refl _ _).grown hgrow (Nat.le_refl _) (fun k hk => by simp at hk)
  have HO : Hid (RSmR w w.heap.size (n + 1) xs v u 0 u [] w1) := ⟨hb1, hown, rfl, Dig.nil _, hu, by simp [valB]⟩
  clear hown hgrow hb1
  obtain ⟨N, hN⟩ : ∃ N, N = n + 1 := ⟨_, rfl⟩
  rw [← hN] at HO ⊢
  have HN : Hid (N = n + 1) := hN
  clear hN
  go_loopg [7, 8, 9] n (fun gk sv cv iv wr => ∃ (i cy : Nat) (ss : List Nat), i + gk = n ∧ iv = .int .i64 i ∧ cv = U cy ∧ sv = .slice (some ⟨w.heap.size, 0, none⟩) i N ∧ Hid (RSmR w w.heap.size N xs v u i cy ss wr))
  case atStart => exact ⟨0, u, [], by omega, rfl, rfl, rfl, HO⟩
  case round =>
    obtain ⟨i, cy, ss, hig, rfl, rfl, rfl, HR⟩ := hrel
    have hcyb := HR.out.car
    cases gk with
    | zero =>
      obtain rfl : i = n := by omega
      have hni : ¬ i < i := by omega
      have hw32 : IntKind.u32.wrap (cy : Int) = (cy : Int) := wrap32 cy hcyb
      have HOA : Hid ((wr.alloc (.cells #[V cy] 118)).ownsRow w.heap.size 118 1 (.slice (some ⟨w.heap.size, 0, none⟩) i N) i (cellsV ss)) := HR.out.own.alloc _
      have hsp : i + 1 ≤ N := by have := HN.out; omega
      go_wp2_with (at_builtin; refine wpList_append_fits _ rfl (.tmp 40) (.tmp 43) 84 rfl w.heap.size 118 i0 1 Tryz.underlying84 hi hz1 w.heap.size i N (cellsV ss) rfl HOA.out ⟨wr.heap.size, 0, none⟩ 1 1 [V cy] rfl rfl (one_cell wr cy) (by intro u hu; simp at hu; subst hu; rfl) hsp ?_; intro w3 hw3 hgr3)
      have hR := HR.out
      have hbx : Below w.heap.size w w3 := (hR.bel.alloc hR.bel.size _).grown hgr3 (by have := hR.bel.size; simp; omega) (fun q hq => by simp at hq; omega)
      have e0 : cellsV (ss ++ [cy]) = cellsV ss ++ [V cy] := by unfold cellsV; rw [List.map_append]; rfl
      rw [← e0] at hw3
      have hl3 : (ss ++ [cy]).length = i + 1 := by simp [hR.len]
      have hd3 : Dig B32 (ss ++ [cy]) := hR.dig.append (Dig.cons hcyb (Dig.nil _))
      have A32 := own_at32 hw3 hl3 hd3
      have HNF : Hid (Nf B32 (trimL (ss ++ [cy])) (a * v + u)) := by
        have h1 := Nf.trim hd3
        have h2 := hR.sum
        rw [List.take_of_length_le (by rw [HLX.out]; omega), HX.out.val] at h2
        rw [valB_snoc, hR.len, h2] at h1; exact h1
      have hle := trimL_length_le (ss ++ [cy])
      have HLE : Hid ((trimL (ss ++ [cy])).length ≤ i + 1) := by show _ ≤ _; omega
      clear hw3 hgr3 e0 hl3 hd3 hle hR
      refine (rnorm_any A32 (by omega)).mono ?_
      rintro e w5 ⟨g5, rfl, hg5, hblk5, hb5⟩
      generalize trimL (ss ++ [cy]) = zs at *
      go_wp2_with fail
      go_ret
      exact ⟨g5, zs, rfl, hblk5, HNF.out, HLE.out, Below.on hbx hb5⟩
    | succ gg =>
      obtain ⟨g, off, rfl, hc⟩ := h.cells.resolve_left (by omega)
      obtain ⟨x, hxx⟩ : ∃ x, x = xs.getD i 0 := ⟨_, rfl⟩
      have hin : i < n := by omega
      have hcx0 : w.cell? ⟨g, off + i, none⟩ = some (V x) := by rw [hxx]; exact hc i hin
      have hcx : wr.cell? ⟨g, off + i, none⟩ = some (V x) := (HR.out.bel.cell (p := ⟨g, off + i, none⟩) (World.block_lt_of_cell? w _ hcx0)).trans hcx0
      have hxb : x < B32 := by rw [hxx]; exact HX.out.dig.getD B32_pos i
      have hxw : IntKind.u64.wrap (x : Int) = (x : Int) := wrap_mod _ _ (by rw [B32_eq] at hxb; omega)
      have hvw : IntKind.u64.wrap (v : Int) = (v : Int) := wrap_mod _ _ (by rw [B32_eq] at hv; omega)
      have HXE : Hid (x = xs.getD i 0) := hxx
      have hall := rmul_digit hxb hv B32_pos hcyb
      obtain ⟨xy, exy⟩ : ∃ xy, xy = x * v := ⟨_, rfl⟩
      rw [← exy] at hall
      rw [B64_eq] at hall
      have f1 : IntKind.u64.wrap ((x : Int) * (v : Int)) = (xy : Int) := by
        have e : ((x : Int) * (v : Int)) = ((x * v : Nat) : Int) := by simp
        rw [e, ← exy]; exact wrap_mod _ _ (by omega)
      obtain ⟨s2, es2⟩ : ∃ s2, s2 = cy + xy := ⟨_, rfl⟩
      have f3 : IntKind.u64.wrap ((cy : Int) + (xy : Int)) = (s2 : Int) := wrap_mod _ _ (by omega)
      have hs2 : s2 < 18446744073709551616 := by omega
      obtain ⟨lo, elo⟩ : ∃ lo, lo = s2 % B32 := ⟨_, rfl⟩
      obtain ⟨hh, ehh⟩ : ∃ hh, hh = s2 / B32 := ⟨_, rfl⟩
      have hlob : lo < B32 := by rw [elo]; exact Nat.mod_lt _ B32_pos
      have hhhb : hh < B32 := by rw [ehh]; exact Nat.div_lt_of_lt_mul (by rw [B32_two, B64_eq]; exact hs2)
      have f4 : bits .and .u64 (s2 : Int) 4294967295 = (lo : Int) := by rw [elo, B32_eq]; exact and32 s2 hs2
      have f5 : (s2 : Int) / 4294967296 = (hh : Int) := by rw [ehh, B32_eq]; exact div32 s2
      have f6 : IntKind.u32.wrap (lo : Int) = (lo : Int) := wrap32 lo hlob
      have HSUM : Hid (cy + x * v = lo + B32 * hh) := by
        have := Nat.mod_add_div s2 B32
        rw [← elo, ← ehh] at this
        show _ = _; omega
      have HOA : Hid ((wr.alloc (.cells #[V lo] 118)).ownsRow w.heap.size 118 1 (.slice (some ⟨w.heap.size, 0, none⟩) i N) i (cellsV ss)) := HR.out.own.alloc _
      have hsp : i + 1 ≤ N := by have := HN.out; omega
      clear hall exy es2 elo ehh hxx hcx0 hc
      go_wp2_with (at_builtin; refine wpList_append_fits _ rfl (.tmp 32) (.tmp 36) 84 rfl w.heap.size 118 i0 1 Tryz.underlying84 hi hz1 w.heap.size i N (cellsV ss) rfl HOA.out ⟨wr.heap.size, 0, none⟩ 1 1 [V lo] rfl rfl (one_cell wr lo) (by intro u hu; simp at hu; subst hu; rfl) hsp ?_; intro w3 hw3 hgr3)
      have HR3 : Hid (RSmR w w.heap.size N xs v u (i + 1) hh (ss ++ [lo]) w3) := by
        have hR := HR.out
        refine ⟨(hR.bel.alloc hR.bel.size _).grown hgr3 (by have := hR.bel.size; simp; omega) (fun q hq => by simp at hq; omega), ?_, by simp [hR.len], hR.dig.append (Dig.cons hlob (Dig.nil _)), hhhb, rsm_step hR.sum hR.len HXE.out HSUM.out⟩
        have e0 : cellsV (ss ++ [lo]) = cellsV ss ++ [V lo] := by unfold cellsV; rw [List.map_append]; rfl
        rw [e0]; exact hw3
      clear hw3 hgr3
      go_roundg gg
      case measure => omega
      case rel => exact ⟨i + 1, hh, ss ++ [lo], by omega, by go_num, rfl, rfl, HR3⟩
end Go.Proofs.YtglkjbkpgfencaaGreatDoor

namespace Go.Proofs.YtglkjbkpgfencaaGreatDoor
open Go.RowKit Go.Shelf

theorem wpList_make_room {P : Program} (w : World) {ops : Array Oper} {rest : List Oper} {o : Oper} {a : Act} {Q : Exit → Act → World → Prop}
    (hg : o.guard = none) (l c : Operand) (t : TypeId) (hop : o.op = Op.makeSlice t l c)
    (base : Nat) (e : TypeId) (i : TypeInfo) (z : Value) (size : Nat) (h1 : P.underlying t = some (.slice e)) (h2 : P.info? e = some i) (h3 : i.zero = some z) (h4 : i.size = size)
    (kl kc : IntKind) (L C : Int) (n m : Nat) (hl : a.eval l = .int kl L) (hc : a.eval c = .int kc C) (hL : L = (n : Int)) (hC : C = (m : Int)) (hnm : n ≤ m) (b2 : i.bytes * m ≤ 281474976710656) (b3 : m ≤ maxLen) (b4 : base ≤ w.heap.size)
    (hK : ∀ w', w'.ownsRow base e size (.slice (some ⟨w.heap.size, 0, none⟩) n m) n ((madeCells z.cells (m * size)).toList.take (n * size)) → w.grownBy w' none → wpList P ops Q rest (a.put o.dst (.slice (some ⟨w.heap.size, 0, none⟩) n m)) w') :
    wpList P ops Q (o :: rest) a w := by
  refine wpList_plain hg fun K hK' => ?_
  subst h4
  have h63' : (m : Int) ≤ 9223372036854775807 := by
    have h := b3
    simp [maxLen] at h
    omega
  have hb' : (i.bytes : Int) * (m : Int) ≤ 281474976710656 := by
    have h : ((i.bytes * m : Nat) : Int) ≤ 281474976710656 := by omega
    rwa [Int.natCast_mul] at h
  have hr := run_make (P := P) w t e i z h1 h2 h3 kl kc n m (by omega) (by omega) hb' h63'
  simp only [Int.toNat_natCast] at hr
  subst hL
  subst hC
  unfold Oper.wp
  simp [execOp, hop, hl, hc, hr, Result.andThen]
  refine hK' _ _ (hK _ ⟨?_, .inr ⟨_, m, _, rfl, b4, heap_alloc_new w _, hnm, b3, size_madeCells _ _, rfl⟩⟩ (World.grownBy_alloc w _ none))
  rw [List.length_take, Nat.min_eq_left]
  rw [Array.length_toList, size_madeCells]
  exact Nat.mul_le_mul_right _ hnm
end Go.Proofs.YtglkjbkpgfencaaGreatDoor

namespace Go.Proofs.YtglkjbkpgfencaaGreatDoor
open Go.RowKit Go.Shelf

theorem made_take (D M : Nat) (h : D ≤ M) : (madeCells (Value.cells (.int .u32 0)) (M * 1)).toList.take (D * 1) = cellsV (List.replicate D 0) := by
  rw [madeV, Nat.mul_one]
  unfold cellsV
  rw [List.map_replicate, List.map_replicate, List.take_replicate, Nat.min_eq_left h]
theorem valB_zeros (D : Nat) (zs : List Nat) : valB B32 (List.replicate D 0 ++ zs) = B32 ^ D * valB B32 zs := by
  rw [valB_append, valB_replicate, List.length_replicate, Nat.zero_add]

theorem own_below {w w' : World} {base g n m size : Nat} {e : TypeId} {xs : List Value} (h : w.ownsRow base e size (.slice (some ⟨g, 0, none⟩) n m) n xs) (hb : Below w.heap.size w w') (hg : g < w.heap.size) : w'.ownsRow base e size (.slice (some ⟨g, 0, none⟩) n m) n xs := by
  refine ⟨h.1, ?_⟩
  rcases h.2 with ⟨h', _⟩ | ⟨g', cap', cur, h', hbase, hgc, hr⟩
  · simp at h'
  · have h2 := h'
    simp only [Value.slice.injEq, Option.some.injEq, Addr.mk.injEq, and_true] at h2
    obtain ⟨rfl, _⟩ := h2
    exact .inr ⟨_, cap', cur, h', hbase, (hb.block _ hg).trans hgc, hr⟩
theorem blk_src {w : World} {g : Nat} {xs : List Nat} (h : Blk32 w g xs) : ∀ j u, (cellsV xs)[j]? = some u → w.cell? ((⟨g, 0, none⟩ : Addr).add j) = some u := by
  intro j u hu
  have hj : j < xs.length := by
    have := (List.getElem?_eq_some_iff.1 hu).1
    rwa [cellsV_length] at this
  have hadd : (⟨g, 0, none⟩ : Addr).add j = ⟨g, j, none⟩ := by unfold Addr.add; split <;> simp_all
  rw [hadd, h.cell j hj]
  rw [cellsV_get xs j hj] at hu
  exact hu

set_option maxRecDepth 20000 in
set_option maxHeartbeats 0 in
theorem rshl_any {p : Option Addr} {n c : Nat} {xs : List Nat} {a : Nat} {w : World} (h : At32 w p n c xs) (hx : Nf B32 xs a) (hn0 : 0 < n) (hn : n ≤ 16384) (N : Nat) (hN2 : N ≤ 524288) :
    Calls Tryz.prog 71 #[.slice p n c, .int .i64 N] w fun e w' => ∃ p' m' zs, e = .returned (.slice p' m' m') ∧ At32 w' p' m' m' zs ∧ Nf B32 zs (a * 2 ^ N) ∧ m' ≤ 40000 ∧ Below w.heap.size w w' := by
  obtain ⟨i0, hi, hz0, hz1, hz2⟩ := info_parts Tryz.infoU32
  have HX : Hid (Nf B32 xs a) := hx
  have HA : Hid (At32 w p n c xs) := h
  have HLX : Hid (xs.length = n) := h.len
  have cap := h.cap
  have big := h.big
  unfold maxLen at big
  have hne : ((n : Int) == 0) = false := by simp; omega
  clear hx h
  by_cases hN0 : N = 0
  · subst hN0
    go_enter Tryz.func71, Tryz.ntmps71
    go_wp2_with fail
    refine (rnorm_any HA.out (by omega)).mono ?_
    rw [trimL_of_Top HX.out.top]
    rintro e w1 ⟨g, rfl, hg, hb, hbl⟩
    have HB : Hid (Blk32 w1 g xs) := hb
    rw [HLX.out]
    clear hb
    go_wp2_with fail
    go_ret
    exact ⟨_, n, xs, rfl, HB.out.at_ HX.out.dig HLX.out (by unfold maxLen; omega), by rw [Nat.pow_zero, Nat.mul_one]; exact HX.out, by omega, hbl⟩
  · obtain ⟨D, hD⟩ : ∃ D, D = N / 32 := ⟨_, rfl⟩
    obtain ⟨R, hR⟩ : ∃ R, R = N % 32 := ⟨_, rfl⟩
    have d1 : (N : Int).tdiv 32 = (D : Int) := by rw [Int.tdiv_eq_ediv_of_nonneg (by omega)]; omega
    have d2 : (N : Int).tmod 32 = (R : Int) := by rw [Int.tmod_eq_emod_of_nonneg (by omega)]; omega
    have hNp : ¬ (N : Int) ≤ 0 := by omega
    have hR32 : R < 32 := by omega
    have hDb : D ≤ 16384 := by omega
    have HD : Hid (2 ^ N = B32 ^ D * 2 ^ R) := by show _ = _; rw [show B32 = 2 ^ 32 from rfl, ← Nat.pow_mul, ← Nat.pow_add]; congr 1; omega
    obtain ⟨M, hM⟩ : ∃ M, M = D + n + 1 := ⟨_, rfl⟩
    have hMI : (D : Int) + (n : Int) + 1 = (M : Int) := by omega
    have HM : Hid (M = D + n + 1) := hM
    have hMb : M ≤ 33000 := by omega
    have hDM : D ≤ M := by omega
    obtain ⟨d, hd⟩ : ∃ d, d = 2 ^ R := ⟨_, rfl⟩
    have hd1 : 1 ≤ d := by rw [hd]; exact Nat.pow_pos (by decide)
    have hdB : d < B32 := by rw [hd, show B32 = 2 ^ 32 from rfl]; exact Nat.pow_lt_pow_right (by decide) hR32
    have hdw : IntKind.u32.wrap (d : Int) = (d : Int) := wrap32 d hdB
    have hdI : (2 : Int) ^ R = (d : Int) := by rw [hd]; norm_cast
    have HDD : Hid (d = 2 ^ R ∧ 1 ≤ d ∧ d < B32) := ⟨hd, hd1, hdB⟩
    clear hD hR hM hd hd1 hdB
    go_enter Tryz.func71, Tryz.ntmps71
    go_wp2_with (at_make; refine wpList_make_room _ rfl _ _ 84 rfl w.heap.size 118 i0 (.int .u32 0) 1 Tryz.underlying84 hi hz0 hz1 _ _ _ _ D M rfl rfl (by omega) (by omega) hDM (by rw [hz2]; omega) (by unfold maxLen; omega) (Nat.le_refl _) ?_; intro w1 hown hgrow)
    have hb1 : Below w.heap.size w w1 := (Below.refl _ _).grown hgrow (Nat.le_refl _) (fun k hk => by simp at hk)
    rw [made_take D M hDM] at hown
    have HO : Hid (w1.ownsRow w.heap.size 118 1 (.slice (some ⟨w.heap.size, 0, none⟩) D M) D (cellsV (List.replicate D 0))) := hown
    have HA1 : Hid (At32 w1 p n c xs) := HA.out.below hb1
    have HB1 : Hid (Below w.heap.size w w1) := hb1
    have HSZ : Hid (w.heap.size < w1.heap.size) := by
      rcases HO.out.2 with ⟨h', _⟩ | ⟨g', _, _, h', _, hgc, _⟩
      · simp at h'
      · simp only [Value.slice.injEq, Option.some.injEq, Addr.mk.injEq, and_true] at h'
        obtain ⟨rfl, _⟩ := h'
        exact (Array.getElem?_eq_some_iff.1 hgc).1
    clear hown hgrow hb1 HA
    rw [show Value.int IntKind.u32 (d : Int) = V d from rfl, show Value.int IntKind.u32 0 = V 0 from rfl]
    refine (rsmall_any HA1.out HX.out (by omega) HDD.out.2.2 (show 0 < B32 by decide)).mono ?_
    rintro e w2 ⟨g2, z2, rfl, hk2, hn2, hl2, hb2⟩
    rw [Nat.add_zero] at hn2
    have HO2 : Hid (w2.ownsRow w.heap.size 118 1 (.slice (some ⟨w.heap.size, 0, none⟩) D M) D (cellsV (List.replicate D 0))) := own_below HO.out hb2 HSZ.out
    have HK2 : Hid (Blk32 w2 g2 z2) := hk2
    have HN2 : Hid (Nf B32 z2 (a * d)) := hn2
    have HB2 : Hid (Below w.heap.size w w2) := Below.on HB1.out hb2
    obtain ⟨l2, hle2⟩ : ∃ l2, l2 = z2.length := ⟨_, rfl⟩
    have HL2 : Hid (z2.length = l2) := hle2.symm
    rw [← hle2] at hl2 ⊢
    have hsp : D + l2 ≤ M := by have := HM.out; omega
    clear hk2 hn2 hb2 hle2 HO HA1 HB1
    go_wp2_with (at_builtin; refine wpList_append_fits _ rfl (.tmp 24) (.tmp 29) 84 rfl w.heap.size 118 i0 1 Tryz.underlying84 hi hz1 w.heap.size D M (cellsV (List.replicate D 0)) rfl HO2.out ⟨g2, 0, none⟩ l2 l2 (cellsV z2) rfl (by rw [cellsV_length, HL2.out, Nat.mul_one]) (blk_src HK2.out) (cellsV_one _) hsp ?_; intro w3 hw3 hgr3)
    have hd3 : Dig B32 (List.replicate D 0 ++ z2) := (Dig.replicate B32 D B32_pos).append HN2.out.dig
    have hl3 : (List.replicate D 0 ++ z2).length = D + l2 := by rw [List.length_append, List.length_replicate, HL2.out]
    have A3 : Hid (At32 w3 (some ⟨w.heap.size, 0, none⟩) (D + l2) M (List.replicate D 0 ++ z2)) := own_at32 (by rw [show cellsV (List.replicate D 0 ++ z2) = cellsV (List.replicate D 0) ++ cellsV z2 from by unfold cellsV; rw [List.map_append]]; exact hw3) hl3 hd3
    have HB3 : Hid (Below w.heap.size w w3) := HB2.out.grown hgr3 HB2.out.size (fun q hq => by simp at hq; omega)
    have NF3 : Hid (Nf B32 (trimL (List.replicate D 0 ++ z2)) (a * 2 ^ N)) := by
      have h1 := Nf.trim hd3
      rw [valB_zeros, HN2.out.val] at h1
      have e1 : B32 ^ D * (a * d) = a * 2 ^ N := by rw [HD.out, ← HDD.out.1, Nat.mul_left_comm]
      rw [e1] at h1; exact h1
    have hle3 : (trimL (List.replicate D 0 ++ z2)).length ≤ D + l2 := by have h1 := trimL_length_le (List.replicate D 0 ++ z2); omega
    clear hw3 hgr3 hl3 hd3
    refine (rnorm_any A3.out (by omega)).mono ?_
    rintro e w4 ⟨g4, rfl, hg4, hb4, hbl4⟩
    have A4 : Hid (At32 w4 (some ⟨g4, 0, none⟩) (trimL (List.replicate D 0 ++ z2)).length (trimL (List.replicate D 0 ++ z2)).length (trimL (List.replicate D 0 ++ z2))) := hb4.at_ NF3.out.dig rfl (by unfold maxLen; omega)
    have hbw4 := Below.on HB3.out hbl4
    generalize trimL (List.replicate D 0 ++ z2) = z4 at *
    clear hb4 hbl4 hg4
    go_wp2_with fail
    go_ret
    exact ⟨_, _, z4, rfl, A4.out, NF3.out, by omega, hbw4⟩
end Go.Proofs.YtglkjbkpgfencaaGreatDoor

namespace Go.Proofs.YtglkjbkpgfencaaGreatDoor
open Go.RowKit Go.Shelf

end Go.Proofs.YtglkjbkpgfencaaGreatDoor

namespace Go.Proofs.YtglkjbkpgfencaaGreatDoor
open Go.RowKit Go.Shelf

end Go.Proofs.YtglkjbkpgfencaaGreatDoor

namespace Go.Proofs.YtglkjbkpgfencaaGreatDoor
open Go.RowKit Go.Shelf

end Go.Proofs.YtglkjbkpgfencaaGreatDoor

namespace Go.Proofs.YtglkjbkpgfencaaGreatDoor
open Go.RowKit Go.Shelf

end Go.Proofs.YtglkjbkpgfencaaGreatDoor

namespace Go.Proofs.YtglkjbkpgfencaaGreatDoor
open Go.RowKit Go.Shelf

structure Op5 where
  k : Int
  pa : Option Addr
  na : Nat
  ca : Nat
  xa : List Nat
  pb : Option Addr
  nb : Nat
  cb : Nat
  xb : List Nat
  nn : Int
  wd : Nat
structure Scr (w : World) (P : Option Addr) (N C : Nat) (its : List Op5) : Prop where
  len : its.length = N
  cap : N ≤ C
  big : C ≤ maxLen
  ats : ∀ t ∈ its, At w t.pa t.na t.ca t.xa ∧ At w t.pb t.nb t.cb t.xb ∧ t.na ≤ 17592186044416 ∧ t.nb ≤ 17592186044416 ∧ t.wd < B64 ∧ -9223372036854775808 ≤ t.nn ∧ t.nn ≤ 9223372036854775807
  cells : N = 0 ∨ ∃ g off, P = some ⟨g, off, none⟩ ∧ ∀ i (h : i < its.length), w.cell? ⟨g, off + i * 5, none⟩ = some (.int .i64 its[i].k) ∧ w.cell? ⟨g, off + i * 5 + 1, none⟩ = some (.slice its[i].pa its[i].na its[i].ca) ∧
    w.cell? ⟨g, off + i * 5 + 2, none⟩ = some (.slice its[i].pb its[i].nb its[i].cb) ∧ w.cell? ⟨g, off + i * 5 + 3, none⟩ = some (.int .i64 its[i].nn) ∧ w.cell? ⟨g, off + i * 5 + 4, none⟩ = some (U its[i].wd)
theorem Scr.below {w w' : World} {P : Option Addr} {N C : Nat} {its : List Op5} (h : Scr w P N C its) (hb : Below w.heap.size w w') : Scr w' P N C its := by
  refine ⟨h.len, h.cap, h.big, fun t ht => ?_, ?_⟩
  · obtain ⟨h1, h2, h3⟩ := h.ats t ht
    exact ⟨h1.below hb, h2.below hb, h3⟩
  · rcases h.cells with h0 | ⟨g, off, hP, hc⟩
    · exact .inl h0
    · refine .inr ⟨g, off, hP, fun i hi => ?_⟩
      obtain ⟨h0, h1, h2, h3, h4⟩ := hc i hi
      have hl : g < w.heap.size := World.block_lt_of_cell? w _ h0
      exact ⟨(hb.cell (p := ⟨g, off + i * 5, none⟩) hl).trans h0, (hb.cell (p := ⟨g, off + i * 5 + 1, none⟩) hl).trans h1, (hb.cell (p := ⟨g, off + i * 5 + 2, none⟩) hl).trans h2,
        (hb.cell (p := ⟨g, off + i * 5 + 3, none⟩) hl).trans h3, (hb.cell (p := ⟨g, off + i * 5 + 4, none⟩) hl).trans h4⟩

end Go.Proofs.YtglkjbkpgfencaaGreatDoor

