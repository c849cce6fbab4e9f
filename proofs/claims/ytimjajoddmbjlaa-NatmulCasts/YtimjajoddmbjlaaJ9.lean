import Derived.Test.YtimjajoddmbjlaaJ8
import Derived.Shelf.Strconv.Itoa0
import Derived.Deep.LoopGhost
import Derived.Test.YtimjajoddmbjlaaMem
import Derived.Laws.Bits64b
import Derived.Deep.RegionLaw
import Derived.WalkMore
import Derived.Deep.RegionWith
import Derived.Deep.DeepCutAuto
import Derived.Test.YtimjajoddmbjlaaOpenS
import Derived.Deep.Slices
import Derived.Deep.DeepAppendRoom
import Derived.Maps.AppendAt
import Derived.OwnWalk
import Derived.Laws.ResultCell
namespace Go.Proofs.Ytimjajoddmbjlaa
open Go.RowKit Go.Shelf
set_option maxRecDepth 20000
set_option maxHeartbeats 0
def renLen : Ren := ⟨fun x => match x with | 129 => 24 | n => n, fun x => match x with | 53 => 29 | 3 => 3 | 4 => 4 | 46 => 47 | 5 => 5 | 9 => 9 | n => n, fun n => n⟩
theorem laysLen : Lays.n129 Try.prog renLen :=
  { mixed := by kernel_rfl, f129 := Try.func24.trans (congrArg some (by kernel_rfl)),
    t3 := Try.underlying3, a3 := Try.isAgg3, z3 := Try.sizeOf3, v3 := Try.zeroValue3, t4 := Try.underlying4, a4 := Try.isAgg4, z4 := Try.sizeOf4, v4 := Try.zeroValue4,
    t5 := Try.underlying5, a5 := Try.isAgg5, z5 := Try.sizeOf5, v5 := Try.zeroValue5, t9 := Try.underlying9, a9 := Try.isAgg9, z9 := Try.sizeOf9, v9 := Try.zeroValue9,
    t46 := Try.underlying47, a46 := Try.isAgg47, z46 := Try.sizeOf47, v46 := Try.zeroValue47, t53 := Try.underlying29, a53 := Try.isAgg29, z53 := Try.sizeOf29, v53 := Try.zeroValue29 }

def bitsN (n : Nat) : Nat := if n = 0 then 0 else n.log2 + 1
theorem bitsN_zero : bitsN 0 = 0 := rfl
theorem bitsN_lt (n : Nat) : n < 2 ^ bitsN n := by
  unfold bitsN
  split
  · rename_i h; subst h; decide
  · exact Nat.lt_log2_self
theorem bitsN_le (n : Nat) (h : n ≠ 0) : 2 ^ (bitsN n - 1) ≤ n := by
  unfold bitsN
  rw [if_neg h, Nat.add_sub_cancel]
  exact Nat.log2_self_le h
theorem bitsN_unique {n k : Nat} (h1 : n < 2 ^ k) (h2 : n ≠ 0 → 2 ^ (k - 1) ≤ n) (h3 : n = 0 → k = 0) : bitsN n = k := by
  by_cases h0 : n = 0
  · subst h0; rw [h3 rfl]; rfl
  · have a1 := bitsN_lt n
    have a2 := bitsN_le n h0
    have b2 := h2 h0
    have c1 : bitsN n - 1 < k := (Nat.pow_lt_pow_iff_right (by decide : 1 < 2)).1 (Nat.lt_of_le_of_lt a2 h1)
    have c2 : k - 1 < bitsN n := (Nat.pow_lt_pow_iff_right (by decide : 1 < 2)).1 (Nat.lt_of_le_of_lt b2 a1)
    have c3 : bitsN n ≠ 0 := by unfold bitsN; rw [if_neg h0]; omega
    omega
theorem bitsN_half (n : Nat) (h : n ≠ 0) : bitsN n = 1 + bitsN (n / 2) := by
  refine bitsN_unique ?_ ?_ (fun e => absurd e h)
  · have := bitsN_lt (n / 2)
    rw [Nat.add_comm, Nat.pow_succ]; omega
  · intro _
    by_cases h2 : n / 2 = 0
    · rw [h2]; simp [bitsN]; omega
    · have a := bitsN_le _ h2
      have c3 : bitsN (n / 2) ≠ 0 := by unfold bitsN; rw [if_neg h2]; omega
      have e : 1 + bitsN (n / 2) - 1 = bitsN (n / 2) - 1 + 1 := by omega
      rw [e, Nat.pow_succ]; omega
theorem bitLen_eq : ∀ (k n : Nat), n < 2 ^ k → k ≤ 64 → Lib.bitLen n = bitsN n := by
  intro k
  induction k with
  | zero => intro n h _; have : n = 0 := by simpa using h
            subst this; rfl
  | succ k ih =>
    intro n h hk
    by_cases h0 : n = 0
    · subst h0; rfl
    · rw [Lib.bitLen_half n h0 (Nat.lt_of_lt_of_le h (Nat.pow_le_pow_right (by decide) hk)), bitsN_half n h0, ih (n / 2) (by rw [Nat.pow_succ] at h; omega) (by omega)]

theorem B64_two_pow : B64 = 2 ^ 64 := rfl
theorem B64_pow (k : Nat) : B64 ^ k = 2 ^ (64 * k) := by rw [B64_two_pow, ← Nat.pow_mul]
theorem bitsN_top {lo x k l : Nat} (hlo : lo < 2 ^ k) (h1 : x < 2 ^ l) (h2 : 2 ^ (l - 1) ≤ x) (hl : l ≠ 0) : bitsN (lo + 2 ^ k * x) = k + l := by
  have hx : 0 < x := Nat.lt_of_lt_of_le (Nat.two_pow_pos _) h2
  have hp := Nat.two_pow_pos k
  have hk : 2 ^ k * 1 ≤ 2 ^ k * x := Nat.mul_le_mul_left _ hx
  refine bitsN_unique ?_ (fun _ => ?_) (fun e => by omega)
  · have := Nat.mul_le_mul_left (2 ^ k) (show x + 1 ≤ 2 ^ l from h1)
    rw [Nat.mul_add, ← Nat.pow_add] at this; omega
  · have := Nat.mul_le_mul_left (2 ^ k) h2
    rw [← Nat.pow_add] at this
    rw [show k + l - 1 = k + (l - 1) by omega]; omega
theorem bitsN_list {us : List Nat} {m x : Nat} (hd : Dig B64 us) (ht : Top us) (hl : us.length = m) (hm : m ≠ 0) (hx : x = us.getD (m - 1) 0) : bitsN (valB B64 us) = 64 * (m - 1) + bitsN x := by
  have h1 := valB_lt B64_pos (hd.take (m - 1))
  rw [List.length_take, hl, Nat.min_eq_left (by omega), B64_pow] at h1
  have hx0 : x ≠ 0 := by
    rw [hx]
    refine ht _ ?_
    rw [List.getLast?_eq_getElem?, hl, List.getD_eq_getElem?_getD, List.getElem?_eq_getElem (by omega)]; rfl
  have e : valB B64 us = valB B64 (us.take (m - 1)) + B64 ^ (m - 1) * x := by
    have := valB_take_succ B64 us (m - 1) (by omega)
    rw [show m - 1 + 1 = m by omega, List.take_of_length_le (by omega), ← hx] at this
    exact this
  rw [e, B64_pow]
  exact bitsN_top h1 (bitsN_lt x) (bitsN_le x hx0) (by unfold bitsN; rw [if_neg hx0]; omega)

theorem len_any (x : Nat) (w : World) (hx : x < B64) : Calls Try.prog 24 #[U x] w fun e w' => e = .returned (.int .i64 (bitsN x)) ∧ w' = w := by
  rw [B64_eq] at hx
  have h := Any.bits_Len64 laysLen (x : Int) w (by omega) (by omega)
  rw [Int.toNat_natCast, bitLen_eq 64 x hx (Nat.le_refl _)] at h
  exact h

theorem bits_any {p : Option Addr} {n c : Nat} {xs : List Nat} {w : World} (h : At w p n c xs) (hn : n ≤ 17592186044416) :
    Calls Try.prog 10 #[.slice p n c] w fun e w' => e = .returned (.int .i64 (bitsN (valB B64 xs))) ∧ w' = w := by
  obtain ⟨res, hres⟩ : ∃ res, res = bitsN (valB B64 xs) := ⟨_, rfl⟩
  rw [← hres]
  have HRES : Hid (res = bitsN (valB B64 (trimL xs))) := by rw [valB_trimL]; exact hres
  clear hres
  go_enter Try.func10, Try.ntmps10
  go_wp2_with fail
  refine (trim_any h).mono ?_
  rintro e w' ⟨p1, m, rfl, hm, hp, hw⟩
  obtain rfl := hw.symm
  have A := h.trim hm hp
  have tx := Top_trimL xs
  have hle := trimL_length_le xs
  rw [h.len, ← hm] at hle
  clear hw hm hp
  generalize trimL xs = us at *
  by_cases h0 : m = 0
  · subst h0
    have hu : us = [] := List.eq_nil_of_length_eq_zero A.len
    have HR : Hid (res = 0) := by have := HRES.out; rw [hu] at this; exact this
    clear hu
    go_wp2_with fail
    go_ret
    exact ⟨ret_int (by have := HR.out; omega), rfl⟩
  · obtain ⟨g, off, rfl, hc⟩ := A.cells.resolve_left h0
    obtain ⟨x, hx⟩ : ∃ x, x = us.getD (m - 1) 0 := ⟨_, rfl⟩
    have hcx : w.cell? ⟨g, off + (m - 1), none⟩ = some (U x) := by rw [hx]; exact hc _ (by omega)
    have h0' : ((m : Int) == 0) = false := by simp; omega
    have hxb : x < B64 := by rw [hx]; exact A.dig.getD B64_pos _
    have HR : Hid (res = 64 * (m - 1) + bitsN x) := HRES.out.trans (bitsN_list A.dig tx A.len h0 hx)
    have hbx : bitsN x ≤ 64 := by
      have h1 : bitsN x - 1 < 64 ∨ x = 0 := by
        by_cases e : x = 0
        · exact .inr e
        · refine .inl ((Nat.pow_lt_pow_iff_right (by decide : 1 < 2)).1 (Nat.lt_of_le_of_lt (bitsN_le x e) ?_))
          rw [B64_two_pow] at hxb; exact hxb
      rcases h1 with h1 | rfl
      · omega
      · simp [bitsN]
    clear hc hx
    go_wp2_with fail
    refine (len_any x _ hxb).mono ?_
    rintro e w' ⟨rfl, hw⟩
    obtain rfl := hw.symm
    clear hw
    go_wp2_with fail
    go_ret
    exact ⟨ret_int (by have := HR.out; omega), rfl⟩
end Go.Proofs.Ytimjajoddmbjlaa
namespace Go.Proofs.Ytimjajoddmbjlaa
open Go.RowKit
set_option maxRecDepth 20000
set_option maxHeartbeats 0
theorem Ans.ok {B : Nat} {w' : World} {e : Ending} {n : Nat} (h : Ans B w' e n) (hn : n < LIM) : ∃ p m zs, e = .returned (.tuple #[.slice p m m, .int .i64 0]) ∧ Own B w' p m zs ∧ Nf B64 zs n ∧ m ≤ 8192 := by
  rcases h with ⟨_, h⟩ | ⟨h, _⟩
  · exact h
  · omega
theorem Ans.no {B : Nat} {w' : World} {e : Ending} {n : Nat} (h : Ans B w' e n) (hn : LIM ≤ n) : e = .returned (.tuple #[.slice none 0 0, .int .i64 5]) := by
  rcases h with ⟨h, _⟩ | ⟨_, h⟩
  · omega
  · exact h
theorem lit_at (w : World) (cs : Array Value) (xs : List Nat) (n : Nat) (hcs : cs = (cellsU xs).toArray) (hn : xs.length = n) (hd : Dig B64 xs) (hb : n ≤ 1000) : At (w.alloc (.cells cs 29)) (some ⟨w.heap.size, 0, none⟩) n n xs := by
  subst hcs
  have h : Blk (w.alloc (.cells (cellsU xs).toArray 29)) w.heap.size xs := heap_alloc_new w _
  exact h.at_ hd hn (by unfold maxLen; omega)
theorem lit_at1 (w : World) (o : Obj) (cs : Array Value) (xs : List Nat) (n : Nat) (hcs : cs = (cellsU xs).toArray) (hn : xs.length = n) (hd : Dig B64 xs) (hb : n ≤ 1000) : At ((w.alloc o).alloc (.cells cs 29)) (some ⟨w.heap.size + 1, 0, none⟩) n n xs := by
  have := lit_at (w.alloc o) cs xs n hcs hn hd hb
  rw [World.size_alloc] at this; exact this
theorem below1 (w : World) (o : Obj) : Below w.heap.size w (w.alloc o) := (Below.refl _ _).alloc (Nat.le_refl _) o
theorem below2 (w : World) (o o' : Obj) : Below w.heap.size w ((w.alloc o).alloc o') := (below1 w o).alloc (by simp) o'
theorem Below.on {w w1 w2 : World} (h : Below w.heap.size w w1) (k : Below w1.heap.size w1 w2) : Below w.heap.size w w2 := h.trans (k.mono h.size)
def TOP : Nat := 18446744073709551615
theorem dig2 {x y : Nat} (h : x < B64) (k : y < B64) : Dig B64 [x, y] := Dig.cons h (Dig.cons k (Dig.nil _))
theorem nf_top : Nf B64 [TOP] TOP := ⟨dig1 (by decide), by intro x hx; simp at hx; subst hx; decide, by simp [valB]⟩
theorem nf_one {x : Nat} (h : x < B64) (h0 : x ≠ 0) : Nf B64 [x] x := ⟨dig1 h, by intro y hy; simp at hy; omega, by simp [valB]⟩
theorem nf_B64 : Nf B64 [0, 1] (TOP + 1) := ⟨dig2 (by decide) (by decide), by intro x hx; simp at hx; omega, by simp [valB, B64, TOP]⟩
theorem nf_tt : Nf B64 [1, TOP - 1] (TOP * TOP) := ⟨dig2 (by decide) (by decide), by intro x hx; simp [TOP] at hx; omega, by simp [valB, B64, TOP]⟩
theorem nf_bb : Nf B64 [0, 0, 1] ((TOP + 1) * (TOP + 1)) := ⟨Dig.cons (by decide) (dig2 (by decide) (by decide)), by intro x hx; simp at hx; omega, by simp [valB, B64, TOP]⟩

theorem same_t {p q : Option Addr} {n m c d : Nat} {xs : List Nat} {w : World} (h : At w p n c xs) (k : At w q m d xs) :
    Calls Try.prog 14 #[.slice p n c, .slice q m d] w fun e w' => e = .returned (.bool true) ∧ Below w.heap.size w w' := by
  refine (same_any h k).mono ?_
  rintro e w' ⟨rfl, r, rfl⟩
  exact ⟨ret_bool (by simp), bDrewN (Below.refl _ _) r⟩
theorem nf_of_form {xs : List Nat} (hd : Dig B64 xs) (hf : formB xs = true) : Nf B64 xs (valB B64 xs) := (formB_nf hf hd).1
theorem word_any (v : Nat) (w : World) (hv : v < B64) :
    Calls Try.prog 36 #[U v] w fun e w' => ∃ p m zs, e = .returned (.slice p m m) ∧ Own w.heap.size w' p m zs ∧ Nf B64 zs v ∧ m ≤ 1 ∧ Below w.heap.size w w' := by
  by_cases h0 : v = 0
  · subst h0
    go_enter Try.func36, Try.ntmps36
    go_wp2_with fail
    go_ret
    exact ⟨none, 0, [], rfl, ⟨rfl, Dig.nil _, .inl rfl⟩, Nf.nil _, by omega, Below.refl _ _⟩
  · have h0' : ((v : Int) == 0) = false := by simp; omega
    go_enter Try.func36, Try.ntmps36
    go_wp2_with fail
    go_ret
    have hbk : Blk (w.alloc (.cells #[U v] 29)) w.heap.size [v] := heap_alloc_new w _
    exact ⟨_, 1, [v], rfl, hbk.own (dig1 hv) (Nat.le_refl _), nf_one hv h0, by omega, below1 w _⟩
theorem sqr_any {p : Option Addr} {n c : Nat} {xs : List Nat} {a : Nat} {w : World} (h : At w p n c xs) (hx : Nf B64 xs a) (hlx : n ≤ 8192) :
    Calls Try.prog 19 #[.slice p n c] w fun e w' => Ans w.heap.size w' e (a * a) ∧ Below w.heap.size w w' := by
  have HX : Hid (Nf B64 xs a) := hx
  clear hx
  go_enter Try.func19, Try.ntmps19
  go_wp2_with fail
  refine (mul_any h h HX.out HX.out hlx hlx).mono ?_
  rintro e w1 ⟨ha, hb⟩
  rcases ha with ⟨hl, p1, m1, zs, rfl, ho, hn1, hm1⟩ | ⟨hl, rfl⟩
  · have HL : Hid (a * a < LIM) := hl
    clear hl
    go_wp2_with fail
    go_ret2
    exact ⟨.inl ⟨HL.out, p1, m1, zs, rfl, ho, hn1, hm1⟩, hb⟩
  · have HL : Hid (LIM ≤ a * a) := hl
    clear hl
    go_wp2_with fail
    go_ret2
    exact ⟨.inr ⟨HL.out, rfl⟩, hb⟩

theorem told_t {p q : Option Addr} {n m c d : Nat} {xs : List Nat} {w : World} (h : At w p n c xs) (k : At w q m d xs) :
    Calls Try.prog 16 #[.slice p n c, .int .i64 0, .slice q m d, .int .i64 0] w fun e w' => e = .returned (.bool true) ∧ Below w.heap.size w w' := by
  go_enter Try.func16, Try.ntmps16
  go_wp2_with fail
  refine (same_t h k).mono ?_
  rintro e w1 ⟨rfl, hb⟩
  go_wp2_with fail
  go_ret
  exact ⟨rfl, hb⟩

theorem awake_any (w : World) : Calls Try.prog 6 #[] w fun e w' => e = .returned (.bool true) ∧ Below w.heap.size w w' := by
  go_enter Try.func6, Try.ntmps6
  go_wp2_with fail
  refine (mul_any ((lit_at w _ [TOP] 1 rfl rfl nf_top.dig (by omega)).alloc _) (lit_at1 w _ _ [TOP] 1 rfl rfl nf_top.dig (by omega)) nf_top nf_top (by omega) (by omega)).mono ?_
  rintro e w1 ⟨ha, hb1⟩
  obtain ⟨p1, m1, zs, rfl, ho1, hn1, hm1⟩ := ha.ok (nf_tt.lim.1 (by decide))
  have hzs : zs = [1, TOP - 1] := hn1.inj B64_one nf_tt
  subst hzs
  have hb : Below w.heap.size w w1 := Below.on (below2 w _ _) hb1
  have A1 := ho1.at_ hm1
  clear ha hn1 hb1 ho1
  go_wp2_with fail
  refine (sqr_any (lit_at w1 _ [0, 1] 2 rfl rfl nf_B64.dig (by omega)) nf_B64 (by omega)).mono ?_
  rintro e w2 ⟨ha, hb2⟩
  obtain ⟨p2, m2, zs, rfl, ho2, hn2, hm2⟩ := ha.ok (nf_bb.lim.1 (by decide))
  have hzs : zs = [0, 0, 1] := hn2.inj B64_one nf_bb
  subst hzs
  have hb' : Below w1.heap.size w1 w2 := Below.on (below1 w1 _) hb2
  have A2 := A1.below hb'
  have B2 := ho2.at_ hm2
  have hbw : Below w.heap.size w w2 := Below.on hb hb'
  clear ha hn2 hb hb' hb2 A1 ho2
  go_wp2_with fail
  refine (told_t (A2.alloc _) (lit_at w2 _ [1, TOP - 1] 2 rfl rfl nf_tt.dig (by omega))).mono ?_
  rintro e w3 ⟨rfl, hb3⟩
  have hb' : Below w2.heap.size w2 w3 := Below.on (below1 w2 _) hb3
  have B3 := B2.below hb'
  have hbw3 : Below w.heap.size w w3 := Below.on hbw hb'
  clear hb3 hb' hbw A2 B2
  go_wp2_with fail
  refine (told_t (B3.alloc _) (lit_at w3 _ [0, 0, 1] 3 rfl rfl nf_bb.dig (by omega))).mono ?_
  rintro e w4 ⟨rfl, hb4⟩
  have hbw4 : Below w.heap.size w w4 := Below.on hbw3 (Below.on (below1 w3 _) hb4)
  clear hbw3 hb4 B3
  go_wp2_with fail
  go_ret
  exact ⟨rfl, hbw4⟩
def B32 : Nat := 4294967296
theorem B32_pos : 0 < B32 := by decide
abbrev V (n : Nat) : Value := .int .u32 (n : Int)

structure At32 (w : World) (p : Option Addr) (n c : Nat) (xs : List Nat) : Prop where
  len : xs.length = n
  cap : n ≤ c
  big : c ≤ maxLen
  dig : Dig B32 xs
  cells : n = 0 ∨ ∃ g off, p = some ⟨g, off, none⟩ ∧ ∀ j, j < n → w.cell? ⟨g, off + j, none⟩ = some (V (xs.getD j 0))
theorem At32.below {w w' : World} {p : Option Addr} {n c : Nat} {xs : List Nat} (h : At32 w p n c xs) (hb : Below w.heap.size w w') : At32 w' p n c xs := by
  refine ⟨h.len, h.cap, h.big, h.dig, ?_⟩
  rcases h.cells with h0 | ⟨g, off, rfl, hc⟩
  · exact .inl h0
  · exact .inr ⟨g, off, rfl, fun j hj => (hb.cell (p := ⟨g, off + j, none⟩) (World.block_lt_of_cell? w _ (hc j hj))).trans (hc j hj)⟩
theorem At32.drewN {w : World} {p : Option Addr} {n c : Nat} {xs : List Nat} (h : At32 w p n c xs) (q : Nat) : At32 (w.drewN q) p n c xs := ⟨h.len, h.cap, h.big, h.dig, h.cells⟩
theorem At32.alloc {w : World} {p : Option Addr} {n c : Nat} {xs : List Nat} (h : At32 w p n c xs) (o : Obj) : At32 (w.alloc o) p n c xs :=
  h.below ((Below.refl _ _).alloc (Nat.le_refl _) o)
theorem At32.take {w : World} {p : Option Addr} {n c : Nat} {xs : List Nat} (h : At32 w p n c xs) (m : Nat) (hm : m ≤ n) (c' : Nat) (hc : m ≤ c') (hb : c' ≤ maxLen) : At32 w p m c' (xs.take m) := by
  refine ⟨by rw [List.length_take, h.len]; omega, hc, hb, h.dig.take m, ?_⟩
  rcases h.cells with h0 | ⟨g, off, rfl, hcl⟩
  · exact .inl (by omega)
  · refine .inr ⟨g, off, rfl, fun j hj => ?_⟩
    have e : (xs.take m).getD j 0 = xs.getD j 0 := by rw [List.getD_eq_getElem?_getD, List.getD_eq_getElem?_getD, List.getElem?_take, if_pos hj]
    rw [e]; exact hcl j (by omega)
theorem At32.empty (w : World) (p : Option Addr) (c : Nat) (hb : c ≤ maxLen) : At32 w p 0 c [] := ⟨rfl, Nat.zero_le _, hb, Dig.nil _, .inl rfl⟩
def cellsV (xs : List Nat) : List Value := xs.map V
def Blk32 (w : World) (g : Nat) (xs : List Nat) : Prop := w.heap[g]? = some (.cells (cellsV xs).toArray 63 (0, 0))
theorem cellsV_get (xs : List Nat) (j : Nat) (h : j < xs.length) : (cellsV xs)[j]? = some (V (xs.getD j 0)) := by
  unfold cellsV
  rw [List.getElem?_map, List.getElem?_eq_getElem h, List.getD_eq_getElem?_getD, List.getElem?_eq_getElem h]; rfl
theorem Blk32.cell {w : World} {g : Nat} {xs : List Nat} (h : Blk32 w g xs) (j : Nat) (hj : j < xs.length) : w.cell? ⟨g, j, none⟩ = some (V (xs.getD j 0)) := by
  rw [cell_of_row w g j _ _ _ h]
  rw [List.getElem?_toArray]; exact cellsV_get xs j hj
theorem Blk32.lt {w : World} {g : Nat} {xs : List Nat} (h : Blk32 w g xs) : g < w.heap.size := (Array.getElem?_eq_some_iff.1 h).1
theorem cellsV_length (xs : List Nat) : (cellsV xs).length = xs.length := by simp [cellsV]
theorem At32.src {w : World} {p : Option Addr} {n c : Nat} {xs : List Nat} (h : At32 w p n c xs) (hn : 0 < n) : ∃ ad, p = some ad ∧ ∀ j v, (cellsV xs)[j]? = some v → w.cell? (ad.add j) = some v := by
  rcases h.cells with h0 | ⟨g, off, rfl, hc⟩
  · omega
  · refine ⟨_, rfl, fun j v hv => ?_⟩
    have hj : j < xs.length := by
      have := (List.getElem?_eq_some_iff.1 hv).1
      rwa [cellsV_length] at this
    have hadd : (⟨g, off, none⟩ : Addr).add j = ⟨g, off + j, none⟩ := by unfold Addr.add; split <;> simp_all
    rw [hadd, hc j (by have := h.len; omega)]
    rw [cellsV_get xs j hj] at hv; exact hv

theorem Blk32.at_ {w : World} {g : Nat} {xs : List Nat} (h : Blk32 w g xs) (hd : Dig B32 xs) {n : Nat} (hn : xs.length = n) (hb : n ≤ maxLen) : At32 w (some ⟨g, 0, none⟩) n n xs := by
  subst hn
  exact ⟨rfl, Nat.le_refl _, hb, hd, .inr ⟨g, 0, rfl, fun j hj => by rw [Nat.zero_add]; exact h.cell j hj⟩⟩
theorem At32.cellAt {w : World} {g off n c : Nat} {xs : List Nat} (h : At32 w (some ⟨g, off, none⟩) n c xs) (j : Nat) (hj : j < n) : w.cell? ⟨g, off + j, none⟩ = some (V (xs.getD j 0)) := by
  obtain ⟨g', o', he, hcell⟩ := h.cells.resolve_left (by omega)
  simp only [Option.some.injEq, Addr.mk.injEq, and_true] at he
  obtain ⟨rfl, rfl⟩ := he
  exact hcell j hj
def shlW (x s : Nat) : Nat := x * 2 ^ s % B64
def cin (zs : List Nat) (s j : Nat) : Nat := if j = 0 then 0 else zs.getD (j - 1) 0 * 2 ^ s / B64
theorem up_step {zs T : List Nat} {s a ov k d : Nat} (ha : a < zs.length) (hd : d = shlW (zs.getD a 0) s + cin zs s a) (h : valB B64 T + B64 ^ k * ov = 2 ^ s * valB B64 (zs.drop (a + 1)) + cin zs s (a + 1)) :
    valB B64 (d :: T) + B64 ^ (k + 1) * ov = 2 ^ s * valB B64 (zs.drop a) + cin zs s a := by
  have e1 : cin zs s (a + 1) = zs.getD a 0 * 2 ^ s / B64 := by unfold cin; rw [if_neg (by omega), Nat.add_sub_cancel]
  have e2 := Nat.mod_add_div (zs.getD a 0 * 2 ^ s) B64
  rw [valB_cons, valB_drop _ zs a ha, hd]
  unfold shlW
  rw [e1] at h
  have e3 : B64 * (valB B64 T + B64 ^ k * ov) = B64 * (2 ^ s * valB B64 (zs.drop (a + 1)) + zs.getD a 0 * 2 ^ s / B64) := by rw [h]
  rw [Nat.mul_add, Nat.mul_add] at e3
  rw [Nat.pow_succ, Nat.mul_add]
  have e4 : B64 ^ k * B64 * ov = B64 * (B64 ^ k * ov) := by rw [Nat.mul_comm (B64 ^ k) B64, Nat.mul_assoc]
  have e5 : 2 ^ s * (B64 * valB B64 (zs.drop (a + 1))) = B64 * (2 ^ s * valB B64 (zs.drop (a + 1))) := by rw [← Nat.mul_assoc, ← Nat.mul_assoc, Nat.mul_comm (2 ^ s) B64]
  rw [e4, e5, Nat.mul_comm (2 ^ s) (zs.getD a 0)]
  generalize B64 * (B64 ^ k * ov) = X1 at *
  generalize B64 * (2 ^ s * valB B64 (zs.drop (a + 1))) = X2 at *
  generalize B64 * valB B64 T = X3 at *
  generalize B64 * (zs.getD a 0 * 2 ^ s / B64) = X4 at *
  generalize zs.getD a 0 * 2 ^ s = X5 at *
  omega
end Go.Proofs.Ytimjajoddmbjlaa
namespace Go.Proofs.Ytimjajoddmbjlaa
set_option maxRecDepth 20000
set_option maxHeartbeats 0
theorem kn_exit {b y1 y0 u d q r : Nat} (hu : u < y1 * b + y0) (hq : q * y1 + r = u) (hQ : (u * b + d) / (y1 * b + y0) ≤ q) (hc : q * y0 ≤ b * r + d) : q = (u * b + d) / (y1 * b + y0) := by
  refine Nat.le_antisymm ((Nat.le_div_iff_mul_le (by omega)).2 ?_) hQ
  have a1 : q * (y1 * b + y0) = q * y1 * b + q * y0 := by rw [Nat.mul_add, Nat.mul_assoc]
  have a2 : u * b = q * y1 * b + r * b := by rw [← hq, Nat.add_mul]
  rw [Nat.mul_comm b r] at hc
  omega
theorem kn_far {b y0 d q r : Nat} (h0 : y0 < b) (hq : q ≤ b) (hr : b ≤ r) : q * y0 ≤ b * r + d := by
  have a1 : q * y0 ≤ b * b := Nat.mul_le_mul hq (by omega)
  have a2 : b * b ≤ b * r := Nat.mul_le_mul_left b hr
  omega
theorem kn_lt {b y1 y0 u d : Nat} (hd : d < b) (hu : u < y1 * b + y0) : (u * b + d) / (y1 * b + y0) < b := by
  refine (Nat.div_lt_iff_lt_mul (by omega)).2 ?_
  have a2 : b * (u + 1) ≤ b * (y1 * b + y0) := Nat.mul_le_mul_left _ hu
  rw [Nat.mul_add, Nat.mul_one, Nat.mul_comm b u] at a2
  omega
end Go.Proofs.Ytimjajoddmbjlaa
namespace Go.Proofs.Ytimjajoddmbjlaa
open Go.RowKit
set_option maxRecDepth 20000
set_option maxHeartbeats 0
structure Kn (y1 y0 u d q r : Nat) : Prop where
  eq : q * y1 + r = u
  ge : (u * 4294967296 + d) / (y1 * 4294967296 + y0) ≤ q
  le : q ≤ 4294967297
structure KnC (y1 y0 u d : Nat) : Prop where
  hy0 : y0 < 4294967296
  hd : d < 4294967296
  hu : u < y1 * 4294967296 + y0
  hy1 : 4294967296 ≤ 2 * y1
theorem dm (N M : Nat) : N = N / M * M + N % M := by rw [Nat.mul_comm]; exact (Nat.div_add_mod N M).symm
structure KnD (y1 y0 u d q : Nat) (rest : Nat) : Prop where
  lt : q < 4294967296
  eq : u * 4294967296 + d = q * (y1 * 4294967296 + y0) + rest
  rlt : rest < y1 * 4294967296 + y0
theorem Kn.done {y1 y0 u d q r : Nat} (k : Kn y1 y0 u d q r) (h : KnC y1 y0 u d) (hc : q * y0 ≤ 4294967296 * r + d) : KnD y1 y0 u d q ((u * 4294967296 + d) % (y1 * 4294967296 + y0)) := by
  have h1 := kn_exit h.hu k.eq k.ge hc
  have h2 := kn_lt h.hd h.hu
  refine ⟨by omega, ?_, Nat.mod_lt _ (by have := h.hu; omega)⟩
  rw [h1]; exact dm _ _
theorem Kn.far {y1 y0 u d q r : Nat} (k : Kn y1 y0 u d q r) (h : KnC y1 y0 u d) (hq : q ≤ 4294967296) (hr : 4294967296 ≤ r) : KnD y1 y0 u d q ((u * 4294967296 + d) % (y1 * 4294967296 + y0)) :=
  k.done h (kn_far h.hy0 hq hr)
theorem and32 (v : Nat) (h : v < 18446744073709551616) : bits .and .u64 (v : Int) 4294967295 = ((v % 4294967296 : Nat) : Int) := by
  have h1 := bits_and_u64_nat v 4294967295 h (by omega)
  rw [show v &&& 4294967295 = v % 4294967296 from Nat.and_two_pow_sub_one_eq_mod v 32] at h1
  exact h1
end Go.Proofs.Ytimjajoddmbjlaa
namespace Go.Proofs.Ytimjajoddmbjlaa
open Go.RowKit Go.Shelf
set_option maxRecDepth 20000
set_option maxHeartbeats 0
structure SubMulRel (w : World) (g off m : Nat) (zs ys : List Nat) (v k cy : Nat) (dk : List Nat) (wr : World) : Prop where
  wrs : Wr g off m w wr
  row : Row wr g off m dk
  hi : dk.drop k = zs.drop k
  car : cy < B64
  sum : valB B64 (zs.take k) + B64 ^ k * cy = valB B64 (dk.take k) + valB B64 (ys.take k) * v

theorem SubMulRel.step {w : World} {g off m : Nat} {zs ys : List Nat} {v k cy : Nat} {dk : List Nat} {wr : World} (h : SubMulRel w g off m zs ys v k cy dk wr) (hk : k < m)
    {x z l d : Nat} (hz : z = dk.getD k 0) (hx : x = ys.getD k 0) (hs : l + x * v + cy = z + B64 * d) (hl : l < B64) (hd : d < B64) :
    SubMulRel w g off m zs ys v (k + 1) d (dk.set k l) (wr.setCell ⟨g, off + k, none⟩ (U l)) := by
  have hlen := h.row.len
  refine ⟨h.wrs.setCell (off + k) ⟨by omega, by omega⟩ _, h.row.set k l hk hl, ?_, hd, ?_⟩
  · rw [drop_set_lt]; exact drop_succ_of_drop h.hi
  · have hzz : z = zs.getD k 0 := hz.trans (getD_of_drop h.hi)
    rw [take_set_succ dk k l (by omega), valB_snoc, List.length_take, hlen, Nat.min_eq_left (by omega), valB_take_any _ zs k, valB_take_any _ ys k, ← hzz, ← hx, Nat.pow_succ, Nat.add_mul]
    have e1 := h.sum
    have e2 : B64 ^ k * (l + x * v + cy) = B64 ^ k * (z + B64 * d) := by rw [hs]
    rw [Nat.mul_add, Nat.mul_add, Nat.mul_add, ← Nat.mul_assoc] at e2
    have e3 : B64 ^ k * x * v = B64 ^ k * (x * v) := Nat.mul_assoc _ _ _
    have e4 : B64 ^ k * B64 * d = B64 ^ k * (B64 * d) := Nat.mul_assoc _ _ _
    rw [e3, e4]
    rw [← Nat.mul_assoc] at e2
    generalize B64 ^ k * x * v = X0 at *
    generalize B64 ^ k * (x * v) = X1 at *
    generalize B64 ^ k * B64 * d = X2 at *
    generalize B64 ^ k * (B64 * d) = X3 at *
    generalize B64 ^ k * z = X4 at *
    generalize B64 ^ k * cy = X5 at *
    generalize B64 ^ k * l = X6 at *
    omega
theorem At.cellAt {w : World} {g off n c : Nat} {xs : List Nat} (h : At w (some ⟨g, off, none⟩) n c xs) (j : Nat) (hj : j < n) : w.cell? ⟨g, off + j, none⟩ = some (U (xs.getD j 0)) := by
  obtain ⟨g', o', he, hcell⟩ := h.cells.resolve_left (by omega)
  simp only [Option.some.injEq, Addr.mk.injEq, and_true] at he
  obtain ⟨rfl, rfl⟩ := he
  exact hcell j hj
structure WinRel (w : World) (g off n : Nat) (W D d b : Nat) (ws : List Nat) (wr : World) : Prop where
  wrs : Wr g off (n + 1) w wr
  row : Row wr g off (n + 1) ws
  db : d < B64
  bb : b ≤ 1
  ge : W / D ≤ d
  sum : valB B64 ws + D * d = W + B64 ^ (n + 1) * b
theorem WinRel.done {w : World} {g off n W D d : Nat} {ws : List Nat} {wr : World} (h : WinRel w g off n W D d 0 ws wr) (hD : 0 < D) : d = W / D ∧ valB B64 ws = W % D := by
  have h1 := h.sum; have h2 := h.ge
  rw [Nat.mul_zero, Nat.add_zero] at h1
  have h3 : d ≤ W / D := (Nat.le_div_iff_mul_le hD).2 (by rw [Nat.mul_comm]; omega)
  have h4 : d = W / D := by omega
  refine ⟨h4, ?_⟩
  have h5 := Nat.div_add_mod W D
  rw [← h4] at h5
  omega
structure DigRel (w : World) (gq gr L n : Nat) (A D : Nat) (k : Nat) (qs rs : List Nat) (wr : World) : Prop where
  bel : ∀ B, B ≤ gq → B ≤ gr → Below B w wr
  rowq : Row wr gq 0 L qs
  rowr : Row wr gr 0 (L + n) rs
  cell : ∀ b o, b ≠ gq → b ≠ gr → wr.cell? ⟨b, o, none⟩ = w.cell? ⟨b, o, none⟩
  lt : valB B64 (rs.drop (L - k)) < D
  sum : valB B64 rs + B64 ^ (L - k) * valB B64 (qs.drop (L - k)) * D = A

theorem win_take (rs : List Nat) (a m : Nat) (h : a + m ≤ rs.length) : valB B64 rs = valB B64 (rs.take a) + B64 ^ a * (valB B64 ((rs.drop a).take m) + B64 ^ m * valB B64 (rs.drop (a + m))) := by
  rw [valB_split B64 rs a (by omega), valB_split B64 (rs.drop a) m (by rw [List.length_drop]; omega), List.drop_drop]
def winPut (rs ws : List Nat) (a : Nat) : List Nat := rs.take a ++ ws ++ rs.drop (a + ws.length)
theorem winPut_len (rs ws : List Nat) (a : Nat) (h : a + ws.length ≤ rs.length) : (winPut rs ws a).length = rs.length := by
  unfold winPut; simp; omega
theorem winPut_drop (rs ws : List Nat) (a : Nat) (h : a + ws.length ≤ rs.length) : (winPut rs ws a).drop a = ws ++ rs.drop (a + ws.length) := by
  unfold winPut
  rw [List.append_assoc, List.drop_append_of_le_length (by simp; omega), List.drop_of_length_le (by simp; omega), List.nil_append]
theorem winPut_take (rs ws : List Nat) (a : Nat) (h : a + ws.length ≤ rs.length) : (winPut rs ws a).take a = rs.take a := by
  unfold winPut
  rw [List.append_assoc, List.take_append_of_le_length (by simp; omega), List.take_take, Nat.min_self]
theorem winPut_get (rs ws : List Nat) (a j : Nat) (h : a + ws.length ≤ rs.length) : (winPut rs ws a).getD j 0 = if a ≤ j ∧ j < a + ws.length then ws.getD (j - a) 0 else rs.getD j 0 := by
  unfold winPut
  rw [List.getD_eq_getElem?_getD, List.getElem?_append, List.getElem?_append]
  simp only [List.length_append, List.length_take, Nat.min_eq_left (by omega : a ≤ rs.length)]
  by_cases h1 : j < a
  · rw [if_pos (by omega), if_pos (by omega), List.getElem?_take, if_pos h1, if_neg (by omega), List.getD_eq_getElem?_getD]
  · by_cases h2 : j < a + ws.length
    · rw [if_pos h2, if_neg h1, if_pos ⟨by omega, h2⟩, List.getD_eq_getElem?_getD]
    · rw [if_neg h2, if_neg (by omega), List.getElem?_drop, List.getD_eq_getElem?_getD]
      congr 2; omega
end Go.Proofs.Ytimjajoddmbjlaa
namespace Go.Proofs.Ytimjajoddmbjlaa
open Go.RowKit
set_option maxRecDepth 20000
set_option maxHeartbeats 0
structure UpRel (w : World) (g n : Nat) (zs : List Nat) (s ov k : Nat) (dk : List Nat) (wr : World) : Prop where
  wrs : Wr g 0 n w wr
  row : Row wr g 0 n dk
  lo : dk.take (n - k) = zs.take (n - k)
  sum : valB B64 (dk.drop (n - k)) + B64 ^ k * ov = 2 ^ s * valB B64 (zs.drop (n - k)) + cin zs s (n - k)

theorem getD_of_take {dk zs : List Nat} {m j : Nat} (h : dk.take m = zs.take m) (hj : j < m) : dk.getD j 0 = zs.getD j 0 := by
  have := congrArg (fun l : List Nat => l[j]?) h
  simp only [List.getElem?_take, hj, if_true] at this
  rw [List.getD_eq_getElem?_getD, List.getD_eq_getElem?_getD, this]
theorem drop_set_at (dk : List Nat) (a y : Nat) (ha : a < dk.length) : (dk.set a y).drop a = y :: dk.drop (a + 1) := by
  rw [drop_getD _ a (by simpa using ha), getD_set dk a y a ha, if_pos rfl, drop_set_lt]
theorem take_set_at (dk : List Nat) (a y : Nat) : (dk.set a y).take a = dk.take a := by
  rw [List.take_set, List.set_eq_of_length_le (by simp; omega)]
theorem take_of_take {dk zs : List Nat} {m j : Nat} (h : dk.take m = zs.take m) (hj : j ≤ m) : dk.take j = zs.take j := by
  have := congrArg (List.take j) h
  rw [List.take_take, List.take_take, Nat.min_eq_left hj] at this
  exact this

theorem UpRel.step {w : World} {g n : Nat} {zs : List Nat} {s ov k : Nat} {dk : List Nat} {wr wr' : World} (h : UpRel w g n zs s ov k dk wr) (hk : k < n) (hz : zs.length = n) {d : Nat}
    (hd : d = shlW (dk.getD (n - 1 - k) 0) s + cin zs s (n - 1 - k)) (hw : Wr g 0 n w wr') (hr : Row wr' g 0 n (dk.set (n - 1 - k) d)) : UpRel w g n zs s ov (k + 1) (dk.set (n - 1 - k) d) wr' := by
  have hl := h.row.len
  have e : n - (k + 1) = n - 1 - k := by omega
  have e2 : n - 1 - k + 1 = n - k := by omega
  refine ⟨hw, hr, ?_, ?_⟩
  · rw [e, take_set_at]; exact take_of_take h.lo (by omega)
  · rw [e, drop_set_at dk _ d (by omega), e2]
    have h1 := h.sum
    rw [← e2] at h1
    have hdz : d = shlW (zs.getD (n - 1 - k) 0) s + cin zs s (n - 1 - k) := by rw [hd, getD_of_take h.lo (by omega)]
    rw [← e2]
    exact up_step (by omega) hdz h1
end Go.Proofs.Ytimjajoddmbjlaa
namespace Go.Proofs.Ytimjajoddmbjlaa
open Go.RowKit Go.Shelf
set_option maxRecDepth 20000
set_option maxHeartbeats 0
theorem Row.win {w : World} {g m : Nat} {rs : List Nat} (h : Row w g 0 m rs) (a l : Nat) (ha : a + l ≤ m) : Row w g a l ((rs.drop a).take l) := by
  have hl := h.len
  refine ⟨by simp; omega, (h.dig.drop a).take l, fun j hj => ?_, fun j hj => ?_⟩
  · have e : ((rs.drop a).take l).getD j 0 = rs.getD (a + j) 0 := by
      rw [List.getD_eq_getElem?_getD, List.getD_eq_getElem?_getD, List.getElem?_take, if_pos hj, List.getElem?_drop]
    rw [e]
    have := h.cell (a + j) (by omega)
    rw [Nat.zero_add] at this; exact this
  · have := h.frozen (a + j) (by omega)
    rw [Nat.zero_add] at this; exact this
theorem Row.put {w w' : World} {g m a l : Nat} {rs ws : List Nat} (h : Row w g 0 m rs) (hwr : Wr g a l w w') (hr : Row w' g a l ws) (ha : a + l ≤ m) : Row w' g 0 m (winPut rs ws a) := by
  have hl := h.len; have hwl := hr.len
  have hle : a + ws.length ≤ rs.length := by omega
  refine ⟨by rw [winPut_len rs ws a hle]; exact hl, ?_, fun j hj => ?_, fun j hj => ?_⟩
  · unfold winPut; exact ((h.dig.take a).append hr.dig).append (h.dig.drop _)
  · rw [winPut_get rs ws a j hle, Nat.zero_add]
    by_cases hc : a ≤ j ∧ j < a + ws.length
    · rw [if_pos hc]
      have := hr.cell (j - a) (by omega)
      rw [show a + (j - a) = j by omega] at this; exact this
    · rw [if_neg hc, hwr.cell g j (by omega)]
      have := h.cell j hj
      rw [Nat.zero_add] at this; exact this
  · rw [hwr.frozen]; exact h.frozen j hj
theorem Row.other {w : World} {g off n : Nat} {xs : List Nat} (h : Row w g off n xs) (g2 o2 : Nat) (v : Value) (hne : g ≠ g2) : Row (w.setCell ⟨g2, o2, none⟩ v) g off n xs := by
  refine ⟨h.len, h.dig, fun j hj => ?_, fun j hj => by rw [World.frozen?_setCell]; exact h.frozen j hj⟩
  exact (World.cell?_setCell_other _ _ _ _ (by intro e; apply hne; have := congrArg Addr.block e; simp at this; omega)).trans (h.cell j hj)
theorem Row.wr {w w' : World} {g off n g2 o2 l2 : Nat} {xs : List Nat} (h : Row w g off n xs) (hwr : Wr g2 o2 l2 w w') (hne : g ≠ g2) : Row w' g off n xs :=
  ⟨h.len, h.dig, fun j hj => (hwr.cell g (off + j) (.inl hne)).trans (h.cell j hj), fun j hj => (hwr.frozen _).trans (h.frozen j hj)⟩
theorem At.wr {w w' : World} {g off n c g2 o2 l2 : Nat} {xs : List Nat} (h : At w (some ⟨g, off, none⟩) n c xs) (hwr : Wr g2 o2 l2 w w') (hne : g ≠ g2) : At w' (some ⟨g, off, none⟩) n c xs :=
  ⟨h.len, h.cap, h.big, h.dig, by
    rcases h.cells with h0 | ⟨g', o', he, hc⟩
    · exact .inl h0
    · refine .inr ⟨g', o', he, fun j hj => ?_⟩
      simp only [Option.some.injEq, Addr.mk.injEq, and_true] at he
      rw [← he.1, ← he.2] at hc ⊢
      exact (hwr.cell g (off + j) (.inl hne)).trans (hc j hj)⟩
theorem dig_abs {P W q r D T Q A : Nat} (hW : q * D + r = W) (h : T + P * W + P * B64 * Q * D = A) : T + P * r + P * (q + B64 * Q) * D = A := by
  subst hW
  have e1 : P * (q + B64 * Q) * D = P * (q * D) + P * B64 * Q * D := by
    rw [Nat.mul_add, Nat.add_mul, Nat.mul_assoc P q D, ← Nat.mul_assoc P B64 Q]
  rw [e1]
  rw [Nat.mul_add] at h
  omega
theorem DigRel.window {w : World} {gq gr L n A D k : Nat} {qs rs : List Nat} {wr : World} (h : DigRel w gq gr L n A D k qs rs wr) (hk : k < L) (hDn : D < B64 ^ n) :
    ∃ a ws, a = L - 1 - k ∧ ws = (rs.drop a).take (n + 1) ∧ Row wr gr a (n + 1) ws ∧ valB B64 ws < B64 * D ∧ valB B64 rs = valB B64 (rs.take a) + B64 ^ a * valB B64 ws ∧ valB B64 (rs.drop (a + (n + 1))) = 0 := by
  have hl := h.rowr.len
  obtain ⟨a, ha⟩ : ∃ a, a = L - 1 - k := ⟨_, rfl⟩
  have hlt := h.lt
  rw [show L - k = a + 1 by omega] at hlt
  have hz : valB B64 (rs.drop (a + (n + 1))) = 0 := by
    have hs := valB_split B64 (rs.drop (a + 1)) n (by rw [List.length_drop]; omega)
    rw [List.drop_drop, show a + 1 + n = a + (n + 1) by omega] at hs
    rcases Nat.eq_zero_or_pos (valB B64 (rs.drop (a + (n + 1)))) with e | e
    · exact e
    · exfalso
      have : B64 ^ n * 1 ≤ B64 ^ n * valB B64 (rs.drop (a + (n + 1))) := Nat.mul_le_mul_left _ e
      omega
  have hw := win_take rs a (n + 1) (by omega)
  rw [hz, Nat.mul_zero, Nat.add_zero] at hw
  refine ⟨a, _, ha, rfl, h.rowr.win a (n + 1) (by omega), ?_, hw, hz⟩
  have hs := valB_split B64 (rs.drop a) (n + 1) (by rw [List.length_drop]; omega)
  rw [List.drop_drop, hz, Nat.mul_zero, Nat.add_zero] at hs
  rw [← hs, valB_drop B64 rs a (by omega)]
  have hb := h.rowr.dig.getD B64_pos a
  have : B64 * (valB B64 (rs.drop (a + 1)) + 1) ≤ B64 * D := Nat.mul_le_mul_left _ hlt
  rw [Nat.mul_add] at this
  omega
theorem DigRel.step {w : World} {gq gr L n A D k : Nat} {qs rs : List Nat} {wr wr' : World} (h : DigRel w gq gr L n A D k qs rs wr) (hk : k < L) (hne : gq ≠ gr) {a q : Nat} {ws ws' : List Nat} (ha : a = L - 1 - k)
    (hrs : valB B64 rs = valB B64 (rs.take a) + B64 ^ a * valB B64 ws) (hz : valB B64 (rs.drop (a + (n + 1))) = 0) (hD : 0 < D) (hq : q = valB B64 ws / D) (hqb : q < B64) (hr : valB B64 ws' = valB B64 ws % D)
    (hwr : Wr gr a (n + 1) wr wr') (hrow : Row wr' gr a (n + 1) ws') : DigRel w gq gr L n A D (k + 1) (qs.set a q) (winPut rs ws' a) (wr'.setCell ⟨gq, a, none⟩ (U q)) := by
  have hl := h.rowr.len; have hql := h.rowq.len; have hwl := hrow.len
  have hle : a + ws'.length ≤ rs.length := by omega
  have e1 : L - (k + 1) = a := by omega
  have e2 : L - k = a + 1 := by omega
  have hdrop : valB B64 ((winPut rs ws' a).drop a) = valB B64 ws % D := by
    rw [winPut_drop rs ws' a hle, valB_append, hwl, hz, Nat.mul_zero, Nat.add_zero, hr]
  refine ⟨fun B h1 h2 => ?_, ?_, ?_, fun b o h1 h2 => ?_, ?_, ?_⟩
  · exact ((h.bel B h1 h2).trans (hwr.below h2)).trans ((Wr.refl gq 0 L wr').setCell a ⟨by omega, by omega⟩ (U q) |>.below h1)
  · have := (h.rowq.wr hwr hne).set a q (by omega) hqb
    rw [Nat.zero_add] at this; exact this
  · exact (h.rowr.put hwr hrow (by omega)).other gq a _ (Ne.symm hne)
  · rw [World.cell?_setCell_other _ _ _ _ (by intro e; apply h1; have := congrArg Addr.block e; simp at this; omega), hwr.cell b o (.inl h2)]
    exact h.cell b o h1 h2
  · rw [e1, hdrop]; exact Nat.mod_lt _ hD
  · have hs := h.sum
    rw [e2, hrs, Nat.pow_succ] at hs
    rw [e1, valB_split B64 (winPut rs ws' a) a (by rw [winPut_len rs ws' a hle]; omega), winPut_take rs ws' a hle, hdrop, drop_set_at qs a q (by omega), valB_cons]
    refine dig_abs (W := valB B64 ws) (q := q) ?_ hs
    rw [hq, Nat.mul_comm]; exact Nat.div_add_mod _ _
structure Row32 (w : World) (g off n : Nat) (xs : List Nat) : Prop where
  len : xs.length = n
  dig : Dig B32 xs
  cell : ∀ j, j < n → w.cell? ⟨g, off + j, none⟩ = some (V (xs.getD j 0))
  frozen : ∀ j, j < n → w.frozen? ⟨g, off + j, none⟩ = false
theorem Row32.at_ {w : World} {g off n c : Nat} {xs : List Nat} (h : Row32 w g off n xs) (hc : n ≤ c) (hb : c ≤ maxLen) : At32 w (some ⟨g, off, none⟩) n c xs :=
  ⟨h.len, hc, hb, h.dig, .inr ⟨g, off, rfl, h.cell⟩⟩
theorem Row32.set {w : World} {g off n : Nat} {xs : List Nat} (h : Row32 w g off n xs) (k y : Nat) (hk : k < n) (hy : y < B32) : Row32 (w.setCell ⟨g, off + k, none⟩ (V y)) g off n (xs.set k y) := by
  refine ⟨by rw [List.length_set]; exact h.len, h.dig.set k hy, fun j hj => ?_, fun j hj => by rw [World.frozen?_setCell]; exact h.frozen j hj⟩
  rw [getD_set xs k y j (by rw [h.len]; exact hk)]
  by_cases e : j = k
  · subst e; rw [if_pos rfl]; exact World.cell?_setCell_same _ _ _ (h.cell j hj)
  · rw [if_neg e]
    exact (World.cell?_setCell_other _ _ _ _ (by intro e2; apply e; have := congrArg Addr.off e2; simp at this; omega)).trans (h.cell j hj)
theorem Row32.drewN {w : World} {g off n : Nat} {xs : List Nat} (h : Row32 w g off n xs) (q : Nat) : Row32 (w.drewN q) g off n xs := ⟨h.len, h.dig, h.cell, h.frozen⟩
theorem Row32.drew {w : World} {g off n : Nat} {xs : List Nat} (h : Row32 w g off n xs) : Row32 w.drew g off n xs := ⟨h.len, h.dig, h.cell, h.frozen⟩
theorem Blk32.frozen {w : World} {g : Nat} {xs : List Nat} (h : Blk32 w g xs) (j : Nat) : w.frozen? ⟨g, j, none⟩ = false := frozen_of_row w g j _ _ h
theorem Blk32.row {w : World} {g : Nat} {xs : List Nat} (h : Blk32 w g xs) (hd : Dig B32 xs) : Row32 w g 0 xs.length xs :=
  ⟨rfl, hd, fun j hj => by rw [Nat.zero_add]; exact h.cell j hj, fun j _ => h.frozen _⟩
theorem Row32.win {w : World} {g m : Nat} {rs : List Nat} (h : Row32 w g 0 m rs) (a l : Nat) (ha : a + l ≤ m) : Row32 w g a l ((rs.drop a).take l) := by
  have hl := h.len
  refine ⟨by simp; omega, (h.dig.drop a).take l, fun j hj => ?_, fun j hj => ?_⟩
  · have e : ((rs.drop a).take l).getD j 0 = rs.getD (a + j) 0 := by
      rw [List.getD_eq_getElem?_getD, List.getD_eq_getElem?_getD, List.getElem?_take, if_pos hj, List.getElem?_drop]
    rw [e]
    have := h.cell (a + j) (by omega)
    rw [Nat.zero_add] at this; exact this
  · have := h.frozen (a + j) (by omega)
    rw [Nat.zero_add] at this; exact this
theorem Row32.put {w w' : World} {g m a l : Nat} {rs ws : List Nat} (h : Row32 w g 0 m rs) (hwr : Wr g a l w w') (hr : Row32 w' g a l ws) (ha : a + l ≤ m) : Row32 w' g 0 m (winPut rs ws a) := by
  have hl := h.len; have hwl := hr.len
  have hle : a + ws.length ≤ rs.length := by omega
  refine ⟨by rw [winPut_len rs ws a hle]; exact hl, ?_, fun j hj => ?_, fun j hj => ?_⟩
  · unfold winPut; exact ((h.dig.take a).append hr.dig).append (h.dig.drop _)
  · rw [winPut_get rs ws a j hle, Nat.zero_add]
    by_cases hc : a ≤ j ∧ j < a + ws.length
    · rw [if_pos hc]
      have := hr.cell (j - a) (by omega)
      rw [show a + (j - a) = j by omega] at this; exact this
    · rw [if_neg hc, hwr.cell g j (by omega)]
      have := h.cell j hj
      rw [Nat.zero_add] at this; exact this
  · rw [hwr.frozen]; exact h.frozen j hj
theorem win_take32 (rs : List Nat) (a m : Nat) (h : a + m ≤ rs.length) : valB B32 rs = valB B32 (rs.take a) + B32 ^ a * (valB B32 ((rs.drop a).take m) + B32 ^ m * valB B32 (rs.drop (a + m))) := by
  rw [valB_split B32 rs a (by omega), valB_split B32 (rs.drop a) m (by rw [List.length_drop]; omega), List.drop_drop]

structure RMulRel (w : World) (g off m : Nat) (zs ys : List Nat) (v k cy : Nat) (dk : List Nat) (wr : World) : Prop where
  wrs : Wr g off m w wr
  row : Row32 wr g off m dk
  hi : dk.drop k = zs.drop k
  car : cy < B32
  sum : valB B32 (dk.take k) + B32 ^ k * cy = valB B32 (zs.take k) + valB B32 (ys.take k) * v
theorem RMulRel.step {w : World} {g off m : Nat} {zs ys : List Nat} {v k cy : Nat} {dk : List Nat} {wr : World} (h : RMulRel w g off m zs ys v k cy dk wr) (hk : k < m)
    {x z l d : Nat} (hz : z = dk.getD k 0) (hx : x = ys.getD k 0) (hs : x * v + z + cy = l + B32 * d) (hl : l < B32) (hd : d < B32) :
    RMulRel w g off m zs ys v (k + 1) d (dk.set k l) (wr.setCell ⟨g, off + k, none⟩ (V l)) := by
  have hlen := h.row.len
  refine ⟨h.wrs.setCell (off + k) ⟨by omega, by omega⟩ _, h.row.set k l hk hl, ?_, hd, ?_⟩
  · rw [drop_set_lt]; exact drop_succ_of_drop h.hi
  · have hzz : z = zs.getD k 0 := hz.trans (getD_of_drop h.hi)
    rw [take_set_succ dk k l (by omega), valB_snoc, List.length_take, hlen, Nat.min_eq_left (by omega), valB_take_any _ zs k, valB_take_any _ ys k, ← hzz, ← hx, Nat.pow_succ, Nat.add_mul]
    have e1 := h.sum
    have e2 : B32 ^ k * (x * v + z + cy) = B32 ^ k * (l + B32 * d) := by rw [hs]
    rw [Nat.mul_add, Nat.mul_add, Nat.mul_add, ← Nat.mul_assoc] at e2
    have e3 : B32 ^ k * x * v = B32 ^ k * (x * v) := Nat.mul_assoc _ _ _
    have e4 : B32 ^ k * B32 * d = B32 ^ k * (B32 * d) := Nat.mul_assoc _ _ _
    rw [e3, e4]
    rw [← Nat.mul_assoc] at e2
    generalize B32 ^ k * x * v = X0 at *
    generalize B32 ^ k * (x * v) = X1 at *
    generalize B32 ^ k * B32 * d = X2 at *
    generalize B32 ^ k * (B32 * d) = X3 at *
    generalize B32 ^ k * z = X4 at *
    generalize B32 ^ k * cy = X5 at *
    generalize B32 ^ k * l = X6 at *
    omega

theorem RMulRel.drewN {w : World} {g off m : Nat} {zs ys : List Nat} {v k cy : Nat} {dk : List Nat} {wr : World} (h : RMulRel w g off m zs ys v k cy dk wr) (q : Nat) : RMulRel w g off m zs ys v k cy dk (wr.drewN q) :=
  ⟨h.wrs.drewN q, h.row.drewN q, h.hi, h.car, h.sum⟩
theorem valB_set_zero (b : Nat) (xs : List Nat) (k y : Nat) (hk : k < xs.length) (h0 : xs.getD k 0 = 0) : valB b (xs.set k y) = valB b xs + b ^ k * y := by
  have h1 := valB_split b xs k (by omega)
  have h2 := valB_split b (xs.set k y) k (by simp; omega)
  rw [drop_set_at xs k y hk, take_set_at, valB_cons] at h2
  rw [valB_drop b xs k hk, h0] at h1
  rw [h2, h1, Nat.mul_add, Nat.zero_add]
  omega
theorem valB_drop_zero {b : Nat} (hb : 0 < b) {xs : List Nat} {k : Nat} (h : valB b (xs.drop k) = 0) : xs.getD k 0 = 0 ∧ valB b (xs.drop (k + 1)) = 0 := by
  by_cases hk : k < xs.length
  · rw [valB_drop b xs k hk] at h
    have h1 : b * valB b (xs.drop (k + 1)) = 0 := by omega
    refine ⟨by omega, ?_⟩
    rcases Nat.mul_eq_zero.1 h1 with e | e
    · omega
    · exact e
  · refine ⟨?_, ?_⟩
    · rw [List.getD_eq_getElem?_getD, List.getElem?_eq_none (by omega)]; rfl
    · rw [List.drop_of_length_le (by omega)]; rfl
structure RMulO (w : World) (g N m : Nat) (xs ys : List Nat) (i : Nat) (ps : List Nat) (wr : World) : Prop where
  bel : Below g w wr
  row : Row32 wr g 0 N ps
  val : valB B32 ps = valB B32 (xs.take i) * valB B32 ys
  zero : valB B32 (ps.drop (i + m)) = 0
theorem rmul_abs {P Y x T Z D V cy B m : Nat} (h1 : V = T + P * Z) (h2 : D + B ^ m * cy = Z + Y * x) : T + P * D + P * B ^ m * cy = V + P * (Y * x) := by
  have e1 : P * (D + B ^ m * cy) = P * (Z + Y * x) := by rw [h2]
  rw [Nat.mul_add, Nat.mul_add, ← Nat.mul_assoc] at e1
  omega
theorem RMulO.step {w : World} {g N m n : Nat} {xs ys : List Nat} {i : Nat} {ps : List Nat} {wr wr' : World} (h : RMulO w g N m xs ys i ps wr) (hi : i < n) (hN : N = n + m) (hx : xs.length = n) (hy : ys.length = m) {x cy : Nat} {dk : List Nat} (ex : x = xs.getD i 0) (hR : RMulRel wr g i m ((ps.drop i).take m) ys x m cy dk wr') :
    RMulO w g N m xs ys (i + 1) ((winPut ps dk i).set (i + m) cy) (wr'.setCell ⟨g, i + m, none⟩ (V cy)) := by
  have hl := h.row.len; have hdl := hR.row.len
  have hle : i + dk.length ≤ ps.length := by omega
  have hrow := h.row.put hR.wrs hR.row (by omega)
  have hz := valB_drop_zero B32_pos h.zero
  have hsum := hR.sum
  have t1 : dk.take m = dk := List.take_of_length_le (by omega)
  have t2 : ((ps.drop i).take m).take m = (ps.drop i).take m := by rw [List.take_take, Nat.min_self]
  have t3 : ys.take m = ys := List.take_of_length_le (by omega)
  rw [t1, t2, t3] at hsum
  have hv := win_take32 ps i m (by omega)
  rw [h.zero, Nat.mul_zero, Nat.add_zero] at hv
  have hv1 : valB B32 (winPut ps dk i) = valB B32 (ps.take i) + B32 ^ i * valB B32 dk := by
    rw [valB_split B32 (winPut ps dk i) i (by rw [winPut_len ps dk i hle]; omega), winPut_take ps dk i hle, winPut_drop ps dk i hle, valB_append, hdl, h.zero, Nat.mul_zero, Nat.add_zero]
  have hg0 : (winPut ps dk i).getD (i + m) 0 = 0 := by
    rw [winPut_get ps dk i (i + m) hle, if_neg (by omega)]; exact hz.1
  refine ⟨(h.bel.trans (hR.wrs.below (Nat.le_refl _))).trans (((Wr.refl g 0 N wr').setCell (i + m) ⟨by omega, by omega⟩ (V cy)).below (Nat.le_refl _)), ?_, ?_, ?_⟩
  · have := hrow.set (i + m) cy (by omega) hR.car
    rw [Nat.zero_add] at this; exact this
  · rw [valB_set_zero B32 _ (i + m) cy (by rw [winPut_len ps dk i hle]; omega) hg0, hv1, Nat.pow_add, rmul_abs hv hsum, h.val, valB_take_succ B32 xs i (by omega), ← ex, Nat.add_mul, Nat.mul_assoc, Nat.mul_comm (valB B32 ys) x]
  · rw [show i + 1 + m = i + m + 1 by omega, drop_set_lt]
    have e : (winPut ps dk i).drop (i + m + 1) = ps.drop (i + m + 1) := by
      have e1 : (winPut ps dk i).drop (i + m) = ps.drop (i + m) := by
        have := congrArg (List.drop dk.length) (winPut_drop ps dk i hle)
        rw [List.drop_drop, List.drop_left, hdl] at this
        exact this
      have := congrArg (List.drop 1) e1
      rw [List.drop_drop, List.drop_drop] at this; exact this
    rw [e]; exact hz.2
-- the document's side
def DocIs (v : Nat) (us : List Nat) (f : Int) : Prop := (v < LIM ∧ Nf B64 us v ∧ f = 0) ∨ (LIM ≤ v ∧ us = [] ∧ f = 5)
def MulIs (xs ys us : List Nat) (f : Int) : Prop :=
  ((formB xs && formB ys) = false ∧ us = [] ∧ f = 2) ∨
  (formB xs = true ∧ formB ys = true ∧ valB B64 xs * valB B64 ys < LIM ∧ Nf B64 us (valB B64 xs * valB B64 ys) ∧ f = 0) ∨
  (formB xs = true ∧ formB ys = true ∧ LIM ≤ valB B64 xs * valB B64 ys ∧ us = [] ∧ f = 5)
theorem MulIs.inj {xs ys us us' : List Nat} {f f' : Int} (h : MulIs xs ys us f) (k : MulIs xs ys us' f') : us = us' ∧ f = f' := by
  rcases h with ⟨h1, rfl, rfl⟩ | ⟨h1, h2, h3, h4, rfl⟩ | ⟨h1, h2, h3, rfl, rfl⟩ <;> rcases k with ⟨k1, rfl, rfl⟩ | ⟨k1, k2, k3, k4, rfl⟩ | ⟨k1, k2, k3, rfl, rfl⟩
  · exact ⟨rfl, rfl⟩
  · rw [k1, k2] at h1; simp at h1
  · rw [k1, k2] at h1; simp at h1
  · rw [h1, h2] at k1; simp at k1
  · exact ⟨h4.inj B64_one k4, rfl⟩
  · omega
  · rw [h1, h2] at k1; simp at k1
  · omega
  · exact ⟨rfl, rfl⟩
theorem mul_noform {p q : Option Addr} {n m c d : Nat} {xs ys : List Nat} {w : World} (h : At w p n c xs) (k : At w q m d ys) (hf : (formB xs && formB ys) = false) :
    Calls Try.prog 18 #[.slice p n c, .slice q m d] w fun e w' => e = .returned (.tuple #[.slice none 0 0, .int .i64 2]) ∧ w' = w := by
  cases hx : formB xs
  · go_enter Try.func18, Try.ntmps18
    go_wp2_with fail
    refine (form_any h).mono ?_
    rintro e w1 ⟨rfl, hw⟩
    rw [hx]
    obtain rfl := hw.symm
    clear hw hf
    go_wp2_with fail
    go_ret2
    exact ⟨rfl, rfl⟩
  · have hy : formB ys = false := by rw [hx] at hf; simpa using hf
    go_enter Try.func18, Try.ntmps18
    go_wp2_with fail
    refine (form_any h).mono ?_
    rintro e w1 ⟨rfl, hw⟩
    rw [hx]
    obtain rfl := hw.symm
    clear hw hf
    go_wp2_with fail
    refine (form_any k).mono ?_
    rintro e w1 ⟨rfl, hw⟩
    rw [hy]
    obtain rfl := hw.symm
    clear hw
    go_wp2_with fail
    go_ret2
    exact ⟨rfl, rfl⟩
theorem form_len {xs : List Nat} (h : formB xs = true) : xs.length ≤ 8192 := ((formB_iff xs).1 h).1
theorem mulP {p q : Option Addr} {n m c d : Nat} {xs ys : List Nat} {w : World} (h : At w p n c xs) (k : At w q m d ys) :
    Calls Try.prog 18 #[.slice p n c, .slice q m d] w fun e w' => ∃ p' m' us f, e = .returned (.tuple #[.slice p' m' m', .int .i64 f]) ∧ At w' p' m' m' us ∧ MulIs xs ys us f ∧ Below w.heap.size w w' := by
  cases hf : (formB xs && formB ys)
  · refine (mul_noform h k hf).mono ?_
    rintro e w' ⟨rfl, hw⟩
    obtain rfl := hw.symm
    exact ⟨none, 0, [], 2, rfl, At.empty _ none 0 (by decide), .inl ⟨hf, rfl, rfl⟩, Below.refl _ _⟩
  · simp only [Bool.and_eq_true] at hf
    refine (mul_any h k (nf_of_form h.dig hf.1) (nf_of_form k.dig hf.2) (by have := form_len hf.1; rw [h.len] at this; exact this) (by have := form_len hf.2; rw [k.len] at this; exact this)).mono ?_
    rintro e w' ⟨ha, hb⟩
    rcases ha with ⟨hl, p1, m1, zs, rfl, ho, hn, hm⟩ | ⟨hl, rfl⟩
    · exact ⟨p1, m1, zs, 0, rfl, ho.at_ hm, .inr (.inl ⟨hf.1, hf.2, hl, hn, rfl⟩), hb⟩
    · exact ⟨none, 0, [], 5, rfl, At.empty _ none 0 (by decide), .inr (.inr ⟨hf.1, hf.2, hl, rfl, rfl⟩), hb⟩
theorem sqrP {p : Option Addr} {n c : Nat} {xs : List Nat} {w : World} (h : At w p n c xs) :
    Calls Try.prog 19 #[.slice p n c] w fun e w' => ∃ p' m' us f, e = .returned (.tuple #[.slice p' m' m', .int .i64 f]) ∧ At w' p' m' m' us ∧ MulIs xs xs us f ∧ Below w.heap.size w w' := by
  go_enter Try.func19, Try.ntmps19
  go_wp2_with fail
  refine (mulP h h).mono ?_
  rintro e w' ⟨p1, m1, us, f1, rfl, hA, hM, hb⟩
  have HM : Hid (MulIs xs xs us f1) := hM
  have HA : Hid (At w' p1 m1 m1 us) := hA
  clear hM hA
  go_wp2_with fail
  go_ret2
  exact ⟨p1, m1, us, f1, rfl, HA.out, HM.out, hb⟩
structure B5 (W : World) (g : Nat) (v0 v1 v2 v3 v4 : Value) : Prop where
  c0 : W.cell? ⟨g, 0, none⟩ = some v0
  c1 : W.cell? ⟨g, 1, none⟩ = some v1
  c2 : W.cell? ⟨g, 2, none⟩ = some v2
  c3 : W.cell? ⟨g, 3, none⟩ = some v3
  c4 : W.cell? ⟨g, 4, none⟩ = some v4
theorem B5.below {W W' : World} {g : Nat} {v0 v1 v2 v3 v4 : Value} (h : B5 W g v0 v1 v2 v3 v4) (hb : Below W.heap.size W W') : B5 W' g v0 v1 v2 v3 v4 := by
  have hl : g < W.heap.size := World.block_lt_of_cell? W _ h.c0
  exact ⟨(hb.cell (p := ⟨g, 0, none⟩) hl).trans h.c0, (hb.cell (p := ⟨g, 1, none⟩) hl).trans h.c1, (hb.cell (p := ⟨g, 2, none⟩) hl).trans h.c2, (hb.cell (p := ⟨g, 3, none⟩) hl).trans h.c3, (hb.cell (p := ⟨g, 4, none⟩) hl).trans h.c4⟩
theorem B5.new (w : World) (ty : TypeId) (v0 v1 v2 v3 v4 : Value) : B5 (w.alloc (.cells #[v0, v1, v2, v3, v4] ty)) w.heap.size v0 v1 v2 v3 v4 :=
  ⟨World.cell?_alloc_new .., World.cell?_alloc_new .., World.cell?_alloc_new .., World.cell?_alloc_new .., World.cell?_alloc_new ..⟩
structure Op5 where
  k : Int
  pa : Option Addr
  na : Nat
  ca : Nat
  xa : List Nat
  pb : Option Addr
  nb : Nat
  cb : Nat
  xb : List Nat
  nn : Int
  pl : Option Addr
  nl : Nat
  cl : Nat
structure Scr (w : World) (P : Option Addr) (N C : Nat) (its : List Op5) : Prop where
  len : its.length = N
  cap : N ≤ C
  big : C ≤ maxLen
  ats : ∀ t ∈ its, At w t.pa t.na t.ca t.xa ∧ At w t.pb t.nb t.cb t.xb ∧ t.na ≤ 17592186044416 ∧ t.nb ≤ 17592186044416 ∧ -9223372036854775808 ≤ t.nn ∧ t.nn ≤ 9223372036854775807
  cells : N = 0 ∨ ∃ g off, P = some ⟨g, off, none⟩ ∧ ∀ i (h : i < its.length), w.cell? ⟨g, off + i * 5, none⟩ = some (.int .i64 its[i].k) ∧ w.cell? ⟨g, off + i * 5 + 1, none⟩ = some (.slice its[i].pa its[i].na its[i].ca) ∧
    w.cell? ⟨g, off + i * 5 + 2, none⟩ = some (.slice its[i].pb its[i].nb its[i].cb) ∧ w.cell? ⟨g, off + i * 5 + 3, none⟩ = some (.int .i64 its[i].nn) ∧ w.cell? ⟨g, off + i * 5 + 4, none⟩ = some (.slice its[i].pl its[i].nl its[i].cl)
theorem Scr.below {w w' : World} {P : Option Addr} {N C : Nat} {its : List Op5} (h : Scr w P N C its) (hb : Below w.heap.size w w') : Scr w' P N C its := by
  refine ⟨h.len, h.cap, h.big, fun t ht => ?_, ?_⟩
  · obtain ⟨h1, h2, h3⟩ := h.ats t ht
    exact ⟨h1.below hb, h2.below hb, h3⟩
  · rcases h.cells with h0 | ⟨g, off, hP, hc⟩
    · exact .inl h0
    · refine .inr ⟨g, off, hP, fun i hi => ?_⟩
      obtain ⟨h0, h1, h2, h3, h4⟩ := hc i hi
      have hl : g < w.heap.size := World.block_lt_of_cell? w _ h0
      exact ⟨(hb.cell (p := ⟨g, off + i * 5, none⟩) hl).trans h0, (hb.cell (p := ⟨g, off + i * 5 + 1, none⟩) hl).trans h1, (hb.cell (p := ⟨g, off + i * 5 + 2, none⟩) hl).trans h2,
        (hb.cell (p := ⟨g, off + i * 5 + 3, none⟩) hl).trans h3, (hb.cell (p := ⟨g, off + i * 5 + 4, none⟩) hl).trans h4⟩
end Go.Proofs.Ytimjajoddmbjlaa
namespace Go.Proofs.Ytimjajoddmbjlaa
open Go.ChangeShapes Go.WideShapes Go.ChangeAt Go.RowKit Go.Deep
set_option maxRecDepth 20000
set_option maxHeartbeats 0
theorem weightsAll_mem {H : Type} {P : Program} {e : TypeId} : ∀ {l : List (DataW H)} {d : DataW H}, d ∈ l → ∀ n ∈ d.weights P e, n ∈ DataW.weightsAll P e l
  | [], d, hd, n, hn => by simp at hd
  | d0 :: r, d, hd, n, hn => by
    simp only [DataW.weightsAll, List.mem_append]
    rcases List.mem_cons.1 hd with rfl | h
    · exact .inl hn
    · exact .inr (weightsAll_mem h n hn)
end Go.Proofs.Ytimjajoddmbjlaa
namespace Go.Proofs.Ytimjajoddmbjlaa
open Go.RowKit
set_option maxRecDepth 20000
set_option maxHeartbeats 0
structure Num (w : World) (p : Option Addr) (m c : Nat) (xs : List Nat) (a : Nat) : Prop where
  at_ : At w p m c xs
  nf : Nf B64 xs a
  le : m ≤ 8192
theorem Num.below {w w' : World} {p : Option Addr} {m c : Nat} {xs : List Nat} {a : Nat} (h : Num w p m c xs a) (hb : Below w.heap.size w w') : Num w' p m c xs a := ⟨h.at_.below hb, h.nf, h.le⟩
theorem Num.lim {w : World} {p : Option Addr} {m c : Nat} {xs : List Nat} {a : Nat} (h : Num w p m c xs a) : a < LIM := h.nf.lim.1 (by rw [h.at_.len]; exact h.le)
theorem Num.of {B : Nat} {w : World} {p : Option Addr} {m : Nat} {xs : List Nat} {a : Nat} (ho : Own B w p m xs) (hn : Nf B64 xs a) (hm : m ≤ 8192) : Num w p m m xs a := ⟨ho.at_ hm, hn, hm⟩
end Go.Proofs.Ytimjajoddmbjlaa
namespace Go.Proofs.Ytimjajoddmbjlaa
open Go.RowKit Go.Shelf
set_option maxRecDepth 20000
set_option maxHeartbeats 0
theorem Num.zero0 {w : World} {p : Option Addr} {m c : Nat} {xs : List Nat} {a : Nat} (h : Num w p m c xs a) : m = 0 ↔ a = 0 := by
  rw [← h.nf.zero_iff B64_one, ← h.at_.len]
  exact ⟨List.eq_nil_of_length_eq_zero, fun e => by rw [e]; rfl⟩
structure It where
  p : Option Addr
  n : Nat
  c : Nat
  xs : List Nat
  a : Nat
structure Lists (w : World) (P : Option Addr) (N C : Nat) (its : List It) : Prop where
  len : its.length = N
  cap : N ≤ C
  big : C ≤ maxLen
  cells : N = 0 ∨ ∃ g off, P = some ⟨g, off, none⟩ ∧ ∀ j (h : j < its.length), w.cell? ⟨g, off + j, none⟩ = some (.slice its[j].p its[j].n its[j].c)
  nums : ∀ t ∈ its, Num w t.p t.n t.c t.xs t.a
theorem Lists.below {w w' : World} {P : Option Addr} {N C : Nat} {its : List It} (h : Lists w P N C its) (hb : Below w.heap.size w w') : Lists w' P N C its := by
  refine ⟨h.len, h.cap, h.big, ?_, fun t ht => (h.nums t ht).below hb⟩
  rcases h.cells with h0 | ⟨g, off, rfl, hc⟩
  · exact .inl h0
  · exact .inr ⟨g, off, rfl, fun j hj => (hb.cell (p := ⟨g, off + j, none⟩) (World.block_lt_of_cell? w _ (hc j hj))).trans (hc j hj)⟩
def prodI : List It → Nat
  | [] => 1
  | t :: ts => t.a * prodI ts
theorem prodI_append (xs ys : List It) : prodI (xs ++ ys) = prodI xs * prodI ys := by
  induction xs with
  | nil => simp [prodI]
  | cons x xs ih => simp only [List.cons_append, prodI, ih, Nat.mul_assoc]
theorem prodI_split (its : List It) (k : Nat) : prodI (its.take k) * prodI (its.drop k) = prodI its := by
  rw [← prodI_append, List.take_append_drop]
theorem Lists.take {w : World} {g off N C : Nat} {its : List It} (h : Lists w (some ⟨g, off, none⟩) N C its) (k : Nat) (hk : k ≤ N) : Lists w (some ⟨g, off, none⟩) k k (its.take k) := by
  have hl := h.len; have hc := h.cap; have hb := h.big
  refine ⟨by rw [List.length_take]; omega, Nat.le_refl _, by omega, ?_, fun t ht => h.nums t (List.mem_of_mem_take ht)⟩
  rcases h.cells with h0 | ⟨g', off', he, hcl⟩
  · exact .inl (by omega)
  · refine .inr ⟨g', off', he, fun j hj => ?_⟩
    have hj2 : j < its.length := by rw [List.length_take] at hj; omega
    rw [hcl j hj2]; simp
theorem Lists.drop {w : World} {g off N C : Nat} {its : List It} (h : Lists w (some ⟨g, off, none⟩) N C its) (k : Nat) (hk : k < N) : Lists w (some ⟨g, off + k, none⟩) (N - k) (C - k) (its.drop k) := by
  have hl := h.len; have hc := h.cap; have hb := h.big
  refine ⟨by rw [List.length_drop]; omega, by omega, by omega, ?_, fun t ht => h.nums t (List.mem_of_mem_drop ht)⟩
  rcases h.cells with h0 | ⟨g', off', he, hcl⟩
  · omega
  · simp only [Option.some.injEq, Addr.mk.injEq, and_true] at he
    obtain ⟨rfl, rfl⟩ := he
    refine .inr ⟨g, off + k, rfl, fun j hj => ?_⟩
    have hj2 : k + j < its.length := by rw [List.length_drop] at hj; omega
    have := hcl (k + j) hj2
    rw [← Nat.add_assoc] at this
    rw [this]; simp
theorem Lists.pos {w : World} {P : Option Addr} {N C : Nat} {its : List It} (_h : Lists w P N C its) (hp : ∀ t ∈ its, 0 < t.a) : 0 < prodI its := by
  clear _h
  induction its with
  | nil => simp [prodI]
  | cons t ts ih => exact Nat.mul_pos (hp t (by simp)) (ih (fun u hu => hp u (by simp [hu])))

theorem one_lim : 1 < LIM := (nf_one (x := 1) (by decide) (by decide)).lim.1 (by simp)
theorem mul_lim_of {a b : Nat} (hb : 0 < b) (h : LIM ≤ a) : LIM ≤ a * b := Nat.le_trans h (Nat.le_mul_of_pos_right _ hb)

theorem productof_any : ∀ (M N : Nat), N ≤ M → ∀ {P : Option Addr} {C : Nat} {its : List It} {w : World}, Lists w P N C its → (∀ t ∈ its, 0 < t.a) →
    Calls Try.prog 21 #[.slice P N C] w fun e w' => Ans w.heap.size w' e (prodI its) ∧ Below w.heap.size w w' := by
  intro M
  induction M with
  | zero =>
    intro N hN P C its w h hp
    obtain rfl : N = 0 := by omega
    have HP : Hid (prodI its = 1) := by have := List.eq_nil_of_length_eq_zero h.len; show _ = _; rw [this]; rfl
    clear h hp
    go_enter Try.func21, Try.ntmps21
    go_wp2_with fail
    rw [show Value.int IntKind.u64 1 = U 1 from rfl]
    refine (word_any 1 w (by decide)).mono ?_
    rintro e w1 ⟨p1, m1, z1, rfl, o1, n1, l1, hb1⟩
    go_wp2_with fail
    go_ret2
    rw [HP.out]
    exact ⟨.inl ⟨one_lim, p1, m1, z1, rfl, o1, n1, by omega⟩, hb1⟩
  | succ M ih =>
    intro N hN P C its w h hp
    by_cases h0 : N = 0
    · exact (ih 0 (by omega) (h0 ▸ h) hp) |> fun x => by subst h0; exact x
    · obtain ⟨g, off, rfl, hc⟩ := h.cells.resolve_left h0
      have HC : Hid (∀ j (hj : j < its.length), w.cell? ⟨g, off + j, none⟩ = some (.slice its[j].p its[j].n its[j].c)) := hc
      by_cases h1 : N = 1
      · subst h1
        have hl := h.len
        obtain ⟨t, rfl⟩ : ∃ t, its = [t] := by
          match its, hl with
          | [t], _ => exact ⟨t, rfl⟩
        have hc0 : w.cell? ⟨g, off, none⟩ = some (.slice t.p t.n t.c) := hc 0 (by simp)
        have HNM : Hid (Num w t.p t.n t.c t.xs t.a) := h.nums t (by simp)
        have cap := h.cap
        obtain ⟨tp, tn, tc, txs, ta⟩ := t
        have HP : Hid (prodI [(⟨tp, tn, tc, txs, ta⟩ : It)] = ta) := by show _ = _; simp [prodI]
        simp only at hc0 HNM
        clear h hp ih hc HC hl
        go_enter Try.func21, Try.ntmps21
        go_wp2_with fail
        refine (norm_any HNM.out.at_).mono ?_
        rintro e w1 ⟨ha, hb1⟩
        rw [HNM.out.nf.val] at ha
        rcases ha with ⟨hl2, p2, m2, us, rfl, ho, hn2, hm2⟩ | ⟨hl2, _⟩
        · have HN2 : Hid (Nf B64 us ta) := hn2
          clear hl2 hn2
          go_wp2_with fail
          go_ret2
          rw [HP.out]
          exact ⟨.inl ⟨HNM.out.lim, p2, m2, us, rfl, ho, HN2.out, hm2⟩, hb1⟩
        · exact absurd HNM.out.lim (by omega)
      · have hk1 : N / 2 < N := by omega
        have hk0 : 0 < N / 2 := by omega
        obtain ⟨k, hk⟩ : ∃ k, k = N / 2 := ⟨_, rfl⟩
        rw [← hk] at hk1 hk0
        have hT := h.take k (by omega)
        have hD := h.drop k hk1
        have HT : Hid (Lists w (some ⟨g, off, none⟩) k k (its.take k)) := hT
        have HD : Hid (Lists w (some ⟨g, off + k, none⟩) (N - k) (C - k) (its.drop k)) := hD
        have HPT : Hid (∀ t ∈ its.take k, 0 < t.a) := fun t ht => hp t (List.mem_of_mem_take ht)
        have HPD : Hid (∀ t ∈ its.drop k, 0 < t.a) := fun t ht => hp t (List.mem_of_mem_drop ht)
        have HSP : Hid (prodI (its.take k) * prodI (its.drop k) = prodI its) := prodI_split its k
        have HIH : Hid (∀ N, N ≤ M → ∀ {P : Option Addr} {C : Nat} {its : List It} {w : World}, Lists w P N C its → (∀ t ∈ its, 0 < t.a) → Calls Try.prog 21 #[.slice P N C] w fun e w' => Ans w.heap.size w' e (prodI its) ∧ Below w.heap.size w w') := ih
        have hkt : (N : Int).tdiv 2 = (k : Int) := by rw [Int.tdiv_eq_ediv_of_nonneg (by omega)]; omega
        have hkM : k ≤ M := by omega
        have hNM : N - k ≤ M := by omega
        have h0' : ((N : Int) == 0) = false := by simp; omega
        have h1' : ((N : Int) == 1) = false := by simp; omega
        have cap := h.cap; have big := h.big
        unfold maxLen at big
        clear h hp ih hc HC hT hD hk
        go_enter Try.func21, Try.ntmps21
        go_wp2_with fail
        refine (HIH.out k hkM HT.out HPT.out).mono ?_
        rintro e w1 ⟨ha1, hb1⟩
        have HD1 : Hid (Lists w1 (some ⟨g, off + k, none⟩) (N - k) (C - k) (its.drop k)) := HD.out.below hb1
        have hT0 : 0 < prodI (its.take k) := HT.out.pos HPT.out
        have hD0 : 0 < prodI (its.drop k) := HD.out.pos HPD.out
        have HT0 : Hid (0 < prodI (its.take k)) := hT0
        have HD0 : Hid (0 < prodI (its.drop k)) := hD0
        clear HD HT hT0 hD0
        obtain ⟨pt, ept⟩ : ∃ pt, pt = prodI (its.take k) := ⟨_, rfl⟩
        obtain ⟨pd, epd⟩ : ∃ pd, pd = prodI (its.drop k) := ⟨_, rfl⟩
        rw [← ept] at ha1 HT0 HSP
        rw [← epd] at HD0 HSP
        have EPD : Hid (pd = prodI (its.drop k)) := epd
        clear ept epd
        rcases ha1 with ⟨hl1, p1, m1, z1, rfl, o1, n1, l1⟩ | ⟨hl1, rfl⟩
        · have N1 : Hid (Num w1 p1 m1 m1 z1 pt) := Num.of o1 n1 l1
          clear hl1 o1 n1
          go_wp2_with fail
          refine (HIH.out (N - k) hNM HD1.out HPD.out).mono ?_
          rintro e w2 ⟨ha2, hb2⟩
          rw [← EPD.out] at ha2
          have N1' : Hid (Num w2 p1 m1 m1 z1 pt) := N1.out.below hb2
          have hw2 := Below.on hb1 hb2
          have hsz := hw2.size
          rcases ha2 with ⟨hl2, p2, m2, z2, rfl, o2, n2, l2⟩ | ⟨hl2, rfl⟩
          · have N2 : Hid (Num w2 p2 m2 m2 z2 pd) := Num.of o2 n2 l2
            clear hl2 o2 n2 N1 HD1 hb1 hb2
            go_wp2_with fail
            refine (mul_any N1'.out.at_ N2.out.at_ N1'.out.nf N2.out.nf N1'.out.le N2.out.le).mono ?_
            rintro e w3 ⟨ha3, hb3⟩
            have hw3 := Below.on hw2 hb3
            rw [HSP.out] at ha3
            rcases ha3 with ⟨hl3, p3, m3, z3, rfl, o3, n3, l3⟩ | ⟨hl3, rfl⟩
            · have HL3 : Hid (prodI its < LIM) := hl3
              have HN3 : Hid (Nf B64 z3 (prodI its)) := n3
              clear hl3 n3
              go_wp2_with fail
              go_ret2
              exact ⟨.inl ⟨HL3.out, p3, m3, z3, rfl, o3.mono hsz, HN3.out, l3⟩, hw3⟩
            · have HL3 : Hid (LIM ≤ prodI its) := hl3
              clear hl3
              go_wp2_with fail
              go_ret2
              exact ⟨.inr ⟨HL3.out, rfl⟩, hw3⟩
          · have HL3 : Hid (LIM ≤ prodI its) := by rw [← HSP.out, Nat.mul_comm]; exact mul_lim_of HT0.out hl2
            clear hl2 N1 HD1 hb1 hb2
            go_wp2_with fail
            go_ret2
            exact ⟨.inr ⟨HL3.out, rfl⟩, hw2⟩
        · have HL3 : Hid (LIM ≤ prodI its) := by rw [← HSP.out]; exact mul_lim_of HD0.out hl1
          clear hl1
          go_wp2_with fail
          refine (HIH.out (N - k) hNM HD1.out HPD.out).mono ?_
          rintro e w2 ⟨ha2, hb2⟩
          have hw2 := Below.on hb1 hb2
          rcases ha2 with ⟨hl2, p2, m2, z2, rfl, o2, n2, l2⟩ | ⟨hl2, rfl⟩
          · clear hl2 o2 n2 HD1 hb1 hb2
            go_wp2_with fail
            go_ret2
            exact ⟨.inr ⟨HL3.out, rfl⟩, hw2⟩
          · clear hl2 HD1 hb1 hb2
            go_wp2_with fail
            go_ret2
            exact ⟨.inr ⟨HL3.out, rfl⟩, hw2⟩

theorem LIM_tw (k : Nat) (hk : k = 524288) : LIM = 2 ^ k := by
  obtain ⟨j, hj⟩ : ∃ j, j = 8192 := ⟨_, rfl⟩
  rw [LIM_eq j hj, show B64 = 2 ^ 64 from rfl, ← Nat.pow_mul]
  congr 1
  omega
theorem take_succ_it (its : List It) (k : Nat) (h : k < its.length) : its.take (k + 1) = its.take k ++ [its[k]] := List.take_succ_eq_append_getElem h
theorem prodI_zero {its : List It} {t : It} (h : t ∈ its) (h0 : t.a = 0) : prodI its = 0 := by
  induction its with
  | nil => simp at h
  | cons u us ih =>
    simp only [List.mem_cons] at h
    rcases h with rfl | h
    · simp [prodI, h0]
    · simp [prodI, ih h]
theorem prodI_le_take {its : List It} (k : Nat) (hp : ∀ t ∈ its, 0 < t.a) : prodI (its.take k) ≤ prodI its := by
  rw [← prodI_split its k]
  have : 0 < prodI (its.drop k) := by
    have hd : ∀ t ∈ its.drop k, 0 < t.a := fun t ht => hp t (List.mem_of_mem_drop ht)
    generalize its.drop k = ds at *
    induction ds with
    | nil => simp [prodI]
    | cons t ts ih => exact Nat.mul_pos (hd t (by simp)) (ih (fun u hu => hd u (by simp [hu])))
  exact Nat.le_mul_of_pos_right _ this
theorem two_step {its : List It} {k tw bb : Nat} (hk : k < its.length) (h : 2 ^ tw ≤ prodI (its.take k)) (hb : bb = bitsN its[k].a) (h0 : 0 < its[k].a) : 1 ≤ bb ∧ 2 ^ (tw + (bb - 1)) ≤ prodI (its.take (k + 1)) := by
  have h1 := bitsN_le its[k].a (by omega)
  rw [← hb] at h1
  have hb1 : 1 ≤ bb := by
    rcases Nat.eq_zero_or_pos bb with e | e
    · have := bitsN_lt its[k].a
      rw [← hb, e] at this; simp at this; omega
    · exact e
  refine ⟨hb1, ?_⟩
  rw [take_succ_it its k hk, prodI_append, Nat.pow_add]
  exact Nat.mul_le_mul h (by simpa [prodI] using h1)

theorem product_any {P : Option Addr} {N C : Nat} {its : List It} {w : World} (h : Lists w P N C its) :
    Calls Try.prog 7 #[.slice P N C] w fun e w' => Ans w.heap.size w' e (prodI its) ∧ Below w.heap.size w w' := by
  have H : Hid (Lists w P N C its) := h
  have HLN : Hid (its.length = N) := h.len
  have cap := h.cap; have big := h.big
  unfold maxLen at big
  clear h
  go_enter Try.func7, Try.ntmps7
  go_wp2_with fail
  go_loopg [4, 12] N (fun gk nv iv wr => ∃ (k : Nat) (b : Bool), k + gk = N ∧ iv = .int .i64 k ∧ nv = .bool b ∧ Hid (b = true ↔ ∃ t ∈ its.take k, t.a = 0) ∧ wr = w)
  case atStart => exact ⟨0, false, by omega, rfl, rfl, by show _ ↔ _; simp, rfl⟩
  case round =>
    obtain ⟨k, b, hkg, rfl, rfl, HB, hwr⟩ := hrel
    obtain rfl := hwr.symm
    clear hwr
    cases gk with
    | zero =>
      obtain rfl : k = N := by omega
      have hnk : ¬ (k : Int) < (k : Int) := by omega
      have etk : its.take k = its := List.take_of_length_le (by rw [HLN.out]; omega)
      cases b
      · have HPOS : Hid (∀ t ∈ its, 0 < t.a) := by
          intro t ht
          rcases Nat.eq_zero_or_pos t.a with e | e
          · have := HB.out.2 ⟨t, by rw [etk]; exact ht, e⟩
            simp at this
          · exact e
        clear HB etk
        go_wp2_with fail
        go_loopg [7, 29] k (fun gk2 tv iv wr => ∃ (k2 tw : Nat), k2 + gk2 = k ∧ iv = .int .i64 k2 ∧ tv = .int .i64 tw ∧ tw < 524288 ∧ Hid (2 ^ tw ≤ prodI (its.take k2)) ∧ wr = w)
        case atStart => exact ⟨0, 0, by omega, rfl, rfl, by omega, by show _ ≤ _; simp [prodI], rfl⟩
        case round =>
          obtain ⟨k2, tw, hkg2, rfl, rfl, htw, HT, hwr⟩ := hrel
          obtain rfl := hwr.symm
          clear hwr
          cases gk with
          | zero =>
            obtain rfl : k2 = k := by omega
            clear HT
            go_wp2_with fail
            refine (productof_any k2 k2 (Nat.le_refl _) H.out HPOS.out).mono ?_
            rintro e w1 ⟨ha, hb⟩
            rcases ha with ⟨hl, p1, m1, z1, rfl, o1, n1, l1⟩ | ⟨hl, rfl⟩
            · have HL : Hid (prodI its < LIM) := hl
              have HN : Hid (Nf B64 z1 (prodI its)) := n1
              clear hl n1
              go_wp2_with fail
              go_ret2
              exact ⟨.inl ⟨HL.out, p1, m1, z1, rfl, o1, HN.out, l1⟩, hb⟩
            · have HL : Hid (LIM ≤ prodI its) := hl
              clear hl
              go_wp2_with fail
              go_ret2
              exact ⟨.inr ⟨HL.out, rfl⟩, hb⟩
          | succ gg =>
            have hk2 : k2 < its.length := by rw [HLN.out]; omega
            obtain ⟨g, off, rfl, hc⟩ := H.out.cells.resolve_left (by omega)
            have hcx := hc k2 hk2
            have hnm := H.out.nums its[k2] (List.getElem_mem hk2)
            obtain ⟨bb, ebb⟩ : ∃ bb, bb = bitsN its[k2].a := ⟨_, rfl⟩
            have hst := two_step hk2 HT.out ebb (HPOS.out _ (List.getElem_mem hk2))
            have hb1 := hst.1
            have HST : Hid (2 ^ (tw + (bb - 1)) ≤ prodI (its.take (k2 + 1))) := hst.2
            have hbb : bb ≤ 524288 := by
              rcases Nat.lt_or_ge 524288 bb with e | e
              · exfalso
                have h1 := bitsN_le its[k2].a (by have := HPOS.out _ (List.getElem_mem hk2); omega)
                rw [← ebb] at h1
                have h2 := hnm.lim
                obtain ⟨E, hE⟩ : ∃ E, E = 524288 := ⟨_, rfl⟩
                rw [LIM_tw E hE] at h2
                have h3 : (2:Nat) ^ E ≤ 2 ^ (bb - 1) := Nat.pow_le_pow_right (by decide) (by omega)
                omega
              · exact e
            have EBB : Hid (bb = bitsN its[k2].a) := ebb
            have HNM : Hid (Num w its[k2].p its[k2].n its[k2].c its[k2].xs its[k2].a) := hnm
            have hkk : (k2 : Int) < (k : Int) := by omega
            have hnn := hnm.le
            clear hc hst ebb hnm HT
            generalize its[k2].p = tp at *
            generalize its[k2].n = tn at *
            generalize its[k2].c = tc at *
            generalize its[k2].xs = txs at *
            generalize its[k2].a = ta at *
            go_wp2_with fail
            refine (bits_any HNM.out.at_ (by omega)).mono ?_
            rintro e w' ⟨rfl, hw⟩
            obtain rfl := hw.symm
            clear hw
            rw [HNM.out.nf.val, ← EBB.out]
            by_cases hge : 524288 ≤ tw + (bb - 1)
            · have HL : Hid (LIM ≤ prodI its) := by
                show _ ≤ _
                obtain ⟨E, hE⟩ : ∃ E, E = 524288 := ⟨_, rfl⟩
                rw [LIM_tw E hE]
                exact Nat.le_trans (Nat.le_trans (Nat.pow_le_pow_right (by decide) (by omega)) HST.out) (prodI_le_take _ HPOS.out)
              go_wp2_with fail
              go_ret2
              exact ⟨.inr ⟨HL.out, rfl⟩, Below.refl _ _⟩
            · go_wp2_with fail
              go_roundg gg
              case measure => omega
              case rel => exact ⟨k2 + 1, tw + (bb - 1), by omega, by go_num, by go_num, by omega, HST, rfl⟩
      · have HZ : Hid (prodI its = 0) := by
          obtain ⟨t, ht, h0⟩ := HB.out.1 rfl
          rw [etk] at ht
          exact prodI_zero ht h0
        clear HB etk
        go_wp2_with fail
        go_ret2
        rw [HZ.out]
        exact ⟨ans_zero _ _, Below.refl _ _⟩
    | succ gg =>
      have hk2 : k < its.length := by rw [HLN.out]; omega
      obtain ⟨g, off, rfl, hc⟩ := H.out.cells.resolve_left (by omega)
      have hcx := hc k hk2
      have hnm := H.out.nums its[k] (List.getElem_mem hk2)
      have HB2 : Hid ((b || decide (its[k].n = 0)) = true ↔ ∃ t ∈ its.take (k + 1), t.a = 0) := by
        show _ ↔ _
        rw [take_succ_it its k hk2, Bool.or_eq_true, HB.out, decide_eq_true_iff, hnm.zero0]
        constructor
        · rintro (⟨t, ht, h0⟩ | h0)
          · exact ⟨t, List.mem_append_left _ ht, h0⟩
          · exact ⟨its[k], List.mem_append_right _ (List.mem_singleton.2 rfl), h0⟩
        · rintro ⟨t, ht, h0⟩
          rcases List.mem_append.1 ht with ht | ht
          · exact .inl ⟨t, ht, h0⟩
          · rw [List.mem_singleton.1 ht] at h0; exact .inr h0
      have fx := hnm.nf.form (by rw [hnm.at_.len]; exact hnm.le)
      have HNM : Hid (Num w its[k].p its[k].n its[k].c its[k].xs its[k].a) := hnm
      have hkk : (k : Int) < (N : Int) := by omega
      have hnn := hnm.le
      clear hc hnm HB
      generalize its[k].p = tp at *
      generalize its[k].n = tn at *
      generalize its[k].c = tc at *
      generalize its[k].xs = txs at *
      generalize its[k].a = ta at *
      go_wp2_with fail
      refine (form_true HNM.out.at_ fx).mono ?_
      rintro e w' ⟨rfl, hw⟩
      obtain rfl := hw.symm
      clear hw fx
      cases b
      · by_cases ht0 : tn = 0
        · have HT0 : Hid ((false || decide (tn = 0)) = true) := by show _ = _; simp [ht0]
          subst ht0
          go_wp2_with fail
          go_roundg gg
          case measure => omega
          case rel => exact ⟨k + 1, true, by omega, by go_num, rfl, by have := HB2.out; simp at this; show _ ↔ _; simpa using this, rfl⟩
        · have ht0' : ((tn : Int) == 0) = false := by simp; omega
          go_wp2_with fail
          go_roundg gg
          case measure => omega
          case rel => exact ⟨k + 1, false, by omega, by go_num, rfl, by have := HB2.out; simp [ht0] at this; show _ ↔ _; simpa using this, rfl⟩
      · go_wp2_with fail
        go_roundg gg
        case measure => omega
        case rel => exact ⟨k + 1, true, by omega, by go_num, rfl, by have := HB2.out; simp at this; show _ ↔ _; simpa using this, rfl⟩
def itv (t : It) : Value := .slice t.p t.n t.c
structure LsA (w : World) (P : Option Addr) (N C : Nat) (its : List It) : Prop where
  len : its.length = N
  cap : N ≤ C
  big : C ≤ maxLen
  cells : N = 0 ∨ ∃ g off, P = some ⟨g, off, none⟩ ∧ ∀ j (h : j < its.length), w.cell? ⟨g, off + j, none⟩ = some (.slice its[j].p its[j].n its[j].c)
  ats : ∀ t ∈ its, At w t.p t.n t.c t.xs ∧ t.n ≤ 17592186044416 ∧ t.a = valB B64 t.xs
theorem LsA.below {w w' : World} {P : Option Addr} {N C : Nat} {its : List It} (h : LsA w P N C its) (hb : Below w.heap.size w w') : LsA w' P N C its := by
  refine ⟨h.len, h.cap, h.big, ?_, fun t ht => ⟨(h.ats t ht).1.below hb, (h.ats t ht).2⟩⟩
  rcases h.cells with h0 | ⟨g, off, rfl, hc⟩
  · exact .inl h0
  · exact .inr ⟨g, off, rfl, fun j hj => (hb.cell (p := ⟨g, off + j, none⟩) (World.block_lt_of_cell? w _ (hc j hj))).trans (hc j hj)⟩
theorem LsA.nums {w : World} {P : Option Addr} {N C : Nat} {its : List It} (h : LsA w P N C its) (hf : ∀ t ∈ its, formB t.xs = true) : Lists w P N C its :=
  ⟨h.len, h.cap, h.big, h.cells, fun t ht => ⟨(h.ats t ht).1, by rw [(h.ats t ht).2.2]; exact nf_of_form (h.ats t ht).1.dig (hf t ht), by rw [← (h.ats t ht).1.len]; exact ((formB_iff _).1 (hf t ht)).1⟩⟩
theorem At.grow {w w' : World} {g n c : Nat} {xs : List Nat} {row : Option Nat} (h : At w (some ⟨g, 0, none⟩) n c xs) (hg : w.grownBy w' row) (hne : some g ≠ row) : At w' (some ⟨g, 0, none⟩) n c xs := by
  refine ⟨h.len, h.cap, h.big, h.dig, ?_⟩
  rcases h.cells with h1 | ⟨g', off, h1, h2⟩
  · exact .inl h1
  · refine .inr ⟨g', off, h1, fun j hj => hg.cell (h2 j hj) ?_⟩
    simp only [Option.some.injEq, Addr.mk.injEq] at h1
    obtain ⟨rfl, _⟩ := h1
    exact hne
theorem Try.infoSl : (Try.prog.info? 24).map (fun i => (i.zero, i.size, i.bytes)) = some (some (.slice none 0 0), 1, 24) := by kernel_rfl
theorem cell_new1 (w : World) (v : Value) (ty : TypeId) : ∀ j u, [v][j]? = some u → (w.alloc (.cells #[v] ty)).cell? ((⟨w.heap.size, 0, none⟩ : Addr).add j) = some u := by
  intro j u h
  match j with
  | 0 => simp at h; subst h; simp [Addr.add]
def Cps (w : World) (g : Nat) (js its : List It) : Prop := js.map It.xs = its.map It.xs ∧ js.map It.a = its.map It.a ∧ ∀ t ∈ js, (∃ b, t.p = some ⟨b, 0, none⟩ ∧ b ≠ g) ∧ At w t.p t.n t.c t.xs ∧ t.n ≤ 17592186044416 ∧ t.a = valB B64 t.xs
theorem Cps.below {w w' : World} {g : Nat} {js its : List It} (h : Cps w g js its) (hb : Below w.heap.size w w') : Cps w' g js its := ⟨h.1, h.2.1, fun t ht => ⟨(h.2.2 t ht).1, (h.2.2 t ht).2.1.below hb, (h.2.2 t ht).2.2⟩⟩
theorem Cps.grow {w w' : World} {g : Nat} {js its : List It} (h : Cps w g js its) (hg : w.grownBy w' (some g)) : Cps w' g js its := ⟨h.1, h.2.1, fun t ht => by
  obtain ⟨⟨b, h1, h2⟩, h3, h4⟩ := h.2.2 t ht
  refine ⟨⟨b, h1, h2⟩, ?_, h4⟩
  rw [h1] at h3 ⊢
  exact h3.grow hg (fun e => h2 (Option.some.inj e))⟩
theorem own_lt {w : World} {B g k N : Nat} {e : TypeId} {xs : List Value} (h : w.ownsRow B e 1 (.slice (some ⟨g, 0, none⟩) k N) k xs) : g < w.heap.size := by
  rcases h.2 with ⟨h2, _⟩ | ⟨g', cap, cur, h2, h3, h4, h5⟩
  · cases h2
  · simp only [Value.slice.injEq, Option.some.injEq, Addr.mk.injEq] at h2
    rw [h2.1.1]
    exact (Array.getElem?_eq_some_iff.1 h4).1
theorem own_ls {w : World} {B g k N : Nat} {js its : List It} (h : w.ownsRow B 24 1 (.slice (some ⟨g, 0, none⟩) k N) k (js.map itv)) (hc : Cps w g js its) (hl : k ≤ N) (hN : N ≤ maxLen) : LsA w (some ⟨g, 0, none⟩) k N js := by
  have hjl : js.length = k := by have := h.1; rw [List.length_map] at this; omega
  refine ⟨hjl, hl, hN, .inr ⟨g, 0, rfl, fun j hj => ?_⟩, fun t ht => (hc.2.2 t ht).2⟩
  rw [Nat.zero_add, h.cellAt j (by omega), List.getElem?_map, List.getElem?_eq_getElem hj]
  rfl
theorem Cps.snoc {w : World} {g : Nat} {js its : List It} {t u : It} (h : Cps w g js its) (hx : t.xs = u.xs) (ha : t.a = u.a) (hp : ∃ b, t.p = some ⟨b, 0, none⟩ ∧ b ≠ g) (hA : At w t.p t.n t.c t.xs ∧ t.n ≤ 17592186044416 ∧ t.a = valB B64 t.xs) : Cps w g (js ++ [t]) (its ++ [u]) := by
  refine ⟨by rw [List.map_append, List.map_append, h.1, List.map_singleton, List.map_singleton, hx], by rw [List.map_append, List.map_append, h.2.1, List.map_singleton, List.map_singleton, ha], fun s hs => ?_⟩
  rcases List.mem_append.1 hs with h1 | h1
  · exact h.2.2 s h1
  · rw [List.mem_singleton.1 h1]; exact ⟨hp, hA⟩
theorem ownB {w w' : World} {B g k N : Nat} {e : TypeId} {xs : List Value} (h : w.ownsRow B e 1 (.slice (some ⟨g, 0, none⟩) k N) k xs) (hb : Below w.heap.size w w') : w'.ownsRow B e 1 (.slice (some ⟨g, 0, none⟩) k N) k xs := by
  refine ⟨h.1, ?_⟩
  rcases h.2 with h2 | ⟨g, cap, cur, h2, h3, h4, h5⟩
  · exact .inl h2
  · have hg : g < w.heap.size := by
      rcases Nat.lt_or_ge g w.heap.size with h6 | h6
      · exact h6
      · rw [Array.getElem?_eq_none h6] at h4; cases h4
    exact .inr ⟨g, cap, cur, h2, h3, (hb.block _ hg).trans h4, h5⟩
theorem lists_ok {P : Option Addr} {N C : Nat} {its : List It} {w : World} (h : LsA w P N C its) (hN : N ≤ 5864062014805) :
    Calls Try.prog 8 #[.slice P N C] w fun en w' => ∃ g js, en = .returned (.slice (some ⟨g, 0, none⟩) N N) ∧ w.heap.size ≤ g ∧ LsA w' (some ⟨g, 0, none⟩) N N js ∧ js.map It.xs = its.map It.xs ∧ js.map It.a = its.map It.a ∧ Below w.heap.size w w' := by
  obtain ⟨i0, hi, hz0, hz1, hz2⟩ := info_parts Try.infoSl
  have H : Hid (LsA w P N C its) := h
  have HLN : Hid (its.length = N) := h.len
  have cap := h.cap; have big := h.big
  unfold maxLen at big
  clear h
  go_enter Try.func8, Try.ntmps8
  go_wp2_with (at_make; refine wpList_make_own _ rfl _ _ 22 rfl w.heap.size 24 i0 (.slice none 0 0) 1 Try.underlying22 hi hz0 hz1 _ _ _ N rfl rfl (by omega) (by rw [hz2]; omega) (by unfold maxLen; omega) (Nat.le_refl _) ?_; intro w1 hown hgrow)
  have hbw : Below w.heap.size w w1 := (Below.refl _ _).grown hgrow (Nat.le_refl _) (fun k hk => by cases hk)
  have OW : Hid (w1.ownsRow w.heap.size 24 1 (.slice (some ⟨w.heap.size, 0, none⟩) 0 N) 0 []) := hown
  obtain ⟨g, hg⟩ : ∃ g, g = w.heap.size := ⟨_, rfl⟩
  have HG : Hid (w.heap.size ≤ g) := by rw [hg]; exact Nat.le_refl _
  rw [← hg] at OW
  rw [← hg]
  have hsz : w.heap.size ≤ w1.heap.size := hgrow.size
  clear hown hgrow
  clear hg hsz
  go_loopg [3, 11] N (fun gk mv iv wr => ∃ (k : Nat) (js : List It), k + gk = N ∧ iv = .int .i64 k ∧ mv = .slice (some ⟨g, 0, none⟩) k N ∧ wr.ownsRow g 24 1 (.slice (some ⟨g, 0, none⟩) k N) k (js.map itv) ∧ Cps wr g js (its.take k) ∧ Below w.heap.size w wr)
  case atStart => exact ⟨0, [], by omega, rfl, rfl, OW.out, ⟨rfl, rfl, fun t h => by cases h⟩, hbw⟩
  case round =>
    obtain ⟨k, js, hkg, rfl, rfl, xo, xc, hbr⟩ := hrel
    clear OW hbw
    have OW : Hid (wr.ownsRow g 24 1 (.slice (some ⟨g, 0, none⟩) k N) k (js.map itv)) := xo
    have CP : Hid (Cps wr g js (its.take k)) := xc
    have hbw := hbr
    clear xo xc hbr
    cases gk with
    | zero =>
      obtain rfl : k = N := by omega
      have hnk : ¬ (k : Int) < (k : Int) := by omega
      go_wp2_with fail
      go_ret
      have CP2 := CP.out
      rw [List.take_of_length_le (by rw [HLN.out]; omega)] at CP2
      exact ⟨g, rfl, HG.out, js, own_ls OW.out CP2 (Nat.le_refl _) (by unfold maxLen; omega), CP2.1, CP2.2.1, hbw⟩
    | succ gg =>
      have hk : k < its.length := by rw [HLN.out]; omega
      obtain ⟨gs, off, rfl, hc⟩ := H.out.cells.resolve_left (by omega)
      have hcx := (hbw.cell (p := ⟨gs, off + k, none⟩) (World.block_lt_of_cell? w _ (hc k hk))).trans (hc k hk)
      have hAt := H.out.ats its[k] (List.getElem_mem hk)
      have AT : Hid (At wr its[k].p its[k].n its[k].c its[k].xs ∧ its[k].n ≤ 17592186044416 ∧ its[k].a = valB B64 its[k].xs) := ⟨hAt.1.below hbw, hAt.2⟩
      have htk : its.take (k + 1) = its.take k ++ [its[k]] := List.take_succ_eq_append_getElem hk
      have HTK : Hid (its.take (k + 1) = its.take k ++ [its[k]]) := htk
      have hkk : (k : Int) < (N : Int) := by omega
      have hn17 := hAt.2.1
      clear hc hAt htk
      obtain ⟨u, hu⟩ : ∃ u, u = its[k] := ⟨_, rfl⟩
      rw [← hu] at AT HTK hcx hn17
      clear hu
      obtain ⟨tp, tn, tc, txs, ta⟩ := u
      simp only at hcx hn17
      go_wp2_with fail
      refine (twin_any AT.out.1 (by omega)).mono ?_
      rintro e v1 ⟨gt, rfl, hgt, hblk, hb1⟩
      have AT1 : Hid (At v1 (some ⟨gt, 0, none⟩) tn tn txs) := hblk.at_ AT.out.1.dig AT.out.1.len (by unfold maxLen; omega)
      have HGT : Hid (gt ≠ g) := by have := own_lt OW.out; show gt ≠ g; omega
      clear hblk hgt
      have OW2 : Hid (v1.ownsRow g 24 1 (.slice (some ⟨g, 0, none⟩) k N) k (js.map itv)) := ownB OW.out hb1
      clear OW
      replace CP : Hid (Cps v1 g js (its.take k)) := CP.out.below hb1
      replace hbw := Below.on hbw hb1
      clear hb1
      have hb6 : Below v1.heap.size v1 (v1.alloc (.cells #[.slice (some ⟨gt, 0, none⟩) tn tn] 24)) := below1 v1 _
      have OWA : Hid ((v1.alloc (.cells #[.slice (some ⟨gt, 0, none⟩) tn tn] 24)).ownsRow g 24 1 (.slice (some ⟨g, 0, none⟩) k N) k (js.map itv)) := ownB OW2.out hb6
      have CPA : Hid (Cps (v1.alloc (.cells #[.slice (some ⟨gt, 0, none⟩) tn tn] 24)) g js (its.take k)) := CP.out.below hb6
      have AT6 : Hid (At (v1.alloc (.cells #[.slice (some ⟨gt, 0, none⟩) tn tn] 24)) (some ⟨gt, 0, none⟩) tn tn txs) := AT1.out.below hb6
      have hbwa := Below.on hbw hb6
      clear hb6 OW2 CP hbw hcx
      go_wp2_with (at_builtin; refine wpList_append_own_spare _ rfl _ _ 22 rfl g 24 i0 1 Try.underlying22 hi hz1 g k N (js.map itv) rfl OWA.out ⟨v1.heap.size, 0, none⟩ 1 1 [.slice (some ⟨gt, 0, none⟩) tn tn] rfl rfl (cell_new1 _ _ _) (by intro u hu; simp at hu; subst hu; rfl) (by omega) ?_; intro w6 hown6 hgr6)
      go_roundg gg
      case measure => omega
      case rel =>
        refine ⟨k + 1, js ++ [⟨some ⟨gt, 0, none⟩, tn, tn, txs, ta⟩], by omega, by go_num, rfl, by rw [List.map_append]; exact hown6, ?_, ?_⟩
        · rw [HTK.out]; exact (CPA.out.grow hgr6).snoc rfl rfl ⟨gt, rfl, HGT.out⟩ ⟨AT6.out.grow hgr6 (fun e => HGT.out (Option.some.inj e)), AT.out.2⟩
        · exact hbwa.grown hgr6 hbwa.size (fun b hb => by cases hb; exact HG.out)
def PrIs (its : List It) (us : List Nat) (f : Int) : Prop := ((∃ t ∈ its, formB t.xs = false) ∧ us = [] ∧ f = 2) ∨ ((∀ t ∈ its, formB t.xs = true) ∧ DocIs (prodI its) us f)
theorem DocIs.inj2 {v : Nat} {us us' : List Nat} {f f' : Int} (h : DocIs v us f) (k : DocIs v us' f') : us = us' ∧ f = f' := by
  rcases h with ⟨h1, h2, rfl⟩ | ⟨h1, rfl, rfl⟩ <;> rcases k with ⟨k1, k2, rfl⟩ | ⟨k1, rfl, rfl⟩
  · exact ⟨h2.inj B64_one k2, rfl⟩
  · omega
  · omega
  · exact ⟨rfl, rfl⟩
theorem PrIs.inj {its : List It} {us us' : List Nat} {f f' : Int} (h : PrIs its us f) (k : PrIs its us' f') : us = us' ∧ f = f' := by
  rcases h with ⟨⟨t, h1, h2⟩, rfl, rfl⟩ | ⟨h1, h2⟩ <;> rcases k with ⟨⟨u, k1, k2⟩, rfl, rfl⟩ | ⟨k1, k2⟩
  · exact ⟨rfl, rfl⟩
  · rw [k1 t h1] at h2; cases h2
  · rw [h1 u k1] at k2; cases k2
  · exact h2.inj2 k2
theorem PrIs.cast {its js : List It} {us : List Nat} {f : Int} (h : PrIs js us f) (hx : js.map It.xs = its.map It.xs) (ha : js.map It.a = its.map It.a) : PrIs its us f := by
  have e1 : ∀ (l : List It), prodI l = (l.map It.a).foldr (· * ·) 1 := fun l => by induction l with | nil => rfl | cons a l ih => simp only [prodI, ih, List.map_cons, List.foldr_cons]
  have e2 : ∀ (l : List It) (b : Bool), (∃ t ∈ l, formB t.xs = b) ↔ ∃ x ∈ l.map It.xs, formB x = b := fun l b => ⟨fun ⟨t, h1, h2⟩ => ⟨t.xs, List.mem_map_of_mem h1, h2⟩, fun ⟨x, h1, h2⟩ => by obtain ⟨t, h3, rfl⟩ := List.mem_map.1 h1; exact ⟨t, h3, h2⟩⟩
  have e3 : ∀ (l : List It) (b : Bool), (∀ t ∈ l, formB t.xs = b) ↔ ∀ x ∈ l.map It.xs, formB x = b := fun l b => by simp
  unfold PrIs at *
  rw [e1, e2, e3, hx, ha, ← e1, ← e2, ← e3] at h
  exact h
theorem bad_ex {its : List It} (h : ¬ ∀ t ∈ its, formB t.xs = true) : ∃ t ∈ its, formB t.xs = false := by
  induction its with
  | nil => exact absurd (fun t ht => by cases ht) h
  | cons a l ih =>
    cases e : formB a.xs with
    | false => exact ⟨a, by simp, e⟩
    | true =>
      obtain ⟨t, ht, h2⟩ := ih (fun hl => h (fun t ht => by rcases List.mem_cons.1 ht with rfl | h1; exact e; exact hl t h1))
      exact ⟨t, by simp [ht], h2⟩
theorem all_snoc {its : List It} {k : Nat} (hk : k < its.length) (h : ∀ i (hi : i < its.length), i < k → formB its[i].xs = true) (hf : formB its[k].xs = true) : ∀ i (hi : i < its.length), i < k + 1 → formB its[i].xs = true := by
  intro i hi h1
  rcases Nat.lt_or_ge i k with h2 | h2
  · exact h i hi h2
  · obtain rfl : i = k := by omega
    exact hf
theorem not_all {its : List It} {N : Nat} (hl : its.length = N) (hb : ∃ t ∈ its, formB t.xs = false) (h : ∀ i (hi : i < its.length), i < N → formB its[i].xs = true) : False := by
  obtain ⟨t, ht, h2⟩ := hb
  obtain ⟨i, hi, rfl⟩ := List.getElem_of_mem ht
  rw [h i hi (by omega)] at h2
  cases h2
theorem product_bad {P : Option Addr} {N C : Nat} {its : List It} {w : World} (h : LsA w P N C its) (hbad : ∃ t ∈ its, formB t.xs = false) :
    Calls Try.prog 7 #[.slice P N C] w fun en w' => en = .returned (.tuple #[.slice none 0 0, .int .i64 2]) ∧ Below w.heap.size w w' := by
  have H : Hid (LsA w P N C its) := h
  have HLN : Hid (its.length = N) := h.len
  have HBD : Hid (∃ t ∈ its, formB t.xs = false) := hbad
  have cap := h.cap; have big := h.big
  unfold maxLen at big
  clear h hbad
  go_enter Try.func7, Try.ntmps7
  go_wp2_with fail
  go_loopg [4, 12] N (fun gk nv iv wr => ∃ (k : Nat) (b : Bool), k + gk = N ∧ iv = .int .i64 k ∧ nv = .bool b ∧ (∀ i (hi : i < its.length), i < k → formB its[i].xs = true) ∧ Below w.heap.size w wr)
  case atStart => exact ⟨0, false, by omega, rfl, rfl, fun i _ hi => by omega, Below.refl _ _⟩
  case round =>
    obtain ⟨k, b, hkg, rfl, rfl, hfs, hbw⟩ := hrel
    have HFS : Hid (∀ i (hi : i < its.length), i < k → formB its[i].xs = true) := hfs
    clear hfs
    cases gk with
    | zero =>
      obtain rfl : k = N := by omega
      exact absurd (not_all HLN.out HBD.out HFS.out) id
    | succ gg =>
      have hk : k < its.length := by rw [HLN.out]; omega
      obtain ⟨gs, off, rfl, hc⟩ := H.out.cells.resolve_left (by omega)
      have hcx := (hbw.cell (p := ⟨gs, off + k, none⟩) (World.block_lt_of_cell? w _ (hc k hk))).trans (hc k hk)
      have hAt := H.out.ats its[k] (List.getElem_mem hk)
      have AT : Hid (At wr its[k].p its[k].n its[k].c its[k].xs ∧ its[k].n ≤ 17592186044416 ∧ its[k].a = valB B64 its[k].xs) := ⟨hAt.1.below hbw, hAt.2⟩
      obtain ⟨fb, hfb⟩ : ∃ x, x = formB its[k].xs := ⟨_, rfl⟩
      have HFB : Hid (fb = formB its[k].xs) := hfb
      have HF2 : Hid (fb = true → ∀ i (hi : i < its.length), i < k + 1 → formB its[i].xs = true) := fun he => all_snoc hk HFS.out (by rw [← HFB.out, he])
      clear hfb HFS
      have hkk : (k : Int) < (N : Int) := by omega
      have hn17 := hAt.2.1
      clear hc hAt
      generalize its[k].p = tp at *
      generalize its[k].n = tn at *
      generalize its[k].c = tc at *
      generalize its[k].xs = txs at *
      generalize its[k].a = ta at *
      go_wp2_with fail
      refine (form_any AT.out.1).mono ?_
      rintro e w' ⟨rfl, hw⟩
      obtain rfl := hw.symm
      clear hw
      rw [← HFB.out]
      cases fb
      · go_wp2_with fail
        go_ret2
        exact ⟨rfl, hbw⟩
      · cases b
        · by_cases ht0 : tn = 0
          · subst ht0
            go_wp2_with fail
            go_roundg gg
            case measure => omega
            case rel => exact ⟨k + 1, true, by omega, by go_num, rfl, HF2.out (by simp), hbw⟩
          · have ht0' : ((tn : Int) == 0) = false := by simp; omega
            go_wp2_with fail
            go_roundg gg
            case measure => omega
            case rel => exact ⟨k + 1, false, by omega, by go_num, rfl, HF2.out (by simp), hbw⟩
        · go_wp2_with fail
          go_roundg gg
          case measure => omega
          case rel => exact ⟨k + 1, true, by omega, by go_num, rfl, HF2.out (by simp), hbw⟩
theorem product_all {P : Option Addr} {N C : Nat} {its : List It} {w : World} (h : LsA w P N C its) :
    Calls Try.prog 7 #[.slice P N C] w fun en w' => ∃ p m us f, en = .returned (.tuple #[.slice p m m, .int .i64 f]) ∧ At w' p m m us ∧ PrIs its us f ∧ Below w.heap.size w w' := by
  by_cases hf : ∀ t ∈ its, formB t.xs = true
  · refine (product_any (h.nums hf)).mono ?_
    rintro e w' ⟨ha, hb⟩
    rcases ha with ⟨h1, p, m, zs, rfl, o1, n1, l1⟩ | ⟨h1, rfl⟩
    · exact ⟨p, m, zs, 0, rfl, o1.at_ l1, .inr ⟨hf, .inl ⟨h1, n1, rfl⟩⟩, hb⟩
    · exact ⟨none, 0, [], 5, rfl, At.empty _ none 0 (Nat.zero_le _), .inr ⟨hf, .inr ⟨h1, rfl, rfl⟩⟩, hb⟩
  · refine (product_bad h (bad_ex hf)).mono ?_
    rintro e w' ⟨rfl, hb⟩
    exact ⟨none, 0, [], 2, rfl, At.empty _ none 0 (Nat.zero_le _), .inl ⟨bad_ex hf, rfl, rfl⟩, hb⟩
def bsum : List It → Nat
  | [] => 0
  | t :: ts => (bitsN t.a - 1) + bsum ts
theorem pow_bsum {l : List It} (h : ∀ t ∈ l, 0 < t.a) : 2 ^ bsum l ≤ prodI l := by
  induction l with
  | nil => simp [bsum, prodI]
  | cons t ts ih =>
    simp only [bsum, prodI]
    rw [Nat.pow_add]
    exact Nat.mul_le_mul (bitsN_le _ (by have := h t (by simp); omega)) (ih (fun u hu => h u (by simp [hu])))
theorem bits_lim {xs : List Nat} (hd : Dig B64 xs) (hf : formB xs = true) : bitsN (valB B64 xs) ≤ 524288 := by
  have h1 := (nf_of_form hd hf).lim.1 ((formB_iff _).1 hf).1
  rcases Nat.eq_zero_or_pos (valB B64 xs) with h0 | h0
  · rw [h0, bitsN_zero]; omega
  · rcases Nat.lt_or_ge 524288 (bitsN (valB B64 xs)) with e | e
    · exfalso
      have h2 := bitsN_le (valB B64 xs) (by omega)
      obtain ⟨E, hE⟩ : ∃ E, E = 524288 := ⟨_, rfl⟩
      rw [LIM_tw E hE] at h1
      have h3 : (2:Nat) ^ E ≤ 2 ^ (bitsN (valB B64 xs) - 1) := Nat.pow_le_pow_right (by decide) (by omega)
      omega
    · exact e
def BS (its : List It) (k b : Nat) : Prop := (1 ≤ b ∧ b ≤ 524288 ∧ b = 1 + bsum (its.take k)) ∨ (524288 < b ∧ b ≤ 1048577 ∧ 524288 ≤ bsum (its.take k))
theorem BS.add {its : List It} {k b bb : Nat} (h : BS its k b) (hb : b ≤ 524288) (h4 : bb ≤ 524288) (h1 : bsum (its.take (k + 1)) = bsum (its.take k) + (bb - 1)) : BS its (k + 1) (b + (bb - 1)) := by
  unfold BS at h ⊢
  rw [h1]
  omega
theorem BS.skip {its : List It} {k b bb : Nat} (h : BS its k b) (hb : ¬ b ≤ 524288) (h1 : bsum (its.take (k + 1)) = bsum (its.take k) + (bb - 1)) : BS its (k + 1) b := by
  unfold BS at h ⊢
  rw [h1]
  omega
theorem form_pos {xs : List Nat} {n : Nat} (hd : Dig B64 xs) (hf : formB xs = true) (hl : xs.length = n) (h : n ≠ 0) : 0 < valB B64 xs := by
  rcases Nat.eq_zero_or_pos (valB B64 xs) with h0 | h0
  · have h1 := ((nf_of_form hd hf).zero_iff B64_one).2 h0
    rw [h1] at hl
    exact absurd hl.symm h
  · exact h0
theorem bits_pos {a : Nat} (h : 0 < a) : 1 ≤ bitsN a := by
  rcases Nat.eq_zero_or_pos (bitsN a) with h0 | h0
  · have h1 := bitsN_lt a
    rw [h0] at h1
    omega
  · exact h0
structure ScrL (w : World) (P : Option Addr) (N C : Nat) (its : List Op5) : Prop where
  scr : Scr w P N C its
  ls : ∀ t ∈ its, ∃ js, LsA w t.pl t.nl t.cl js ∧ t.nl ≤ 5864062014805
theorem ScrL.below {w w' : World} {P : Option Addr} {N C : Nat} {its : List Op5} (h : ScrL w P N C its) (hb : Below w.heap.size w w') : ScrL w' P N C its :=
  ⟨h.scr.below hb, fun t ht => by obtain ⟨js, h1, h2⟩ := h.ls t ht; exact ⟨js, h1.below hb, h2⟩⟩
end Go.Proofs.Ytimjajoddmbjlaa
namespace Go.Proofs.Ytimjajoddmbjlaa
open Go.ChangeShapes Go.WideShapes Go.ChangeAt Go.RowKit Go.Deep
set_option maxRecDepth 20000
set_option maxHeartbeats 0
theorem bytesSl : Try.prog.bytesOf 24 = 24 := by kernel_rfl
theorem cellsOfSl : Try.prog.cellsOf 24 = 1 := by kernel_rfl
theorem sized_inner {H : Type} {P : Program} {ts : List TypeId} {ds : List (DataW H)} (h : (DataW.weightsEach P ts ds).all (· ≤ reachBytes) = true) {j : Nat} {t e : TypeId} {y : DataW H} {elems spare : List (DataW H)}
    (ht : ts[j]? = some t) (hd : ds[j]? = some (.slice elems spare)) (hu : P.underlying t = some (.slice e)) (hm : y ∈ elems) :
    (DataW.weightsEach P [e] [y]).all (· ≤ reachBytes) = true := by
  rw [List.all_eq_true]
  intro n hn
  refine List.all_eq_true.1 h n (DataW.weights_mem_each ht hd n ?_)
  simp only [DataW.weights, hu, List.mem_cons, List.mem_append]
  refine .inr (.inl (weightsAll_mem hm n ?_))
  simpa [DataW.weightsEach] using hn

theorem open_ls {H : Type} {enc : TypeId × Value → H} {W : World} {a : Option Addr} {len cap : Nat} {d : DataW H} {ps : List MemPlace} {ts : List TypeId} {ds : List (DataW H)} {j : Nat}
    (h : DataW.Trod enc Try.prog W 0 (fun _ => true) true 22 (.slice a len cap) d ps) (hsz : (DataW.weightsEach Try.prog ts ds).all (· ≤ reachBytes) = true) (ht : ts[j]? = some 22) (hd : ds[j]? = some d) :
    ∃ js, LsA W a len cap js ∧ len ≤ 5864062014805 := by
  obtain ⟨fuel, hf⟩ := h
  rcases DataW.trod_slice Try.underlying22 hf with ⟨hcs, _⟩ | ⟨x, l, c, elems, rest, n, _, hcs, hx, hb, hl, hm, hlen, hel, _, _⟩
  · simp [Value.cells] at hcs
    obtain ⟨rfl, rfl, rfl⟩ := hcs
    exact ⟨[], ⟨rfl, Nat.le_refl _, by decide, .inl rfl, fun t h => by simp at h⟩, by omega⟩
  · simp [Value.cells] at hcs
    obtain ⟨rfl, rfl, rfl⟩ := hcs
    simp only [Prod.mk.injEq] at hx
    obtain ⟨rfl, _⟩ := hx
    have hs := sized_slice hsz ht hd Try.underlying22
    rw [bytesSl] at hs
    simp only [List.length_map, reachBytes] at hs
    obtain ⟨b, off, spot⟩ := x
    have each : ∀ i, i < len → ∃ t : It, W.cell? ((⟨b, off, spot⟩ : Addr).add i) = some (.slice t.p t.n t.c) ∧ At W t.p t.n t.c t.xs ∧ t.n ≤ 17592186044416 ∧ t.a = valB B64 t.xs := by
      intro i hi
      have h1 := hel i hi
      have hie : i < elems.length := by omega
      rw [List.getElem?_eq_getElem hie, Option.bind_eq_some_iff] at h1
      obtain ⟨cs', h2, h3⟩ := h1
      rw [cellsOfSl] at h2
      obtain ⟨_, hlen1, hcell⟩ := World.cells?_some h2
      match cs', hlen1 with
      | [v0], _ =>
        obtain ⟨pa, na, ca, _, rfl, _⟩ := open_fld_at h3
        obtain ⟨xa, A1, bl1⟩ := open_at (a := pa) (len := na) (cap := ca) (d := elems[i].1) (ps := elems[i].2) ⟨_, h3⟩ (sized_inner hsz ht hd Try.underlying22 (List.mem_map_of_mem (List.getElem_mem hie))) (j := 0) rfl rfl
        have e0 := hcell 0 (by omega)
        rw [add_add] at e0
        simp only [Nat.mul_one, Nat.add_zero] at e0
        exact ⟨⟨pa, na, ca, xa, valB B64 xa⟩, e0, A1, bl1, rfl⟩
    have inh : Inhabited It := ⟨⟨none, 0, 0, [], 0⟩⟩
    obtain ⟨q, hq⟩ := choose_lt each
    refine ⟨(List.range len).map q, ⟨by simp, hl, hm, ?_, ?_⟩, by omega⟩
    · by_cases h0 : len = 0
      · exact .inl h0
      · have hs := (hq 0 (by omega)).1
        have hspot : spot = none := by simpa [Addr.add] using World.cell?_spot hs
        subst hspot
        have hadd : ∀ q : Nat, (⟨b, off, none⟩ : Addr).add q = ⟨b, off + q, none⟩ := by intro q; unfold Addr.add; split <;> simp_all
        refine .inr ⟨b, off, rfl, fun i hi => ?_⟩
        have hi' : i < len := by simpa using hi
        have h5 := (hq i hi').1
        simp only [hadd] at h5
        simpa using h5
    · intro t ht
      obtain ⟨i, hi, rfl⟩ := List.mem_map.1 ht
      exact (hq i (List.mem_range.1 hi)).2
end Go.Proofs.Ytimjajoddmbjlaa
namespace Go.Proofs.Ytimjajoddmbjlaa
open Go.RowKit Go.Shelf
set_option maxRecDepth 20000
set_option maxHeartbeats 0
theorem rest_step {R x : Nat} : ((R % 4294967291 * 4294967296 + x / 4294967296) % 4294967291 * 4294967296 + x % 4294967296) % 4294967291 = (x + 18446744073709551616 * R) % 4294967291 := by
  omega
theorem rest_val {L x : Nat} {b : Int} (hb : b = ((x % 4294967296 : Nat) : Int)) (_hL : L < 4294967291) (_hx : x < 18446744073709551616) :
    (IntKind.u64.wrap (((L : Int) * 4294967296 + (x : Int) / 4294967296) % 4294967291 * 4294967296 + b)).tmod 4294967291 = ((((L * 4294967296 + x / 4294967296) % 4294967291 * 4294967296 + x % 4294967296) % 4294967291 : Nat) : Int) := by
  subst hb
  obtain ⟨m, hm⟩ : ∃ m, m = (L * 4294967296 + x / 4294967296) % 4294967291 := ⟨_, rfl⟩
  have e : ((L : Int) * 4294967296 + (x : Int) / 4294967296) % 4294967291 = (m : Int) := by omega
  have h9 : m < 4294967291 := by omega
  rw [e, ← hm]
  clear e hm
  have h10 : (m : Int) * 4294967296 + ((x % 4294967296 : Nat) : Int) < 18446744073709551616 := by omega
  rw [IntKind.wrap_u64, Int.emod_eq_of_lt (by omega) h10, Int.tmod_eq_emod_of_nonneg (by omega)]
  omega
theorem rest_ok {p : Option Addr} {n c : Nat} {xs : List Nat} {w : World} (h : At w p n c xs) (hn : n ≤ 17592186044416) :
    Calls Try.prog 9 #[.slice p n c] w fun en w' => en = .returned (U (valB B64 xs % 4294967291)) ∧ w' = w := by
  have H : Hid (At w p n c xs) := h
  have HL : Hid (xs.length = n) := h.len
  have wn : wrap64 ((n : Int) - 1) = (n : Int) - 1 := by simp only [wrap64]; omega
  clear h
  go_enter Try.func9, Try.ntmps9
  go_wp2_with fail
  clear wn
  go_loopg [3, 4] n (fun gk lv iv wr => gk ≤ n ∧ iv = .int .i64 ((gk : Int) - 1) ∧ lv = U (valB B64 (xs.drop gk) % 4294967291) ∧ wr = w)
  case atStart => exact ⟨Nat.le_refl _, rfl, by rw [List.drop_of_length_le (by rw [HL.out]; exact Nat.le_refl _)]; rfl, rfl⟩
  case round =>
    obtain ⟨hgn, rfl, rfl, hwr⟩ := hrel
    obtain rfl := hwr.symm
    clear hwr
    cases gk with
    | zero =>
      have hi : decide ((0 : Int) ≤ -1) = false := by decide
      go_wp2_with fail
      go_ret
      exact ⟨rfl, rfl⟩
    | succ i =>
      have hil : i < xs.length := by rw [HL.out]; omega
      obtain ⟨g, off, rfl, hc⟩ := H.out.cells.resolve_left (by omega)
      have hcx := hc i (by omega)
      obtain ⟨x, hx⟩ : ∃ x, x = xs.getD i 0 := ⟨_, rfl⟩
      rw [← hx] at hcx
      have hxb : x < 18446744073709551616 := by rw [hx, List.getD_eq_getElem?_getD, List.getElem?_eq_getElem hil]; exact H.out.dig _ (List.getElem_mem hil)
      obtain ⟨L, hL⟩ : ∃ L, L = valB B64 (xs.drop (i + 1)) % 4294967291 := ⟨_, rfl⟩
      rw [← hL]
      have hLb : L < 4294967291 := by rw [hL]; exact Nat.mod_lt _ (by decide)
      have HV : Hid (valB B64 (xs.drop i) % 4294967291 = ((L * 4294967296 + x / 4294967296) % 4294967291 * 4294967296 + x % 4294967296) % 4294967291) := by
        show _ = _
        rw [hL, rest_step, List.drop_eq_getElem_cons hil, hx, List.getD_eq_getElem?_getD, List.getElem?_eq_getElem hil]
        rfl
      have e1 : ((i + 1 : Nat) : Int) - 1 = (i : Int) := by omega
      rw [e1]
      have hi2 : (0 : Int) ≤ (i : Int) ∧ (i : Int) < (n : Int) := by omega
      have hi3 : decide ((0 : Int) ≤ (i : Int)) = true := decide_eq_true (by omega)
      clear hc hx hL e1 hil
      go_wp2_with fail
      go_roundg i
      case measure => omega
      case rel => exact ⟨by omega, rfl, by rw [HV.out]; exact congrArg (Value.int .u64) (rest_val (and32 x hxb) hLb hxb), rfl⟩
def iv (s : Bool) (a : Nat) : Int := if s then -(a : Int) else (a : Int)
abbrev ZV (s : Bool) (p : Option Addr) (n c : Nat) : Value := .agg #[.bool s, .slice p n c]
def AnsI (B : Nat) (w' : World) (e : Ending) (z : Int) : Prop :=
  (z.natAbs < LIM ∧ ∃ p m zs, e = .returned (.tuple #[ZV (decide (z < 0)) p m m, .int .i64 0]) ∧ Own B w' p m zs ∧ Nf B64 zs z.natAbs ∧ m ≤ 8192) ∨
  (LIM ≤ z.natAbs ∧ e = .returned (.tuple #[ZV false none 0 0, .int .i64 5]))
theorem AnsI.ok {B : Nat} {w' : World} {e : Ending} {z : Int} (h : AnsI B w' e z) (hz : z.natAbs < LIM) : ∃ p m zs, e = .returned (.tuple #[ZV (decide (z < 0)) p m m, .int .i64 0]) ∧ Own B w' p m zs ∧ Nf B64 zs z.natAbs ∧ m ≤ 8192 := by
  rcases h with ⟨_, h⟩ | ⟨h, _⟩
  · exact h
  · omega
theorem AnsI.no {B : Nat} {w' : World} {e : Ending} {z : Int} (h : AnsI B w' e z) (hz : LIM ≤ z.natAbs) : e = .returned (.tuple #[ZV false none 0 0, .int .i64 5]) := by
  rcases h with ⟨h, _⟩ | ⟨_, h⟩
  · omega
  · exact h
theorem Num.zero {w : World} {p : Option Addr} {m c : Nat} {xs : List Nat} {a : Nat} (h : Num w p m c xs a) : m = 0 ↔ a = 0 := by
  rw [← h.nf.zero_iff B64_one, ← h.at_.len]
  exact ⟨List.eq_nil_of_length_eq_zero, fun e => by rw [e]; rfl⟩
theorem LsA.nil (w : World) : LsA w none 0 0 [] := ⟨rfl, Nat.le_refl _, Nat.zero_le _, .inl rfl, fun t ht => by cases ht⟩
end Go.Proofs.Ytimjajoddmbjlaa
