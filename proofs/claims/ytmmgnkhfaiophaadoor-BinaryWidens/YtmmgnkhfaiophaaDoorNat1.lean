import Derived.Test.YtmmgnkhfaiophaaDoorCmp
namespace Go.Proofs.YtmmgnkhfaiophaaDoor
open Go.RowKit

theorem bDrewN {B : Nat} {a w : World} (h : Below B a w) (q : Nat) : Below B a (w.drewN q) := ⟨h.os, h.tape, h.output, h.size, h.block⟩

theorem dig1 {x : Nat} (h : x < B64) : Dig B64 [x] := Dig.cons h (Dig.nil _)

/-- The limit: 8192 limbs. -/
def LIM : Nat := B64 ^ 8192
theorem LIM_eq (k : Nat) (hk : k = 8192) : LIM = B64 ^ k := by subst hk; unfold LIM; rfl
theorem Nf.lim {xs : List Nat} {n : Nat} (h : Nf B64 xs n) : xs.length ≤ 8192 ↔ n < LIM := by
  have := h.len_le (k := 8192) B64_one
  unfold LIM; exact this

/-- A slice of words of one's own (its block is no elder than B), as long as its room. -/
structure Own (B : Nat) (w : World) (p : Option Addr) (m : Nat) (zs : List Nat) : Prop where
  len : zs.length = m
  dig : Dig B64 zs
  mem : m = 0 ∨ ∃ g, p = some ⟨g, 0, none⟩ ∧ B ≤ g ∧ Row w g 0 m zs
theorem Own.at_ {B : Nat} {w : World} {p : Option Addr} {m : Nat} {zs : List Nat} (h : Own B w p m zs) (hm : m ≤ 8192) : At w p m m zs := by
  refine ⟨h.len, Nat.le_refl _, by unfold maxLen; omega, h.dig, ?_⟩
  rcases h.mem with h0 | ⟨g, rfl, _, hr⟩
  · exact .inl h0
  · exact .inr ⟨g, 0, rfl, hr.cell⟩
theorem Row.lt {w : World} {g off n : Nat} {xs : List Nat} (h : Row w g off n xs) (hn : 0 < n) : g < w.heap.size := World.block_lt_of_cell? w _ (h.cell 0 hn)
theorem Own.below {B : Nat} {w w' : World} {p : Option Addr} {m : Nat} {zs : List Nat} (h : Own B w p m zs) (hb : Below w.heap.size w w') : Own B w' p m zs := by
  refine ⟨h.len, h.dig, ?_⟩
  by_cases h0 : m = 0
  · exact .inl h0
  · obtain ⟨g, rfl, hg, hr⟩ := h.mem.resolve_left h0
    exact .inr ⟨g, rfl, hg, hr.below hb (hr.lt (by omega))⟩
theorem Own.mono {B B' : Nat} {w : World} {p : Option Addr} {m : Nat} {zs : List Nat} (h : Own B w p m zs) (hB : B' ≤ B) : Own B' w p m zs := by
  refine ⟨h.len, h.dig, ?_⟩
  rcases h.mem with h0 | ⟨g, hp, hg, hr⟩
  · exact .inl h0
  · exact .inr ⟨g, hp, by omega, hr⟩
theorem Row.take {w : World} {g off n : Nat} {xs : List Nat} (h : Row w g off n xs) (m : Nat) (hm : m ≤ n) : Row w g off m (xs.take m) := by
  refine ⟨by rw [List.length_take, h.len]; omega, h.dig.take m, fun j hj => ?_, fun j hj => h.frozen j (by omega)⟩
  have e : (xs.take m).getD j 0 = xs.getD j 0 := by rw [List.getD_eq_getElem?_getD, List.getD_eq_getElem?_getD, List.getElem?_take, if_pos hj]
  rw [e]; exact h.cell j (by omega)
theorem Row.own {w : World} {g n B : Nat} {xs : List Nat} (h : Row w g 0 n xs) (hB : B ≤ g) {p' : Option Addr} {m : Nat} (hm : m = (trimL xs).length) (hp : m ≠ 0 → p' = some ⟨g, 0, none⟩) : Own B w p' m (trimL xs) := by
  have hle := trimL_length_le xs
  refine ⟨hm.symm, h.dig.trimL, ?_⟩
  by_cases h0 : m = 0
  · exact .inl h0
  · have := h.take m (by have := h.len; omega)
    rw [hm, ← trimL_take, ← hm] at this
    exact .inr ⟨g, hp h0, hB, this⟩
theorem Blk.own {w : World} {g B : Nat} {xs : List Nat} (h : Blk w g xs) (hd : Dig B64 xs) (hB : B ≤ g) : Own B w (some ⟨g, 0, none⟩) xs.length xs :=
  ⟨rfl, hd, .inr ⟨g, rfl, hB, h.row hd⟩⟩
theorem Blk.at_ {w : World} {g : Nat} {xs : List Nat} (h : Blk w g xs) (hd : Dig B64 xs) {n : Nat} (hn : xs.length = n) (hb : n ≤ maxLen) : At w (some ⟨g, 0, none⟩) n n xs := by
  subst hn; exact (h.row hd).at_ (Nat.le_refl _) hb

/-- What a call answers whose answer is the natural n: it, in new memory; or ErrLimit. -/
def Ans (B : Nat) (w' : World) (e : Ending) (n : Nat) : Prop :=
  (n < LIM ∧ ∃ p m zs, e = .returned (.tuple #[.slice p m m, .int .i64 0]) ∧ Own B w' p m zs ∧ Nf B64 zs n ∧ m ≤ 8192) ∨
  (LIM ≤ n ∧ e = .returned (.tuple #[.slice none 0 0, .int .i64 5]))

theorem form_true {p : Option Addr} {n c : Nat} {xs : List Nat} {w : World} (h : At w p n c xs) (hf : formB xs = true) :
    Calls Tryd.prog 80 #[.slice p n c] w fun e w' => e = .returned (.bool true) ∧ w' = w := by
  have := form_any h; rw [hf] at this; exact this
theorem form_false {p : Option Addr} {n c : Nat} {xs : List Nat} {w : World} (h : At w p n c xs) (hf : formB xs = false) :
    Calls Tryd.prog 80 #[.slice p n c] w fun e w' => e = .returned (.bool false) ∧ w' = w := by
  have := form_any h; rw [hf] at this; exact this
theorem Nf.form {xs : List Nat} {n : Nat} (h : Nf B64 xs n) (hl : xs.length ≤ 8192) : formB xs = true := (formB_iff xs).2 ⟨hl, h.top⟩
theorem formB_nf {xs : List Nat} (h : formB xs = true) (hd : Dig B64 xs) : Nf B64 xs (valB B64 xs) ∧ xs.length ≤ 8192 := ⟨⟨hd, ((formB_iff xs).1 h).2, rfl⟩, ((formB_iff xs).1 h).1⟩

end Go.Proofs.YtmmgnkhfaiophaaDoor
