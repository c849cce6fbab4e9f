import Derived.Test.YtfmbifocgljieaaGreatDoorJ12
import Derived.Test.YtfmbifocgljieaaGreatDoorJ8
import Derived.Test.YtfmbifocgljieaaGreatDoorJ9
import Derived.Test.YtfmbifocgljieaaGreatDoorJ11
import Derived.Test.YtfmbifocgljieaaGreatDoorJ10
import Derived.Laws.Cover1
import Derived.Deep.RegionLaw
import Derived.Deep.LoopGhost
namespace Go.Proofs.YtfmbifocgljieaaGreatDoor
open Go.RowKit Go.Shelf
set_option maxRecDepth 20000
set_option maxHeartbeats 0
def Trc (s : Nat → Int) (I Z : Nat) : Prop := Z ≤ I ∧ ∀ z, z < I → (s z < 0 → Z ≤ z) ∧ (0 < s z → z < Z) ∧ (s z = 0 → (Z = z ∨ Z = z + 1) ∧ Z % 2 = 0)
theorem Trc.le {s : Nat → Int} {I Z Y : Nat} (h : Trc s I Z) (k : Trc s I Y) : Z ≤ Y := by
  refine Nat.le_of_not_lt fun hlt => ?_
  have hY : Y < I := Nat.lt_of_lt_of_le hlt h.1
  obtain ⟨h1, h2, h3⟩ := h.2 Y hY
  obtain ⟨k1, k2, k3⟩ := k.2 Y hY
  rcases Int.lt_trichotomy (s Y) 0 with e | e | e
  · have := h1 e; omega
  · have := h3 e; have := k3 e; omega
  · have := k2 e; omega
theorem Trc.uniq {s : Nat → Int} {I Z Y : Nat} (h : Trc s I Z) (k : Trc s I Y) : Z = Y := Nat.le_antisymm (h.le k) (k.le h)
theorem cmpN_lt0 (a b : Nat) : cmpN a b < 0 ↔ a < b := cmpN_neg a b
theorem cmpN_gt0 (a b : Nat) : 0 < cmpN a b ↔ b < a := by
  rcases Nat.lt_trichotomy a b with h | h | h
  · rw [cmpN_lt h]; omega
  · rw [cmpN_eq h]; omega
  · rw [cmpN_gt h]; omega
theorem cmpN_eq0 (a b : Nat) : cmpN a b = 0 ↔ a = b := by
  rcases Nat.lt_trichotomy a b with h | h | h
  · rw [cmpN_lt h]; omega
  · rw [cmpN_eq h]; omega
  · rw [cmpN_gt h]; omega
theorem cmpN_le0 (a b : Nat) : cmpN a b ≤ 0 ↔ a ≤ b := by
  have := cmpN_gt0 a b
  omega
def Up (g : Nat → Nat) : Prop := ∀ a b, a < b → g a < g b
theorem Up.le {g : Nat → Nat} (h : Up g) {a b : Nat} (hab : a ≤ b) : g a ≤ g b := by
  rcases Nat.lt_or_eq_of_le hab with e | e
  · exact Nat.le_of_lt (h a b e)
  · rw [e]; exact Nat.le_refl _
theorem trc_top {g : Nat → Nat} {H I A : Nat} (hH : 0 < H) (hg : Up g) (h : g (2 * vs H I) ≤ A) : Trc (fun z => cmpN A (g (hv H z))) I I := by
  refine ⟨Nat.le_refl _, fun z hz => ?_⟩
  have h1 : g (hv H z) < g (2 * vs H (z + 1)) := hg _ _ (hv_lt hH z)
  have h2 : g (2 * vs H (z + 1)) ≤ g (2 * vs H I) := hg.le (by have := vs_le hH (show z + 1 ≤ I by omega); omega)
  have h3 : g (hv H z) < A := by omega
  refine ⟨fun h4 => ?_, fun _ => hz, fun h4 => ?_⟩
  · have := (cmpN_lt0 _ _).1 h4; omega
  · have := (cmpN_eq0 _ _).1 h4; omega
theorem trc_lo {g : Nat → Nat} {H I A lo Z : Nat} (hH : 0 < H) (hg : Up g) (hl : lo < I) (h1 : g (2 * vs H lo) ≤ A) (h2 : A < g (2 * vs H (lo + 1))) (hZ : Z = if cmpN (g (hv H lo)) A < 0 ∨ (cmpN (g (hv H lo)) A = 0 ∧ lo % 2 = 1) then lo + 1 else lo) : Trc (fun z => cmpN A (g (hv H z))) I Z := by
  have hZ2 : Z = lo ∨ Z = lo + 1 := by rw [hZ]; split <;> omega
  refine ⟨by omega, fun z hz => ?_⟩
  rcases Nat.lt_trichotomy z lo with h | h | h
  · have h3 : g (hv H z) < g (2 * vs H (z + 1)) := hg _ _ (hv_lt hH z)
    have h4 : g (2 * vs H (z + 1)) ≤ g (2 * vs H lo) := hg.le (by have := vs_le hH (show z + 1 ≤ lo by omega); omega)
    refine ⟨fun h5 => ?_, fun _ => by omega, fun h5 => ?_⟩
    · have := (cmpN_lt0 _ _).1 h5; omega
    · have := (cmpN_eq0 _ _).1 h5; omega
  · subst h
    refine ⟨fun h5 => ?_, fun h5 => ?_, fun h5 => ?_⟩
    · have h6 := (cmpN_lt0 _ _).1 h5
      rw [hZ, if_neg]
      · omega
      · rw [cmpN_lt0, cmpN_eq0]; omega
    · have h6 := (cmpN_gt0 _ _).1 h5
      rw [hZ, if_pos (.inl ((cmpN_lt0 _ _).2 h6))]
      omega
    · have h6 := (cmpN_eq0 _ _).1 h5
      rw [cmpN_eq h6.symm] at hZ
      by_cases h7 : z % 2 = 1
      · rw [if_pos (.inr ⟨rfl, h7⟩)] at hZ; omega
      · rw [if_neg (by omega)] at hZ; omega
  · have h3 : g (2 * vs H z) < g (hv H z) := hg _ _ (hv_gt H z)
    have h4 : g (2 * vs H (lo + 1)) ≤ g (2 * vs H z) := hg.le (by have := vs_le hH (show lo + 1 ≤ z by omega); omega)
    refine ⟨fun _ => by omega, fun h5 => ?_, fun h5 => ?_⟩
    · have := (cmpN_gt0 _ _).1 h5; omega
    · have := (cmpN_eq0 _ _).1 h5; omega
def dN (a : Nat) (e : Int) : Nat := a * 2 ^ (e + 4194304).toNat
theorem dN_dv (a : Nat) (e : Int) : dv (a : Int) e = (dN a e : Int) := by
  unfold dv dN
  rw [Int.natCast_mul]
theorem dN_up {a t : Nat} {e f : Int} (h : f = e + t) (he : -4194304 ≤ e) : dN (a * 2 ^ t) e = dN a f := by
  unfold dN
  rw [show (f + 4194304).toNat = t + (e + 4194304).toNat by omega, Nat.pow_add, Nat.mul_assoc]
theorem dN_mono {a b : Nat} (h : a < b) (e : Int) : dN a e < dN b e := Nat.mul_lt_mul_of_pos_right h (Nat.two_pow_pos _)
theorem dN_pos {a : Nat} (h : a ≠ 0) (e : Int) : 0 < dN a e := Nat.mul_pos (by omega) (Nat.two_pow_pos _)
theorem cmpN_mulr (a b c : Nat) (hc : 0 < c) : cmpN (a * c) (b * c) = cmpN a b := by
  unfold cmpN
  by_cases h1 : a < b
  · rw [if_pos h1, if_pos (Nat.mul_lt_mul_of_pos_right h1 hc)]
  · rw [if_neg h1, if_neg (fun h => h1 (Nat.lt_of_mul_lt_mul_right h))]
    by_cases h2 : a = b
    · rw [if_pos h2, if_pos (by rw [h2])]
    · rw [if_neg h2, if_neg (fun h => h2 (Nat.eq_of_mul_eq_mul_right hc h))]
theorem dN_cmp {a b E F : Nat} {e f k : Int} (he : e = k + E) (hf : f = k + F) (hk : -4194304 ≤ k) : cmpN (dN a e) (dN b f) = cmpN (a * 2 ^ E) (b * 2 ^ F) := by
  rw [← dN_up he hk, ← dN_up hf hk]
  exact cmpN_mulr _ _ _ (Nat.two_pow_pos _)
theorem dN_bits {a b : Nat} {e f : Int} (hb : b ≠ 0) (he : -4194304 ≤ e) (hf : -4194304 ≤ f) (h : (bitsN a : Int) + e < (bitsN b : Int) + f) : dN a e < dN b f := by
  unfold dN
  have h0 : a * 2 ^ (e + 4194304).toNat < 2 ^ (bitsN a + (e + 4194304).toNat) := by
    rw [Nat.pow_add]
    exact Nat.mul_lt_mul_of_pos_right (bitsN_lt a) (Nat.two_pow_pos _)
  refine Nat.lt_of_lt_of_le h0 ?_
  have h1 := bitsN_le b hb
  have h2 : 1 ≤ bitsN b := by
    rcases Nat.eq_zero_or_pos (bitsN b) with e | e
    · have := bitsN_lt b; rw [e] at this; omega
    · exact e
  refine Nat.le_trans ?_ (Nat.mul_le_mul_right _ h1)
  rw [← Nat.pow_add]
  exact Nat.pow_le_pow_right (by decide) (by omega)
structure RL (w : World) (p : Option Addr) (m a : Nat) : Prop where
  mem : ∃ zs, At32 w p m m zs ∧ Nf B32 zs a
  len : m ≤ 16384
theorem RL.below {w w' : World} {p : Option Addr} {m a : Nat} (h : RL w p m a) (hb : Below w.heap.size w w') : RL w' p m a := by
  obtain ⟨⟨zs, h1, h2⟩, h3⟩ := h
  exact ⟨⟨zs, h1.below hb, h2⟩, h3⟩
theorem RL.zero {w : World} {p : Option Addr} {m a : Nat} (h : RL w p m a) : m = 0 ↔ a = 0 := by
  obtain ⟨⟨zs, h1, h2⟩, h3⟩ := h
  have h4 := h2.zero_iff B32_one
  have h5 := h1.len
  constructor
  · intro h0
    exact h4.1 (List.eq_nil_of_length_eq_zero (by omega))
  · intro h0
    rw [h4.2 h0] at h5
    simpa using h5.symm
theorem rl_bits {w : World} {p : Option Addr} {m a : Nat} (h : RL w p m a) : bitsN a ≤ 32 * m := by
  obtain ⟨⟨zs, h1, h2⟩, h3⟩ := h
  have h4 := (h2.len_le B32_one (k := m)).1 (by rw [h1.len]; exact Nat.le_refl _)
  rw [show B32 = 2 ^ 32 from rfl, ← Nat.pow_mul] at h4
  by_cases h0 : a = 0
  · rw [h0, bitsN_zero]; omega
  · have h5 := (Nat.pow_lt_pow_iff_right (by decide : 1 < 2)).1 (Nat.lt_of_le_of_lt (bitsN_le a h0) h4)
    omega
theorem rl_len {w : World} {p : Option Addr} {m c a : Nat} {zs : List Nat} (h : At32 w p m c zs) (hN : Nf B32 zs a) {K : Nat} (hb : a < B32 ^ K) : m ≤ K := by
  have h1 := (hN.len_le B32_one (k := K)).2 hb
  rw [h.len] at h1
  exact h1
def NewAt (B : Nat) (w : World) (p : Option Addr) (m c : Nat) (us : List Nat) : Prop := At w p m c us ∧ (m = 0 ∨ ∃ g, p = some ⟨g, 0, none⟩ ∧ B ≤ g)
theorem NewAt.below {B : Nat} {w w' : World} {p : Option Addr} {m c : Nat} {us : List Nat} (h : NewAt B w p m c us) (hb : Below w.heap.size w w') : NewAt B w' p m c us := ⟨h.1.below hb, h.2⟩
theorem NewAt.mono {B B' : Nat} {w : World} {p : Option Addr} {m c : Nat} {us : List Nat} (h : NewAt B w p m c us) (hB : B' ≤ B) : NewAt B' w p m c us :=
  ⟨h.1, h.2.imp id (fun ⟨g, e, k⟩ => ⟨g, e, Nat.le_trans hB k⟩)⟩
theorem NewAt.set {B : Nat} {w : World} {p : Option Addr} {m c : Nat} {us : List Nat} (h : NewAt B w p m c us) {r : Nat} (hr : r < B) (o : Nat) (v : Value) : NewAt B (w.setCell ⟨r, o, none⟩ v) p m c us := by
  refine ⟨?_, h.2⟩
  rcases h.2 with h0 | ⟨g, rfl, hg⟩
  · subst h0
    obtain rfl : us = [] := List.eq_nil_of_length_eq_zero h.1.len
    exact At.empty _ _ _ h.1.big
  · exact h.1.setOther _ _ _ (by omega)
def DocZ (z : Int) (s : Bool) (us : List Nat) (er : Int) : Prop :=
  (z.natAbs < LIM ∧ s = decide (z < 0) ∧ Nf B64 us z.natAbs ∧ er = 0) ∨ (LIM ≤ z.natAbs ∧ s = false ∧ us = [] ∧ er = 5)
theorem DocZ.inj {z : Int} {s s' : Bool} {us us' : List Nat} {er er' : Int} (h : DocZ z s us er) (k : DocZ z s' us' er') : s = s' ∧ us = us' ∧ er = er' := by
  rcases h with ⟨h0, rfl, h1, rfl⟩ | ⟨h0, rfl, rfl, rfl⟩ <;> rcases k with ⟨k0, rfl, k1, rfl⟩ | ⟨k0, rfl, rfl, rfl⟩
  · exact ⟨rfl, h1.inj B64_one k1, rfl⟩
  · omega
  · omega
  · exact ⟨rfl, rfl, rfl⟩
def OneZ (r : Int → Int) (sx : Bool) (xs : List Nat) (s : Bool) (us : List Nat) (er : Int) : Prop :=
  (formZ sx xs = false ∧ s = false ∧ us = [] ∧ er = 2) ∨ (formZ sx xs = true ∧ DocZ (r (iv sx (valB B64 xs))) s us er)
def TwoZ (r : Int → Int → Int) (sx : Bool) (xs : List Nat) (sy : Bool) (ys : List Nat) (s : Bool) (us : List Nat) (er : Int) : Prop :=
  ((formZ sx xs && formZ sy ys) = false ∧ s = false ∧ us = [] ∧ er = 2) ∨ ((formZ sx xs && formZ sy ys) = true ∧ DocZ (r (iv sx (valB B64 xs)) (iv sy (valB B64 ys))) s us er)
theorem OneZ.inj {r : Int → Int} {sx : Bool} {xs : List Nat} {s s' : Bool} {us us' : List Nat} {er er' : Int} (h : OneZ r sx xs s us er) (k : OneZ r sx xs s' us' er') : s = s' ∧ us = us' ∧ er = er' := by
  rcases h with ⟨h0, rfl, rfl, rfl⟩ | ⟨h0, h1⟩ <;> rcases k with ⟨k0, rfl, rfl, rfl⟩ | ⟨k0, k1⟩
  · exact ⟨rfl, rfl, rfl⟩
  · rw [h0] at k0; cases k0
  · rw [h0] at k0; cases k0
  · exact h1.inj k1
theorem TwoZ.inj {r : Int → Int → Int} {sx sy : Bool} {xs ys : List Nat} {s s' : Bool} {us us' : List Nat} {er er' : Int} (h : TwoZ r sx xs sy ys s us er) (k : TwoZ r sx xs sy ys s' us' er') : s = s' ∧ us = us' ∧ er = er' := by
  rcases h with ⟨h0, rfl, rfl, rfl⟩ | ⟨h0, h1⟩ <;> rcases k with ⟨k0, rfl, rfl, rfl⟩ | ⟨k0, k1⟩
  · exact ⟨rfl, rfl, rfl⟩
  · rw [h0] at k0; cases k0
  · rw [h0] at k0; cases k0
  · exact h1.inj k1
def OffR (g m g2 : Nat) : Prop := m = 0 ∨ g ≠ g2
theorem ZR.setOff {w : World} {s : Bool} {g m : Nat} {z : Int} (h : ZR w s (some ⟨g, 0, none⟩) m z) {g2 : Nat} (hf : OffR g m g2) (o2 : Nat) (v : Value) : ZR (w.setCell ⟨g2, o2, none⟩ v) s (some ⟨g, 0, none⟩) m z := by
  rcases hf with h0 | h0
  · subst h0
    obtain ⟨zs, hA, hN⟩ := h.ex
    obtain rfl : zs = [] := List.eq_nil_of_length_eq_zero hA.len
    exact ⟨⟨[], At32.empty _ _ _ (by decide), hN⟩, h.sg⟩
  · exact h.set g2 o2 v h0
structure WinRel32 (w : World) (g off n : Nat) (W D d b : Nat) (ws : List Nat) (wr : World) : Prop where
  wrs : Wr g off (n + 1) w wr
  row : Row32 wr g off (n + 1) ws
  db : d < B32
  bb : b ≤ 1
  ge : W / D ≤ d
  sum : valB B32 ws + D * d = W + B32 ^ (n + 1) * b
theorem WinRel32.done {w : World} {g off n W D d : Nat} {ws : List Nat} {wr : World} (h : WinRel32 w g off n W D d 0 ws wr) (hD : 0 < D) : d = W / D ∧ valB B32 ws = W % D := by
  have h1 := h.sum; have h2 := h.ge
  rw [Nat.mul_zero, Nat.add_zero] at h1
  have h3 : d ≤ W / D := (Nat.le_div_iff_mul_le hD).2 (by rw [Nat.mul_comm]; omega)
  have h4 : d = W / D := by omega
  refine ⟨h4, ?_⟩
  have h5 := Nat.div_add_mod W D
  rw [← h4] at h5
  omega
structure DgS (w : World) (g off n : Nat) (us vs : List Nat) (q k cy ow : Nat) (dk : List Nat) (wr : World) : Prop where
  wrs : Wr g off (n + 1) w wr
  row : Row32 wr g off (n + 1) dk
  hi : dk.drop k = us.drop k
  car : cy < B32
  owb : ow ≤ 1
  fin : k = n + 1 → cy = 0
  sum : valB B32 (dk.take k) + valB B32 (vs.take k) * q = valB B32 (us.take k) + B32 ^ k * (ow + cy)
theorem dgs_abs {P B S V U q d y u o c o' c' : Nat} (h : S + V * q = U + P * (o + c)) (hs : o + c + d + y * q = u + B * (o' + c')) : S + P * d + (V + P * y) * q = U + P * u + P * B * (o' + c') := by
  have e1 : P * (o + c + d + y * q) = P * (u + B * (o' + c')) := by rw [hs]
  rw [Nat.mul_add P (o + c + d) (y * q), Nat.mul_add P (o + c) d, Nat.mul_add P u] at e1
  have e2 : P * (y * q) = P * y * q := (Nat.mul_assoc _ _ _).symm
  have e3 : P * (B * (o' + c')) = P * B * (o' + c') := (Nat.mul_assoc _ _ _).symm
  rw [e2, e3] at e1
  rw [Nat.add_mul]
  generalize P * y * q = X1 at *
  generalize P * B * (o' + c') = X2 at *
  generalize P * (o + c) = X3 at *
  generalize P * d = X4 at *
  generalize P * u = X5 at *
  omega
theorem DgS.step {w : World} {g off n : Nat} {us vs : List Nat} {q k cy ow : Nat} {dk : List Nat} {wr : World} (h : DgS w g off n us vs q k cy ow dk wr) (hk : k < n + 1) (hvl : vs.length = n)
    {y u c1 lo cy' ow' d : Nat} (hy : y = vs.getD k 0) (hu : u = dk.getD k 0) (hc1 : c1 = cy + y * q) (hlo : c1 = lo + B32 * cy') (hcy' : cy' < B32) (how' : ow' ≤ 1) (hd : d + lo + ow = u + B32 * ow') (hdb : d < B32) :
    DgS w g off n us vs q (k + 1) cy' ow' (dk.set k d) (wr.setCell ⟨g, off + k, none⟩ (V d)) := by
  have hlen := h.row.len
  refine ⟨h.wrs.setCell (off + k) ⟨by omega, by omega⟩ _, h.row.set k d hk hdb, ?_, hcy', how', ?_, ?_⟩
  · rw [drop_set_lt]; exact drop_succ_of_drop h.hi
  · intro hkn
    have h0 : y = 0 := by
      rw [hy, List.getD_eq_getElem?_getD, List.getElem?_eq_none (by omega)]; rfl
    rw [h0, Nat.zero_mul] at hc1
    have := h.car
    rcases Nat.eq_zero_or_pos cy' with e | e
    · exact e
    · have : B32 * 1 ≤ B32 * cy' := Nat.mul_le_mul_left _ e
      omega
  · have huu : u = us.getD k 0 := hu.trans (getD_of_drop h.hi)
    rw [take_set_succ dk k d (by omega), valB_snoc, List.length_take, hlen, Nat.min_eq_left (by omega), valB_take_any _ us k, valB_take_any _ vs k, ← huu, ← hy, Nat.pow_succ]
    refine dgs_abs h.sum ?_
    rw [Nat.mul_add]
    omega
structure DgA (w : World) (g off n : Nat) (ws vs : List Nat) (k cy : Nat) (dk : List Nat) (wr : World) : Prop where
  wrs : Wr g off (n + 1) w wr
  row : Row32 wr g off (n + 1) dk
  hi : dk.drop k = ws.drop k
  car : cy ≤ 1
  sum : valB B32 (dk.take k) + B32 ^ k * cy = valB B32 (ws.take k) + valB B32 (vs.take k)
theorem DgA.step {w : World} {g off n : Nat} {ws vs : List Nat} {k cy : Nat} {dk : List Nat} {wr : World} (h : DgA w g off n ws vs k cy dk wr) (hk : k < n + 1)
    {y u lo cy' : Nat} (hy : y = vs.getD k 0) (hu : u = dk.getD k 0) (hs : cy + u + y = lo + B32 * cy') (hlo : lo < B32) (hcy' : cy' ≤ 1) :
    DgA w g off n ws vs (k + 1) cy' (dk.set k lo) (wr.setCell ⟨g, off + k, none⟩ (V lo)) := by
  have hlen := h.row.len
  refine ⟨h.wrs.setCell (off + k) ⟨by omega, by omega⟩ _, h.row.set k lo hk hlo, ?_, hcy', ?_⟩
  · rw [drop_set_lt]; exact drop_succ_of_drop h.hi
  · have huu : u = ws.getD k 0 := hu.trans (getD_of_drop h.hi)
    rw [take_set_succ dk k lo (by omega), valB_snoc, List.length_take, hlen, Nat.min_eq_left (by omega), valB_take_any _ ws k, valB_take_any _ vs k, ← huu, ← hy, Nat.pow_succ]
    have e1 := h.sum
    have e2 : B32 ^ k * (cy + u + y) = B32 ^ k * (lo + B32 * cy') := by rw [hs]
    rw [Nat.mul_add, Nat.mul_add, Nat.mul_add, ← Nat.mul_assoc] at e2
    omega
theorem Blk32.own {w : World} {g base : Nat} {xs : List Nat} (h : Blk32 w g xs) (hb : base ≤ g) (hm : xs.length ≤ maxLen) : w.ownsRow base 171 1 (.slice (some ⟨g, 0, none⟩) xs.length xs.length) xs.length (cellsV xs) :=
  ⟨by simp [cellsV], .inr ⟨g, xs.length, (cellsV xs).toArray, rfl, hb, h, Nat.le_refl _, hm, by simp [cellsV], by rw [Nat.mul_one]; exact List.take_of_length_le (by simp [cellsV])⟩⟩
structure RSmR (w : World) (g N : Nat) (xs : List Nat) (v c i cy : Nat) (ss : List Nat) (wr : World) : Prop where
  bel : Below g w wr
  own : wr.ownsRow g 171 1 (.slice (some ⟨g, 0, none⟩) i N) i (cellsV ss)
  len : ss.length = i
  dig : Dig B32 ss
  car : cy < B32
  sum : valB B32 ss + B32 ^ i * cy = valB B32 (xs.take i) * v + c
theorem rsm_step {xs ss : List Nat} {i cy x v c lo hh : Nat} (h : valB B32 ss + B32 ^ i * cy = valB B32 (xs.take i) * v + c) (hl : ss.length = i) (ex : x = xs.getD i 0) (hs : cy + x * v = lo + B32 * hh) :
    valB B32 (ss ++ [lo]) + B32 ^ (i + 1) * hh = valB B32 (xs.take (i + 1)) * v + c := by
  rw [valB_snoc, hl, valB_take_any _ xs i, ← ex, Nat.pow_succ, Nat.add_mul]
  have e1 : B32 ^ i * (cy + x * v) = B32 ^ i * (lo + B32 * hh) := by rw [hs]
  rw [Nat.mul_add, Nat.mul_add, ← Nat.mul_assoc, ← Nat.mul_assoc] at e1
  omega
theorem own_at32 {wr : World} {g i N : Nat} {ss : List Nat} (ho : wr.ownsRow g 171 1 (.slice (some ⟨g, 0, none⟩) i N) i (cellsV ss)) (hl : ss.length = i) (hd : Dig B32 ss) : At32 wr (some ⟨g, 0, none⟩) i N ss := by
  rcases ho.2 with ⟨h', _⟩ | ⟨g', cap', cur, h', hbase, hgc, hcap', hmx, hsz, htake⟩
  · simp at h'
  · simp only [Value.slice.injEq, Option.some.injEq, Addr.mk.injEq, and_true, true_and] at h'
    obtain ⟨rfl, rfl⟩ := h'
    refine ⟨hl, hcap', hmx, hd, .inr ⟨g, 0, rfl, fun jj hj => ?_⟩⟩
    rw [Nat.zero_add, cell_of_row wr g jj _ _ _ hgc]
    have e1 := cellsV_get ss jj (by rw [hl]; exact hj)
    rw [← htake, Nat.mul_one, List.getElem?_take, if_pos hj] at e1
    rw [← Array.getElem?_toList]; exact e1

theorem rsmall_any {p : Option Addr} {n c : Nat} {xs : List Nat} {a v u : Nat} {w : World} (h : At32 w p n c xs) (hx : Nf B32 xs a) (hn : n ≤ 4398046511104) (hv : v < B32) (hu : u < B32) :
    Calls Tryz.prog 153 #[.slice p n c, V v, V u] w fun e w' => ∃ g zs, e = .returned (.slice (some ⟨g, 0, none⟩) zs.length zs.length) ∧ Blk32 w' g zs ∧ Nf B32 zs (a * v + u) ∧ zs.length ≤ n + 1 ∧ Below w.heap.size w w' := by
  obtain ⟨i0, hi, hz0, hz1, hz2⟩ := info_parts Tryz.infoU32
  have HX : Hid (Nf B32 xs a) := hx
  have HLX : Hid (xs.length = n) := h.len
  have hcap := h.cap; have hbig := h.big
  unfold maxLen at hbig
  have huw : IntKind.u64.wrap (u : Int) = (u : Int) := wrap_mod _ _ (by rw [B32_eq] at hu; omega)
  clear hx
  go_enter Tryz.func153, Tryz.ntmps153
  go_wp2_with (at_make; refine wpList_make_own _ rfl _ _ 102 rfl w.heap.size 171 i0 (.int .u32 0) 1 Tryz.underlying102 hi hz0 hz1 _ _ _ (n + 1) rfl rfl (by omega) (by rw [hz2]; omega) (by unfold maxLen; omega) (Nat.le_refl _) ?_; intro w1 hown hgrow)
  have hb1 : Below w.heap.size w w1 := (Below.refl _ _).grown hgrow (Nat.le_refl _) (fun k hk => by simp at hk)
  have HO : Hid (RSmR w w.heap.size (n + 1) xs v u 0 u [] w1) := ⟨hb1, hown, rfl, Dig.nil _, hu, by simp [valB]⟩
  clear hown hgrow hb1
  obtain ⟨N, hN⟩ : ∃ N, N = n + 1 := ⟨_, rfl⟩
  rw [← hN] at HO ⊢
  have HN : Hid (N = n + 1) := hN
  clear hN
  go_loopg [7, 8, 9] n (fun gk sv cv iv wr => ∃ (i cy : Nat) (ss : List Nat), i + gk = n ∧ iv = .int .i64 i ∧ cv = U cy ∧ sv = .slice (some ⟨w.heap.size, 0, none⟩) i N ∧ Hid (RSmR w w.heap.size N xs v u i cy ss wr))
  case atStart => exact ⟨0, u, [], by omega, rfl, rfl, rfl, HO⟩
  case round =>
    obtain ⟨i, cy, ss, hig, rfl, rfl, rfl, HR⟩ := hrel
    have hcyb := HR.out.car
    cases gk with
    | zero =>
      obtain rfl : i = n := by omega
      have hni : ¬ i < i := by omega
      have hw32 : IntKind.u32.wrap (cy : Int) = (cy : Int) := wrap32 cy hcyb
      have HOA : Hid ((wr.alloc (.cells #[V cy] 171)).ownsRow w.heap.size 171 1 (.slice (some ⟨w.heap.size, 0, none⟩) i N) i (cellsV ss)) := HR.out.own.alloc _
      have hsp : i + 1 ≤ N := by have := HN.out; omega
      go_wp2_with (at_builtin; refine wpList_append_fits _ rfl (.tmp 40) (.tmp 43) 102 rfl w.heap.size 171 i0 1 Tryz.underlying102 hi hz1 w.heap.size i N (cellsV ss) rfl HOA.out ⟨wr.heap.size, 0, none⟩ 1 1 [V cy] rfl rfl (one_cell wr cy) (by intro u hu; simp at hu; subst hu; rfl) hsp ?_; intro w3 hw3 hgr3)
      have hR := HR.out
      have hbx : Below w.heap.size w w3 := (hR.bel.alloc hR.bel.size _).grown hgr3 (by have := hR.bel.size; simp; omega) (fun q hq => by simp at hq; omega)
      have e0 : cellsV (ss ++ [cy]) = cellsV ss ++ [V cy] := by unfold cellsV; rw [List.map_append]; rfl
      rw [← e0] at hw3
      have hl3 : (ss ++ [cy]).length = i + 1 := by simp [hR.len]
      have hd3 : Dig B32 (ss ++ [cy]) := hR.dig.append (Dig.cons hcyb (Dig.nil _))
      have A32 := own_at32 hw3 hl3 hd3
      have HNF : Hid (Nf B32 (trimL (ss ++ [cy])) (a * v + u)) := by
        have h1 := Nf.trim hd3
        have h2 := hR.sum
        rw [List.take_of_length_le (by rw [HLX.out]; omega), HX.out.val] at h2
        rw [valB_snoc, hR.len, h2] at h1; exact h1
      have hle := trimL_length_le (ss ++ [cy])
      have HLE : Hid ((trimL (ss ++ [cy])).length ≤ i + 1) := by show _ ≤ _; omega
      clear hw3 hgr3 e0 hl3 hd3 hle hR
      refine (rnorm_any A32 (by omega)).mono ?_
      rintro e w5 ⟨g5, rfl, hg5, hblk5, hb5⟩
      generalize trimL (ss ++ [cy]) = zs at *
      go_wp2_with fail
      go_ret
      exact ⟨g5, zs, rfl, hblk5, HNF.out, HLE.out, Below.on hbx hb5⟩
    | succ gg =>
      obtain ⟨g, off, rfl, hc⟩ := h.cells.resolve_left (by omega)
      obtain ⟨x, hxx⟩ : ∃ x, x = xs.getD i 0 := ⟨_, rfl⟩
      have hin : i < n := by omega
      have hcx0 : w.cell? ⟨g, off + i, none⟩ = some (V x) := by rw [hxx]; exact hc i hin
      have hcx : wr.cell? ⟨g, off + i, none⟩ = some (V x) := (HR.out.bel.cell (p := ⟨g, off + i, none⟩) (World.block_lt_of_cell? w _ hcx0)).trans hcx0
      have hxb : x < B32 := by rw [hxx]; exact HX.out.dig.getD B32_pos i
      have hxw : IntKind.u64.wrap (x : Int) = (x : Int) := wrap_mod _ _ (by rw [B32_eq] at hxb; omega)
      have hvw : IntKind.u64.wrap (v : Int) = (v : Int) := wrap_mod _ _ (by rw [B32_eq] at hv; omega)
      have HXE : Hid (x = xs.getD i 0) := hxx
      have hall := rmul_digit hxb hv B32_pos hcyb
      obtain ⟨xy, exy⟩ : ∃ xy, xy = x * v := ⟨_, rfl⟩
      rw [← exy] at hall
      rw [B64_eq] at hall
      have f1 : IntKind.u64.wrap ((x : Int) * (v : Int)) = (xy : Int) := by
        have e : ((x : Int) * (v : Int)) = ((x * v : Nat) : Int) := by simp
        rw [e, ← exy]; exact wrap_mod _ _ (by omega)
      obtain ⟨s2, es2⟩ : ∃ s2, s2 = cy + xy := ⟨_, rfl⟩
      have f3 : IntKind.u64.wrap ((cy : Int) + (xy : Int)) = (s2 : Int) := wrap_mod _ _ (by omega)
      have hs2 : s2 < 18446744073709551616 := by omega
      obtain ⟨lo, elo⟩ : ∃ lo, lo = s2 % B32 := ⟨_, rfl⟩
      obtain ⟨hh, ehh⟩ : ∃ hh, hh = s2 / B32 := ⟨_, rfl⟩
      have hlob : lo < B32 := by rw [elo]; exact Nat.mod_lt _ B32_pos
      have hhhb : hh < B32 := by rw [ehh]; exact Nat.div_lt_of_lt_mul (by rw [B32_two, B64_eq]; exact hs2)
      have f4 : bits .and .u64 (s2 : Int) 4294967295 = (lo : Int) := by rw [elo, B32_eq]; exact and32 s2 hs2
      have f5 : (s2 : Int) / 4294967296 = (hh : Int) := by rw [ehh, B32_eq]; exact div32 s2
      have f6 : IntKind.u32.wrap (lo : Int) = (lo : Int) := wrap32 lo hlob
      have HSUM : Hid (cy + x * v = lo + B32 * hh) := by
        have := Nat.mod_add_div s2 B32
        rw [← elo, ← ehh] at this
        show _ = _; omega
      have HOA : Hid ((wr.alloc (.cells #[V lo] 171)).ownsRow w.heap.size 171 1 (.slice (some ⟨w.heap.size, 0, none⟩) i N) i (cellsV ss)) := HR.out.own.alloc _
      have hsp : i + 1 ≤ N := by have := HN.out; omega
      clear hall exy es2 elo ehh hxx hcx0 hc
      go_wp2_with (at_builtin; refine wpList_append_fits _ rfl (.tmp 32) (.tmp 36) 102 rfl w.heap.size 171 i0 1 Tryz.underlying102 hi hz1 w.heap.size i N (cellsV ss) rfl HOA.out ⟨wr.heap.size, 0, none⟩ 1 1 [V lo] rfl rfl (one_cell wr lo) (by intro u hu; simp at hu; subst hu; rfl) hsp ?_; intro w3 hw3 hgr3)
      have HR3 : Hid (RSmR w w.heap.size N xs v u (i + 1) hh (ss ++ [lo]) w3) := by
        have hR := HR.out
        refine ⟨(hR.bel.alloc hR.bel.size _).grown hgr3 (by have := hR.bel.size; simp; omega) (fun q hq => by simp at hq; omega), ?_, by simp [hR.len], hR.dig.append (Dig.cons hlob (Dig.nil _)), hhhb, rsm_step hR.sum hR.len HXE.out HSUM.out⟩
        have e0 : cellsV (ss ++ [lo]) = cellsV ss ++ [V lo] := by unfold cellsV; rw [List.map_append]; rfl
        rw [e0]; exact hw3
      clear hw3 hgr3
      go_roundg gg
      case measure => omega
      case rel => exact ⟨i + 1, hh, ss ++ [lo], by omega, by go_num, rfl, rfl, HR3⟩
theorem wpList_make_room {P : Program} (w : World) {ops : Array Oper} {rest : List Oper} {o : Oper} {a : Act} {Q : Exit → Act → World → Prop}
    (hg : o.guard = none) (l c : Operand) (t : TypeId) (hop : o.op = Op.makeSlice t l c)
    (base : Nat) (e : TypeId) (i : TypeInfo) (z : Value) (size : Nat) (h1 : P.underlying t = some (.slice e)) (h2 : P.info? e = some i) (h3 : i.zero = some z) (h4 : i.size = size)
    (kl kc : IntKind) (L C : Int) (n m : Nat) (hl : a.eval l = .int kl L) (hc : a.eval c = .int kc C) (hL : L = (n : Int)) (hC : C = (m : Int)) (hnm : n ≤ m) (b2 : i.bytes * m ≤ 281474976710656) (b3 : m ≤ maxLen) (b4 : base ≤ w.heap.size)
    (hK : ∀ w', w'.ownsRow base e size (.slice (some ⟨w.heap.size, 0, none⟩) n m) n ((madeCells z.cells (m * size)).toList.take (n * size)) → w.grownBy w' none → wpList P ops Q rest (a.put o.dst (.slice (some ⟨w.heap.size, 0, none⟩) n m)) w') :
    wpList P ops Q (o :: rest) a w := by
  refine wpList_plain hg fun K hK' => ?_
  subst h4
  have h63' : (m : Int) ≤ 9223372036854775807 := by
    have h := b3
    simp [maxLen] at h
    omega
  have hb' : (i.bytes : Int) * (m : Int) ≤ 281474976710656 := by
    have h : ((i.bytes * m : Nat) : Int) ≤ 281474976710656 := by omega
    rwa [Int.natCast_mul] at h
  have hr := run_make (P := P) w t e i z h1 h2 h3 kl kc n m (by omega) (by omega) hb' h63'
  simp only [Int.toNat_natCast] at hr
  subst hL
  subst hC
  unfold Oper.wp
  simp [execOp, hop, hl, hc, hr, Result.andThen]
  refine hK' _ _ (hK _ ⟨?_, .inr ⟨_, m, _, rfl, b4, heap_alloc_new w _, hnm, b3, size_madeCells _ _, rfl⟩⟩ (World.grownBy_alloc w _ none))
  rw [List.length_take, Nat.min_eq_left]
  rw [Array.length_toList, size_madeCells]
  exact Nat.mul_le_mul_right _ hnm
theorem made_take (D M : Nat) (h : D ≤ M) : (madeCells (Value.cells (.int .u32 0)) (M * 1)).toList.take (D * 1) = cellsV (List.replicate D 0) := by
  rw [madeV, Nat.mul_one]
  unfold cellsV
  rw [List.map_replicate, List.map_replicate, List.take_replicate, Nat.min_eq_left h]
theorem valB_zeros (D : Nat) (zs : List Nat) : valB B32 (List.replicate D 0 ++ zs) = B32 ^ D * valB B32 zs := by
  rw [valB_append, valB_replicate, List.length_replicate, Nat.zero_add]

theorem own_below {w w' : World} {base g n m size : Nat} {e : TypeId} {xs : List Value} (h : w.ownsRow base e size (.slice (some ⟨g, 0, none⟩) n m) n xs) (hb : Below w.heap.size w w') (hg : g < w.heap.size) : w'.ownsRow base e size (.slice (some ⟨g, 0, none⟩) n m) n xs := by
  refine ⟨h.1, ?_⟩
  rcases h.2 with ⟨h', _⟩ | ⟨g', cap', cur, h', hbase, hgc, hr⟩
  · simp at h'
  · have h2 := h'
    simp only [Value.slice.injEq, Option.some.injEq, Addr.mk.injEq, and_true] at h2
    obtain ⟨rfl, _⟩ := h2
    exact .inr ⟨_, cap', cur, h', hbase, (hb.block _ hg).trans hgc, hr⟩
theorem blk_src {w : World} {g : Nat} {xs : List Nat} (h : Blk32 w g xs) : ∀ j u, (cellsV xs)[j]? = some u → w.cell? ((⟨g, 0, none⟩ : Addr).add j) = some u := by
  intro j u hu
  have hj : j < xs.length := by
    have := (List.getElem?_eq_some_iff.1 hu).1
    rwa [cellsV_length] at this
  have hadd : (⟨g, 0, none⟩ : Addr).add j = ⟨g, j, none⟩ := by unfold Addr.add; split <;> simp_all
  rw [hadd, h.cell j hj]
  rw [cellsV_get xs j hj] at hu
  exact hu

theorem rshl_any {p : Option Addr} {n c : Nat} {xs : List Nat} {a : Nat} {w : World} (h : At32 w p n c xs) (hx : Nf B32 xs a) (hn0 : 0 < n) (hn : n ≤ 16384) (N : Nat) (hN2 : N ≤ 524288) :
    Calls Tryz.prog 129 #[.slice p n c, .int .i64 N] w fun e w' => ∃ p' m' zs, e = .returned (.slice p' m' m') ∧ At32 w' p' m' m' zs ∧ Nf B32 zs (a * 2 ^ N) ∧ m' ≤ 40000 ∧ Below w.heap.size w w' := by
  obtain ⟨i0, hi, hz0, hz1, hz2⟩ := info_parts Tryz.infoU32
  have HX : Hid (Nf B32 xs a) := hx
  have HA : Hid (At32 w p n c xs) := h
  have HLX : Hid (xs.length = n) := h.len
  have cap := h.cap
  have big := h.big
  unfold maxLen at big
  have hne : ((n : Int) == 0) = false := by simp; omega
  clear hx h
  by_cases hN0 : N = 0
  · subst hN0
    go_enter Tryz.func129, Tryz.ntmps129
    go_wp2_with fail
    refine (rnorm_any HA.out (by omega)).mono ?_
    rw [trimL_of_Top HX.out.top]
    rintro e w1 ⟨g, rfl, hg, hb, hbl⟩
    have HB : Hid (Blk32 w1 g xs) := hb
    rw [HLX.out]
    clear hb
    go_wp2_with fail
    go_ret
    exact ⟨_, n, xs, rfl, HB.out.at_ HX.out.dig HLX.out (by unfold maxLen; omega), by rw [Nat.pow_zero, Nat.mul_one]; exact HX.out, by omega, hbl⟩
  · obtain ⟨D, hD⟩ : ∃ D, D = N / 32 := ⟨_, rfl⟩
    obtain ⟨R, hR⟩ : ∃ R, R = N % 32 := ⟨_, rfl⟩
    have d1 : (N : Int).tdiv 32 = (D : Int) := by rw [Int.tdiv_eq_ediv_of_nonneg (by omega)]; omega
    have d2 : (N : Int).tmod 32 = (R : Int) := by rw [Int.tmod_eq_emod_of_nonneg (by omega)]; omega
    have hNp : ¬ (N : Int) ≤ 0 := by omega
    have hR32 : R < 32 := by omega
    have hDb : D ≤ 16384 := by omega
    have HD : Hid (2 ^ N = B32 ^ D * 2 ^ R) := by show _ = _; rw [show B32 = 2 ^ 32 from rfl, ← Nat.pow_mul, ← Nat.pow_add]; congr 1; omega
    obtain ⟨M, hM⟩ : ∃ M, M = D + n + 1 := ⟨_, rfl⟩
    have hMI : (D : Int) + (n : Int) + 1 = (M : Int) := by omega
    have HM : Hid (M = D + n + 1) := hM
    have hMb : M ≤ 33000 := by omega
    have hDM : D ≤ M := by omega
    obtain ⟨d, hd⟩ : ∃ d, d = 2 ^ R := ⟨_, rfl⟩
    have hd1 : 1 ≤ d := by rw [hd]; exact Nat.pow_pos (by decide)
    have hdB : d < B32 := by rw [hd, show B32 = 2 ^ 32 from rfl]; exact Nat.pow_lt_pow_right (by decide) hR32
    have hdw : IntKind.u32.wrap (d : Int) = (d : Int) := wrap32 d hdB
    have hdI : (2 : Int) ^ R = (d : Int) := by rw [hd]; norm_cast
    have HDD : Hid (d = 2 ^ R ∧ 1 ≤ d ∧ d < B32) := ⟨hd, hd1, hdB⟩
    clear hD hR hM hd hd1 hdB
    go_enter Tryz.func129, Tryz.ntmps129
    go_wp2_with (at_make; refine wpList_make_room _ rfl _ _ 102 rfl w.heap.size 171 i0 (.int .u32 0) 1 Tryz.underlying102 hi hz0 hz1 _ _ _ _ D M rfl rfl (by omega) (by omega) hDM (by rw [hz2]; omega) (by unfold maxLen; omega) (Nat.le_refl _) ?_; intro w1 hown hgrow)
    have hb1 : Below w.heap.size w w1 := (Below.refl _ _).grown hgrow (Nat.le_refl _) (fun k hk => by simp at hk)
    rw [made_take D M hDM] at hown
    have HO : Hid (w1.ownsRow w.heap.size 171 1 (.slice (some ⟨w.heap.size, 0, none⟩) D M) D (cellsV (List.replicate D 0))) := hown
    have HA1 : Hid (At32 w1 p n c xs) := HA.out.below hb1
    have HB1 : Hid (Below w.heap.size w w1) := hb1
    have HSZ : Hid (w.heap.size < w1.heap.size) := by
      rcases HO.out.2 with ⟨h', _⟩ | ⟨g', _, _, h', _, hgc, _⟩
      · simp at h'
      · simp only [Value.slice.injEq, Option.some.injEq, Addr.mk.injEq, and_true] at h'
        obtain ⟨rfl, _⟩ := h'
        exact (Array.getElem?_eq_some_iff.1 hgc).1
    clear hown hgrow hb1 HA
    rw [show Value.int IntKind.u32 (d : Int) = V d from rfl, show Value.int IntKind.u32 0 = V 0 from rfl]
    refine (rsmall_any HA1.out HX.out (by omega) HDD.out.2.2 (show 0 < B32 by decide)).mono ?_
    rintro e w2 ⟨g2, z2, rfl, hk2, hn2, hl2, hb2⟩
    rw [Nat.add_zero] at hn2
    have HO2 : Hid (w2.ownsRow w.heap.size 171 1 (.slice (some ⟨w.heap.size, 0, none⟩) D M) D (cellsV (List.replicate D 0))) := own_below HO.out hb2 HSZ.out
    have HK2 : Hid (Blk32 w2 g2 z2) := hk2
    have HN2 : Hid (Nf B32 z2 (a * d)) := hn2
    have HB2 : Hid (Below w.heap.size w w2) := Below.on HB1.out hb2
    obtain ⟨l2, hle2⟩ : ∃ l2, l2 = z2.length := ⟨_, rfl⟩
    have HL2 : Hid (z2.length = l2) := hle2.symm
    rw [← hle2] at hl2 ⊢
    have hsp : D + l2 ≤ M := by have := HM.out; omega
    clear hk2 hn2 hb2 hle2 HO HA1 HB1
    go_wp2_with (at_builtin; refine wpList_append_fits _ rfl (.tmp 24) (.tmp 29) 102 rfl w.heap.size 171 i0 1 Tryz.underlying102 hi hz1 w.heap.size D M (cellsV (List.replicate D 0)) rfl HO2.out ⟨g2, 0, none⟩ l2 l2 (cellsV z2) rfl (by rw [cellsV_length, HL2.out, Nat.mul_one]) (blk_src HK2.out) (cellsV_one _) hsp ?_; intro w3 hw3 hgr3)
    have hd3 : Dig B32 (List.replicate D 0 ++ z2) := (Dig.replicate B32 D B32_pos).append HN2.out.dig
    have hl3 : (List.replicate D 0 ++ z2).length = D + l2 := by rw [List.length_append, List.length_replicate, HL2.out]
    have A3 : Hid (At32 w3 (some ⟨w.heap.size, 0, none⟩) (D + l2) M (List.replicate D 0 ++ z2)) := own_at32 (by rw [show cellsV (List.replicate D 0 ++ z2) = cellsV (List.replicate D 0) ++ cellsV z2 from by unfold cellsV; rw [List.map_append]]; exact hw3) hl3 hd3
    have HB3 : Hid (Below w.heap.size w w3) := HB2.out.grown hgr3 HB2.out.size (fun q hq => by simp at hq; omega)
    have NF3 : Hid (Nf B32 (trimL (List.replicate D 0 ++ z2)) (a * 2 ^ N)) := by
      have h1 := Nf.trim hd3
      rw [valB_zeros, HN2.out.val] at h1
      have e1 : B32 ^ D * (a * d) = a * 2 ^ N := by rw [HD.out, ← HDD.out.1, Nat.mul_left_comm]
      rw [e1] at h1; exact h1
    have hle3 : (trimL (List.replicate D 0 ++ z2)).length ≤ D + l2 := by have h1 := trimL_length_le (List.replicate D 0 ++ z2); omega
    clear hw3 hgr3 hl3 hd3
    refine (rnorm_any A3.out (by omega)).mono ?_
    rintro e w4 ⟨g4, rfl, hg4, hb4, hbl4⟩
    have A4 : Hid (At32 w4 (some ⟨g4, 0, none⟩) (trimL (List.replicate D 0 ++ z2)).length (trimL (List.replicate D 0 ++ z2)).length (trimL (List.replicate D 0 ++ z2))) := hb4.at_ NF3.out.dig rfl (by unfold maxLen; omega)
    have hbw4 := Below.on HB3.out hbl4
    generalize trimL (List.replicate D 0 ++ z2) = z4 at *
    clear hb4 hbl4 hg4
    go_wp2_with fail
    go_ret
    exact ⟨_, _, z4, rfl, A4.out, NF3.out, by omega, hbw4⟩
structure Op5 where
  k : Int
  pa : Option Addr
  na : Nat
  ca : Nat
  xa : List Nat
  pb : Option Addr
  nb : Nat
  cb : Nat
  xb : List Nat
  nn : Int
  wd : Nat
structure Scr (w : World) (P : Option Addr) (N C : Nat) (its : List Op5) : Prop where
  len : its.length = N
  cap : N ≤ C
  big : C ≤ maxLen
  ats : ∀ t ∈ its, At w t.pa t.na t.ca t.xa ∧ At w t.pb t.nb t.cb t.xb ∧ t.na ≤ 17592186044416 ∧ t.nb ≤ 17592186044416 ∧ t.wd < B64 ∧ -9223372036854775808 ≤ t.nn ∧ t.nn ≤ 9223372036854775807
  cells : N = 0 ∨ ∃ g off, P = some ⟨g, off, none⟩ ∧ ∀ i (h : i < its.length), w.cell? ⟨g, off + i * 5, none⟩ = some (.int .i64 its[i].k) ∧ w.cell? ⟨g, off + i * 5 + 1, none⟩ = some (.slice its[i].pa its[i].na its[i].ca) ∧
    w.cell? ⟨g, off + i * 5 + 2, none⟩ = some (.slice its[i].pb its[i].nb its[i].cb) ∧ w.cell? ⟨g, off + i * 5 + 3, none⟩ = some (.int .i64 its[i].nn) ∧ w.cell? ⟨g, off + i * 5 + 4, none⟩ = some (U its[i].wd)
theorem Scr.below {w w' : World} {P : Option Addr} {N C : Nat} {its : List Op5} (h : Scr w P N C its) (hb : Below w.heap.size w w') : Scr w' P N C its := by
  refine ⟨h.len, h.cap, h.big, fun t ht => ?_, ?_⟩
  · obtain ⟨h1, h2, h3⟩ := h.ats t ht
    exact ⟨h1.below hb, h2.below hb, h3⟩
  · rcases h.cells with h0 | ⟨g, off, hP, hc⟩
    · exact .inl h0
    · refine .inr ⟨g, off, hP, fun i hi => ?_⟩
      obtain ⟨h0, h1, h2, h3, h4⟩ := hc i hi
      have hl : g < w.heap.size := World.block_lt_of_cell? w _ h0
      exact ⟨(hb.cell (p := ⟨g, off + i * 5, none⟩) hl).trans h0, (hb.cell (p := ⟨g, off + i * 5 + 1, none⟩) hl).trans h1, (hb.cell (p := ⟨g, off + i * 5 + 2, none⟩) hl).trans h2,
        (hb.cell (p := ⟨g, off + i * 5 + 3, none⟩) hl).trans h3, (hb.cell (p := ⟨g, off + i * 5 + 4, none⟩) hl).trans h4⟩
def ShIs (r : Nat → Nat → Nat) (xs : List Nat) (t : Int) (us : List Nat) (f : Int) : Prop :=
  (t < 0 ∧ us = [] ∧ f = 1) ∨ (0 ≤ t ∧ formB xs = false ∧ us = [] ∧ f = 2) ∨ (0 ≤ t ∧ formB xs = true ∧ DocIs (r (valB B64 xs) t.toNat) us f)
theorem ShIs.inj {r : Nat → Nat → Nat} {xs : List Nat} {t : Int} {us us' : List Nat} {f f' : Int} (h : ShIs r xs t us f) (k : ShIs r xs t us' f') : us = us' ∧ f = f' := by
  rcases h with ⟨h1, rfl, rfl⟩ | ⟨h1, h2, rfl, rfl⟩ | ⟨h1, h2, h3⟩ <;> rcases k with ⟨k1, rfl, rfl⟩ | ⟨k1, k2, rfl, rfl⟩ | ⟨k1, k2, k3⟩
  · exact ⟨rfl, rfl⟩
  · omega
  · omega
  · omega
  · exact ⟨rfl, rfl⟩
  · rw [k2] at h2; simp at h2
  · omega
  · rw [k2] at h2; simp at h2
  · exact h3.inj k3
theorem ShIs.er {r : Nat → Nat → Nat} {xs us : List Nat} {t f : Int} (h : ShIs r xs t us f) : f = 0 ∨ f = 1 ∨ f = 2 ∨ f = 3 ∨ f = 4 ∨ f = 5 := by
  rcases h with ⟨_, _, rfl⟩ | ⟨_, _, _, rfl⟩ | ⟨_, _, ⟨_, _, rfl⟩ | ⟨_, _, rfl⟩⟩ <;> simp
theorem rshl_nil {p : Option Addr} {c : Nat} {w : World} (hc : c ≤ maxLen) (k : Int) :
    Calls Tryz.prog 129 #[.slice p 0 c, .int .i64 k] w fun e w' => ∃ g, e = .returned (.slice (some ⟨g, 0, none⟩) 0 0) ∧ At32 w' (some ⟨g, 0, none⟩) 0 0 [] ∧ Below w.heap.size w w' := by
  have HC : Hid (c ≤ maxLen) := hc
  clear hc
  by_cases h0 : k ≤ 0
  · have h1 : ¬ 0 < k := by omega
    go_enter Tryz.func129, Tryz.ntmps129
    go_wp2_with fail
    refine (rnorm_any (At32.empty w p c HC.out) (by omega)).mono ?_
    rintro e w1 ⟨g, rfl, hg, hblk, hb⟩
    go_wp2_with fail
    go_ret
    exact ⟨g, rfl, At32.empty _ _ _ (by decide), hb⟩
  · have h1 : 0 < k := by omega
    go_enter Tryz.func129, Tryz.ntmps129
    go_wp2_with fail
    refine (rnorm_any (At32.empty w p c HC.out) (by omega)).mono ?_
    rintro e w1 ⟨g, rfl, hg, hblk, hb⟩
    go_wp2_with fail
    go_ret
    exact ⟨g, rfl, At32.empty _ _ _ (by decide), hb⟩
theorem rshl_all {p : Option Addr} {n : Nat} {xs : List Nat} {a : Nat} {w : World} (h : At32 w p n n xs) (hx : Nf B32 xs a) (hn : n ≤ 16384) (k : Nat) (hk : k ≤ 524288 ∨ a = 0) :
    Calls Tryz.prog 129 #[.slice p n n, .int .i64 k] w fun e w' => ∃ p' m' zs, e = .returned (.slice p' m' m') ∧ At32 w' p' m' m' zs ∧ Nf B32 zs (a * 2 ^ k) ∧ m' ≤ 40000 ∧ Below w.heap.size w w' := by
  rcases Nat.eq_zero_or_pos n with h0 | h0
  · subst h0
    have ha : a = 0 := (hx.zero_iff B32_one).1 (List.eq_nil_of_length_eq_zero h.len)
    refine (rshl_nil (by unfold maxLen; omega) (k : Int)).mono ?_
    rintro e w' ⟨g, he, hA, hb⟩
    exact ⟨_, 0, [], he, hA, by rw [ha, Nat.zero_mul]; exact Nf.nil _, by omega, hb⟩
  · refine rshl_any h hx h0 hn k (hk.resolve_right fun e => ?_)
    have := (hx.zero_iff B32_one).2 e
    rw [this] at h
    have := h.len
    simp at this
    omega
theorem rl_b {w : World} {p : Option Addr} {m a : Nat} (h : RL w p m a) : Calls Tryz.prog 156 #[.slice p m m] w fun e w' => e = .returned (.int .i64 (bitsN a)) ∧ w' = w := by
  obtain ⟨⟨zs, h1, h2⟩, h3⟩ := h
  exact rbits_any h1 h2 (by omega)
theorem rl_cmp {w : World} {p q : Option Addr} {m n a b : Nat} (h : ∃ zs, At32 w p m m zs ∧ Nf B32 zs a) (k : ∃ zs, At32 w q n n zs ∧ Nf B32 zs b) : Calls Tryz.prog 157 #[.slice p m m, .slice q n n] w fun e w' => e = .returned (.int .i64 (cmpN a b)) ∧ Below w.heap.size w w' := by
  obtain ⟨zs, h1, h2⟩ := h
  obtain ⟨us, k1, k2⟩ := k
  refine (rcmp_any h1 k1 h2 k2).mono ?_
  rintro e w' ⟨rfl, r, rfl⟩
  exact ⟨rfl, bDrewN (Below.refl _ _) r⟩
def RX (w : World) (p : Option Addr) (m a : Nat) : Prop := ∃ zs, At32 w p m m zs ∧ Nf B32 zs a
theorem RX.below {w w' : World} {p : Option Addr} {m a : Nat} (h : RX w p m a) (hb : Below w.heap.size w w') : RX w' p m a := by
  obtain ⟨zs, h1, h2⟩ := h
  exact ⟨zs, h1.below hb, h2⟩
theorem rl_shl {w : World} {p : Option Addr} {m a : Nat} (h : RL w p m a) (k : Nat) (hk : k ≤ 524288) : Calls Tryz.prog 129 #[.slice p m m, .int .i64 k] w fun e w' => ∃ p' m', e = .returned (.slice p' m' m') ∧ RX w' p' m' (a * 2 ^ k) ∧ Below w.heap.size w w' := by
  obtain ⟨⟨zs, h1, h2⟩, h3⟩ := h
  refine (rshl_all h1 h2 h3 k (.inl hk)).mono ?_
  rintro e w' ⟨p', m', us, rfl, g1, g2, g3, g4⟩
  exact ⟨p', m', rfl, ⟨us, g1, g2⟩, g4⟩
theorem rl_mul {w : World} {p q : Option Addr} {m n a b : Nat} (h : RL w p m a) (k : RL w q n b) (hl : m + n ≤ 16384) : Calls Tryz.prog 151 #[.slice p m m, .slice q n n] w fun e w' => ∃ p' m', e = .returned (.slice p' m' m') ∧ RL w' p' m' (a * b) ∧ m' ≤ m + n ∧ Below w.heap.size w w' := by
  obtain ⟨⟨zs, h1, h2⟩, h3⟩ := h
  obtain ⟨⟨us, k1, k2⟩, k3⟩ := k
  refine (rmul_any h1 k1 h2 k2 (by omega) (by omega)).mono ?_
  rintro e w' ⟨p', m', vs, rfl, g1, g2, g3, g4⟩
  exact ⟨p', m', rfl, ⟨⟨vs, g1, g2⟩, by omega⟩, g3, g4⟩
theorem rl_word (x : Nat) (hx : x < B64) (w : World) : Calls Tryz.prog 87 #[U x] w fun e w' => ∃ p' m', e = .returned (.slice p' m' m') ∧ RL w' p' m' x ∧ m' ≤ 2 ∧ Below w.heap.size w w' := by
  refine (rword x hx w).mono ?_
  rintro e w' ⟨g, zs, rfl, h1, h2, h3, h4⟩
  exact ⟨_, _, rfl, ⟨⟨zs, h2, h3⟩, by omega⟩, h1, h4⟩
theorem rl_add {w : World} {p q : Option Addr} {m n a b : Nat} (h : RX w p m a) (hm : m ≤ 40000) (k : RL w q n b) {K : Nat} (hK : K ≤ 16384) (hl : a + b < B32 ^ K) : Calls Tryz.prog 106 #[.slice p m m, .slice q n n] w fun e w' => ∃ p' m', e = .returned (.slice p' m' m') ∧ RL w' p' m' (a + b) ∧ m' ≤ K ∧ Below w.heap.size w w' := by
  obtain ⟨zs, h1, h2⟩ := h
  obtain ⟨⟨us, k1, k2⟩, k3⟩ := k
  refine (radd_any h1 k1 h2 k2 (by omega) (by omega)).mono ?_
  rintro e w' ⟨p', m', vs, rfl, g1, g2, g4⟩
  have := rl_len g1 g2 hl
  exact ⟨p', m', rfl, ⟨⟨vs, g1, g2⟩, by omega⟩, this, g4⟩
theorem jx {a : Int} (h1 : -100000000 ≤ a) (h2 : a ≤ 100000000) : IntKind.i64.wrap a = a ∧ wrap64 a = a := ⟨by simp [IntKind.wrap, IntKind.signed, IntKind.bits]; omega, by simp only [wrap64]; omega⟩
theorem ord_mid {a b : Nat} {e f : Int} (_ha : a ≠ 0) (_hb : b ≠ 0) (hA : bitsN a ≤ 524288) (hB : bitsN b ≤ 524288) (he : -2500000 ≤ e ∧ e ≤ 2500000) (hf : -2500000 ≤ f ∧ f ≤ 2500000) (ht : (bitsN a : Int) + e = (bitsN b : Int) + f) :
    ∃ E F : Nat, e = min e f + E ∧ f = min e f + F ∧ E ≤ 524288 ∧ F ≤ 524288 ∧ cmpN (dN a e) (dN b f) = cmpN (a * 2 ^ E) (b * 2 ^ F) := by
  refine ⟨(e - min e f).toNat, (f - min e f).toNat, by omega, by omega, by omega, by omega, ?_⟩
  exact dN_cmp (k := min e f) (by omega) (by omega) (by omega)
theorem order_g {w : World} {p q : Option Addr} {m n a b : Nat} (h : RL w p m a) (k : RL w q n b) (ha : a ≠ 0) (hb : b ≠ 0) (e f : Int) (he : -2500000 ≤ e ∧ e ≤ 2500000) (hf : -2500000 ≤ f ∧ f ≤ 2500000) :
    Calls Tryz.prog 152 #[.slice p m m, .int .i64 e, .slice q n n, .int .i64 f] w fun en w' => en = .returned (.int .i64 (cmpN (dN a e) (dN b f))) ∧ Below w.heap.size w w' := by
  have NA : Hid (RL w p m a) := h
  have NB : Hid (RL w q n b) := k
  obtain ⟨t, ht⟩ : ∃ t : Int, t = (bitsN a : Int) + e := ⟨_, rfl⟩
  obtain ⟨u, hu⟩ : ∃ u : Int, u = (bitsN b : Int) + f := ⟨_, rfl⟩
  have hA : bitsN a ≤ 524288 := by have := rl_bits h; have := h.len; omega
  have hB : bitsN b ≤ 524288 := by have := rl_bits k; have := k.len; omega
  have q1 : -100000000 ≤ (bitsN a : Int) + e ∧ (bitsN a : Int) + e ≤ 100000000 := by omega
  have q2 : -100000000 ≤ (bitsN b : Int) + f ∧ (bitsN b : Int) + f ≤ 100000000 := by omega
  have w1 : wrap64 ((bitsN a : Int) + e) = t := by rw [ht]; exact (jx q1.1 q1.2).2
  have w2 : wrap64 ((bitsN b : Int) + f) = u := by rw [hu]; exact (jx q2.1 q2.2).2
  have w3 : IntKind.i64.wrap ((bitsN a : Int) + e) = t := by rw [ht]; exact (jx q1.1 q1.2).1
  have w4 : IntKind.i64.wrap ((bitsN b : Int) + f) = u := by rw [hu]; exact (jx q2.1 q2.2).1
  obtain ⟨r, hr⟩ : ∃ r, r = cmpN (dN a e) (dN b f) := ⟨_, rfl⟩
  rw [← hr]
  have HC : Hid (a ≠ 0 ∧ b ≠ 0 ∧ (-2500000 ≤ e ∧ e ≤ 2500000) ∧ (-2500000 ≤ f ∧ f ≤ 2500000) ∧ bitsN a ≤ 524288 ∧ bitsN b ≤ 524288 ∧ t = (bitsN a : Int) + e ∧ u = (bitsN b : Int) + f ∧ r = cmpN (dN a e) (dN b f)) := ⟨ha, hb, he, hf, hA, hB, ht, hu, hr⟩
  have hbw : Below w.heap.size w w := Below.refl _ _
  clear h k ha hb he hf hA hB ht hu hr q1 q2
  go_enter Tryz.func152, Tryz.ntmps152
  go_wp2_with fail
  refine (rl_b NA.out).mono ?_
  rintro e9 v9 ⟨rfl, hw⟩
  obtain rfl := hw.symm
  clear hw
  go_wp2_with fail
  refine (rl_b NB.out).mono ?_
  rintro e9 v9 ⟨rfl, hw⟩
  obtain rfl := hw.symm
  clear hw
  rcases Int.lt_trichotomy t u with h1 | h1 | h1
  · have hr1 : r = -1 := by rw [HC.out.2.2.2.2.2.2.2.2]; obtain ⟨c1, c2, c3, c4, c5, c6, c7, c8, _⟩ := HC.out; exact cmpN_lt (dN_bits c2 (by omega) (by omega) (by omega))
    go_wp2_with fail
    rw [hr1]
    go_ret
    exact ⟨rfl, hbw⟩
  · subst h1
    obtain ⟨E, F, y1, y2, y3, y4, y5⟩ := ord_mid HC.out.1 HC.out.2.1 HC.out.2.2.2.2.1 HC.out.2.2.2.2.2.1 HC.out.2.2.1 HC.out.2.2.2.1 (HC.out.2.2.2.2.2.2.1.symm.trans HC.out.2.2.2.2.2.2.2.1)
    obtain ⟨k, hk⟩ : ∃ k : Int, k = min e f := ⟨_, rfl⟩
    rw [← hk] at y1 y2
    have z1 : e - k = (E : Int) := by omega
    have z2 : f - k = (F : Int) := by omega
    have x1 : wrap64 (e - k) = (E : Int) := by rw [z1]; exact (jx (by omega) (by omega)).2
    have x2 : wrap64 (f - k) = (F : Int) := by rw [z2]; exact (jx (by omega) (by omega)).2
    have x3 : IntKind.i64.wrap (e - k) = (E : Int) := by rw [z1]; exact (jx (by omega) (by omega)).1
    have x4 : IntKind.i64.wrap (f - k) = (F : Int) := by rw [z2]; exact (jx (by omega) (by omega)).1
    have HEF : Hid (E ≤ 524288 ∧ F ≤ 524288 ∧ r = cmpN (a * 2 ^ E) (b * 2 ^ F)) := ⟨y3, y4, HC.out.2.2.2.2.2.2.2.2.trans y5⟩
    have hk2 : min e f = k := hk.symm
    clear hk y1 y2 y3 y4 y5 z1 z2
    go_wp2_with fail
    refine (rl_shl NA.out E HEF.out.1).mono ?_
    rintro en v1 ⟨p1, m1, rfl, hn1, hb1⟩
    replace NA : Hid (RL v1 p m a) := NA.out.below hb1
    replace NB : Hid (RL v1 q n b) := NB.out.below hb1
    replace hbw := Below.on hbw hb1
    clear hb1
    have N1 : Hid (RX v1 p1 m1 (a * 2 ^ E)) := hn1
    clear hn1
    go_wp2_with fail
    refine (rl_shl NB.out F HEF.out.2.1).mono ?_
    rintro en v2 ⟨p2, m2, rfl, hn2, hb2⟩
    replace NA : Hid (RL v2 p m a) := NA.out.below hb2
    replace NB : Hid (RL v2 q n b) := NB.out.below hb2
    replace N1 : Hid (RX v2 p1 m1 (a * 2 ^ E)) := N1.out.below hb2
    replace hbw := Below.on hbw hb2
    clear hb2
    have N2 : Hid (RX v2 p2 m2 (b * 2 ^ F)) := hn2
    clear hn2
    go_wp2_with fail
    refine (rl_cmp N1.out N2.out).mono ?_
    rintro e v3 ⟨rfl, hb3⟩
    rw [← HEF.out.2.2]
    replace NA : Hid (RL v3 p m a) := NA.out.below hb3
    replace NB : Hid (RL v3 q n b) := NB.out.below hb3
    replace N1 : Hid (RX v3 p1 m1 (a * 2 ^ E)) := N1.out.below hb3
    replace N2 : Hid (RX v3 p2 m2 (b * 2 ^ F)) := N2.out.below hb3
    replace hbw := Below.on hbw hb3
    clear hb3
    go_wp2_with fail
    go_ret
    exact ⟨rfl, hbw⟩
  · have hr1 : r = 1 := by rw [HC.out.2.2.2.2.2.2.2.2]; obtain ⟨c1, c2, c3, c4, c5, c6, c7, c8, _⟩ := HC.out; exact cmpN_gt (dN_bits c1 (by omega) (by omega) (by omega))
    go_wp2_with fail
    rw [hr1]
    go_ret
    exact ⟨rfl, hbw⟩
theorem holdq_z {w : World} {p p1 p2 : Option Addr} {m m1 m2 a b d : Nat} (h : RL w p m a) (k1 : RL w p1 m1 b) (k2 : RL w p2 m2 d) (hb : b ≠ 0) (hd : d ≠ 0) (e f : Int) (he : -2000 ≤ e ∧ e ≤ 2000) (hf : -2500000 ≤ f ∧ f ≤ 2500000) (hl : m ≤ 2 ∧ m2 ≤ 16000) (ha : m = 0) :
    Calls Tryz.prog 128 #[.agg #[.slice p1 m1 m1, .slice p2 m2 m2, .int .i64 f, .bool false], .slice p m m, .int .i64 e] w fun en w' => en = .returned (.int .i64 (cmpN (dN (a * d) e) (dN b f))) ∧ Below w.heap.size w w' := by
  have NA : Hid (RL w p m a) := h
  have N1 : Hid (RL w p1 m1 b) := k1
  have N2 : Hid (RL w p2 m2 d) := k2
  have HM := h.zero
  obtain ⟨r, hr⟩ : ∃ r, r = cmpN (dN (a * d) e) (dN b f) := ⟨_, rfl⟩
  rw [← hr]
  have HC : Hid (b ≠ 0 ∧ d ≠ 0 ∧ (-2000 ≤ e ∧ e ≤ 2000) ∧ (-2500000 ≤ f ∧ f ≤ 2500000) ∧ (m ≤ 2 ∧ m2 ≤ 16000) ∧ r = cmpN (dN (a * d) e) (dN b f) ∧ (m = 0 ↔ a = 0)) := ⟨hb, hd, he, hf, hl, hr, HM⟩
  clear h k1 k2 hb hd he hf hl hr HM
  have hr1 : r = -1 := by
    rw [HC.out.2.2.2.2.2.1, HC.out.2.2.2.2.2.2.1 ha]
    refine cmpN_lt ?_
    rw [Nat.zero_mul]
    unfold dN
    rw [Nat.zero_mul]
    exact dN_pos HC.out.1 f
  rw [hr1]
  subst ha
  clear HC hr1 NA N1 N2
  go_enter Tryz.func128, Tryz.ntmps128
  go_wp2_with fail
  go_ret
  exact ⟨rfl, below1 w _⟩
theorem holdq_n {w : World} {p p1 p2 : Option Addr} {m m1 m2 a b d : Nat} (h : RL w p m a) (k1 : RL w p1 m1 b) (k2 : RL w p2 m2 d) (hb : b ≠ 0) (hd : d ≠ 0) (e f : Int) (he : -2000 ≤ e ∧ e ≤ 2000) (hf : -2500000 ≤ f ∧ f ≤ 2500000) (hl : m ≤ 2 ∧ m2 ≤ 16000) (ha : m ≠ 0) :
    Calls Tryz.prog 128 #[.agg #[.slice p1 m1 m1, .slice p2 m2 m2, .int .i64 f, .bool false], .slice p m m, .int .i64 e] w fun en w' => en = .returned (.int .i64 (cmpN (dN (a * d) e) (dN b f))) ∧ Below w.heap.size w w' := by
  have NA : Hid (RL w p m a) := h
  have N1 : Hid (RL w p1 m1 b) := k1
  have N2 : Hid (RL w p2 m2 d) := k2
  have HM := h.zero
  obtain ⟨r, hr⟩ : ∃ r, r = cmpN (dN (a * d) e) (dN b f) := ⟨_, rfl⟩
  rw [← hr]
  have HC : Hid (b ≠ 0 ∧ d ≠ 0 ∧ (-2000 ≤ e ∧ e ≤ 2000) ∧ (-2500000 ≤ f ∧ f ≤ 2500000) ∧ (m ≤ 2 ∧ m2 ≤ 16000) ∧ r = cmpN (dN (a * d) e) (dN b f) ∧ (m = 0 ↔ a = 0)) := ⟨hb, hd, he, hf, hl, hr, HM⟩
  clear h k1 k2 hb hd he hf hl hr HM
  have hm0 : ((m : Int) == 0) = false := by simp; omega
  have HA0 : Hid (a ≠ 0) := fun h => ha (HC.out.2.2.2.2.2.2.2 h)
  clear ha
  go_enter Tryz.func128, Tryz.ntmps128
  go_wp2_with fail
  obtain ⟨W0, hW0⟩ : ∃ W0, W0 = (w.alloc (.cells #[.slice p1 m1 m1, .slice p2 m2 m2, .int .i64 f, .bool false] 133)) := ⟨_, rfl⟩
  have Xv : Hid (B4q W0 (w.heap.size) (.slice p1 m1 m1) (.slice p2 m2 m2) (.int .i64 f) (.bool false)) := by rw [hW0]; exact ⟨by go_simp, by go_simp, by go_simp, by go_simp, by go_simp, by go_simp, by go_simp, by go_simp⟩
  have hb0 : Below w.heap.size w W0 := by rw [hW0]; exact below1 w _
  rw [← hW0]
  clear hW0
  have hbw : Below w.heap.size w w := Below.refl _ _
  obtain ⟨gv, hgv⟩ : ∃ g, g = w.heap.size := ⟨_, rfl⟩
  have HGv : Hid (w.heap.size ≤ gv) := by rw [hgv]; show _ ≤ _; omega
  rw [← hgv] at Xv
  try rw [← hgv]
  clear hgv
  replace NA : Hid (RL W0 p m a) := NA.out.below hb0
  replace N1 : Hid (RL W0 p1 m1 b) := N1.out.below hb0
  replace N2 : Hid (RL W0 p2 m2 d) := N2.out.below hb0
  replace hbw := Below.on hbw hb0
  clear hb0
  obtain ⟨V1, hV1⟩ : ∃ W1, W1 = W0.drew := ⟨_, rfl⟩
  have hbd : Below W0.heap.size W0 V1 := by rw [hV1]; exact bDrew1 (Below.refl _ _)
  replace Xv : Hid _ := Xv.out.below hbd
  replace NA : Hid (RL V1 p m a) := NA.out.below hbd
  replace N1 : Hid (RL V1 p1 m1 b) := N1.out.below hbd
  replace N2 : Hid (RL V1 p2 m2 d) := N2.out.below hbd
  replace hbw := Below.on hbw hbd
  clear hbd
  have HJ : Hid ((fun W' : World => W'.cell? ⟨gv, 0, none⟩ = some (.slice p1 m1 m1) ∧ W'.cell? ⟨gv, 1, none⟩ = some (.slice p2 m2 m2) ∧ W'.cell? ⟨gv, 2, none⟩ = some (.int .i64 f)) V1) := ⟨Xv.out.c0, Xv.out.c1, Xv.out.c2⟩
  refine wp_region_J (fun W' => W'.cell? ⟨gv, 0, none⟩ = some (.slice p1 m1 m1) ∧ W'.cell? ⟨gv, 1, none⟩ = some (.slice p2 m2 m2) ∧ W'.cell? ⟨gv, 2, none⟩ = some (.int .i64 f)) (by kernel_rfl) ?_
  rw [← hV1]
  clear hV1
  refine wpJ_tq 0 rfl HJ.out ?_
  refine wpJ_tq 1 rfl HJ.out ?_
  refine wpJ_tq 2 rfl HJ.out ?_
  refine wpJ_tq 4 rfl HJ.out ?_
  refine wpJ_tq 5 rfl HJ.out ?_
  go_simp
  refine wpJ_tq 6 rfl HJ.out ?_
  refine wpJ_tq 7 rfl HJ.out ?_
  refine wpJ_tq 8 rfl HJ.out ?_
  refine wpJ_on 3 rfl fun KJ hK => ?_
  go_simp
  refine (rl_mul NA.out N2.out (by have := HC.out; omega)).mono ?_
  rintro en v3 ⟨p3, m3, rfl, hn3, hl3, hb3⟩
  replace Xv : Hid _ := Xv.out.below hb3
  replace NA : Hid (RL v3 p m a) := NA.out.below hb3
  replace N1 : Hid (RL v3 p1 m1 b) := N1.out.below hb3
  replace N2 : Hid (RL v3 p2 m2 d) := N2.out.below hb3
  replace hbw := Below.on hbw hb3
  clear hb3
  have N3 : Hid (RL v3 p3 m3 (a * d)) := hn3
  have HL3 : Hid (m3 ≤ m + m2) := hl3
  clear hn3 hl3
  refine hK _ _ ⟨Xv.out.c0, Xv.out.c1, Xv.out.c2⟩ ?_
  clear hK
  refine wpJ_on 9 rfl fun KJ hK => ?_
  go_simp
  refine (order_g N3.out N1.out (by have h1 := HA0.out; have h2 := HC.out.2.1; intro h3; rcases Nat.mul_eq_zero.1 h3 with h4 | h4; exact h1 h4; exact h2 h4) HC.out.1 e f (by have := HC.out; omega) HC.out.2.2.2.1).mono ?_
  rintro e v4 ⟨rfl, hb4⟩
  rw [← HC.out.2.2.2.2.2.1]
  replace Xv : Hid _ := Xv.out.below hb4
  replace NA : Hid (RL v4 p m a) := NA.out.below hb4
  replace N1 : Hid (RL v4 p1 m1 b) := N1.out.below hb4
  replace N2 : Hid (RL v4 p2 m2 d) := N2.out.below hb4
  replace N3 : Hid (RL v4 p3 m3 (a * d)) := N3.out.below hb4
  replace hbw := Below.on hbw hb4
  clear hb4
  clear HJ
  have HJ : Hid ((fun W' : World => W'.cell? ⟨gv, 0, none⟩ = some (.slice p1 m1 m1) ∧ W'.cell? ⟨gv, 1, none⟩ = some (.slice p2 m2 m2) ∧ W'.cell? ⟨gv, 2, none⟩ = some (.int .i64 f)) v4) := ⟨Xv.out.c0, Xv.out.c1, Xv.out.c2⟩
  refine hK _ _ HJ.out ?_
  clear hK
  refine wpJ_tq 10 rfl HJ.out ?_
  refine wpJ_done (by kernel_rfl) ?_ _
  clear HJ
  go_wp2_with fail
  go_ret
  exact ⟨rfl, hbw⟩
theorem holdq {w : World} {p p1 p2 : Option Addr} {m m1 m2 a b d : Nat} (h : RL w p m a) (k1 : RL w p1 m1 b) (k2 : RL w p2 m2 d) (hb : b ≠ 0) (hd : d ≠ 0) (e f : Int) (he : -2000 ≤ e ∧ e ≤ 2000) (hf : -2500000 ≤ f ∧ f ≤ 2500000) (hl : m ≤ 2 ∧ m2 ≤ 16000) : Calls Tryz.prog 128 #[.agg #[.slice p1 m1 m1, .slice p2 m2 m2, .int .i64 f, .bool false], .slice p m m, .int .i64 e] w fun en w' => en = .returned (.int .i64 (cmpN (dN (a * d) e) (dN b f))) ∧ Below w.heap.size w w' := by
  by_cases ha : m = 0
  · exact holdq_z h k1 k2 hb hd e f he hf hl ha
  · exact holdq_n h k1 k2 hb hd e f he hf hl ha
structure Sk (S : Nat) (P E G : Int) (I Q H : Nat) : Prop where
  pt : ∀ (s : Nat) w, s < S → Calls Tryz.prog 96 #[FV S P E G I Q, U s] w fun e w' => e = .returned (.tuple #[U (s - (s / H - 1) * H), .int .i64 (E + ((s / H - 1 : Nat) : Int))]) ∧ Below w.heap.size w w'
  hH : 0 < H ∧ H ≤ 4503599627370496
  hI : 2 ≤ I ∧ I < S ∧ S ≤ 9223372036854775808
  qI : ∀ s, s ≤ I → s / H - 1 ≤ 2046
  lo : -1074 ≤ E ∧ E ≤ -149
def HoldF (v : Value) (g : Nat → Nat) (A : Nat) (E : Int) (p1 p2 : Option Addr) (m1 m2 b d : Nat) : Prop :=
  ∀ (mn t : Nat) (e : Int) (W : World) (p : Option Addr) (m : Nat), RL W p m mn → RL W p1 m1 b → RL W p2 m2 d → m ≤ 2 → e = E - 1 + t → t ≤ 2047 → Calls Tryz.prog 128 #[v, .slice p m m, .int .i64 e] W fun en w' => en = .returned (.int .i64 (cmpN (g (mn * 2 ^ t)) A)) ∧ Below W.heap.size W w'
theorem RX.len {w : World} {p : Option Addr} {m a K : Nat} (h : RX w p m a) (hb : a < B32 ^ K) : m ≤ K := by
  obtain ⟨zs, h1, h2⟩ := h
  exact rl_len h1 h2 hb
theorem vs2 {H s q man : Nat} (hq : q = s / H - 1) (hm : man = s - q * H) : man * 2 ^ (q + 1) = 2 * vs H s := by
  unfold vs
  rw [← hq, ← hm, Nat.pow_succ]
  rw [Nat.mul_comm (2 ^ q) 2, Nat.mul_left_comm]
theorem hv2 {H s q man : Nat} (hq : q = s / H - 1) (hm : man = s - q * H) : (2 * man + 1) * 2 ^ q = hv H s := by
  unfold hv vs
  rw [← hq, ← hm, Nat.add_mul, Nat.one_mul, Nat.mul_assoc]
theorem man_lt {H s q man : Nat} (hp : 0 < H) (hq : q = s / H - 1) (hm : man = s - q * H) : man < 2 * H := by
  have h1 := Nat.div_add_mod s H
  have h2 := Nat.mod_lt s hp
  rw [Nat.mul_comm] at h1
  by_cases h3 : s / H ≤ 1
  · have hq0 : q = 0 := by omega
    have h4 : s / H * H ≤ 1 * H := Nat.mul_le_mul_right _ h3
    rw [hq0, Nat.zero_mul] at hm
    omega
  · have h5 : q + 1 = s / H := by omega
    have h6 : q * H + H = s / H * H := by rw [← h5, Nat.add_mul, Nat.one_mul]
    omega
theorem b32_2 {a : Nat} (h : a < 18014398509481984) : a < B32 ^ 2 := Nat.lt_of_lt_of_le h (by decide)
theorem b64_9 {a : Nat} (h : a < 18014398509481984) : a < B64 := Nat.lt_of_lt_of_le h (by decide)
theorem ju9 {a : Nat} (h : a < 18446744073709551616) : IntKind.u64.wrap (a : Int) = (a : Int) := by rw [IntKind.wrap_u64]; omega
theorem ju8 {a b d : Nat} (h : a < 18446744073709551616) (hd : d = a - b) (hb : b ≤ a) : IntKind.u64.wrap ((a : Int) - (b : Int)) = (d : Int) := by rw [show (a : Int) - (b : Int) = (d : Int) by omega]; exact ju9 (by omega)
theorem ju7 {a b d : Nat} (h : d < 18446744073709551616) (hd : d = a + b) : IntKind.u64.wrap ((a : Int) + (b : Int)) = (d : Int) := by rw [show (a : Int) + (b : Int) = (d : Int) by omega]; exact ju9 h
theorem ju6 {a d : Nat} (h : a < 18446744073709551616) (hd : d = a / 2) : IntKind.u64.wrap ((a : Int) / 2) = (d : Int) := by rw [show (a : Int) / 2 = (d : Int) by omega]; exact ju9 (by omega)
theorem ju5 {a d : Nat} (h : d < 18446744073709551616) (hd : d = a + 1) : IntKind.u64.wrap ((a : Int) + 1) = (d : Int) := by rw [show (a : Int) + 1 = (d : Int) by omega]; exact ju9 h
theorem size_g {S : Nat} {P E G : Int} {I Q H : Nat} (K : Sk S P E G I Q H) {w : World} {p1 p2 : Option Addr} {m1 m2 b d : Nat} {ro : Bool} {f : Int} (k1 : RL w p1 m1 b) (k2 : RL w p2 m2 d) {g : Nat → Nat} {A : Nat} (hg : Up g) (hA : g 0 ≤ A) (hold : HoldF (.agg #[.slice p1 m1 m1, .slice p2 m2 m2, .int .i64 f, .bool ro]) g A E p1 p2 m1 m2 b d) :
    Calls Tryz.prog 85 #[FV S P E G I Q, .agg #[.slice p1 m1 m1, .slice p2 m2 m2, .int .i64 f, .bool ro]] w fun en w' => ∃ Z, en = .returned (U Z) ∧ Trc (fun z => cmpN A (g (hv H z))) I Z ∧ Below w.heap.size w w' := by
  have N1 : Hid (RL w p1 m1 b) := k1
  have N2 : Hid (RL w p2 m2 d) := k2
  have HK : Hid (Sk S P E G I Q H) := K
  have HC : Hid (Up g ∧ g 0 ≤ A) := ⟨hg, hA⟩
  have HO : Hid (HoldF (.agg #[.slice p1 m1 m1, .slice p2 m2 m2, .int .i64 f, .bool ro]) g A E p1 p2 m1 m2 b d) := hold
  obtain ⟨I1, hI1⟩ : ∃ I1, I1 = I + 1 := ⟨_, rfl⟩
  have HI1 : Hid (I1 = I + 1 ∧ I < 9223372036854775808) := ⟨hI1, by have := K.hI; omega⟩
  have i1 : IntKind.u64.wrap ((I : Int) + 1) = (I1 : Int) := ju5 (by have := HI1.out; omega) hI1
  clear k1 k2 hg hA hold K hI1
  go_enter Tryz.func85, Tryz.ntmps85
  go_wp2_with fail
  obtain ⟨W0, hW0⟩ : ∃ W0, W0 = ((w.alloc (.cells #[U S, .int .i64 P, .int .i64 E, .int .i64 G, U I, U Q] 126)).alloc (.cells #[.slice p1 m1 m1, .slice p2 m2 m2, .int .i64 f, .bool ro] 133)) := ⟨_, rfl⟩
  have Xfm : Hid (B6q W0 (w.heap.size) (U S) (.int .i64 P) (.int .i64 E) (.int .i64 G) (U I) (U Q)) := by rw [hW0]; exact ⟨by go_simp, by go_simp, by go_simp, by go_simp, by go_simp, by go_simp, by go_simp, by go_simp, by go_simp, by go_simp, by go_simp, by go_simp⟩
  have Xv : Hid (B4q W0 (w.heap.size + 1) (.slice p1 m1 m1) (.slice p2 m2 m2) (.int .i64 f) (.bool ro)) := by rw [hW0]; exact ⟨by go_simp, by go_simp, by go_simp, by go_simp, by go_simp, by go_simp, by go_simp, by go_simp⟩
  have hb0 : Below w.heap.size w W0 := by rw [hW0]; exact below2 w _ _
  rw [← hW0]
  clear hW0
  have hbw : Below w.heap.size w w := Below.refl _ _
  obtain ⟨gv, hgv⟩ : ∃ g, g = w.heap.size + 1 := ⟨_, rfl⟩
  have HGv : Hid (w.heap.size ≤ gv) := by rw [hgv]; show _ ≤ _; omega
  rw [← hgv] at Xv
  try rw [← hgv]
  obtain ⟨gfm, hgfm⟩ : ∃ g, g = w.heap.size := ⟨_, rfl⟩
  have HGfm : Hid (w.heap.size ≤ gfm) := by rw [hgfm]; show _ ≤ _; omega
  rw [← hgfm] at Xfm
  try rw [← hgfm]
  have HGD : Hid (gfm ≠ gv ∧ gv ≠ gfm) := by rw [hgfm, hgv]; exact ⟨by omega, by omega⟩
  clear hgfm hgv
  replace N1 : Hid (RL W0 p1 m1 b) := N1.out.below hb0
  replace N2 : Hid (RL W0 p2 m2 d) := N2.out.below hb0
  replace hbw := Below.on hbw hb0
  clear hb0
  obtain ⟨V1, hV1⟩ : ∃ W1, W1 = W0.drew := ⟨_, rfl⟩
  have hbd : Below W0.heap.size W0 V1 := by rw [hV1]; exact bDrew1 (Below.refl _ _)
  replace Xfm : Hid _ := Xfm.out.below hbd
  replace Xv : Hid _ := Xv.out.below hbd
  replace N1 : Hid (RL V1 p1 m1 b) := N1.out.below hbd
  replace N2 : Hid (RL V1 p2 m2 d) := N2.out.below hbd
  replace hbw := Below.on hbw hbd
  clear hbd
  have HJ : Hid ((fun W' : World => W'.cell? ⟨gfm, 4, none⟩ = some (U I)) V1) := Xfm.out.c4
  refine wp_region_J (fun W' => W'.cell? ⟨gfm, 4, none⟩ = some (U I)) (by kernel_rfl) ?_
  rw [← hV1]
  clear hV1
  refine wpJ_tk 0 (v := ?v1x0) rfl ?hy1x0 HJ.out ?_
  case hy1x0 => (intro W' hJ; have j0 := hJ; go_simp; first | done | with_reducible rfl)
  refine wpJ_tk 1 (v := ?v2x1) rfl ?hy2x1 HJ.out ?_
  case hy2x1 => (intro W' hJ; have j0 := hJ; go_simp; first | done | with_reducible rfl)
  refine wpJ_tk 2 (v := ?v3x2) rfl ?hy3x2 HJ.out ?_
  case hy3x2 => (intro W' hJ; have j0 := hJ; go_simp; first | done | with_reducible rfl)
  refine wpJ_tk 3 (v := ?v4x3) rfl ?hy4x3 HJ.out ?_
  case hy4x3 => (intro W' hJ; have j0 := hJ; go_simp; first | done | with_reducible rfl)
  refine wpJ_tk 4 (v := ?v5x4) rfl ?hy5x4 HJ.out ?_
  case hy5x4 => (intro W' hJ; have j0 := hJ; go_simp; first | done | with_reducible rfl)
  go_simp
  refine wpJ_done (by kernel_rfl) ?_ _
  clear HJ
  go_wp2_with fail
  go_loopg [5, 6] I (fun gk lov hiv wr => ∃ lo hi : Nat, lov = U lo ∧ hiv = U hi ∧ hi = lo + gk + 1 ∧ hi ≤ I + 1 ∧ g (2 * vs H lo) ≤ A ∧ (hi = I + 1 ∨ A < g (2 * vs H hi)) ∧ B6q wr gfm (U S) (.int .i64 P) (.int .i64 E) (.int .i64 G) (U I) (U Q) ∧ B4q wr gv (.slice p1 m1 m1) (.slice p2 m2 m2) (.int .i64 f) (.bool ro) ∧ RL wr p1 m1 b ∧ RL wr p2 m2 d ∧ Below w.heap.size w wr)
  case atStart => exact ⟨0, I1, rfl, rfl, by have := HI1.out; omega, by have := HI1.out; omega, by rw [vs_zero]; exact HC.out.2, .inl HI1.out.1, Xfm.out, Xv.out, N1.out, N2.out, hbw⟩
  case round =>
    clear hbw Xfm Xv N1 N2
    obtain ⟨lo, hi, rfl, rfl, hgk, hi1, hlo, hhi, xk, xv, n1, n2, hbw⟩ := hrel
    have Xfm : Hid (B6q wr gfm (U S) (.int .i64 P) (.int .i64 E) (.int .i64 G) (U I) (U Q)) := xk
    have Xv : Hid (B4q wr gv (.slice p1 m1 m1) (.slice p2 m2 m2) (.int .i64 f) (.bool ro)) := xv
    have N1 : Hid (RL wr p1 m1 b) := n1
    have N2 : Hid (RL wr p2 m2 d) := n2
    clear xk xv n1 n2
    have HLH : Hid (hi ≤ I + 1 ∧ g (2 * vs H lo) ≤ A ∧ (hi = I + 1 ∨ A < g (2 * vs H hi)) ∧ I < 9223372036854775808) := ⟨hi1, hlo, hhi, HI1.out.2⟩
    clear hi1 hlo hhi
    cases gk with
    | zero =>
      obtain rfl : hi = lo + 1 := by omega
      have w1 : IntKind.u64.wrap (((lo + 1 : Nat) : Int) - (lo : Int)) = 1 := ju8 (d := 1) (by have := HLH.out; omega) (by omega) (by omega)
      clear hgk
      by_cases hlo : lo = I
      · have w2 : ((lo : Int) == (I : Int)) = true := by simp [hlo]
        have HLI : Hid (lo = I) := hlo
        clear hlo
        obtain ⟨cfm0, cfm1, cfm2, cfm3, cfm4, cfm5, ffm0, ffm1, ffm2, ffm3, ffm4, ffm5⟩ := Xfm.out
        have hnefm : gfm < wr.heap.size := World.block_lt_of_cell? wr _ cfm0
        go_wp2_with fail
        clear cfm0 cfm1 cfm2 cfm3 cfm4 cfm5 ffm0 ffm1 ffm2 ffm3 ffm4 ffm5 hnefm
        go_ret
        exact ⟨lo, rfl, by rw [HLI.out]; exact trc_top HK.out.hH.1 HC.out.1 (by rw [← HLI.out]; exact HLH.out.2.1), hbw⟩
      · have HLO : Hid (lo < I ∧ A < g (2 * vs H (lo + 1))) := ⟨by have := HLH.out.1; omega, HLH.out.2.2.1.resolve_left (by omega)⟩
        have w2 : ((lo : Int) == (I : Int)) = false := by simp; omega
        clear hlo
        obtain ⟨q, hq⟩ : ∃ q, q = lo / H - 1 := ⟨_, rfl⟩
        obtain ⟨man, hman⟩ : ∃ man, man = lo - q * H := ⟨_, rfl⟩
        obtain ⟨ex, hex⟩ : ∃ ex : Int, ex = E + (q : Int) := ⟨_, rfl⟩
        have HPT := fun w => HK.out.pt lo w (by have := HLO.out; have := HK.out.hI; omega)
        simp only [← hq] at HPT
        simp only [← hman, ← hex] at HPT
        obtain ⟨ex1, hex1⟩ : ∃ ex1 : Int, ex1 = ex - 1 := ⟨_, rfl⟩
        have hq9 : q ≤ 2046 := by rw [hq]; exact HK.out.qI lo (by have := HLO.out; omega)
        have hlo9 := HK.out.lo
        have HM : Hid (man < 9007199254740992 ∧ q ≤ 2046 ∧ ex1 = E - 1 + (q : Int) ∧ (2 * man + 1) * 2 ^ q = hv H lo) := ⟨by have := man_lt HK.out.hH.1 hq hman; have := HK.out.hH; omega, hq9, by omega, hv2 hq hman⟩
        have w3 : wrap64 (ex - 1) = ex1 := by rw [hex1]; exact (jx (by omega) (by omega)).2
        have w4 : IntKind.i64.wrap (ex - 1) = ex1 := by rw [hex1]; exact (jx (by omega) (by omega)).1
        have HPH : Hid (∀ w, Calls Tryz.prog 96 #[FV S P E G I Q, U lo] w fun e w' => e = .returned (.tuple #[U man, .int .i64 ex]) ∧ Below w.heap.size w w') := HPT
        clear hq hman hex hex1 hq9 hlo9 HPT
        obtain ⟨cfm0, cfm1, cfm2, cfm3, cfm4, cfm5, ffm0, ffm1, ffm2, ffm3, ffm4, ffm5⟩ := Xfm.out
        have hnefm : gfm < wr.heap.size := World.block_lt_of_cell? wr _ cfm0
        go_wp2_with fail
        clear cfm0 cfm1 cfm2 cfm3 cfm4 cfm5 ffm0 ffm1 ffm2 ffm3 ffm4 ffm5 hnefm
        refine (HPH.out _).mono ?_
        rintro e v1 ⟨rfl, hb1⟩
        replace Xfm : Hid _ := Xfm.out.below hb1
        replace Xv : Hid _ := Xv.out.below hb1
        replace N1 : Hid (RL v1 p1 m1 b) := N1.out.below hb1
        replace N2 : Hid (RL v1 p2 m2 d) := N2.out.below hb1
        replace hbw := Below.on hbw hb1
        clear hb1
        go_wp2_with fail
        obtain ⟨c, hc⟩ : ∃ c, c = cmpN (g (hv H lo)) A := ⟨_, rfl⟩
        have HCC : Hid (c = cmpN (g (hv H lo)) A) := hc
        clear hc
        obtain ⟨V5, hV5⟩ : ∃ W1, W1 = v1.drew := ⟨_, rfl⟩
        have hbd : Below v1.heap.size v1 V5 := by rw [hV5]; exact bDrew1 (Below.refl _ _)
        replace Xfm : Hid _ := Xfm.out.below hbd
        replace Xv : Hid _ := Xv.out.below hbd
        replace N1 : Hid (RL V5 p1 m1 b) := N1.out.below hbd
        replace N2 : Hid (RL V5 p2 m2 d) := N2.out.below hbd
        replace hbw := Below.on hbw hbd
        clear hbd
        have HJ : Hid ((fun W' : World => W'.cell? ⟨gv, 0, none⟩ = some (.slice p1 m1 m1) ∧ W'.cell? ⟨gv, 1, none⟩ = some (.slice p2 m2 m2) ∧ W'.cell? ⟨gv, 2, none⟩ = some (.int .i64 f) ∧ W'.cell? ⟨gv, 3, none⟩ = some (.bool ro)) V5) := ⟨Xv.out.c0, Xv.out.c1, Xv.out.c2, Xv.out.c3⟩
        refine wp_region_J (fun W' => W'.cell? ⟨gv, 0, none⟩ = some (.slice p1 m1 m1) ∧ W'.cell? ⟨gv, 1, none⟩ = some (.slice p2 m2 m2) ∧ W'.cell? ⟨gv, 2, none⟩ = some (.int .i64 f) ∧ W'.cell? ⟨gv, 3, none⟩ = some (.bool ro)) (by kernel_rfl) ?_
        rw [← hV5]
        clear hV5
        refine wpJ_tq 0 rfl HJ.out ?_
        refine wpJ_tq 1 rfl HJ.out ?_
        refine wpJ_tq 6 rfl HJ.out ?_
        refine wpJ_tq 7 rfl HJ.out ?_
        refine wpJ_on 2 rfl fun KJ hK => ?_
        go_simp
        refine (rl_word man (b64_9 (by have := HM.out.1; omega)) _).mono ?_
        rintro en v12 ⟨p12, m12, rfl, hn12, hl12, hb12⟩
        replace Xfm : Hid _ := Xfm.out.below hb12
        replace Xv : Hid _ := Xv.out.below hb12
        replace N1 : Hid (RL v12 p1 m1 b) := N1.out.below hb12
        replace N2 : Hid (RL v12 p2 m2 d) := N2.out.below hb12
        replace hbw := Below.on hbw hb12
        clear hb12
        have N12 : Hid (RL v12 p12 m12 (man)) := hn12
        have HL12 : Hid (m12 ≤ 2) := hl12
        clear hn12 hl12
        refine hK _ _ ⟨Xv.out.c0, Xv.out.c1, Xv.out.c2, Xv.out.c3⟩ ?_
        clear hK
        refine wpJ_on 3 rfl fun KJ hK => ?_
        go_simp
        refine (rl_shl N12.out 1 (by decide)).mono ?_
        rintro en v13 ⟨p13, m13, rfl, hn13, hb13⟩
        replace Xfm : Hid _ := Xfm.out.below hb13
        replace Xv : Hid _ := Xv.out.below hb13
        replace N1 : Hid (RL v13 p1 m1 b) := N1.out.below hb13
        replace N2 : Hid (RL v13 p2 m2 d) := N2.out.below hb13
        replace N12 : Hid (RL v13 p12 m12 (man)) := N12.out.below hb13
        replace hbw := Below.on hbw hb13
        clear hb13
        have N13 : Hid (RX v13 p13 m13 (man * 2 ^ 1)) := hn13
        clear hn13
        refine hK _ _ ⟨Xv.out.c0, Xv.out.c1, Xv.out.c2, Xv.out.c3⟩ ?_
        clear hK
        refine wpJ_on 4 rfl fun KJ hK => ?_
        go_simp
        refine (rl_word 1 (by decide) _).mono ?_
        rintro en v14 ⟨p14, m14, rfl, hn14, hl14, hb14⟩
        replace Xfm : Hid _ := Xfm.out.below hb14
        replace Xv : Hid _ := Xv.out.below hb14
        replace N1 : Hid (RL v14 p1 m1 b) := N1.out.below hb14
        replace N2 : Hid (RL v14 p2 m2 d) := N2.out.below hb14
        replace N12 : Hid (RL v14 p12 m12 (man)) := N12.out.below hb14
        replace N13 : Hid (RX v14 p13 m13 (man * 2 ^ 1)) := N13.out.below hb14
        replace hbw := Below.on hbw hb14
        clear hb14
        have N14 : Hid (RL v14 p14 m14 (1)) := hn14
        have HL14 : Hid (m14 ≤ 2) := hl14
        clear hn14 hl14
        refine hK _ _ ⟨Xv.out.c0, Xv.out.c1, Xv.out.c2, Xv.out.c3⟩ ?_
        clear hK
        refine wpJ_on 5 rfl fun KJ hK => ?_
        go_simp
        refine (rl_add N13.out (by have := N13.out.len (K := 2) (b32_2 (by have := HM.out.1; omega)); omega) N14.out (K := 2) (by decide) (b32_2 (by have := HM.out.1; omega))).mono ?_
        rintro en v15 ⟨p15, m15, rfl, hn15, hl15, hb15⟩
        replace Xfm : Hid _ := Xfm.out.below hb15
        replace Xv : Hid _ := Xv.out.below hb15
        replace N1 : Hid (RL v15 p1 m1 b) := N1.out.below hb15
        replace N2 : Hid (RL v15 p2 m2 d) := N2.out.below hb15
        replace N12 : Hid (RL v15 p12 m12 (man)) := N12.out.below hb15
        replace N13 : Hid (RX v15 p13 m13 (man * 2 ^ 1)) := N13.out.below hb15
        replace N14 : Hid (RL v15 p14 m14 (1)) := N14.out.below hb15
        replace hbw := Below.on hbw hb15
        clear hb15
        have N15 : Hid (RL v15 p15 m15 (man * 2 ^ 1 + 1)) := hn15
        have HL15 : Hid (m15 ≤ 2) := hl15
        clear hn15 hl15
        refine hK _ _ ⟨Xv.out.c0, Xv.out.c1, Xv.out.c2, Xv.out.c3⟩ ?_
        clear hK
        refine wpJ_on 8 rfl fun KJ hK => ?_
        go_simp
        refine (HO.out (man * 2 ^ 1 + 1) q ex1 _ p15 m15 N15.out N1.out N2.out HL15.out HM.out.2.2.1 (by have := HM.out.2.1; omega)).mono ?_
        rintro e v16 ⟨rfl, hb16⟩
        rw [show (man * 2 ^ 1 + 1) * 2 ^ q = hv H lo by rw [← HM.out.2.2.2]; congr 1; omega, ← HCC.out]
        replace Xfm : Hid _ := Xfm.out.below hb16
        replace Xv : Hid _ := Xv.out.below hb16
        replace N1 : Hid (RL v16 p1 m1 b) := N1.out.below hb16
        replace N2 : Hid (RL v16 p2 m2 d) := N2.out.below hb16
        replace N12 : Hid (RL v16 p12 m12 (man)) := N12.out.below hb16
        replace N13 : Hid (RX v16 p13 m13 (man * 2 ^ 1)) := N13.out.below hb16
        replace N14 : Hid (RL v16 p14 m14 (1)) := N14.out.below hb16
        replace N15 : Hid (RL v16 p15 m15 (man * 2 ^ 1 + 1)) := N15.out.below hb16
        replace hbw := Below.on hbw hb16
        clear hb16
        clear HJ
        have HJ : Hid ((fun W' : World => W'.cell? ⟨gv, 0, none⟩ = some (.slice p1 m1 m1) ∧ W'.cell? ⟨gv, 1, none⟩ = some (.slice p2 m2 m2) ∧ W'.cell? ⟨gv, 2, none⟩ = some (.int .i64 f) ∧ W'.cell? ⟨gv, 3, none⟩ = some (.bool ro)) v16) := ⟨Xv.out.c0, Xv.out.c1, Xv.out.c2, Xv.out.c3⟩
        refine hK _ _ HJ.out ?_
        clear hK
        refine wpJ_tq 9 rfl HJ.out ?_
        go_simp
        refine wpJ_done (by kernel_rfl) ?_ _
        clear HJ
        have HT : Hid (∀ Z, Z = (if c < 0 ∨ (c = 0 ∧ lo % 2 = 1) then lo + 1 else lo) → Trc (fun z => cmpN A (g (hv H z))) I Z) := fun Z hZ => trc_lo HK.out.hH.1 HC.out.1 HLO.out.1 HLH.out.2.1 HLO.out.2 (by rw [← HCC.out]; exact hZ)
        have HC3 : c = -1 ∨ c = 0 ∨ c = 1 := by rw [HCC.out]; unfold cmpN; split; (exact .inl rfl); split; (exact .inr (.inl rfl)); exact .inr (.inr rfl)
        rcases HC3 with h1 | h1 | h1
        · subst h1
          clear HCC
          have w6 : IntKind.u64.wrap ((lo : Int) + 1) = ((lo + 1 : Nat) : Int) := ju5 (by have := HLH.out; omega) rfl
          go_wp2_with fail
          go_ret
          exact ⟨lo + 1, rfl, HT.out _ (by rw [if_pos (.inl (by decide))]), hbw⟩
        · subst h1
          clear HCC
          by_cases hod : lo % 2 = 1
          · have HOD : Hid (lo % 2 = 1) := hod
            have w7 : (lo : Int) % 2 = 1 := by omega
            clear hod
            have w6 : IntKind.u64.wrap ((lo : Int) + 1) = ((lo + 1 : Nat) : Int) := ju5 (by have := HLH.out; omega) rfl
            go_wp2_with fail
            go_ret
            exact ⟨lo + 1, rfl, HT.out _ (by rw [if_pos]; exact .inr ⟨by first | rfl | trivial, HOD.out⟩), hbw⟩
          · have HOD : Hid (¬ lo % 2 = 1) := hod
            have w7 : (lo : Int) % 2 = 0 := by omega
            clear hod
            go_wp2_with fail
            go_ret
            exact ⟨lo, rfl, HT.out _ (by rw [if_neg (by have := HOD.out; omega)]), hbw⟩
        · subst h1
          clear HCC
          go_wp2_with fail
          go_ret
          exact ⟨lo, rfl, HT.out _ (by rw [if_neg (by omega)]), hbw⟩
    | succ gj =>
      obtain ⟨d0, hd⟩ : ∃ d0, d0 = hi - lo := ⟨_, rfl⟩
      obtain ⟨d2, hd2⟩ : ∃ d2, d2 = d0 / 2 := ⟨_, rfl⟩
      obtain ⟨s, hs⟩ : ∃ s, s = lo + d2 := ⟨_, rfl⟩
      have hI9 := HLH.out
      have w1 : IntKind.u64.wrap ((hi : Int) - (lo : Int)) = (d0 : Int) := ju8 (by omega) hd (by omega)
      have w4 : IntKind.u64.wrap ((d0 : Int) / 2) = (d2 : Int) := ju6 (by omega) hd2
      have w2 : IntKind.u64.wrap ((lo : Int) + (d2 : Int)) = (s : Int) := ju7 (by omega) hs
      have w3 : decide ((1 : Int) < (d0 : Int)) = true := decide_eq_true (by omega)
      have HS : Hid (lo < s ∧ s < hi ∧ hi = lo + (gj + 1) + 1) := ⟨by omega, by omega, hgk⟩
      clear hgk hd hs hd2 hI9
      obtain ⟨q, hq⟩ : ∃ q, q = s / H - 1 := ⟨_, rfl⟩
      obtain ⟨man, hman⟩ : ∃ man, man = s - q * H := ⟨_, rfl⟩
      obtain ⟨ex, hex⟩ : ∃ ex : Int, ex = E + (q : Int) := ⟨_, rfl⟩
      have HPT := fun w => HK.out.pt s w (by have := HS.out; have := HLH.out; have := HK.out.hI; omega)
      simp only [← hq] at HPT
      simp only [← hman, ← hex] at HPT
      have HM : Hid (man < 9007199254740992 ∧ q ≤ 2046 ∧ ex = E - 1 + ((q + 1 : Nat) : Int) ∧ man * 2 ^ (q + 1) = 2 * vs H s) := ⟨by have := man_lt HK.out.hH.1 hq hman; have := HK.out.hH; omega, by rw [hq]; exact HK.out.qI s (by have := HS.out; have := HLH.out; omega), by omega, vs2 hq hman⟩
      have HPH : Hid (∀ w, Calls Tryz.prog 96 #[FV S P E G I Q, U s] w fun e w' => e = .returned (.tuple #[U man, .int .i64 ex]) ∧ Below w.heap.size w w') := HPT
      clear hq hman hex HPT
      obtain ⟨cfm0, cfm1, cfm2, cfm3, cfm4, cfm5, ffm0, ffm1, ffm2, ffm3, ffm4, ffm5⟩ := Xfm.out
      have hnefm : gfm < wr.heap.size := World.block_lt_of_cell? wr _ cfm0
      go_wp2_with fail
      clear cfm0 cfm1 cfm2 cfm3 cfm4 cfm5 ffm0 ffm1 ffm2 ffm3 ffm4 ffm5 hnefm
      refine (HPH.out _).mono ?_
      rintro e v1 ⟨rfl, hb1⟩
      replace Xfm : Hid _ := Xfm.out.below hb1
      replace Xv : Hid _ := Xv.out.below hb1
      replace N1 : Hid (RL v1 p1 m1 b) := N1.out.below hb1
      replace N2 : Hid (RL v1 p2 m2 d) := N2.out.below hb1
      replace hbw := Below.on hbw hb1
      clear hb1
      obtain ⟨cfm0, cfm1, cfm2, cfm3, cfm4, cfm5, ffm0, ffm1, ffm2, ffm3, ffm4, ffm5⟩ := Xfm.out
      have hnefm : gfm < v1.heap.size := World.block_lt_of_cell? v1 _ cfm0
      go_wp2_with fail
      clear cfm0 cfm1 cfm2 cfm3 cfm4 cfm5 ffm0 ffm1 ffm2 ffm3 ffm4 ffm5 hnefm
      obtain ⟨c, hc⟩ : ∃ c, c = cmpN (g (2 * vs H s)) A := ⟨_, rfl⟩
      have HCC : Hid (c = cmpN (g (2 * vs H s)) A) := hc
      clear hc
      obtain ⟨V6, hV6⟩ : ∃ W1, W1 = v1.drew := ⟨_, rfl⟩
      have hbd : Below v1.heap.size v1 V6 := by rw [hV6]; exact bDrew1 (Below.refl _ _)
      replace Xfm : Hid _ := Xfm.out.below hbd
      replace Xv : Hid _ := Xv.out.below hbd
      replace N1 : Hid (RL V6 p1 m1 b) := N1.out.below hbd
      replace N2 : Hid (RL V6 p2 m2 d) := N2.out.below hbd
      replace hbw := Below.on hbw hbd
      clear hbd
      have HJ : Hid ((fun W' : World => W'.cell? ⟨gv, 0, none⟩ = some (.slice p1 m1 m1) ∧ W'.cell? ⟨gv, 1, none⟩ = some (.slice p2 m2 m2) ∧ W'.cell? ⟨gv, 2, none⟩ = some (.int .i64 f) ∧ W'.cell? ⟨gv, 3, none⟩ = some (.bool ro)) V6) := ⟨Xv.out.c0, Xv.out.c1, Xv.out.c2, Xv.out.c3⟩
      refine wp_region_J (fun W' => W'.cell? ⟨gv, 0, none⟩ = some (.slice p1 m1 m1) ∧ W'.cell? ⟨gv, 1, none⟩ = some (.slice p2 m2 m2) ∧ W'.cell? ⟨gv, 2, none⟩ = some (.int .i64 f) ∧ W'.cell? ⟨gv, 3, none⟩ = some (.bool ro)) (by kernel_rfl) ?_
      rw [← hV6]
      clear hV6
      refine wpJ_tq 0 rfl HJ.out ?_
      refine wpJ_tq 1 rfl HJ.out ?_
      refine wpJ_tq 3 rfl HJ.out ?_
      refine wpJ_on 2 rfl fun KJ hK => ?_
      go_simp
      refine (rl_word man (b64_9 (by have := HM.out.1; omega)) _).mono ?_
      rintro en v9 ⟨p9, m9, rfl, hn9, hl9, hb9⟩
      replace Xfm : Hid _ := Xfm.out.below hb9
      replace Xv : Hid _ := Xv.out.below hb9
      replace N1 : Hid (RL v9 p1 m1 b) := N1.out.below hb9
      replace N2 : Hid (RL v9 p2 m2 d) := N2.out.below hb9
      replace hbw := Below.on hbw hb9
      clear hb9
      have N9 : Hid (RL v9 p9 m9 (man)) := hn9
      have HL9 : Hid (m9 ≤ 2) := hl9
      clear hn9 hl9
      refine hK _ _ ⟨Xv.out.c0, Xv.out.c1, Xv.out.c2, Xv.out.c3⟩ ?_
      clear hK
      refine wpJ_on 4 rfl fun KJ hK => ?_
      go_simp
      refine (HO.out man (q + 1) ex _ p9 m9 N9.out N1.out N2.out HL9.out HM.out.2.2.1 (by have := HM.out.2.1; omega)).mono ?_
      rintro e v3 ⟨rfl, hb3⟩
      rw [HM.out.2.2.2, ← HCC.out]
      replace Xfm : Hid _ := Xfm.out.below hb3
      replace Xv : Hid _ := Xv.out.below hb3
      replace N1 : Hid (RL v3 p1 m1 b) := N1.out.below hb3
      replace N2 : Hid (RL v3 p2 m2 d) := N2.out.below hb3
      replace N9 : Hid (RL v3 p9 m9 (man)) := N9.out.below hb3
      replace hbw := Below.on hbw hb3
      clear hb3
      clear HJ
      have HJ : Hid ((fun W' : World => W'.cell? ⟨gv, 0, none⟩ = some (.slice p1 m1 m1) ∧ W'.cell? ⟨gv, 1, none⟩ = some (.slice p2 m2 m2) ∧ W'.cell? ⟨gv, 2, none⟩ = some (.int .i64 f) ∧ W'.cell? ⟨gv, 3, none⟩ = some (.bool ro)) v3) := ⟨Xv.out.c0, Xv.out.c1, Xv.out.c2, Xv.out.c3⟩
      refine hK _ _ HJ.out ?_
      clear hK
      refine wpJ_tq 5 rfl HJ.out ?_
      go_simp
      refine wpJ_done (by kernel_rfl) ?_ _
      clear HJ
      by_cases hv : g (2 * vs H s) ≤ A
      · have hc0 : decide (c ≤ 0) = true := decide_eq_true (by rw [HCC.out]; exact (cmpN_le0 _ _).2 hv)
        have hc1 : c ≤ 0 := of_decide_eq_true hc0
        have HV : Hid (g (2 * vs H s) ≤ A) := hv
        clear hv
        go_wp2_with fail
        go_roundg (hi - s - 1)
        case measure => have := HS.out; omega
        case rel => exact ⟨s, hi, rfl, rfl, by have := HS.out; omega, by have := HS.out; have := HLH.out.1; omega, HV.out, HLH.out.2.2.1, Xfm.out, Xv.out, N1.out, N2.out, hbw⟩
      · have hc0 : decide (c ≤ 0) = false := decide_eq_false (by rw [HCC.out, cmpN_le0]; exact hv)
        have hc1 : ¬ c ≤ 0 := of_decide_eq_false hc0
        have HV : Hid (A < g (2 * vs H s)) := Nat.lt_of_not_le hv
        clear hv
        go_wp2_with fail
        go_roundg (s - lo - 1)
        case measure => have := HS.out; omega
        case rel => exact ⟨lo, s, rfl, rfl, by have := HS.out; omega, by have := HS.out; have := HLH.out.1; omega, HLH.out.2.1, (.inr HV.out), Xfm.out, Xv.out, N1.out, N2.out, hbw⟩
structure Jn (f p m l : Int) (S I H sd : Nat) (Be : Int) : Prop where
  jm : Jm f p m l S I H sd Be
  hI : (I : Int) = (Be - l - sd + 1) * ((2 ^ sd : Nat) : Int)
  hB : 0 < Be - l - sd
  hS : S % 2 = 0
  hB9 : Be - l - sd ≤ 2046
  cl : ∀ (b : Nat) w, b < 2 * S → Calls Tryz.prog 18 #[.int .i64 f, U b] w fun en w' => en = .returned (.tuple #[.int .i64 (clsN H I (b % S)), .int .i64 0]) ∧ Below w.heap.size w w'
theorem jn_32 : Jn 32 32 24 (-149) 2147483648 2139095040 8388608 23 128 := ⟨jm_32, by decide, by decide, by decide, by decide, fun b w hb => clsof_32 b hb w⟩
theorem jn_64 : Jn 64 64 53 (-1074) 9223372036854775808 9218868437227405312 4503599627370496 52 1024 := ⟨jm_64, by decide, by decide, by decide, by decide, fun b w hb => clsof_64 b hb w⟩
def rnp (l : Int) (sd : Nat) (Be : Int) (S I : Nat) (x e : Int) : Nat :=
  if x = 0 then 0 else if x < 0 then S + rnz l sd Be I x.natAbs e else rnz l sd Be I x.natAbs e
theorem RNz.nought {H : Nat} {l : Int} {I : Nat} (hH : 0 < H) (hl : -4194303 ≤ l) : RNz H l I 0 0 := by
  have := RNz.exact (H := H) (l := l) (I := I) (Z := 0) hH hl (Nat.zero_le _)
  rwa [vs_zero, show ((0 : Nat) : Int) = 0 from rfl, dv_zero] at this
theorem RNz.cell {H : Nat} {l : Int} {I : Nat} {A : Int} {Z : Nat} (h : RNz H l I A Z) (h0 : Z ≠ 0) (h1 : Z < I) :
    dv (hv H (Z - 1) : Int) (l - 1) ≤ A ∧ A ≤ dv (hv H Z : Int) (l - 1) ∧ (Z % 2 = 1 → dv (hv H (Z - 1) : Int) (l - 1) < A ∧ A < dv (hv H Z : Int) (l - 1)) := by
  have a1 : ¬ A < dv (hv H (Z - 1) : Int) (l - 1) := fun h2 => by have := h.lo _ (by omega) h2; omega
  have a2 : ¬ dv (hv H Z : Int) (l - 1) < A := fun h2 => by have := h.hi _ h1 h2; omega
  refine ⟨by omega, by omega, fun ho => ⟨?_, ?_⟩⟩
  · rcases Int.lt_or_eq_of_le (Int.not_lt.1 a1) with h2 | h2
    · exact h2
    · have := h.eq (Z - 1) (by omega) h2.symm; omega
  · rcases Int.lt_or_eq_of_le (Int.not_lt.1 a2) with h2 | h2
    · exact h2
    · have := h.eq Z h1 h2; omega
theorem RNz.none {H : Nat} {l : Int} {I : Nat} {A : Int} (h : RNz H l I A 0) (hI : 0 < I) : A ≤ dv (hv H 0 : Int) (l - 1) :=
  Int.not_lt.1 fun h2 => by have := h.hi 0 hI h2; omega
theorem RNz.all {H : Nat} {l : Int} {I : Nat} {A : Int} (h : RNz H l I A I) (hI : 0 < I) : dv (hv H (I - 1) : Int) (l - 1) ≤ A :=
  Int.not_lt.1 fun h2 => by have := h.lo (I - 1) (by omega) h2; omega
theorem rn_of {f p m l : Int} {S I H sd : Nat} {Be : Int} (J : Jn f p m l S I H sd Be) {n : Nat} {e : Int} (hn : n ≠ 0) (he : -4194304 ≤ e) : RNz H l I (dv n e) (rnz l sd Be I n e) := by
  have := rnz_ok J.hI J.jm.sl.1 J.hB (by have := J.jm.pm.lo; omega) hn he
  rwa [← J.jm.hs] at this
theorem rnp_is {f p m l : Int} {S I H sd : Nat} {Be : Int} (J : Jn f p m l S I H sd Be) (x e : Int) (he : -4194304 ≤ e) :
    ∃ Z, Z ≤ I ∧ RNz H l I (dv x.natAbs e) Z ∧ rnp l sd Be S I x e = (if x < 0 then S + Z else Z) ∧ rnp l sd Be S I x e < 2 * S ∧ rnp l sd Be S I x e % S = Z ∧ decide (S ≤ rnp l sd Be S I x e) = decide (x < 0) ∧ rnp l sd Be S I x e % 2 = Z % 2 := by
  have hlt := J.jm.pm.fm.lt
  have hS := J.hS
  by_cases h0 : x = 0
  · refine ⟨0, by omega, ?_, ?_⟩
    · rw [h0]
      have : dv ((0 : Int).natAbs : Int) e = 0 := dv_zero e
      rw [this]
      exact RNz.nought J.jm.pm.hp (by have := J.jm.pm.lo; omega)
    · unfold rnp
      rw [if_pos h0, if_neg (by omega)]
      exact ⟨rfl, by omega, Nat.zero_mod _, by rw [decide_eq_false (by omega), decide_eq_false (by omega)], rfl⟩
  · have hR := rn_of J (n := x.natAbs) (e := e) (by omega) he
    obtain ⟨Z, hZ⟩ : ∃ Z, Z = rnz l sd Be I x.natAbs e := ⟨_, rfl⟩
    rw [← hZ] at hR
    refine ⟨Z, hR.le, hR, ?_⟩
    unfold rnp
    rw [if_neg h0, ← hZ]
    have hle := hR.le
    by_cases hx : x < 0
    · rw [if_pos hx]
      refine ⟨rfl, by omega, ?_, ?_, by omega⟩
      · rw [Nat.add_mod_left, Nat.mod_eq_of_lt (by omega)]
      · rw [decide_eq_true hx, decide_eq_true (by omega)]
    · rw [if_neg hx]
      refine ⟨rfl, by omega, Nat.mod_eq_of_lt (by omega), ?_, rfl⟩
      rw [decide_eq_false hx, decide_eq_false (by omega)]
theorem Own.word {B : Nat} {w : World} {p : Option Addr} {m y : Nat} {zs : List Nat} (ho : Own B w p m zs) (hn : Nf B64 zs y) (hy : y < B64) :
    (y = 0 ∧ m = 0) ∨ (y ≠ 0 ∧ m = 1 ∧ ∃ g, p = some ⟨g, 0, none⟩ ∧ B ≤ g ∧ w.cell? ⟨g, 0, none⟩ = some (U y)) := by
  have hl := ho.len
  have h1 : zs.length ≤ 1 := (hn.len_le B64_one (k := 1)).2 (by rw [Nat.pow_one]; exact hy)
  rcases Nat.eq_zero_or_pos m with h0 | h0
  · left
    rw [h0] at hl
    have := hn.val
    rw [List.eq_nil_of_length_eq_zero hl] at this
    exact ⟨this.symm, h0⟩
  · right
    have hm1 : m = 1 := by omega
    subst hm1
    obtain ⟨a, rfl⟩ : ∃ a, zs = [a] := List.length_eq_one_iff.1 hl
    have hv : a = y := by have := hn.val; simpa [valB] using this
    obtain ⟨g, hp, hB, hc⟩ := ho.mem.resolve_left (by omega)
    refine ⟨?_, rfl, g, hp, hB, ?_⟩
    · intro h9
      have h8 : ([a] : List Nat) = [] := hn.inj B64_one (by rw [h9]; exact Nf.nil _)
      cases h8
    · have := hc.cell 0 (by omega)
      rw [Nat.add_zero] at this
      rw [this]
      simp [hv]
theorem multiple_n {p : Option Addr} {m c : Nat} {w : World} {x : Int} {s : Bool} (h : ZN w s p m c x) (k r : Nat) (n : Int) (hn : n = -(k : Int)) (hk : 0 < k ∧ k ≤ 4611686018427387904) (hr : r = neN x.natAbs (2 ^ k)) (hl : r < B64) (hT : Tab w) :
    Calls Tryz.prog 50 #[ZV s p m c, .int .i64 n] w fun en w' => en = .returned (U r) ∧ Below w.heap.size w w' := by
  have H : Hid (ZN w s p m c x) := h
  have HV : Hid (r < B64 ∧ r = neN x.natAbs (2 ^ k) ∧ k ≤ 9223372036854775807) := ⟨hl, hr, by omega⟩
  have TB : Hid (Tab w) := hT
  have d1 : decide (n < 0) = true := decide_eq_true (by omega)
  have d2 : wrap64 (-n) = (k : Int) := by rw [hn]; simp only [wrap64]; omega
  have d3 : IntKind.i64.wrap (-n) = (k : Int) := by rw [hn]; simp [IntKind.wrap, IntKind.signed, IntKind.bits]; omega
  clear h hr hl hT hn hk
  go_enter Tryz.func50, Tryz.ntmps50
  go_wp2_with fail
  obtain ⟨W0, hW0⟩ : ∃ W0, W0 = (w.alloc (.cells #[.bool s, .slice p m c] 31)) := ⟨_, rfl⟩
  have Xm : Hid (Box W0 (w.heap.size) (.bool s) (.slice p m c)) := by rw [hW0]; exact ⟨by go_simp, by go_simp, by go_simp, by go_simp⟩
  have hb0 : Below w.heap.size w W0 := by rw [hW0]; exact below1 w _
  rw [← hW0]
  clear hW0
  have hbw : Below w.heap.size w w := Below.refl _ _
  obtain ⟨gm, hgm⟩ : ∃ g, g = w.heap.size := ⟨_, rfl⟩
  have HGm : Hid (w.heap.size ≤ gm) := by rw [hgm]; show _ ≤ _; omega
  rw [← hgm] at Xm
  try rw [← hgm]
  clear hgm
  replace hbw := Below.on hbw hb0
  clear hb0
  have HL : Hid (gm < W0.heap.size) := Xm.out.lt
  obtain ⟨xs, hX⟩ := (H.out.below hbw).ex
  refine (rshr_any s hX H.out.pos k HV.out.2.2 (TB.out.below hbw)).mono ?_
  rintro e2 v1 ⟨v, rfl, hv, hb1⟩
  obtain ⟨p1, m1, z1, rfl, ho1, hn1, hm1⟩ := hv
  rw [show (ne s x.natAbs (2 ^ k)).natAbs = r from by rw [HV.out.2.1]; exact iv_natAbs _ _] at hn1
  generalize decide (ne s x.natAbs (2 ^ k) < 0) = s1
  clear hX
  replace Xm : Hid _ := Xm.out.below hb1
  replace hbw := Below.on hbw hb1
  clear hb1
  have HO : Hid (Own W0.heap.size v1 p1 m1 z1) := ho1
  have HN : Hid (Nf B64 z1 r ∧ m1 ≤ 8192) := ⟨hn1, hm1⟩
  clear ho1 hn1 hm1
  rcases HO.out.word HN.out.1 HV.out.1 with ⟨h0, h1⟩ | ⟨h0, h1, g1, h2, hg1, h3⟩
  · subst h1
    have hr0 : r = 0 := h0
    clear HV
    subst hr0
    obtain ⟨cm0, cm1, fm0, fm1⟩ := Xm.out
    have hnem := Xm.out.lt
    go_wp2_with fail
    go_ret
    exact ⟨rfl, bSet (bSet hbw _ _ _ HGm.out) _ _ _ HGm.out⟩
  · subst h1
    subst h2
    have hgm : gm ≠ g1 := by have := HL.out; omega
    have hgm2 : g1 ≠ gm := fun h => hgm h.symm
    have hg2 : g1 < v1.heap.size := World.block_lt_of_cell? v1 _ h3
    obtain ⟨cm0, cm1, fm0, fm1⟩ := Xm.out
    have hnem := Xm.out.lt
    go_wp2_with fail
    go_ret
    exact ⟨rfl, bSet (bSet hbw _ _ _ HGm.out) _ _ _ HGm.out⟩
theorem multiple_p {p : Option Addr} {m c : Nat} {w : World} {x : Int} {s : Bool} (h : ZN w s p m c x) (k r : Nat) (n : Int) (hn : n = (k : Int)) (hk : k ≤ 4611686018427387904) (hr : r = x.natAbs * 2 ^ k) (hl : r < B64) :
    Calls Tryz.prog 50 #[ZV s p m c, .int .i64 n] w fun en w' => en = .returned (U r) ∧ Below w.heap.size w w' := by
  have H : Hid (ZN w s p m c x) := h
  have HV : Hid (r < B64 ∧ r = x.natAbs * 2 ^ k ∧ k ≤ 9223372036854775807) := ⟨hl, hr, by omega⟩
  have d1 : decide (n < 0) = false := decide_eq_false (by omega)
  subst hn
  clear h hr hl hk
  go_enter Tryz.func50, Tryz.ntmps50
  go_wp2_with fail
  obtain ⟨W0, hW0⟩ : ∃ W0, W0 = (w.alloc (.cells #[.bool s, .slice p m c] 31)) := ⟨_, rfl⟩
  have Xm : Hid (Box W0 (w.heap.size) (.bool s) (.slice p m c)) := by rw [hW0]; exact ⟨by go_simp, by go_simp, by go_simp, by go_simp⟩
  have hb0 : Below w.heap.size w W0 := by rw [hW0]; exact below1 w _
  rw [← hW0]
  clear hW0
  have hbw : Below w.heap.size w w := Below.refl _ _
  obtain ⟨gm, hgm⟩ : ∃ g, g = w.heap.size := ⟨_, rfl⟩
  have HGm : Hid (w.heap.size ≤ gm) := by rw [hgm]; show _ ≤ _; omega
  rw [← hgm] at Xm
  try rw [← hgm]
  clear hgm
  replace hbw := Below.on hbw hb0
  clear hb0
  have HL : Hid (gm < W0.heap.size) := Xm.out.lt
  obtain ⟨xs, hX⟩ := (H.out.below hbw).ex
  refine (nshl_any s hX H.out.pos k HV.out.2.2).mono ?_
  rintro e2 v1 ⟨ha, hb1⟩
  obtain ⟨p1, m1, z1, rfl, ho1, hn1, hm1⟩ := ha.ok (lt_LIM (L := 64) (by rw [iv_natAbs, Nat.mul_comm, ← HV.out.2.1]; exact HV.out.1) (by decide))
  clear ha
  rw [show (iv s (2 ^ k * x.natAbs)).natAbs = r from by rw [iv_natAbs, HV.out.2.1, Nat.mul_comm]] at hn1
  generalize decide (iv s (2 ^ k * x.natAbs) < 0) = s1
  clear hX
  replace Xm : Hid _ := Xm.out.below hb1
  replace hbw := Below.on hbw hb1
  clear hb1
  have HO : Hid (Own W0.heap.size v1 p1 m1 z1) := ho1
  have HN : Hid (Nf B64 z1 r ∧ m1 ≤ 8192) := ⟨hn1, hm1⟩
  clear ho1 hn1 hm1
  rcases HO.out.word HN.out.1 HV.out.1 with ⟨h0, h1⟩ | ⟨h0, h1, g1, h2, hg1, h3⟩
  · subst h1
    have hr0 : r = 0 := h0
    clear HV
    subst hr0
    obtain ⟨cm0, cm1, fm0, fm1⟩ := Xm.out
    have hnem := Xm.out.lt
    go_wp2_with fail
    go_ret
    exact ⟨rfl, bSet (bSet hbw _ _ _ HGm.out) _ _ _ HGm.out⟩
  · subst h1
    subst h2
    have hgm : gm ≠ g1 := by have := HL.out; omega
    have hgm2 : g1 ≠ gm := fun h => hgm h.symm
    have hg2 : g1 < v1.heap.size := World.block_lt_of_cell? v1 _ h3
    obtain ⟨cm0, cm1, fm0, fm1⟩ := Xm.out
    have hnem := Xm.out.lt
    go_wp2_with fail
    go_ret
    exact ⟨rfl, bSet (bSet hbw _ _ _ HGm.out) _ _ _ HGm.out⟩
end Go.Proofs.YtfmbifocgljieaaGreatDoor
