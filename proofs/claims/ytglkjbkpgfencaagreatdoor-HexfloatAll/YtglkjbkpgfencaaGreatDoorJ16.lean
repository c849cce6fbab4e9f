import Derived.Test.YtglkjbkpgfencaaGreatDoorJ15
import Derived.Test.YtglkjbkpgfencaaGreatDoorJ10
import Derived.Test.YtglkjbkpgfencaaGreatDoorJ8
import Derived.Test.YtglkjbkpgfencaaGreatDoorJ11
import Derived.Test.YtglkjbkpgfencaaGreatDoorJ9
import Derived.WalkSmall
import Derived.Laws.Concat
import Derived.Test.YtglkjbkpgfencaaGreatDoorJ13
namespace Go.Proofs.YtglkjbkpgfencaaGreatDoor
open Go.RowKit Go.Shelf
set_option maxRecDepth 20000
set_option maxHeartbeats 0
def ShIs (r : Nat → Nat → Nat) (xs : List Nat) (t : Int) (us : List Nat) (f : Int) : Prop :=
  (t < 0 ∧ us = [] ∧ f = 1) ∨ (0 ≤ t ∧ formB xs = false ∧ us = [] ∧ f = 2) ∨ (0 ≤ t ∧ formB xs = true ∧ DocIs (r (valB B64 xs) t.toNat) us f)
theorem ShIs.inj {r : Nat → Nat → Nat} {xs : List Nat} {t : Int} {us us' : List Nat} {f f' : Int} (h : ShIs r xs t us f) (k : ShIs r xs t us' f') : us = us' ∧ f = f' := by
  rcases h with ⟨h1, rfl, rfl⟩ | ⟨h1, h2, rfl, rfl⟩ | ⟨h1, h2, h3⟩ <;> rcases k with ⟨k1, rfl, rfl⟩ | ⟨k1, k2, rfl, rfl⟩ | ⟨k1, k2, k3⟩
  · exact ⟨rfl, rfl⟩
  · omega
  · omega
  · omega
  · exact ⟨rfl, rfl⟩
  · rw [k2] at h2; simp at h2
  · omega
  · rw [k2] at h2; simp at h2
  · exact h3.inj k3
theorem ShIs.er {r : Nat → Nat → Nat} {xs us : List Nat} {t f : Int} (h : ShIs r xs t us f) : f = 0 ∨ f = 1 ∨ f = 2 ∨ f = 3 ∨ f = 4 ∨ f = 5 := by
  rcases h with ⟨_, _, rfl⟩ | ⟨_, _, _, rfl⟩ | ⟨_, _, ⟨_, _, rfl⟩ | ⟨_, _, rfl⟩⟩ <;> simp
structure DigRel32 (w : World) (gq gr L n : Nat) (A D : Nat) (k : Nat) (qs rs : List Nat) (wr : World) : Prop where
  bel : ∀ B, B ≤ gq → B ≤ gr → Below B w wr
  rowq : Row32 wr gq 0 L qs
  rowr : Row32 wr gr 0 (L + n) rs
  cell : ∀ b o, b ≠ gq → b ≠ gr → wr.cell? ⟨b, o, none⟩ = w.cell? ⟨b, o, none⟩
  lt : valB B32 (rs.drop (L - k)) < D
  sum : valB B32 rs + B32 ^ (L - k) * valB B32 (qs.drop (L - k)) * D = A

theorem Row32.other {w : World} {g off n : Nat} {xs : List Nat} (h : Row32 w g off n xs) (g2 o2 : Nat) (v : Value) (hne : g ≠ g2) : Row32 (w.setCell ⟨g2, o2, none⟩ v) g off n xs := by
  refine ⟨h.len, h.dig, fun j hj => ?_, fun j hj => by rw [World.frozen?_setCell]; exact h.frozen j hj⟩
  exact (World.cell?_setCell_other _ _ _ _ (by intro e; apply hne; have := congrArg Addr.block e; simp at this; omega)).trans (h.cell j hj)
theorem Row32.wr {w w' : World} {g off n g2 o2 l2 : Nat} {xs : List Nat} (h : Row32 w g off n xs) (hwr : Wr g2 o2 l2 w w') (hne : g ≠ g2) : Row32 w' g off n xs :=
  ⟨h.len, h.dig, fun j hj => (hwr.cell g (off + j) (.inl hne)).trans (h.cell j hj), fun j hj => (hwr.frozen _).trans (h.frozen j hj)⟩
theorem dig_abs32 {P W q r D T Q A : Nat} (hW : q * D + r = W) (h : T + P * W + P * B32 * Q * D = A) : T + P * r + P * (q + B32 * Q) * D = A := by
  subst hW
  have e1 : P * (q + B32 * Q) * D = P * (q * D) + P * B32 * Q * D := by
    rw [Nat.mul_add, Nat.add_mul, Nat.mul_assoc P q D, ← Nat.mul_assoc P B32 Q]
  rw [e1]
  rw [Nat.mul_add] at h
  omega
theorem DigRel32.window {w : World} {gq gr L n A D k : Nat} {qs rs : List Nat} {wr : World} (h : DigRel32 w gq gr L n A D k qs rs wr) (hk : k < L) (hDn : D < B32 ^ n) :
    ∃ a ws, a = L - 1 - k ∧ ws = (rs.drop a).take (n + 1) ∧ Row32 wr gr a (n + 1) ws ∧ valB B32 ws < B32 * D ∧ valB B32 rs = valB B32 (rs.take a) + B32 ^ a * valB B32 ws ∧ valB B32 (rs.drop (a + (n + 1))) = 0 := by
  have hl := h.rowr.len
  obtain ⟨a, ha⟩ : ∃ a, a = L - 1 - k := ⟨_, rfl⟩
  have hlt := h.lt
  rw [show L - k = a + 1 by omega] at hlt
  have hz : valB B32 (rs.drop (a + (n + 1))) = 0 := by
    have hs := valB_split B32 (rs.drop (a + 1)) n (by rw [List.length_drop]; omega)
    rw [List.drop_drop, show a + 1 + n = a + (n + 1) by omega] at hs
    rcases Nat.eq_zero_or_pos (valB B32 (rs.drop (a + (n + 1)))) with e | e
    · exact e
    · exfalso
      have : B32 ^ n * 1 ≤ B32 ^ n * valB B32 (rs.drop (a + (n + 1))) := Nat.mul_le_mul_left _ e
      omega
  have hw := win_take32 rs a (n + 1) (by omega)
  rw [hz, Nat.mul_zero, Nat.add_zero] at hw
  refine ⟨a, _, ha, rfl, h.rowr.win a (n + 1) (by omega), ?_, hw, hz⟩
  have hs := valB_split B32 (rs.drop a) (n + 1) (by rw [List.length_drop]; omega)
  rw [List.drop_drop, hz, Nat.mul_zero, Nat.add_zero] at hs
  rw [← hs, valB_drop B32 rs a (by omega)]
  have hb := h.rowr.dig.getD B32_pos a
  have : B32 * (valB B32 (rs.drop (a + 1)) + 1) ≤ B32 * D := Nat.mul_le_mul_left _ hlt
  rw [Nat.mul_add] at this
  omega
theorem DigRel32.step {w : World} {gq gr L n A D k : Nat} {qs rs : List Nat} {wr wr' : World} (h : DigRel32 w gq gr L n A D k qs rs wr) (hk : k < L) (hne : gq ≠ gr) {a q : Nat} {ws ws' : List Nat} (ha : a = L - 1 - k)
    (hrs : valB B32 rs = valB B32 (rs.take a) + B32 ^ a * valB B32 ws) (hz : valB B32 (rs.drop (a + (n + 1))) = 0) (hD : 0 < D) (hq : q = valB B32 ws / D) (hqb : q < B32) (hr : valB B32 ws' = valB B32 ws % D)
    (hwr : Wr gr a (n + 1) wr wr') (hrow : Row32 wr' gr a (n + 1) ws') : DigRel32 w gq gr L n A D (k + 1) (qs.set a q) (winPut rs ws' a) (wr'.setCell ⟨gq, a, none⟩ (V q)) := by
  have hl := h.rowr.len; have hql := h.rowq.len; have hwl := hrow.len
  have hle : a + ws'.length ≤ rs.length := by omega
  have e1 : L - (k + 1) = a := by omega
  have e2 : L - k = a + 1 := by omega
  have hdrop : valB B32 ((winPut rs ws' a).drop a) = valB B32 ws % D := by
    rw [winPut_drop rs ws' a hle, valB_append, hwl, hz, Nat.mul_zero, Nat.add_zero, hr]
  refine ⟨fun B h1 h2 => ?_, ?_, ?_, fun b o h1 h2 => ?_, ?_, ?_⟩
  · exact ((h.bel B h1 h2).trans (hwr.below h2)).trans ((Wr.refl gq 0 L wr').setCell a ⟨by omega, by omega⟩ (V q) |>.below h1)
  · have := (h.rowq.wr hwr hne).set a q (by omega) hqb
    rw [Nat.zero_add] at this; exact this
  · exact (h.rowr.put hwr hrow (by omega)).other gq a _ (Ne.symm hne)
  · rw [World.cell?_setCell_other _ _ _ _ (by intro e; apply h1; have := congrArg Addr.block e; simp at this; omega), hwr.cell b o (.inl h2)]
    exact h.cell b o h1 h2
  · rw [e1, hdrop]; exact Nat.mod_lt _ hD
  · have hs := h.sum
    rw [e2, hrs, Nat.pow_succ] at hs
    rw [e1, valB_split B32 (winPut rs ws' a) a (by rw [winPut_len rs ws' a hle]; omega), winPut_take rs ws' a hle, hdrop, drop_set_at qs a q (by omega), valB_cons]
    refine dig_abs32 (W := valB B32 ws) (q := q) ?_ hs
    rw [hq, Nat.mul_comm]; exact Nat.div_add_mod _ _

theorem Row32.below2 {w w' : World} {g off n B : Nat} {xs : List Nat} (h : Row32 w g off n xs) (hb : Below B w w') (hg : g < B) : Row32 w' g off n xs :=
  ⟨h.len, h.dig, fun j hj => (hb.cell (p := ⟨g, off + j, none⟩) hg).trans (h.cell j hj), fun j hj => (hb.frozen (p := ⟨g, off + j, none⟩) hg).trans (h.frozen j hj)⟩
structure RN (w : World) (p : Option Addr) (m a : Nat) : Prop where
  mem : ∃ zs, At32 w p m m zs ∧ Nf B32 zs a
  len : m ≤ 4000
theorem RN.below {w w' : World} {p : Option Addr} {m a : Nat} (h : RN w p m a) (hb : Below w.heap.size w w') : RN w' p m a := by
  obtain ⟨⟨zs, h1, h2⟩, h3⟩ := h
  exact ⟨⟨zs, h1.below hb, h2⟩, h3⟩
theorem RN.cast {w : World} {p : Option Addr} {m a b : Nat} (h : RN w p m a) (e : a = b) : RN w p m b := e ▸ h
theorem rn_len {w : World} {p : Option Addr} {m c a K : Nat} {zs : List Nat} (h : At32 w p m c zs) (hN : Nf B32 zs a) (hK : K ≤ 100000) (hb : a < 2 ^ K) : m ≤ 4000 := by
  rw [← h.len]
  obtain ⟨k, hk⟩ : ∃ k, k = 3200 := ⟨_, rfl⟩
  refine Nat.le_trans ((hN.len_le (k := k) (by decide)).2 (Nat.lt_of_lt_of_le hb ?_)) (by omega)
  rw [show B32 = 2 ^ 32 from rfl, ← Nat.pow_mul]
  exact Nat.pow_le_pow_right (by decide) (by omega)
theorem RN.mk2 {w : World} {p : Option Addr} {m a K : Nat} {zs : List Nat} (h : At32 w p m m zs) (hN : Nf B32 zs a) (hK : K ≤ 100000) (hb : a < 2 ^ K) : RN w p m a := ⟨⟨zs, h, hN⟩, rn_len h hN hK hb⟩
theorem RN.zero {w : World} {p : Option Addr} {m a : Nat} (h : RN w p m a) : m = 0 ↔ a = 0 := by
  obtain ⟨⟨zs, h1, h2⟩, h3⟩ := h
  rw [← h2.zero_iff (by decide), ← h1.len]
  exact List.length_eq_zero_iff
def RNs (w w' : World) (e : Ending) (a : Nat) : Prop := ∃ p m, e = .returned (.slice p m m) ∧ RN w' p m a ∧ Below w.heap.size w w'
theorem rn_word {w : World} (x : Nat) (hx : x < 18446744073709551616) : Calls Tryz.prog 43 #[U x] w fun e w' => RNs w w' e (x) := by
  refine (rword x hx w).mono ?_
  rintro e w' ⟨g, zs, rfl, g1, g2, g3, hb2⟩
  exact ⟨_, _, rfl, ⟨⟨zs, g2, g3⟩, by omega⟩, hb2⟩
theorem rn_mulsv {w : World} {p : Option Addr} {m a : Nat} (h : RN w p m a) (v u : Nat) (hv : v < B32) (hu : u < B32) {K : Nat} (hK : K ≤ 100000) (hb : a * v + u < 2 ^ K) : Calls Tryz.prog 70 #[.slice p m m, V v, V u] w fun e w' => RNs w w' e (a * v + u) := by
  obtain ⟨⟨zs, h1, h2⟩, h3⟩ := h
  refine (rsmall_any (u := u) h1 h2 (by omega) hv hu).mono ?_
  rintro e w' ⟨g, z, rfl, g1, g2, g3, hb2⟩
  exact ⟨_, _, rfl, RN.mk2 (g1.at_ g2.dig rfl (by unfold maxLen; omega)) g2 hK hb, hb2⟩
def NumA (l : List UInt8) (w w' : World) (en : Ending) : Prop :=
  (docF l = none ∧ en = .returned (.tuple #[.slice none 0 0, .int .i64 0, .bool false]) ∧ Below w.heap.size w w') ∨ (∃ v e p m, docF l = some (v, e) ∧ en = .returned (.tuple #[.slice p m m, .int .i64 e, .bool true]) ∧ RN w' p m v ∧ Below w.heap.size w w')
theorem docF_short {l : List UInt8} (h : l.length < 2) : docF l = none := by
  cases l with
  | nil => rfl
  | cons c l =>
    cases l with
    | nil => rfl
    | cons d l => exact absurd h (by rw [List.length_cons, List.length_cons]; omega)
theorem bs_two (c x : UInt8) (r : List UInt8) : (bs (c :: x :: r)).extract 2 (bs (c :: x :: r)).size = bs r := by
  apply ByteArray.ext
  apply Array.ext'
  rw [Lib.extract_data, bs_data, bs_data, bs_size]
  show (((c :: x :: r).drop 2)).take _ = r
  exact List.take_of_length_le (by show r.length ≤ r.length + 1 + 1 - 2; omega)
theorem bs_drp (l : List UInt8) (n : Nat) : (bs l).extract n (bs l).size = bs (l.drop n) := by
  apply ByteArray.ext
  apply Array.ext'
  rw [Lib.extract_data, bs_data, bs_data, bs_size]
  exact List.take_of_length_le (by rw [List.length_drop]; omega)
theorem nub {u : Nat} : 16 < B32 ∧ (u < 16 → u < B32) := by rw [B32_eq]; exact ⟨by decide, fun h => by omega⟩
theorem nkb {n i : Nat} (h1 : n ≤ 8000) (h2 : i < n) : 4 * (i + 1) ≤ 100000 := by omega
theorem nig {a g n : Nat} (h : a + (g + 1) = n) : a + 1 + g = n := by omega
theorem njk {A : List UInt8} {i : Nat} (h : ∀ j, j < i → hexd (A.getD j 0) = true) (hi : hexd (A.getD i 0) = true) : ∀ j, j < i + 1 → hexd (A.getD j 0) = true := by
  intro j hj
  rcases Nat.lt_or_ge j i with h2 | h2
  · exact h j h2
  · obtain rfl : j = i := by omega
    exact hi
theorem cut_len {D : List UInt8} {j : Nat} (h : D.length ≤ 8000) (hj : j < D.length) : (D.take j ++ D.drop (j + 1)).length ≤ 8000 := by rw [List.length_append, List.length_take, List.length_drop]; omega
theorem cut_len2 {D : List UInt8} {j : Nat} (h : D.length ≤ 8000) (hj : j < D.length) : (D.take j).length + (D.drop (j + 1)).length ≤ 1000000 := by rw [List.length_take, List.length_drop]; omega
theorem cut_len3 {D : List UInt8} {j : Nat} (h : D.length ≤ 8000) (hj : j < D.length) : ¬ ((D.take j).length + (D.drop (j + 1)).length > 9223372036854775807) := by rw [List.length_take, List.length_drop]; omega
theorem wA {n j k : Nat} (h : k = n - j) (hj : j < n) (hn : n ≤ 8000) : wrap64 ((n : Int) - (j : Int)) = (k : Int) := by simp only [wrap64]; omega
theorem wB {n j k b : Nat} (h : k = n - j) (hb : b = n - j - 1) (hj : j < n) (hn : n ≤ 8000) : wrap64 ((k : Int) - 1) = (b : Int) := by simp only [wrap64]; omega
theorem wC {n j b : Nat} (hb : b = n - j - 1) (hn : n ≤ 8000) : wrap64 (4 * (b : Int)) = 4 * (b : Int) := by simp only [wrap64]; omega
theorem wD {n j b : Nat} {pe ev : Int} (hb : b = n - j - 1) (hn : n ≤ 8000) (h1 : -1099511627776 ≤ pe) (h2 : pe ≤ 1099511627776) (he : ev = pe - 4 * (b : Int)) : wrap64 (pe - 4 * (b : Int)) = ev := by simp only [wrap64]; omega
theorem wE {n j : Nat} (hj : j < n) (hn : n ≤ 8000) : wrap64 ((j : Int) + 1) = ((j + 1 : Nat) : Int) := by simp only [wrap64]; omega
theorem wK {n j : Nat} (hj : j < n) (hn : n ≤ 8000) : IntKind.i64.wrap ((j : Int) + 1) = (j : Int) + 1 := by simp [IntKind.wrap, IntKind.signed, IntKind.bits]; omega
theorem wF {n j : Nat} (hj : j < n) : (j : Int) ≤ (n : Int) := by omega
theorem wG {n j : Nat} (hj : j < n) : (j : Int) + 1 ≤ (n : Int) := by omega
theorem wr32 {n : Nat} (h : n < 16) : IntKind.u32.wrap (n : Int) = (n : Int) := by
  simp [IntKind.wrap, IntKind.signed, IntKind.bits]; omega
theorem num_step {A : List UInt8} {i : Nat} (hi : i < A.length) (hK : ∀ j, j < i → hexd (A.getD j 0) = true) (hx : hexd (A.getD i 0) = true) : hexF 0 (A.take i) * 16 + hexv (A.getD i 0) = hexF 0 (A.take (i + 1)) ∧ hexF 0 (A.take (i + 1)) < 2 ^ (4 * (i + 1)) := by
  refine ⟨?_, ?_⟩
  · rw [take_snoc hi, hexF_app]
    show _ = 16 * _ + hexv _
    omega
  · have h1 := hexF_lt (A.take (i + 1)) 0 (fun c hc => by
      rw [take_snoc hi, List.mem_append] at hc
      rcases hc with hc | hc
      · obtain ⟨j, hj, he⟩ := List.getElem_of_mem hc
        rw [List.length_take] at hj
        rw [List.getElem_take] at he
        have h2 := hK j (by omega)
        rw [List.getD_eq_getElem?_getD, List.getElem?_eq_getElem (by omega : j < A.length)] at h2
        rw [← he]; exact h2
      · rw [List.mem_singleton] at hc; rw [hc]; exact hx)
    rw [List.length_take, Nat.min_eq_left (by omega), sixteen] at h1
    rwa [Nat.zero_add, Nat.one_mul] at h1
theorem pow_bd (l : List UInt8) : -1099511627776 ≤ powI l ∧ powI l ≤ 1099511627776 := by
  have h := huge_le (minusF l).2 0 (by decide)
  unfold powI powF
  split
  · exact ⟨by decide, by decide⟩
  · rename_i e he
    split at he
    · cases he
    · cases he
      split <;> omega
theorem doc_no1 {r : List UInt8} {i : Nat} (hf : findF 112 80 r = some i) (h : powB (r.drop (i + 1)) = false) : docR r = none := by
  unfold powB at h
  unfold docR
  rw [hf]
  cases hp : powF (r.drop (i + 1)) with
  | none => simp only [hp]
  | some e => rw [hp] at h; cases h
theorem doc_no2 {r : List UInt8} {i : Nat} (hf : findF 112 80 r = some i) (h : (cutF (r.take i)).1 = [] ∨ (cutF (r.take i)).1.all hexd = false) : docR r = none := by
  unfold docR
  rw [hf]
  cases hp : powF (r.drop (i + 1)) with
  | none => simp only [hp]
  | some e => simp only [hp]; exact if_pos h
theorem doc_yes {r : List UInt8} {i : Nat} (hf : findF 112 80 r = some i) (hp : powB (r.drop (i + 1)) = true) (h0 : (cutF (r.take i)).1 ≠ []) (h1 : (cutF (r.take i)).1.all hexd = true) : docR r = some (hexF 0 (cutF (r.take i)).1, powI (r.drop (i + 1)) - 4 * (((cutF (r.take i)).2 : Nat) : Int)) := by
  unfold powB at hp
  unfold docR powI
  rw [hf]
  cases hw : powF (r.drop (i + 1)) with
  | none => rw [hw] at hp; cases hp
  | some e =>
    simp only [hw]
    have hn : ¬ ((cutF (r.take i)).1 = [] ∨ (cutF (r.take i)).1.all hexd = false) := fun h => h.elim h0 (fun k => by rw [h1] at k; cases k)
    exact if_neg hn
theorem rnum_s {l : List UInt8} (hl : l.length < 2) {w : World} : Calls Tryz.prog 37 #[.string (bs l)] w fun en w' => NumA l w w' en := by
  have hs : (bs l).size = l.length := bs_size l
  have HN := hm9 (docF_short hl)
  have hl2 : (l.length : Int) < 2 := by omega
  clear hl
  go_enter Tryz.func37, Tryz.ntmps37
  go_wp2_with fail
  go_ret3
  exact .inl ⟨HN.out, rfl, Below.refl _ _⟩
theorem rnum_c {l : List UInt8} {c x : UInt8} {r : List UInt8} (hl : l = c :: x :: r) (hc : c ≠ 48) {w : World} : Calls Tryz.prog 37 #[.string (bs l)] w fun en w' => NumA l w w' en := by
  have hs : (bs l).size = r.length + 2 := by rw [hl]; exact bs_size _
  have hl2 : ¬ (r.length : Int) + 2 < 2 := by omega
  have hg0 : (((bs l)[0]'(by rw [hs]; exact Nat.succ_pos _)).toNat : Int) = (c.toNat : Int) := by subst hl; rfl
  have hg1 : (((bs l)[1]'(by rw [hs]; exact Nat.succ_lt_succ (Nat.succ_pos _))).toNat : Int) = (x.toNat : Int) := by subst hl; rfl
  have HN : Hid (docF l = none) := by rw [hl]; exact if_neg (fun h => hc h.1)
  have hcn : ¬ (c.toNat : Int) = 48 := fun h => hc (u8_eq h)
  have hcq : ((c.toNat : Int) != 48) = true := bne_iff_ne.2 hcn
  clear hc hl
  go_enter Tryz.func37, Tryz.ntmps37
  go_wp2_with fail
  go_ret3
  exact .inl ⟨HN.out, rfl, Below.refl _ _⟩
theorem rnum_x {l : List UInt8} {x : UInt8} {r : List UInt8} (hl : l = 48 :: x :: r) (h1 : x ≠ 120) (h2 : x ≠ 88) {w : World} : Calls Tryz.prog 37 #[.string (bs l)] w fun en w' => NumA l w w' en := by
  have hs : (bs l).size = r.length + 2 := by rw [hl]; exact bs_size _
  have hl2 : ¬ (r.length : Int) + 2 < 2 := by omega
  have hg0 : (((bs l)[0]'(by rw [hs]; exact Nat.succ_pos _)).toNat : Int) = 48 := by subst hl; rfl
  have hg1 : (((bs l)[1]'(by rw [hs]; exact Nat.succ_lt_succ (Nat.succ_pos _))).toNat : Int) = (x.toNat : Int) := by subst hl; rfl
  have HN : Hid (docF l = none) := by rw [hl]; exact if_neg (fun h => h.2.elim h1 h2)
  have hx1 : ¬ (x.toNat : Int) = 120 := fun h => h1 (u8_eq h)
  have hx2 : ¬ (x.toNat : Int) = 88 := fun h => h2 (u8_eq h)
  have hq1 : ((x.toNat : Int) != 120) = true := bne_iff_ne.2 hx1
  have hq2 : ((x.toNat : Int) != 88) = true := bne_iff_ne.2 hx2
  clear h1 h2 hl
  go_enter Tryz.func37, Tryz.ntmps37
  go_wp2_with fail
  go_ret3
  exact .inl ⟨HN.out, rfl, Below.refl _ _⟩
theorem rnum_120 {l : List UInt8} {r : List UInt8} (hl : l = 48 :: 120 :: r) (hr : r.length ≤ 8000) {w : World} : Calls Tryz.prog 37 #[.string (bs l)] w fun en w' => NumA l w w' en := by
  have hs : (bs l).size = r.length + 2 := by rw [hl]; exact bs_size _
  have hl2 : ¬ (r.length : Int) + 2 < 2 := by omega
  have hg0 : (((bs l)[0]'(by rw [hs]; exact Nat.succ_pos _)).toNat : Int) = 48 := by subst hl; rfl
  have hg1 : (((bs l)[1]'(by rw [hs]; exact Nat.succ_lt_succ (Nat.succ_pos _))).toNat : Int) = 120 := by subst hl; rfl
  have HL : Hid (r.length ≤ 8000) := hr
  have hx1 : (bs l).extract 2 (bs l).size = bs r := by rw [hl]; exact bs_two _ _ r
  have hd0 : docF l = docR r := by rw [hl]; show (if (48 : UInt8) = 48 ∧ ((120 : UInt8) = 120 ∨ (120 : UInt8) = 88) then docR r else none) = docR r; exact if_pos ⟨rfl, by decide⟩
  have HD := hm9 hd0
  have hx2 : (bs l).extract 2 (r.length + 2) = bs r := by rw [← hs]; exact hx1
  have hle2 : (2 : Int) ≤ (r.length : Int) + 2 := by omega
  have hsr : (bs r).size = r.length := bs_size r
  clear hr hl hd0
  go_enter Tryz.func37, Tryz.ntmps37
  go_wp2_with fail
  refine (rfind_c r (by have := HL.out; omega) 112 80 _).mono ?_
  rintro en w1 ⟨rfl, rfl⟩
  cases hf : findF 112 80 r with
  | none =>
    have HN : Hid (docF l = none) := by rw [HD.out]; show _ = _; unfold docR; rw [hf]
    rw [show fiI 112 80 r = -1 by unfold fiI; rw [hf]]
    clear hf hx1 hx2
    go_wp2_with fail
    go_ret3
    exact .inl ⟨HN.out, rfl, Below.refl _ _⟩
  | some i =>
    have HF := hm9 hf
    have HI : Hid (i < r.length) := (find_some hf).choose_spec.choose_spec.2.2.2
    rw [show fiI 112 80 r = (i : Int) by unfold fiI; rw [hf]]
    have hip : ¬ (i : Int) < 0 := by omega
    have hwi : wrap64 ((i : Int) + 1) = ((i + 1 : Nat) : Int) := by have := HI.out; have := HL.out; simp only [wrap64]; omega
    have hxd : (bs r).extract (i + 1) (bs r).size = bs (r.drop (i + 1)) := bs_drp r (i + 1)
    have hxe : (bs r).extract (i + 1) r.length = bs (r.drop (i + 1)) := by rw [← hsr]; exact hxd
    have hle3 : (i : Int) + 1 ≤ (r.length : Int) := by have := HI.out; omega
    have hle4 : i + 1 ≤ (bs r).size := by have := HI.out; omega
    have h0i : (0 : Int) ≤ (i : Int) + 1 := by omega
    clear hf hx1 hx2
    go_wp2_with fail
    refine (rpower_c (r.drop (i + 1)) (by have := HL.out; rw [List.length_drop]; omega) _).mono ?_
    rintro en w2 ⟨rfl, hb2⟩
    have HB := hm9 hb2
    obtain ⟨ok, hok⟩ : ∃ ok, ok = powB (r.drop (i + 1)) := ⟨_, rfl⟩
    obtain ⟨pe, hpe⟩ : ∃ pe, pe = powI (r.drop (i + 1)) := ⟨_, rfl⟩
    rw [← hok, ← hpe]
    have HOK := hm9 hok
    have HPE : Hid (pe = powI (r.drop (i + 1)) ∧ -1099511627776 ≤ pe ∧ pe ≤ 1099511627776) := ⟨hpe, by rw [hpe]; exact (pow_bd _).1, by rw [hpe]; exact (pow_bd _).2⟩
    obtain ⟨D, hD⟩ : ∃ D, D = r.take i := ⟨_, rfl⟩
    have HDD : Hid (D = r.take i ∧ D.length ≤ 8000) := ⟨hD, by rw [hD, List.length_take]; have := HL.out; omega⟩
    have hxt : (bs r).extract 0 i = bs D := by rw [hD]; exact bs_take r i
    have hile : i ≤ (bs r).size := by have := HI.out; omega
    have hilt : (i : Int) ≤ (r.length : Int) := by have := HI.out; omega
    clear hb2 hok hpe hD hxd hxe hle3 hle4 h0i hwi
    go_wp2_with fail
    refine (rfind_c D (by have := HDD.out; omega) 46 46 _).mono ?_
    rintro en w3 ⟨rfl, rfl⟩
    have hsD : (bs D).size = D.length := bs_size D
    clear hxt hile hilt
    cases hf2 : findF 46 46 D with
    | none =>
      rw [show fiI 46 46 D = -1 by unfold fiI; rw [hf2]]
      obtain ⟨A, hA⟩ : ∃ A, A = D := ⟨_, rfl⟩
      have HC : Hid (cutF D = (A, 0)) := by show _ = _; unfold cutF; rw [hf2, hA]
      have HAL : Hid (A.length ≤ 8000) := by rw [hA]; exact HDD.out.2
      obtain ⟨ev, hev⟩ : ∃ ev, ev = pe := ⟨_, rfl⟩
      have HEV : Hid (ev = pe - 4 * ((0 : Nat) : Int)) := by show _ = _; omega
      rw [← hA] at hsD ⊢
      rw [← hev]
      clear hf2 hev hA
      cases ok with
      | false =>
        have HN : Hid (docF l = none) := by rw [HD.out]; exact doc_no1 HF.out (by rw [← HOK.out])
        go_wp2_with fail
        go_ret3
        exact .inl ⟨HN.out, rfl, HB.out⟩
      | true =>
        by_cases hA0 : A = []
        · have hem : (bs A).toList.isEmpty = true := by rw [hA0]; exact emp0
          have HN : Hid (docF l = none) := by rw [HD.out]; exact doc_no2 HF.out (by rw [← HDD.out.1, HC.out]; exact .inl hA0)
          clear hA0
          go_wp2_with fail
          go_ret3
          exact .inl ⟨HN.out, rfl, HB.out⟩
        have hem : (bs A).toList.isEmpty = false := emp1 hA0
        have HA0 := hm9 hA0
        clear hA0
        go_wp2_with fail
        refine (rn_word 0 (by decide)).mono ?_
        rintro en v4 ⟨pm, mm, rfl, hrn, hb4⟩
        have HRN := hm9 hrn
        have HB4 := hm9 (Below.on HB.out hb4)
        clear hrn hb4
        go_wp2_with fail
        have hsA : (bs A).size = A.length := bs_size A
        go_loopg [10, 11] A.length (fun gk mv iv wr => ∃ (i2 : Nat) (p : Option Addr) (m : Nat), i2 + gk = A.length ∧ mv = .slice p m m ∧ iv = .int .i64 i2 ∧ (∀ j, j < i2 → hexd (A.getD j 0) = true) ∧ RN wr p m (hexF 0 (A.take i2)) ∧ Below w1.heap.size w1 wr)
        case atStart => exact ⟨0, pm, mm, by omega, rfl, rfl, fun j hj => absurd hj (Nat.not_lt_zero _), HRN.out, HB4.out⟩
        case round =>
          obtain ⟨i2, p, m, hig, rfl, rfl, hkn, hr2, hb2⟩ := hrel
          have HK := hm9 hkn
          have HR2 := hm9 hr2
          have HB2 := hm9 hb2
          clear hkn hr2 hb2
          cases gk with
          | zero =>
            obtain rfl : i2 = A.length := by omega
            have HAA : Hid (A.all hexd = true) := List.all_eq_true.2 (fun x hx => by obtain ⟨j, hj, rfl⟩ := mem_getD hx; exact HK.out j hj)
            have HY : Hid (docF l = some (hexF 0 A, ev)) := by
              have h1 := doc_yes HF.out HOK.out.symm (by rw [← HDD.out.1, HC.out]; exact HA0.out) (by rw [← HDD.out.1, HC.out]; exact HAA.out)
              show _ = _
              rw [HD.out, h1, ← HDD.out.1, HC.out, ← HPE.out.1, HEV.out]
            have hnl : ¬ (A.length : Int) < (A.length : Int) := by omega
            clear hig
            go_wp2_with fail
            go_ret3
            exact .inr ⟨_, _, _, _, HY.out, rfl, by have h := HR2.out; rw [List.take_length] at h; exact h, HB2.out⟩
          | succ g =>
            have hil : (i2 : Int) < (A.length : Int) := by omega
            have hi0 : (0 : Int) ≤ (i2 : Int) := by omega
            have hiK : i2 < (bs A).size := by omega
            have hgi := bs_get A i2 hiK
            have wi : wrap64 ((i2 : Int) + 1) = ((i2 + 1 : Nat) : Int) := by have := HAL.out; simp only [wrap64]; omega
            have HI2 : Hid (i2 < A.length) := by show _ < _; omega
            obtain ⟨d, hd⟩ : ∃ d, d = A.getD i2 0 := ⟨_, rfl⟩
            rw [← hd] at hgi
            have HDX := hm9 hd
            have hgn : ((((bs A)[i2]'hiK).toNat : Nat) : Int) = (d.toNat : Int) := by rw [hgi]
            clear hd hgi
            go_wp2_with fail
            refine (rdigit_c d _).mono ?_
            rintro en v5 ⟨rfl, rfl⟩
            by_cases hx : hexd d = true
            rotate_left
            · have HN : Hid (docF l = none) := by
                rw [HD.out]
                refine doc_no2 HF.out (.inr ?_)
                rw [← HDD.out.1, HC.out]
                cases ha : A.all hexd with
                | false => rfl
                | true => exact absurd (by rw [HDX.out]; exact List.all_eq_true.1 ha _ (getD_mem HI2.out)) hx
              rw [if_neg hx]
              clear hx
              go_wp2_with fail
              go_ret3
              exact .inl ⟨HN.out, rfl, HB2.out⟩
            · rw [if_pos hx]
              have HX := hm9 hx
              have hv16 := hexv_lt hx
              obtain ⟨u, hu⟩ : ∃ u, u = hexv d := ⟨_, rfl⟩
              rw [← hu] at hv16 ⊢
              have HU : Hid (u = hexv d ∧ u < 16) := ⟨hu, hv16⟩
              have hun : ¬ (u : Int) < 0 := by omega
              have hw32 : IntKind.u32.wrap (u : Int) = (u : Int) := wr32 hv16
              have HT1 : Hid (hexF 0 (A.take i2) * 16 + u = hexF 0 (A.take (i2 + 1)) ∧ hexF 0 (A.take (i2 + 1)) < 2 ^ (4 * (i2 + 1))) := by rw [hu, HDX.out]; exact num_step HI2.out HK.out (by rw [← HDX.out]; exact hx)
              clear hx hu hv16
              go_wp2_with fail
              have hb16 : 16 < B32 := (nub (u := 0)).1
              have hbu : u < B32 := nub.2 HU.out.2
              have hbk : 4 * (i2 + 1) ≤ 100000 := nkb HAL.out HI2.out
              have hbx : hexF 0 (A.take i2) * 16 + u < 2 ^ (4 * (i2 + 1)) := Nat.lt_of_le_of_lt (Nat.le_of_eq HT1.out.1) HT1.out.2
              refine (rn_mulsv HR2.out 16 u hb16 hbu (K := 4 * (i2 + 1)) hbk hbx).mono ?_
              rintro en v6 ⟨p6, m6, rfl, hr6, hb6⟩
              have HR6 := hm9 hr6
              have HB6 := hm9 (Below.on HB2.out hb6)
              clear hr6 hb6 hun hw32 hgn hb16 hbu hbk hbx hem hsA hs hg0 hg1 hle2 hsr hsD
              go_wp2_with fail
              go_roundg g
              case measure => exact Nat.lt_succ_self g
              case rel => exact ⟨i2 + 1, p6, m6, nig hig, rfl, by go_num, njk HK.out (by rw [← HDX.out]; exact HX.out), by rw [← HT1.out.1]; exact HR6.out, HB6.out⟩
    | some j =>
      rw [show fiI 46 46 D = (j : Int) by unfold fiI; rw [hf2]]
      have HJ : Hid (j < D.length) := (find_some hf2).choose_spec.choose_spec.2.2.2
      obtain ⟨A, hA⟩ : ∃ A, A = D.take j ++ D.drop (j + 1) := ⟨_, rfl⟩
      obtain ⟨be, hbe⟩ : ∃ be, be = D.length - j - 1 := ⟨_, rfl⟩
      have HC : Hid (cutF D = (A, be)) := by show _ = _; unfold cutF; rw [hf2, hA, hbe]
      have HAL : Hid (A.length ≤ 8000) := by rw [hA]; exact cut_len HDD.out.2 HJ.out
      obtain ⟨ev, hev⟩ : ∃ ev, ev = pe - 4 * ((be : Nat) : Int) := ⟨_, rfl⟩
      have HEV := hm9 hev
      obtain ⟨k1, hk1⟩ : ∃ k1, k1 = D.length - j := ⟨_, rfl⟩
      have hwa : wrap64 ((D.length : Int) - (j : Int)) = (k1 : Int) := wA hk1 HJ.out HDD.out.2
      have hwb : wrap64 ((k1 : Int) - 1) = (be : Int) := wB hk1 hbe HJ.out HDD.out.2
      have hwc : wrap64 (4 * (be : Int)) = 4 * (be : Int) := wC hbe HDD.out.2
      have hwd : wrap64 (pe - 4 * (be : Int)) = ev := wD hbe HDD.out.2 HPE.out.2.1 HPE.out.2.2 hev
      have hwj : wrap64 ((j : Int) + 1) = ((j + 1 : Nat) : Int) := wE HJ.out HDD.out.2
      have hwk : IntKind.i64.wrap ((j : Int) + 1) = (j : Int) + 1 := wK HJ.out HDD.out.2
      have htn : ((j : Int) + 1).toNat = j + 1 := by omega
      have hxt2 : (bs D).extract 0 j = bs (D.take j) := bs_take D j
      have hxd2 : (bs D).extract (j + 1) (bs D).size = bs (D.drop (j + 1)) := bs_drp D (j + 1)
      have hxe2 : (bs D).extract (j + 1) D.length = bs (D.drop (j + 1)) := by rw [← hsD]; exact hxd2
      have hj1 : (j : Int) ≤ (D.length : Int) := wF HJ.out
      have hj2 : (j : Int) + 1 ≤ (D.length : Int) := wG HJ.out
      have hj3 : (0 : Int) ≤ (j : Int) := Int.natCast_nonneg j
      have hj4 : ¬ (j : Int) < 0 := Int.not_lt.2 hj3
      have hj5 : (0 : Int) ≤ (j : Int) + 1 := Int.le_trans hj3 (Int.le_add_one (Int.le_refl _))
      have hca : ∀ W, (Op.stringOp .add (bs (D.take j)) (bs (D.drop (j + 1)))).run Tryz.prog W = .ok (.string (bs A)) W := fun W => by rw [hA]; exact cat_run _ _ W (cut_len2 HDD.out.2 HJ.out)
      have hba : ¬ ((bs (D.take j)).size + (bs (D.drop (j + 1))).size > 9223372036854775807) := by rw [bs_size, bs_size]; exact cut_len3 HDD.out.2 HJ.out
      clear hf2 hev hA hbe hk1
      go_wp2_with fail
      have hbw := HB.out
      obtain ⟨V, hV⟩ : ∃ W1, W1 = w3.drew := ⟨_, rfl⟩
      have hbd : Below w3.heap.size w3 V := by rw [hV]; exact bDrew1 (Below.refl _ _)
      replace hbw := Below.on hbw hbd
      clear hbd
      have HJ : Hid ((fun W' : World => True) V) := trivial
      refine wp_region_J (fun W' => True) (by kernel_rfl) ?_
      rw [← hV]
      clear hV
      refine wpJ_tk 0 (v := ?v1x0) rfl ?hy1x0 HJ.out ?_
      case hy1x0 => (intro W' hJ; have j0 := hJ; go_simp; first | done | with_reducible rfl)
      refine wpJ_tk 1 (v := ?v2x1) rfl ?hy2x1 HJ.out ?_
      case hy2x1 => (intro W' hJ; have j0 := hJ; go_simp; first | done | with_reducible rfl)
      refine wpJ_tk 2 (v := ?v3x2) rfl ?hy3x2 HJ.out ?_
      case hy3x2 => (intro W' hJ; have j0 := hJ; go_simp; first | done | with_reducible rfl)
      refine wpJ_tk 3 (v := ?v4x3) rfl ?hy4x3 HJ.out ?_
      case hy4x3 => (intro W' hJ; have j0 := hJ; go_simp; first | done | with_reducible rfl)
      go_simp
      refine wpJ_tk 4 (v := ?v5x4) rfl ?hy5x4 HJ.out ?_
      case hy5x4 => (intro W' hJ; have j0 := hJ; go_simp; first | done | with_reducible rfl)
      refine wpJ_tk 5 (v := ?v6x5) rfl ?hy6x5 HJ.out ?_
      case hy6x5 => (intro W' hJ; have j0 := hJ; go_simp; first | done | with_reducible rfl)
      refine wpJ_tk 6 (v := ?v7x6) rfl ?hy7x6 HJ.out ?_
      case hy7x6 => (intro W' hJ; have j0 := hJ; go_simp; first | done | with_reducible rfl)
      refine wpJ_tk 7 (v := ?v8x7) rfl ?hy8x7 HJ.out ?_
      case hy8x7 => (intro W' hJ; have j0 := hJ; go_simp; first | done | with_reducible rfl)
      go_simp
      refine wpJ_tk 8 (v := ?v9x8) rfl ?hy9x8 HJ.out ?_
      case hy9x8 => (intro W' hJ; have j0 := hJ; go_simp; first | done | with_reducible rfl)
      refine wpJ_done (by kernel_rfl) ?_ _
      clear HJ
      have HBV := hm9 hbw
      clear HB
      have HB := HBV
      clear HBV hbw hwj hwk htn hxt2 hxd2 hxe2 hj1 hj2 hj5 hca hba
      cases ok with
      | false =>
        have HN : Hid (docF l = none) := by rw [HD.out]; exact doc_no1 HF.out (by rw [← HOK.out])
        go_wp2_with fail
        go_ret3
        exact .inl ⟨HN.out, rfl, HB.out⟩
      | true =>
        by_cases hA0 : A = []
        · have hem : (bs A).toList.isEmpty = true := by rw [hA0]; exact emp0
          have HN : Hid (docF l = none) := by rw [HD.out]; exact doc_no2 HF.out (by rw [← HDD.out.1, HC.out]; exact .inl hA0)
          clear hA0
          go_wp2_with fail
          go_ret3
          exact .inl ⟨HN.out, rfl, HB.out⟩
        have hem : (bs A).toList.isEmpty = false := emp1 hA0
        have HA0 := hm9 hA0
        clear hA0
        go_wp2_with fail
        refine (rn_word 0 (by decide)).mono ?_
        rintro en v4 ⟨pm, mm, rfl, hrn, hb4⟩
        have HRN := hm9 hrn
        have HB4 := hm9 (Below.on HB.out hb4)
        clear hrn hb4
        go_wp2_with fail
        have hsA : (bs A).size = A.length := bs_size A
        go_loopg [10, 11] A.length (fun gk mv iv wr => ∃ (i2 : Nat) (p : Option Addr) (m : Nat), i2 + gk = A.length ∧ mv = .slice p m m ∧ iv = .int .i64 i2 ∧ (∀ j, j < i2 → hexd (A.getD j 0) = true) ∧ RN wr p m (hexF 0 (A.take i2)) ∧ Below w1.heap.size w1 wr)
        case atStart => exact ⟨0, pm, mm, by omega, rfl, rfl, fun j hj => absurd hj (Nat.not_lt_zero _), HRN.out, HB4.out⟩
        case round =>
          obtain ⟨i2, p, m, hig, rfl, rfl, hkn, hr2, hb2⟩ := hrel
          have HK := hm9 hkn
          have HR2 := hm9 hr2
          have HB2 := hm9 hb2
          clear hkn hr2 hb2
          cases gk with
          | zero =>
            obtain rfl : i2 = A.length := by omega
            have HAA : Hid (A.all hexd = true) := List.all_eq_true.2 (fun x hx => by obtain ⟨j, hj, rfl⟩ := mem_getD hx; exact HK.out j hj)
            have HY : Hid (docF l = some (hexF 0 A, ev)) := by
              have h1 := doc_yes HF.out HOK.out.symm (by rw [← HDD.out.1, HC.out]; exact HA0.out) (by rw [← HDD.out.1, HC.out]; exact HAA.out)
              show _ = _
              rw [HD.out, h1, ← HDD.out.1, HC.out, ← HPE.out.1, HEV.out]
            have hnl : ¬ (A.length : Int) < (A.length : Int) := by omega
            clear hig
            go_wp2_with fail
            go_ret3
            exact .inr ⟨_, _, _, _, HY.out, rfl, by have h := HR2.out; rw [List.take_length] at h; exact h, HB2.out⟩
          | succ g =>
            have hil : (i2 : Int) < (A.length : Int) := by omega
            have hi0 : (0 : Int) ≤ (i2 : Int) := by omega
            have hiK : i2 < (bs A).size := by omega
            have hgi := bs_get A i2 hiK
            have wi : wrap64 ((i2 : Int) + 1) = ((i2 + 1 : Nat) : Int) := by have := HAL.out; simp only [wrap64]; omega
            have HI2 : Hid (i2 < A.length) := by show _ < _; omega
            obtain ⟨d, hd⟩ : ∃ d, d = A.getD i2 0 := ⟨_, rfl⟩
            rw [← hd] at hgi
            have HDX := hm9 hd
            have hgn : ((((bs A)[i2]'hiK).toNat : Nat) : Int) = (d.toNat : Int) := by rw [hgi]
            clear hd hgi
            go_wp2_with fail
            refine (rdigit_c d _).mono ?_
            rintro en v5 ⟨rfl, rfl⟩
            by_cases hx : hexd d = true
            rotate_left
            · have HN : Hid (docF l = none) := by
                rw [HD.out]
                refine doc_no2 HF.out (.inr ?_)
                rw [← HDD.out.1, HC.out]
                cases ha : A.all hexd with
                | false => rfl
                | true => exact absurd (by rw [HDX.out]; exact List.all_eq_true.1 ha _ (getD_mem HI2.out)) hx
              rw [if_neg hx]
              clear hx
              go_wp2_with fail
              go_ret3
              exact .inl ⟨HN.out, rfl, HB2.out⟩
            · rw [if_pos hx]
              have HX := hm9 hx
              have hv16 := hexv_lt hx
              obtain ⟨u, hu⟩ : ∃ u, u = hexv d := ⟨_, rfl⟩
              rw [← hu] at hv16 ⊢
              have HU : Hid (u = hexv d ∧ u < 16) := ⟨hu, hv16⟩
              have hun : ¬ (u : Int) < 0 := by omega
              have hw32 : IntKind.u32.wrap (u : Int) = (u : Int) := wr32 hv16
              have HT1 : Hid (hexF 0 (A.take i2) * 16 + u = hexF 0 (A.take (i2 + 1)) ∧ hexF 0 (A.take (i2 + 1)) < 2 ^ (4 * (i2 + 1))) := by rw [hu, HDX.out]; exact num_step HI2.out HK.out (by rw [← HDX.out]; exact hx)
              clear hx hu hv16
              go_wp2_with fail
              have hb16 : 16 < B32 := (nub (u := 0)).1
              have hbu : u < B32 := nub.2 HU.out.2
              have hbk : 4 * (i2 + 1) ≤ 100000 := nkb HAL.out HI2.out
              have hbx : hexF 0 (A.take i2) * 16 + u < 2 ^ (4 * (i2 + 1)) := Nat.lt_of_le_of_lt (Nat.le_of_eq HT1.out.1) HT1.out.2
              refine (rn_mulsv HR2.out 16 u hb16 hbu (K := 4 * (i2 + 1)) hbk hbx).mono ?_
              rintro en v6 ⟨p6, m6, rfl, hr6, hb6⟩
              have HR6 := hm9 hr6
              have HB6 := hm9 (Below.on HB2.out hb6)
              clear hr6 hb6 hun hw32 hgn hb16 hbu hbk hbx hem hsA hs hg0 hg1 hle2 hsr hsD
              go_wp2_with fail
              go_roundg g
              case measure => exact Nat.lt_succ_self g
              case rel => exact ⟨i2 + 1, p6, m6, nig hig, rfl, by go_num, njk HK.out (by rw [← HDX.out]; exact HX.out), by rw [← HT1.out.1]; exact HR6.out, HB6.out⟩
theorem rnum_88 {l : List UInt8} {r : List UInt8} (hl : l = 48 :: 88 :: r) (hr : r.length ≤ 8000) {w : World} : Calls Tryz.prog 37 #[.string (bs l)] w fun en w' => NumA l w w' en := by
  have hs : (bs l).size = r.length + 2 := by rw [hl]; exact bs_size _
  have hl2 : ¬ (r.length : Int) + 2 < 2 := by omega
  have hg0 : (((bs l)[0]'(by rw [hs]; exact Nat.succ_pos _)).toNat : Int) = 48 := by subst hl; rfl
  have hg1 : (((bs l)[1]'(by rw [hs]; exact Nat.succ_lt_succ (Nat.succ_pos _))).toNat : Int) = 88 := by subst hl; rfl
  have HL : Hid (r.length ≤ 8000) := hr
  have hx1 : (bs l).extract 2 (bs l).size = bs r := by rw [hl]; exact bs_two _ _ r
  have hd0 : docF l = docR r := by rw [hl]; show (if (48 : UInt8) = 48 ∧ ((88 : UInt8) = 120 ∨ (88 : UInt8) = 88) then docR r else none) = docR r; exact if_pos ⟨rfl, by decide⟩
  have HD := hm9 hd0
  have hx2 : (bs l).extract 2 (r.length + 2) = bs r := by rw [← hs]; exact hx1
  have hle2 : (2 : Int) ≤ (r.length : Int) + 2 := by omega
  have hsr : (bs r).size = r.length := bs_size r
  clear hr hl hd0
  go_enter Tryz.func37, Tryz.ntmps37
  go_wp2_with fail
  refine (rfind_c r (by have := HL.out; omega) 112 80 _).mono ?_
  rintro en w1 ⟨rfl, rfl⟩
  cases hf : findF 112 80 r with
  | none =>
    have HN : Hid (docF l = none) := by rw [HD.out]; show _ = _; unfold docR; rw [hf]
    rw [show fiI 112 80 r = -1 by unfold fiI; rw [hf]]
    clear hf hx1 hx2
    go_wp2_with fail
    go_ret3
    exact .inl ⟨HN.out, rfl, Below.refl _ _⟩
  | some i =>
    have HF := hm9 hf
    have HI : Hid (i < r.length) := (find_some hf).choose_spec.choose_spec.2.2.2
    rw [show fiI 112 80 r = (i : Int) by unfold fiI; rw [hf]]
    have hip : ¬ (i : Int) < 0 := by omega
    have hwi : wrap64 ((i : Int) + 1) = ((i + 1 : Nat) : Int) := by have := HI.out; have := HL.out; simp only [wrap64]; omega
    have hxd : (bs r).extract (i + 1) (bs r).size = bs (r.drop (i + 1)) := bs_drp r (i + 1)
    have hxe : (bs r).extract (i + 1) r.length = bs (r.drop (i + 1)) := by rw [← hsr]; exact hxd
    have hle3 : (i : Int) + 1 ≤ (r.length : Int) := by have := HI.out; omega
    have hle4 : i + 1 ≤ (bs r).size := by have := HI.out; omega
    have h0i : (0 : Int) ≤ (i : Int) + 1 := by omega
    clear hf hx1 hx2
    go_wp2_with fail
    refine (rpower_c (r.drop (i + 1)) (by have := HL.out; rw [List.length_drop]; omega) _).mono ?_
    rintro en w2 ⟨rfl, hb2⟩
    have HB := hm9 hb2
    obtain ⟨ok, hok⟩ : ∃ ok, ok = powB (r.drop (i + 1)) := ⟨_, rfl⟩
    obtain ⟨pe, hpe⟩ : ∃ pe, pe = powI (r.drop (i + 1)) := ⟨_, rfl⟩
    rw [← hok, ← hpe]
    have HOK := hm9 hok
    have HPE : Hid (pe = powI (r.drop (i + 1)) ∧ -1099511627776 ≤ pe ∧ pe ≤ 1099511627776) := ⟨hpe, by rw [hpe]; exact (pow_bd _).1, by rw [hpe]; exact (pow_bd _).2⟩
    obtain ⟨D, hD⟩ : ∃ D, D = r.take i := ⟨_, rfl⟩
    have HDD : Hid (D = r.take i ∧ D.length ≤ 8000) := ⟨hD, by rw [hD, List.length_take]; have := HL.out; omega⟩
    have hxt : (bs r).extract 0 i = bs D := by rw [hD]; exact bs_take r i
    have hile : i ≤ (bs r).size := by have := HI.out; omega
    have hilt : (i : Int) ≤ (r.length : Int) := by have := HI.out; omega
    clear hb2 hok hpe hD hxd hxe hle3 hle4 h0i hwi
    go_wp2_with fail
    refine (rfind_c D (by have := HDD.out; omega) 46 46 _).mono ?_
    rintro en w3 ⟨rfl, rfl⟩
    have hsD : (bs D).size = D.length := bs_size D
    clear hxt hile hilt
    cases hf2 : findF 46 46 D with
    | none =>
      rw [show fiI 46 46 D = -1 by unfold fiI; rw [hf2]]
      obtain ⟨A, hA⟩ : ∃ A, A = D := ⟨_, rfl⟩
      have HC : Hid (cutF D = (A, 0)) := by show _ = _; unfold cutF; rw [hf2, hA]
      have HAL : Hid (A.length ≤ 8000) := by rw [hA]; exact HDD.out.2
      obtain ⟨ev, hev⟩ : ∃ ev, ev = pe := ⟨_, rfl⟩
      have HEV : Hid (ev = pe - 4 * ((0 : Nat) : Int)) := by show _ = _; omega
      rw [← hA] at hsD ⊢
      rw [← hev]
      clear hf2 hev hA
      cases ok with
      | false =>
        have HN : Hid (docF l = none) := by rw [HD.out]; exact doc_no1 HF.out (by rw [← HOK.out])
        go_wp2_with fail
        go_ret3
        exact .inl ⟨HN.out, rfl, HB.out⟩
      | true =>
        by_cases hA0 : A = []
        · have hem : (bs A).toList.isEmpty = true := by rw [hA0]; exact emp0
          have HN : Hid (docF l = none) := by rw [HD.out]; exact doc_no2 HF.out (by rw [← HDD.out.1, HC.out]; exact .inl hA0)
          clear hA0
          go_wp2_with fail
          go_ret3
          exact .inl ⟨HN.out, rfl, HB.out⟩
        have hem : (bs A).toList.isEmpty = false := emp1 hA0
        have HA0 := hm9 hA0
        clear hA0
        go_wp2_with fail
        refine (rn_word 0 (by decide)).mono ?_
        rintro en v4 ⟨pm, mm, rfl, hrn, hb4⟩
        have HRN := hm9 hrn
        have HB4 := hm9 (Below.on HB.out hb4)
        clear hrn hb4
        go_wp2_with fail
        have hsA : (bs A).size = A.length := bs_size A
        go_loopg [10, 11] A.length (fun gk mv iv wr => ∃ (i2 : Nat) (p : Option Addr) (m : Nat), i2 + gk = A.length ∧ mv = .slice p m m ∧ iv = .int .i64 i2 ∧ (∀ j, j < i2 → hexd (A.getD j 0) = true) ∧ RN wr p m (hexF 0 (A.take i2)) ∧ Below w1.heap.size w1 wr)
        case atStart => exact ⟨0, pm, mm, by omega, rfl, rfl, fun j hj => absurd hj (Nat.not_lt_zero _), HRN.out, HB4.out⟩
        case round =>
          obtain ⟨i2, p, m, hig, rfl, rfl, hkn, hr2, hb2⟩ := hrel
          have HK := hm9 hkn
          have HR2 := hm9 hr2
          have HB2 := hm9 hb2
          clear hkn hr2 hb2
          cases gk with
          | zero =>
            obtain rfl : i2 = A.length := by omega
            have HAA : Hid (A.all hexd = true) := List.all_eq_true.2 (fun x hx => by obtain ⟨j, hj, rfl⟩ := mem_getD hx; exact HK.out j hj)
            have HY : Hid (docF l = some (hexF 0 A, ev)) := by
              have h1 := doc_yes HF.out HOK.out.symm (by rw [← HDD.out.1, HC.out]; exact HA0.out) (by rw [← HDD.out.1, HC.out]; exact HAA.out)
              show _ = _
              rw [HD.out, h1, ← HDD.out.1, HC.out, ← HPE.out.1, HEV.out]
            have hnl : ¬ (A.length : Int) < (A.length : Int) := by omega
            clear hig
            go_wp2_with fail
            go_ret3
            exact .inr ⟨_, _, _, _, HY.out, rfl, by have h := HR2.out; rw [List.take_length] at h; exact h, HB2.out⟩
          | succ g =>
            have hil : (i2 : Int) < (A.length : Int) := by omega
            have hi0 : (0 : Int) ≤ (i2 : Int) := by omega
            have hiK : i2 < (bs A).size := by omega
            have hgi := bs_get A i2 hiK
            have wi : wrap64 ((i2 : Int) + 1) = ((i2 + 1 : Nat) : Int) := by have := HAL.out; simp only [wrap64]; omega
            have HI2 : Hid (i2 < A.length) := by show _ < _; omega
            obtain ⟨d, hd⟩ : ∃ d, d = A.getD i2 0 := ⟨_, rfl⟩
            rw [← hd] at hgi
            have HDX := hm9 hd
            have hgn : ((((bs A)[i2]'hiK).toNat : Nat) : Int) = (d.toNat : Int) := by rw [hgi]
            clear hd hgi
            go_wp2_with fail
            refine (rdigit_c d _).mono ?_
            rintro en v5 ⟨rfl, rfl⟩
            by_cases hx : hexd d = true
            rotate_left
            · have HN : Hid (docF l = none) := by
                rw [HD.out]
                refine doc_no2 HF.out (.inr ?_)
                rw [← HDD.out.1, HC.out]
                cases ha : A.all hexd with
                | false => rfl
                | true => exact absurd (by rw [HDX.out]; exact List.all_eq_true.1 ha _ (getD_mem HI2.out)) hx
              rw [if_neg hx]
              clear hx
              go_wp2_with fail
              go_ret3
              exact .inl ⟨HN.out, rfl, HB2.out⟩
            · rw [if_pos hx]
              have HX := hm9 hx
              have hv16 := hexv_lt hx
              obtain ⟨u, hu⟩ : ∃ u, u = hexv d := ⟨_, rfl⟩
              rw [← hu] at hv16 ⊢
              have HU : Hid (u = hexv d ∧ u < 16) := ⟨hu, hv16⟩
              have hun : ¬ (u : Int) < 0 := by omega
              have hw32 : IntKind.u32.wrap (u : Int) = (u : Int) := wr32 hv16
              have HT1 : Hid (hexF 0 (A.take i2) * 16 + u = hexF 0 (A.take (i2 + 1)) ∧ hexF 0 (A.take (i2 + 1)) < 2 ^ (4 * (i2 + 1))) := by rw [hu, HDX.out]; exact num_step HI2.out HK.out (by rw [← HDX.out]; exact hx)
              clear hx hu hv16
              go_wp2_with fail
              have hb16 : 16 < B32 := (nub (u := 0)).1
              have hbu : u < B32 := nub.2 HU.out.2
              have hbk : 4 * (i2 + 1) ≤ 100000 := nkb HAL.out HI2.out
              have hbx : hexF 0 (A.take i2) * 16 + u < 2 ^ (4 * (i2 + 1)) := Nat.lt_of_le_of_lt (Nat.le_of_eq HT1.out.1) HT1.out.2
              refine (rn_mulsv HR2.out 16 u hb16 hbu (K := 4 * (i2 + 1)) hbk hbx).mono ?_
              rintro en v6 ⟨p6, m6, rfl, hr6, hb6⟩
              have HR6 := hm9 hr6
              have HB6 := hm9 (Below.on HB2.out hb6)
              clear hr6 hb6 hun hw32 hgn hb16 hbu hbk hbx hem hsA hs hg0 hg1 hle2 hsr hsD
              go_wp2_with fail
              go_roundg g
              case measure => exact Nat.lt_succ_self g
              case rel => exact ⟨i2 + 1, p6, m6, nig hig, rfl, by go_num, njk HK.out (by rw [← HDX.out]; exact HX.out), by rw [← HT1.out.1]; exact HR6.out, HB6.out⟩
    | some j =>
      rw [show fiI 46 46 D = (j : Int) by unfold fiI; rw [hf2]]
      have HJ : Hid (j < D.length) := (find_some hf2).choose_spec.choose_spec.2.2.2
      obtain ⟨A, hA⟩ : ∃ A, A = D.take j ++ D.drop (j + 1) := ⟨_, rfl⟩
      obtain ⟨be, hbe⟩ : ∃ be, be = D.length - j - 1 := ⟨_, rfl⟩
      have HC : Hid (cutF D = (A, be)) := by show _ = _; unfold cutF; rw [hf2, hA, hbe]
      have HAL : Hid (A.length ≤ 8000) := by rw [hA]; exact cut_len HDD.out.2 HJ.out
      obtain ⟨ev, hev⟩ : ∃ ev, ev = pe - 4 * ((be : Nat) : Int) := ⟨_, rfl⟩
      have HEV := hm9 hev
      obtain ⟨k1, hk1⟩ : ∃ k1, k1 = D.length - j := ⟨_, rfl⟩
      have hwa : wrap64 ((D.length : Int) - (j : Int)) = (k1 : Int) := wA hk1 HJ.out HDD.out.2
      have hwb : wrap64 ((k1 : Int) - 1) = (be : Int) := wB hk1 hbe HJ.out HDD.out.2
      have hwc : wrap64 (4 * (be : Int)) = 4 * (be : Int) := wC hbe HDD.out.2
      have hwd : wrap64 (pe - 4 * (be : Int)) = ev := wD hbe HDD.out.2 HPE.out.2.1 HPE.out.2.2 hev
      have hwj : wrap64 ((j : Int) + 1) = ((j + 1 : Nat) : Int) := wE HJ.out HDD.out.2
      have hwk : IntKind.i64.wrap ((j : Int) + 1) = (j : Int) + 1 := wK HJ.out HDD.out.2
      have htn : ((j : Int) + 1).toNat = j + 1 := by omega
      have hxt2 : (bs D).extract 0 j = bs (D.take j) := bs_take D j
      have hxd2 : (bs D).extract (j + 1) (bs D).size = bs (D.drop (j + 1)) := bs_drp D (j + 1)
      have hxe2 : (bs D).extract (j + 1) D.length = bs (D.drop (j + 1)) := by rw [← hsD]; exact hxd2
      have hj1 : (j : Int) ≤ (D.length : Int) := wF HJ.out
      have hj2 : (j : Int) + 1 ≤ (D.length : Int) := wG HJ.out
      have hj3 : (0 : Int) ≤ (j : Int) := Int.natCast_nonneg j
      have hj4 : ¬ (j : Int) < 0 := Int.not_lt.2 hj3
      have hj5 : (0 : Int) ≤ (j : Int) + 1 := Int.le_trans hj3 (Int.le_add_one (Int.le_refl _))
      have hca : ∀ W, (Op.stringOp .add (bs (D.take j)) (bs (D.drop (j + 1)))).run Tryz.prog W = .ok (.string (bs A)) W := fun W => by rw [hA]; exact cat_run _ _ W (cut_len2 HDD.out.2 HJ.out)
      have hba : ¬ ((bs (D.take j)).size + (bs (D.drop (j + 1))).size > 9223372036854775807) := by rw [bs_size, bs_size]; exact cut_len3 HDD.out.2 HJ.out
      clear hf2 hev hA hbe hk1
      go_wp2_with fail
      have hbw := HB.out
      obtain ⟨V, hV⟩ : ∃ W1, W1 = w3.drew := ⟨_, rfl⟩
      have hbd : Below w3.heap.size w3 V := by rw [hV]; exact bDrew1 (Below.refl _ _)
      replace hbw := Below.on hbw hbd
      clear hbd
      have HJ : Hid ((fun W' : World => True) V) := trivial
      refine wp_region_J (fun W' => True) (by kernel_rfl) ?_
      rw [← hV]
      clear hV
      refine wpJ_tk 0 (v := ?v10x0) rfl ?hy10x0 HJ.out ?_
      case hy10x0 => (intro W' hJ; have j0 := hJ; go_simp; first | done | with_reducible rfl)
      refine wpJ_tk 1 (v := ?v11x1) rfl ?hy11x1 HJ.out ?_
      case hy11x1 => (intro W' hJ; have j0 := hJ; go_simp; first | done | with_reducible rfl)
      refine wpJ_tk 2 (v := ?v12x2) rfl ?hy12x2 HJ.out ?_
      case hy12x2 => (intro W' hJ; have j0 := hJ; go_simp; first | done | with_reducible rfl)
      refine wpJ_tk 3 (v := ?v13x3) rfl ?hy13x3 HJ.out ?_
      case hy13x3 => (intro W' hJ; have j0 := hJ; go_simp; first | done | with_reducible rfl)
      go_simp
      refine wpJ_tk 4 (v := ?v14x4) rfl ?hy14x4 HJ.out ?_
      case hy14x4 => (intro W' hJ; have j0 := hJ; go_simp; first | done | with_reducible rfl)
      refine wpJ_tk 5 (v := ?v15x5) rfl ?hy15x5 HJ.out ?_
      case hy15x5 => (intro W' hJ; have j0 := hJ; go_simp; first | done | with_reducible rfl)
      refine wpJ_tk 6 (v := ?v16x6) rfl ?hy16x6 HJ.out ?_
      case hy16x6 => (intro W' hJ; have j0 := hJ; go_simp; first | done | with_reducible rfl)
      refine wpJ_tk 7 (v := ?v17x7) rfl ?hy17x7 HJ.out ?_
      case hy17x7 => (intro W' hJ; have j0 := hJ; go_simp; first | done | with_reducible rfl)
      go_simp
      refine wpJ_tk 8 (v := ?v18x8) rfl ?hy18x8 HJ.out ?_
      case hy18x8 => (intro W' hJ; have j0 := hJ; go_simp; first | done | with_reducible rfl)
      refine wpJ_done (by kernel_rfl) ?_ _
      clear HJ
      have HBV := hm9 hbw
      clear HB
      have HB := HBV
      clear HBV hbw hwj hwk htn hxt2 hxd2 hxe2 hj1 hj2 hj5 hca hba
      cases ok with
      | false =>
        have HN : Hid (docF l = none) := by rw [HD.out]; exact doc_no1 HF.out (by rw [← HOK.out])
        go_wp2_with fail
        go_ret3
        exact .inl ⟨HN.out, rfl, HB.out⟩
      | true =>
        by_cases hA0 : A = []
        · have hem : (bs A).toList.isEmpty = true := by rw [hA0]; exact emp0
          have HN : Hid (docF l = none) := by rw [HD.out]; exact doc_no2 HF.out (by rw [← HDD.out.1, HC.out]; exact .inl hA0)
          clear hA0
          go_wp2_with fail
          go_ret3
          exact .inl ⟨HN.out, rfl, HB.out⟩
        have hem : (bs A).toList.isEmpty = false := emp1 hA0
        have HA0 := hm9 hA0
        clear hA0
        go_wp2_with fail
        refine (rn_word 0 (by decide)).mono ?_
        rintro en v4 ⟨pm, mm, rfl, hrn, hb4⟩
        have HRN := hm9 hrn
        have HB4 := hm9 (Below.on HB.out hb4)
        clear hrn hb4
        go_wp2_with fail
        have hsA : (bs A).size = A.length := bs_size A
        go_loopg [10, 11] A.length (fun gk mv iv wr => ∃ (i2 : Nat) (p : Option Addr) (m : Nat), i2 + gk = A.length ∧ mv = .slice p m m ∧ iv = .int .i64 i2 ∧ (∀ j, j < i2 → hexd (A.getD j 0) = true) ∧ RN wr p m (hexF 0 (A.take i2)) ∧ Below w1.heap.size w1 wr)
        case atStart => exact ⟨0, pm, mm, by omega, rfl, rfl, fun j hj => absurd hj (Nat.not_lt_zero _), HRN.out, HB4.out⟩
        case round =>
          obtain ⟨i2, p, m, hig, rfl, rfl, hkn, hr2, hb2⟩ := hrel
          have HK := hm9 hkn
          have HR2 := hm9 hr2
          have HB2 := hm9 hb2
          clear hkn hr2 hb2
          cases gk with
          | zero =>
            obtain rfl : i2 = A.length := by omega
            have HAA : Hid (A.all hexd = true) := List.all_eq_true.2 (fun x hx => by obtain ⟨j, hj, rfl⟩ := mem_getD hx; exact HK.out j hj)
            have HY : Hid (docF l = some (hexF 0 A, ev)) := by
              have h1 := doc_yes HF.out HOK.out.symm (by rw [← HDD.out.1, HC.out]; exact HA0.out) (by rw [← HDD.out.1, HC.out]; exact HAA.out)
              show _ = _
              rw [HD.out, h1, ← HDD.out.1, HC.out, ← HPE.out.1, HEV.out]
            have hnl : ¬ (A.length : Int) < (A.length : Int) := by omega
            clear hig
            go_wp2_with fail
            go_ret3
            exact .inr ⟨_, _, _, _, HY.out, rfl, by have h := HR2.out; rw [List.take_length] at h; exact h, HB2.out⟩
          | succ g =>
            have hil : (i2 : Int) < (A.length : Int) := by omega
            have hi0 : (0 : Int) ≤ (i2 : Int) := by omega
            have hiK : i2 < (bs A).size := by omega
            have hgi := bs_get A i2 hiK
            have wi : wrap64 ((i2 : Int) + 1) = ((i2 + 1 : Nat) : Int) := by have := HAL.out; simp only [wrap64]; omega
            have HI2 : Hid (i2 < A.length) := by show _ < _; omega
            obtain ⟨d, hd⟩ : ∃ d, d = A.getD i2 0 := ⟨_, rfl⟩
            rw [← hd] at hgi
            have HDX := hm9 hd
            have hgn : ((((bs A)[i2]'hiK).toNat : Nat) : Int) = (d.toNat : Int) := by rw [hgi]
            clear hd hgi
            go_wp2_with fail
            refine (rdigit_c d _).mono ?_
            rintro en v5 ⟨rfl, rfl⟩
            by_cases hx : hexd d = true
            rotate_left
            · have HN : Hid (docF l = none) := by
                rw [HD.out]
                refine doc_no2 HF.out (.inr ?_)
                rw [← HDD.out.1, HC.out]
                cases ha : A.all hexd with
                | false => rfl
                | true => exact absurd (by rw [HDX.out]; exact List.all_eq_true.1 ha _ (getD_mem HI2.out)) hx
              rw [if_neg hx]
              clear hx
              go_wp2_with fail
              go_ret3
              exact .inl ⟨HN.out, rfl, HB2.out⟩
            · rw [if_pos hx]
              have HX := hm9 hx
              have hv16 := hexv_lt hx
              obtain ⟨u, hu⟩ : ∃ u, u = hexv d := ⟨_, rfl⟩
              rw [← hu] at hv16 ⊢
              have HU : Hid (u = hexv d ∧ u < 16) := ⟨hu, hv16⟩
              have hun : ¬ (u : Int) < 0 := by omega
              have hw32 : IntKind.u32.wrap (u : Int) = (u : Int) := wr32 hv16
              have HT1 : Hid (hexF 0 (A.take i2) * 16 + u = hexF 0 (A.take (i2 + 1)) ∧ hexF 0 (A.take (i2 + 1)) < 2 ^ (4 * (i2 + 1))) := by rw [hu, HDX.out]; exact num_step HI2.out HK.out (by rw [← HDX.out]; exact hx)
              clear hx hu hv16
              go_wp2_with fail
              have hb16 : 16 < B32 := (nub (u := 0)).1
              have hbu : u < B32 := nub.2 HU.out.2
              have hbk : 4 * (i2 + 1) ≤ 100000 := nkb HAL.out HI2.out
              have hbx : hexF 0 (A.take i2) * 16 + u < 2 ^ (4 * (i2 + 1)) := Nat.lt_of_le_of_lt (Nat.le_of_eq HT1.out.1) HT1.out.2
              refine (rn_mulsv HR2.out 16 u hb16 hbu (K := 4 * (i2 + 1)) hbk hbx).mono ?_
              rintro en v6 ⟨p6, m6, rfl, hr6, hb6⟩
              have HR6 := hm9 hr6
              have HB6 := hm9 (Below.on HB2.out hb6)
              clear hr6 hb6 hun hw32 hgn hb16 hbu hbk hbx hem hsA hs hg0 hg1 hle2 hsr hsD
              go_wp2_with fail
              go_roundg g
              case measure => exact Nat.lt_succ_self g
              case rel => exact ⟨i2 + 1, p6, m6, nig hig, rfl, by go_num, njk HK.out (by rw [← HDX.out]; exact HX.out), by rw [← HT1.out.1]; exact HR6.out, HB6.out⟩
theorem rnumber_c (l : List UInt8) (hl : l.length ≤ 8000) (w : World) : Calls Tryz.prog 37 #[.string (bs l)] w fun en w' => NumA l w w' en := by
  by_cases h2 : l.length < 2
  · exact rnum_s h2
  cases l with
  | nil => exact absurd (by decide) h2
  | cons c l =>
    cases l with
    | nil => exact absurd (Nat.lt_succ_self 1) h2
    | cons x r =>
      have hr : r.length ≤ 8000 := by rw [List.length_cons, List.length_cons] at hl; omega
      by_cases hc : c = 48
      · subst hc
        by_cases h120 : x = 120
        · subst h120; exact rnum_120 rfl hr
        by_cases h88 : x = 88
        · subst h88; exact rnum_88 rfl hr
        exact rnum_x rfl h120 h88
      · exact rnum_c rfl hc
def JnR (H I : Nat) (l : Int) (man : Nat) (ex : Int) (s : Nat) : Prop := s < I ∧ man * 2 ^ (ex - l).toNat = vs H s * 2 ^ (l - ex).toNat
theorem JnR.uniq {H I : Nat} {l : Int} {man : Nat} {ex : Int} {s t : Nat} (hH : 0 < H) (h : JnR H I l man ex s) (k : JnR H I l man ex t) : s = t := by
  have h1 : vs H s * 2 ^ (l - ex).toNat = vs H t * 2 ^ (l - ex).toNat := h.2.symm.trans k.2
  have h2 : vs H s = vs H t := Nat.eq_of_mul_eq_mul_right (Nat.two_pow_pos _) h1
  rcases Nat.lt_trichotomy s t with h3 | h3 | h3
  · have := vs_mono hH h3; omega
  · exact h3
  · have := vs_mono hH h3; omega
def JA (S H I : Nat) (l : Int) (neg : Bool) (man : Nat) (ex : Int) (r : Nat) (er : Int) : Prop :=
  (er = 0 ∧ ∃ s, JnR H I l man ex s ∧ r = if neg then S + s else s) ∨ (er = 5 ∧ r = 0 ∧ ∀ s, ¬ JnR H I l man ex s)
theorem JA.uniq {S H I : Nat} {l : Int} {neg : Bool} {man : Nat} {ex : Int} {r r' : Nat} {er er' : Int} (hH : 0 < H) (h : JA S H I l neg man ex r er) (k : JA S H I l neg man ex r' er') : r = r' ∧ er = er' := by
  rcases h with ⟨h1, s, h2, h3⟩ | ⟨h1, h2, h3⟩ <;> rcases k with ⟨k1, t, k2, k3⟩ | ⟨k1, k2, k3⟩
  · obtain rfl := h2.uniq hH k2
    exact ⟨h3.trans k3.symm, h1.trans k1.symm⟩
  · exact absurd h2 (k3 s)
  · exact absurd k2 (h3 t)
  · exact ⟨h2.trans k2.symm, h1.trans k1.symm⟩
theorem vs_of {H q mn : Nat} (hp : 0 < H) (h2 : mn < 2 * H) (hq : q = 0 ∨ H ≤ mn) : vs H (q * H + mn) = mn * 2 ^ q := by
  have h1 : (q * H + mn) / H - 1 = q := by
    rw [Nat.mul_comm, Nat.mul_add_div hp]
    have : mn / H < 2 := by rw [Nat.div_lt_iff_lt_mul hp]; exact h2
    rcases hq with rfl | h3
    · omega
    · have : 1 ≤ mn / H := (Nat.le_div_iff_mul_le hp).2 (by omega)
      omega
  unfold vs
  rw [h1, Nat.add_sub_cancel_left]
theorem jw {a : Int} (h1 : -100000 ≤ a) (h2 : a ≤ 100000) : IntKind.i64.wrap a = a ∧ wrap64 a = a := ⟨by simp [IntKind.wrap, IntKind.signed, IntKind.bits]; omega, by simp only [wrap64]; omega⟩
theorem iv_sums {s t : Bool} {x y : Int} (h1 : s = decide (x < 0)) (h2 : t = decide (y < 0)) (h3 : s = t) : iv s (x.natAbs + y.natAbs) = x + y := by
  rw [h3] at h1 ⊢
  cases t
  · have a := of_decide_eq_false h1.symm; have b := of_decide_eq_false h2.symm; rw [iv_f]; omega
  · have a := of_decide_eq_true h1.symm; have b := of_decide_eq_true h2.symm; rw [iv_t]; omega
theorem iv_sumg {s t : Bool} {x y : Int} (h1 : s = decide (x < 0)) (h2 : t = decide (y < 0)) (h3 : s ≠ t) (h4 : y.natAbs ≤ x.natAbs) : iv s (x.natAbs - y.natAbs) = x + y := by
  cases s <;> cases t
  · exact absurd rfl h3
  · have a := of_decide_eq_false h1.symm; have b := of_decide_eq_true h2.symm; rw [iv_f]; omega
  · have a := of_decide_eq_true h1.symm; have b := of_decide_eq_false h2.symm; rw [iv_t]; omega
  · exact absurd rfl h3
theorem iv_suml {s t : Bool} {x y : Int} (h1 : s = decide (x < 0)) (h2 : t = decide (y < 0)) (h3 : s ≠ t) (h4 : x.natAbs < y.natAbs) : iv t (y.natAbs - x.natAbs) = x + y := by
  cases s <;> cases t
  · exact absurd rfl h3
  · have a := of_decide_eq_false h1.symm; have b := of_decide_eq_true h2.symm; rw [iv_t]; omega
  · have a := of_decide_eq_true h1.symm; have b := of_decide_eq_false h2.symm; rw [iv_f]; omega
  · exact absurd rfl h3
theorem sum_len32 {xs ys zs : List Nat} {a b m n : Nat} (hx : Nf B32 xs a) (hy : Nf B32 ys b) (lx : xs.length = m) (ly : ys.length = n) (hz : Nf B32 zs (a + b)) : zs.length ≤ max m n + 1 := by
  refine (hz.len_le B32_one).2 ?_
  have h1 := (hx.len_le B32_one (k := max m n)).1 (by omega)
  have h2 := (hy.len_le B32_one (k := max m n)).1 (by omega)
  rw [Nat.pow_succ]
  have : B32 ^ (max m n) * 2 ≤ B32 ^ (max m n) * B32 := Nat.mul_le_mul_left _ (by rw [B32_eq]; omega)
  omega
theorem radd04_s {p q : Option Addr} {m n : Nat} {w : World} {x y : Int} (s t : Bool) (h : ZR w s p m x) (k : ZR w t q n y) (hm : m ≤ 50000) (hn : n ≤ 50000) (hst : s = t) :
    Calls Tryz.prog 74 #[.agg #[.bool s, .slice p m m], .agg #[.bool t, .slice q n n]] w fun e w' => ∃ v, e = .returned v ∧ GotR w.heap.size w' v (x + y) (max m n + 1) ∧ Below w.heap.size w w' := by
  have HA : Hid (ZR w s p m x) := h
  have HB : Hid (ZR w t q n y) := k
  have HM : Hid (m ≤ 50000 ∧ n ≤ 50000) := ⟨hm, hn⟩
  clear h k hm hn
  have hse : (s == t) = true := by simpa using hst
  have HST : Hid (s = t) := hst
  clear hst
  go_enter Tryz.func74, Tryz.ntmps74
  go_wp2_with fail
  obtain ⟨W0, hW0⟩ : ∃ W0, W0 = (((w.alloc (.cells #[.bool s, .slice p m m] 122)).alloc (.cells #[.bool t, .slice q n n] 122)).alloc (.cells #[.bool false, .slice none 0 0] 122)) := ⟨_, rfl⟩
  have Xa : Hid (Box W0 (w.heap.size) (.bool s) (.slice p m m)) := by rw [hW0]; exact ⟨by go_simp, by go_simp, by go_simp, by go_simp⟩
  have Xb : Hid (Box W0 (w.heap.size + 1) (.bool t) (.slice q n n)) := by rw [hW0]; exact ⟨by go_simp, by go_simp, by go_simp, by go_simp⟩
  have Xr : Hid (Box W0 (w.heap.size + 1 + 1) (.bool false) (.slice none 0 0)) := by rw [hW0]; exact ⟨by go_simp, by go_simp, by go_simp, by go_simp⟩
  have hb0 : Below w.heap.size w W0 := by rw [hW0]; exact below3 w _ _ _
  rw [← hW0]
  clear hW0
  have hbw : Below w.heap.size w w := Below.refl _ _
  obtain ⟨gr, hgr⟩ : ∃ g, g = w.heap.size + 1 + 1 := ⟨_, rfl⟩
  have HGr : Hid (w.heap.size ≤ gr) := by rw [hgr]; show _ ≤ _; omega
  rw [← hgr] at Xr
  try rw [← hgr]
  obtain ⟨gb, hgb⟩ : ∃ g, g = w.heap.size + 1 := ⟨_, rfl⟩
  have HGb : Hid (w.heap.size ≤ gb) := by rw [hgb]; show _ ≤ _; omega
  rw [← hgb] at Xb
  try rw [← hgb]
  obtain ⟨ga, hga⟩ : ∃ g, g = w.heap.size := ⟨_, rfl⟩
  have HGa : Hid (w.heap.size ≤ ga) := by rw [hga]; show _ ≤ _; omega
  rw [← hga] at Xa
  try rw [← hga]
  have HGD : Hid (ga ≠ gb ∧ ga ≠ gr ∧ gb ≠ ga ∧ gb ≠ gr ∧ gr ≠ ga ∧ gr ≠ gb) := by rw [hga, hgb, hgr]; exact ⟨by omega, by omega, by omega, by omega, by omega, by omega⟩
  clear hga hgb hgr
  replace HA : Hid _ := HA.out.below hb0
  replace HB : Hid _ := HB.out.below hb0
  replace hbw := Below.on hbw hb0
  clear hb0
  obtain ⟨xs, hAx, hNx⟩ := HA.out.ex
  obtain ⟨ys, hAy, hNy⟩ := HB.out.ex
  have HNX : Hid (Nf B32 xs x.natAbs ∧ Nf B32 ys y.natAbs) := ⟨hNx, hNy⟩
  clear hNx hNy
  have AX : Hid (At32 W0 p m m xs) := hAx
  have AY : Hid (At32 W0 q n n ys) := hAy
  clear hAx hAy
  have HZV : Hid (iv s (x.natAbs + y.natAbs) = x + y) := by have h1 := HA.out.sg; have h2 := HB.out.sg; have h3 := HST.out; exact iv_sums h1 h2 h3
  obtain ⟨W1, hW1⟩ : ∃ W1, W1 = W0.drew := ⟨_, rfl⟩
  have hbd : Below W0.heap.size W0 W1 := by rw [hW1]; exact bDrew1 (Below.refl _ _)
  replace Xa : Hid _ := Xa.out.below hbd
  replace Xb : Hid _ := Xb.out.below hbd
  replace Xr : Hid _ := Xr.out.below hbd
  replace HA : Hid _ := HA.out.below hbd
  replace HB : Hid _ := HB.out.below hbd
  replace AX : Hid _ := AX.out.below hbd
  replace AY : Hid _ := AY.out.below hbd
  replace hbw := Below.on hbw hbd
  clear hbd
  have HJ : Hid ((fun W' : World => W'.cell? ⟨ga, 0, none⟩ = some (.bool s) ∧ W'.cell? ⟨ga, 1, none⟩ = some (.slice p m m) ∧ W'.cell? ⟨gb, 0, none⟩ = some (.bool t) ∧ W'.cell? ⟨gb, 1, none⟩ = some (.slice q n n)) W1) := ⟨Xa.out.c0, Xa.out.c1, Xb.out.c0, Xb.out.c1⟩
  refine wp_region_J (fun W' => W'.cell? ⟨ga, 0, none⟩ = some (.bool s) ∧ W'.cell? ⟨ga, 1, none⟩ = some (.slice p m m) ∧ W'.cell? ⟨gb, 0, none⟩ = some (.bool t) ∧ W'.cell? ⟨gb, 1, none⟩ = some (.slice q n n)) (by kernel_rfl) ?_
  rw [← hW1]
  clear hW1
  refine wpJ_tq 0 rfl HJ.out ?_
  refine wpJ_tq 1 rfl HJ.out ?_
  refine wpJ_tq 2 rfl HJ.out ?_
  refine wpJ_tq 3 rfl HJ.out ?_
  refine wpJ_tq 4 rfl HJ.out ?_
  refine wpJ_tq 5 rfl HJ.out ?_
  refine wpJ_on 6 rfl fun KJ hK => ?_
  go_simp
  refine (radd_any AX.out AY.out HNX.out.1 HNX.out.2 (by have := HM.out; omega) (by have := HM.out; omega)).mono ?_
  rintro e w2 ⟨p2, m2, z2, rfl, hA2, hN2, hb2⟩
  have hl2 : m2 ≤ max m n + 1 := by rw [← hA2.len]; exact sum_len32 HNX.out.1 HNX.out.2 AX.out.len AY.out.len hN2
  replace Xa : Hid _ := Xa.out.below hb2
  replace Xb : Hid _ := Xb.out.below hb2
  replace Xr : Hid _ := Xr.out.below hb2
  replace HA : Hid _ := HA.out.below hb2
  replace HB : Hid _ := HB.out.below hb2
  replace AX : Hid _ := AX.out.below hb2
  replace AY : Hid _ := AY.out.below hb2
  replace hbw := Below.on hbw hb2
  clear hb2
  have A2 : Hid (At32 w2 p2 m2 m2 z2) := hA2
  have N2 : Hid (Nf B32 z2 (x.natAbs + y.natAbs)) := hN2
  have HLL : Hid (m2 ≤ max m n + 1) := hl2
  have HRL : Hid (gr < w2.heap.size) := Xr.out.lt
  have HBS : Hid (w.heap.size ≤ w2.heap.size) := hbw.size
  clear hA2 hN2 hl2
  refine hK _ _ ⟨Xa.out.c0, Xa.out.c1, Xb.out.c0, Xb.out.c1⟩ ?_
  clear hK
  refine wpJ_on 7 rfl fun KJ hK => ?_
  go_simp
  refine (rmk_any s A2.out N2.out (by have := HLL.out; have := HM.out; omega)).mono ?_
  rintro e w3 ⟨v, rfl, hv, hb3⟩
  rw [HZV.out] at hv
  replace Xa : Hid _ := Xa.out.below hb3
  replace Xb : Hid _ := Xb.out.below hb3
  replace Xr : Hid _ := Xr.out.below hb3
  replace HA : Hid _ := HA.out.below hb3
  replace HB : Hid _ := HB.out.below hb3
  replace AX : Hid _ := AX.out.below hb3
  replace AY : Hid _ := AY.out.below hb3
  replace A2 : Hid _ := A2.out.below hb3
  replace hbw := Below.on hbw hb3
  clear hb3
  obtain ⟨s9, g9, m9, rfl, hg9, hz9, hl9⟩ := hv
  have ZA : Hid (ZR w3 s9 (some ⟨g9, 0, none⟩) m9 (x + y)) := hz9
  have HL : Hid (m9 ≤ max m n + 1) := by have := hl9; have := HLL.out; show m9 ≤ _; omega
  have HGE : Hid (gr < g9) := Nat.lt_of_lt_of_le HRL.out hg9
  have HGB : Hid (w.heap.size ≤ g9) := Nat.le_trans HBS.out hg9
  clear hg9 hz9 hl9
  refine hK _ _ ⟨Xa.out.c0, Xa.out.c1, Xb.out.c0, Xb.out.c1⟩ ?_
  clear hK
  obtain ⟨cr0, cr1, fr0, fr1⟩ := Xr.out
  have hner := Xr.out.lt
  obtain ⟨ca0, ca1, fa0, fa1⟩ := Xa.out
  have hnea := Xa.out.lt
  obtain ⟨cb0, cb1, fb0, fb1⟩ := Xb.out
  have hneb := Xb.out.lt
  obtain ⟨hgd0, hgd1, hgd2, hgd3, hgd4, hgd5⟩ := HGD.out
  refine wpJ_on 8 rfl fun KJ hK => ?_
  go_simp
  have HJ2 : Hid ((fun W' : World => W'.cell? ⟨ga, 0, none⟩ = some (.bool s) ∧ W'.cell? ⟨ga, 1, none⟩ = some (.slice p m m) ∧ W'.cell? ⟨gb, 0, none⟩ = some (.bool t) ∧ W'.cell? ⟨gb, 1, none⟩ = some (.slice q n n)) ((w3.setCell ⟨gr, 0, none⟩ (.bool s9)).setCell ⟨gr, 1, none⟩ (.slice (some ⟨g9, 0, none⟩) m9 m9))) := ⟨by go_simp, by go_simp, by go_simp, by go_simp⟩
  refine hK _ _ HJ2.out ?_
  clear hK HJ
  have HJ := HJ2
  clear HJ2
  refine wpJ_done (by kernel_rfl) ?_ _
  clear HJ
  go_wp2_with fail
  refine bodyPost_ret (v := .agg #[.bool s9, .slice (some ⟨g9, 0, none⟩) m9 m9]) (by rw [results_cell1 rfl]; go_simp) rfl ⟨_, rfl, ⟨s9, g9, m9, rfl, HGB.out, ?_, HL.out⟩, ?_⟩
  · have := HGE.out
    exact (ZA.out.set _ _ _ (by omega)).set _ _ _ (by omega)
  · exact bSet (bSet hbw _ _ _ HGr.out) _ _ _ HGr.out
theorem radd04_g {p q : Option Addr} {m n : Nat} {w : World} {x y : Int} (s t : Bool) (h : ZR w s p m x) (k : ZR w t q n y) (hm : m ≤ 50000) (hn : n ≤ 50000) (hst : s ≠ t) (hcm : y.natAbs ≤ x.natAbs) :
    Calls Tryz.prog 74 #[.agg #[.bool s, .slice p m m], .agg #[.bool t, .slice q n n]] w fun e w' => ∃ v, e = .returned v ∧ GotR w.heap.size w' v (x + y) (max m n + 1) ∧ Below w.heap.size w w' := by
  have HA : Hid (ZR w s p m x) := h
  have HB : Hid (ZR w t q n y) := k
  have HM : Hid (m ≤ 50000 ∧ n ≤ 50000) := ⟨hm, hn⟩
  clear h k hm hn
  have hse : (s == t) = false := by simpa using hst
  have HST : Hid (s ≠ t) := hst
  have HCM : Hid (y.natAbs ≤ x.natAbs) := hcm
  clear hst hcm
  go_enter Tryz.func74, Tryz.ntmps74
  go_wp2_with fail
  obtain ⟨W0, hW0⟩ : ∃ W0, W0 = (((w.alloc (.cells #[.bool s, .slice p m m] 122)).alloc (.cells #[.bool t, .slice q n n] 122)).alloc (.cells #[.bool false, .slice none 0 0] 122)) := ⟨_, rfl⟩
  have Xa : Hid (Box W0 (w.heap.size) (.bool s) (.slice p m m)) := by rw [hW0]; exact ⟨by go_simp, by go_simp, by go_simp, by go_simp⟩
  have Xb : Hid (Box W0 (w.heap.size + 1) (.bool t) (.slice q n n)) := by rw [hW0]; exact ⟨by go_simp, by go_simp, by go_simp, by go_simp⟩
  have Xr : Hid (Box W0 (w.heap.size + 1 + 1) (.bool false) (.slice none 0 0)) := by rw [hW0]; exact ⟨by go_simp, by go_simp, by go_simp, by go_simp⟩
  have hb0 : Below w.heap.size w W0 := by rw [hW0]; exact below3 w _ _ _
  rw [← hW0]
  clear hW0
  have hbw : Below w.heap.size w w := Below.refl _ _
  obtain ⟨gr, hgr⟩ : ∃ g, g = w.heap.size + 1 + 1 := ⟨_, rfl⟩
  have HGr : Hid (w.heap.size ≤ gr) := by rw [hgr]; show _ ≤ _; omega
  rw [← hgr] at Xr
  try rw [← hgr]
  obtain ⟨gb, hgb⟩ : ∃ g, g = w.heap.size + 1 := ⟨_, rfl⟩
  have HGb : Hid (w.heap.size ≤ gb) := by rw [hgb]; show _ ≤ _; omega
  rw [← hgb] at Xb
  try rw [← hgb]
  obtain ⟨ga, hga⟩ : ∃ g, g = w.heap.size := ⟨_, rfl⟩
  have HGa : Hid (w.heap.size ≤ ga) := by rw [hga]; show _ ≤ _; omega
  rw [← hga] at Xa
  try rw [← hga]
  have HGD : Hid (ga ≠ gb ∧ ga ≠ gr ∧ gb ≠ ga ∧ gb ≠ gr ∧ gr ≠ ga ∧ gr ≠ gb) := by rw [hga, hgb, hgr]; exact ⟨by omega, by omega, by omega, by omega, by omega, by omega⟩
  clear hga hgb hgr
  replace HA : Hid _ := HA.out.below hb0
  replace HB : Hid _ := HB.out.below hb0
  replace hbw := Below.on hbw hb0
  clear hb0
  obtain ⟨xs, hAx, hNx⟩ := HA.out.ex
  obtain ⟨ys, hAy, hNy⟩ := HB.out.ex
  have HNX : Hid (Nf B32 xs x.natAbs ∧ Nf B32 ys y.natAbs) := ⟨hNx, hNy⟩
  clear hNx hNy
  have AX : Hid (At32 W0 p m m xs) := hAx
  have AY : Hid (At32 W0 q n n ys) := hAy
  clear hAx hAy
  have HZV : Hid (iv s (x.natAbs - y.natAbs) = x + y) := by have h1 := HA.out.sg; have h2 := HB.out.sg; have h3 := HST.out; exact iv_sumg h1 h2 h3 HCM.out
  obtain ⟨cm, hcm⟩ : ∃ cm, cm = cmpN x.natAbs y.natAbs := ⟨_, rfl⟩
  have HCQ : Hid (cm = cmpN x.natAbs y.natAbs) := hcm
  have hcc : decide (0 ≤ cm) = true := decide_eq_true (by rw [hcm]; have := HCM.out; unfold cmpN; split <;> (try split) <;> omega)
  clear hcm
  refine (rcmp_any AX.out AY.out HNX.out.1 HNX.out.2).mono ?_
  rintro e w9 ⟨rfl, rd, rfl⟩
  rw [← HCQ.out]
  have hbr := bDrewN (Below.refl W0.heap.size W0) rd
  generalize W0.drewN rd = W9 at *
  replace Xa : Hid _ := Xa.out.below hbr
  replace Xb : Hid _ := Xb.out.below hbr
  replace Xr : Hid _ := Xr.out.below hbr
  replace HA : Hid _ := HA.out.below hbr
  replace HB : Hid _ := HB.out.below hbr
  replace AX : Hid _ := AX.out.below hbr
  replace AY : Hid _ := AY.out.below hbr
  replace hbw := Below.on hbw hbr
  clear hbr
  obtain ⟨ca0, ca1, fa0, fa1⟩ := Xa.out
  have hnea := Xa.out.lt
  obtain ⟨cb0, cb1, fb0, fb1⟩ := Xb.out
  have hneb := Xb.out.lt
  go_wp2_with fail
  clear ca0 ca1 fa0 fa1 hnea
  clear cb0 cb1 fb0 fb1 hneb
  clear hcc
  obtain ⟨W1, hW1⟩ : ∃ W1, W1 = W9.drew := ⟨_, rfl⟩
  have hbd : Below W9.heap.size W9 W1 := by rw [hW1]; exact bDrew1 (Below.refl _ _)
  replace Xa : Hid _ := Xa.out.below hbd
  replace Xb : Hid _ := Xb.out.below hbd
  replace Xr : Hid _ := Xr.out.below hbd
  replace HA : Hid _ := HA.out.below hbd
  replace HB : Hid _ := HB.out.below hbd
  replace AX : Hid _ := AX.out.below hbd
  replace AY : Hid _ := AY.out.below hbd
  replace hbw := Below.on hbw hbd
  clear hbd
  have HJ : Hid ((fun W' : World => W'.cell? ⟨ga, 0, none⟩ = some (.bool s) ∧ W'.cell? ⟨ga, 1, none⟩ = some (.slice p m m) ∧ W'.cell? ⟨gb, 0, none⟩ = some (.bool t) ∧ W'.cell? ⟨gb, 1, none⟩ = some (.slice q n n)) W1) := ⟨Xa.out.c0, Xa.out.c1, Xb.out.c0, Xb.out.c1⟩
  refine wp_region_J (fun W' => W'.cell? ⟨ga, 0, none⟩ = some (.bool s) ∧ W'.cell? ⟨ga, 1, none⟩ = some (.slice p m m) ∧ W'.cell? ⟨gb, 0, none⟩ = some (.bool t) ∧ W'.cell? ⟨gb, 1, none⟩ = some (.slice q n n)) (by kernel_rfl) ?_
  rw [← hW1]
  clear hW1
  refine wpJ_tq 0 rfl HJ.out ?_
  refine wpJ_tq 1 rfl HJ.out ?_
  refine wpJ_tq 2 rfl HJ.out ?_
  refine wpJ_tq 3 rfl HJ.out ?_
  refine wpJ_tq 4 rfl HJ.out ?_
  refine wpJ_tq 5 rfl HJ.out ?_
  refine wpJ_on 6 rfl fun KJ hK => ?_
  go_simp
  refine (rsub_any AX.out AY.out HNX.out.1 HNX.out.2 (by have := HM.out; omega) HCM.out).mono ?_
  rintro e w2 ⟨p2, m2, z2, rfl, hA2, hN2, hl2q, hb2⟩
  have hl2 : m2 ≤ max m n + 1 := by omega
  clear hl2q
  replace Xa : Hid _ := Xa.out.below hb2
  replace Xb : Hid _ := Xb.out.below hb2
  replace Xr : Hid _ := Xr.out.below hb2
  replace HA : Hid _ := HA.out.below hb2
  replace HB : Hid _ := HB.out.below hb2
  replace AX : Hid _ := AX.out.below hb2
  replace AY : Hid _ := AY.out.below hb2
  replace hbw := Below.on hbw hb2
  clear hb2
  have A2 : Hid (At32 w2 p2 m2 m2 z2) := hA2
  have N2 : Hid (Nf B32 z2 (x.natAbs - y.natAbs)) := hN2
  have HLL : Hid (m2 ≤ max m n + 1) := hl2
  have HRL : Hid (gr < w2.heap.size) := Xr.out.lt
  have HBS : Hid (w.heap.size ≤ w2.heap.size) := hbw.size
  clear hA2 hN2 hl2
  refine hK _ _ ⟨Xa.out.c0, Xa.out.c1, Xb.out.c0, Xb.out.c1⟩ ?_
  clear hK
  refine wpJ_on 7 rfl fun KJ hK => ?_
  go_simp
  refine (rmk_any s A2.out N2.out (by have := HLL.out; have := HM.out; omega)).mono ?_
  rintro e w3 ⟨v, rfl, hv, hb3⟩
  rw [HZV.out] at hv
  replace Xa : Hid _ := Xa.out.below hb3
  replace Xb : Hid _ := Xb.out.below hb3
  replace Xr : Hid _ := Xr.out.below hb3
  replace HA : Hid _ := HA.out.below hb3
  replace HB : Hid _ := HB.out.below hb3
  replace AX : Hid _ := AX.out.below hb3
  replace AY : Hid _ := AY.out.below hb3
  replace A2 : Hid _ := A2.out.below hb3
  replace hbw := Below.on hbw hb3
  clear hb3
  obtain ⟨s9, g9, m9, rfl, hg9, hz9, hl9⟩ := hv
  have ZA : Hid (ZR w3 s9 (some ⟨g9, 0, none⟩) m9 (x + y)) := hz9
  have HL : Hid (m9 ≤ max m n + 1) := by have := hl9; have := HLL.out; show m9 ≤ _; omega
  have HGE : Hid (gr < g9) := Nat.lt_of_lt_of_le HRL.out hg9
  have HGB : Hid (w.heap.size ≤ g9) := Nat.le_trans HBS.out hg9
  clear hg9 hz9 hl9
  refine hK _ _ ⟨Xa.out.c0, Xa.out.c1, Xb.out.c0, Xb.out.c1⟩ ?_
  clear hK
  obtain ⟨cr0, cr1, fr0, fr1⟩ := Xr.out
  have hner := Xr.out.lt
  obtain ⟨ca0, ca1, fa0, fa1⟩ := Xa.out
  have hnea := Xa.out.lt
  obtain ⟨cb0, cb1, fb0, fb1⟩ := Xb.out
  have hneb := Xb.out.lt
  obtain ⟨hgd0, hgd1, hgd2, hgd3, hgd4, hgd5⟩ := HGD.out
  refine wpJ_on 8 rfl fun KJ hK => ?_
  go_simp
  have HJ2 : Hid ((fun W' : World => W'.cell? ⟨ga, 0, none⟩ = some (.bool s) ∧ W'.cell? ⟨ga, 1, none⟩ = some (.slice p m m) ∧ W'.cell? ⟨gb, 0, none⟩ = some (.bool t) ∧ W'.cell? ⟨gb, 1, none⟩ = some (.slice q n n)) ((w3.setCell ⟨gr, 0, none⟩ (.bool s9)).setCell ⟨gr, 1, none⟩ (.slice (some ⟨g9, 0, none⟩) m9 m9))) := ⟨by go_simp, by go_simp, by go_simp, by go_simp⟩
  refine hK _ _ HJ2.out ?_
  clear hK HJ
  have HJ := HJ2
  clear HJ2
  refine wpJ_done (by kernel_rfl) ?_ _
  clear HJ
  go_wp2_with fail
  refine bodyPost_ret (v := .agg #[.bool s9, .slice (some ⟨g9, 0, none⟩) m9 m9]) (by rw [results_cell1 rfl]; go_simp) rfl ⟨_, rfl, ⟨s9, g9, m9, rfl, HGB.out, ?_, HL.out⟩, ?_⟩
  · have := HGE.out
    exact (ZA.out.set _ _ _ (by omega)).set _ _ _ (by omega)
  · exact bSet (bSet hbw _ _ _ HGr.out) _ _ _ HGr.out
theorem radd04_l {p q : Option Addr} {m n : Nat} {w : World} {x y : Int} (s t : Bool) (h : ZR w s p m x) (k : ZR w t q n y) (hm : m ≤ 50000) (hn : n ≤ 50000) (hst : s ≠ t) (hcm : x.natAbs < y.natAbs) :
    Calls Tryz.prog 74 #[.agg #[.bool s, .slice p m m], .agg #[.bool t, .slice q n n]] w fun e w' => ∃ v, e = .returned v ∧ GotR w.heap.size w' v (x + y) (max m n + 1) ∧ Below w.heap.size w w' := by
  have HA : Hid (ZR w s p m x) := h
  have HB : Hid (ZR w t q n y) := k
  have HM : Hid (m ≤ 50000 ∧ n ≤ 50000) := ⟨hm, hn⟩
  clear h k hm hn
  have hse : (s == t) = false := by simpa using hst
  have HST : Hid (s ≠ t) := hst
  have HCM : Hid (x.natAbs < y.natAbs) := hcm
  clear hst hcm
  go_enter Tryz.func74, Tryz.ntmps74
  go_wp2_with fail
  obtain ⟨W0, hW0⟩ : ∃ W0, W0 = (((w.alloc (.cells #[.bool s, .slice p m m] 122)).alloc (.cells #[.bool t, .slice q n n] 122)).alloc (.cells #[.bool false, .slice none 0 0] 122)) := ⟨_, rfl⟩
  have Xa : Hid (Box W0 (w.heap.size) (.bool s) (.slice p m m)) := by rw [hW0]; exact ⟨by go_simp, by go_simp, by go_simp, by go_simp⟩
  have Xb : Hid (Box W0 (w.heap.size + 1) (.bool t) (.slice q n n)) := by rw [hW0]; exact ⟨by go_simp, by go_simp, by go_simp, by go_simp⟩
  have Xr : Hid (Box W0 (w.heap.size + 1 + 1) (.bool false) (.slice none 0 0)) := by rw [hW0]; exact ⟨by go_simp, by go_simp, by go_simp, by go_simp⟩
  have hb0 : Below w.heap.size w W0 := by rw [hW0]; exact below3 w _ _ _
  rw [← hW0]
  clear hW0
  have hbw : Below w.heap.size w w := Below.refl _ _
  obtain ⟨gr, hgr⟩ : ∃ g, g = w.heap.size + 1 + 1 := ⟨_, rfl⟩
  have HGr : Hid (w.heap.size ≤ gr) := by rw [hgr]; show _ ≤ _; omega
  rw [← hgr] at Xr
  try rw [← hgr]
  obtain ⟨gb, hgb⟩ : ∃ g, g = w.heap.size + 1 := ⟨_, rfl⟩
  have HGb : Hid (w.heap.size ≤ gb) := by rw [hgb]; show _ ≤ _; omega
  rw [← hgb] at Xb
  try rw [← hgb]
  obtain ⟨ga, hga⟩ : ∃ g, g = w.heap.size := ⟨_, rfl⟩
  have HGa : Hid (w.heap.size ≤ ga) := by rw [hga]; show _ ≤ _; omega
  rw [← hga] at Xa
  try rw [← hga]
  have HGD : Hid (ga ≠ gb ∧ ga ≠ gr ∧ gb ≠ ga ∧ gb ≠ gr ∧ gr ≠ ga ∧ gr ≠ gb) := by rw [hga, hgb, hgr]; exact ⟨by omega, by omega, by omega, by omega, by omega, by omega⟩
  clear hga hgb hgr
  replace HA : Hid _ := HA.out.below hb0
  replace HB : Hid _ := HB.out.below hb0
  replace hbw := Below.on hbw hb0
  clear hb0
  obtain ⟨xs, hAx, hNx⟩ := HA.out.ex
  obtain ⟨ys, hAy, hNy⟩ := HB.out.ex
  have HNX : Hid (Nf B32 xs x.natAbs ∧ Nf B32 ys y.natAbs) := ⟨hNx, hNy⟩
  clear hNx hNy
  have AX : Hid (At32 W0 p m m xs) := hAx
  have AY : Hid (At32 W0 q n n ys) := hAy
  clear hAx hAy
  have HZV : Hid (iv t (y.natAbs - x.natAbs) = x + y) := by have h1 := HA.out.sg; have h2 := HB.out.sg; have h3 := HST.out; exact iv_suml h1 h2 h3 HCM.out
  obtain ⟨cm, hcm⟩ : ∃ cm, cm = cmpN x.natAbs y.natAbs := ⟨_, rfl⟩
  have HCQ : Hid (cm = cmpN x.natAbs y.natAbs) := hcm
  have hcc : decide (0 ≤ cm) = false := decide_eq_false (by rw [hcm, cmpN_lt HCM.out]; omega)
  clear hcm
  refine (rcmp_any AX.out AY.out HNX.out.1 HNX.out.2).mono ?_
  rintro e w9 ⟨rfl, rd, rfl⟩
  rw [← HCQ.out]
  have hbr := bDrewN (Below.refl W0.heap.size W0) rd
  generalize W0.drewN rd = W9 at *
  replace Xa : Hid _ := Xa.out.below hbr
  replace Xb : Hid _ := Xb.out.below hbr
  replace Xr : Hid _ := Xr.out.below hbr
  replace HA : Hid _ := HA.out.below hbr
  replace HB : Hid _ := HB.out.below hbr
  replace AX : Hid _ := AX.out.below hbr
  replace AY : Hid _ := AY.out.below hbr
  replace hbw := Below.on hbw hbr
  clear hbr
  obtain ⟨ca0, ca1, fa0, fa1⟩ := Xa.out
  have hnea := Xa.out.lt
  obtain ⟨cb0, cb1, fb0, fb1⟩ := Xb.out
  have hneb := Xb.out.lt
  go_wp2_with fail
  clear ca0 ca1 fa0 fa1 hnea
  clear cb0 cb1 fb0 fb1 hneb
  clear hcc
  obtain ⟨W1, hW1⟩ : ∃ W1, W1 = W9.drew := ⟨_, rfl⟩
  have hbd : Below W9.heap.size W9 W1 := by rw [hW1]; exact bDrew1 (Below.refl _ _)
  replace Xa : Hid _ := Xa.out.below hbd
  replace Xb : Hid _ := Xb.out.below hbd
  replace Xr : Hid _ := Xr.out.below hbd
  replace HA : Hid _ := HA.out.below hbd
  replace HB : Hid _ := HB.out.below hbd
  replace AX : Hid _ := AX.out.below hbd
  replace AY : Hid _ := AY.out.below hbd
  replace hbw := Below.on hbw hbd
  clear hbd
  have HJ : Hid ((fun W' : World => W'.cell? ⟨ga, 0, none⟩ = some (.bool s) ∧ W'.cell? ⟨ga, 1, none⟩ = some (.slice p m m) ∧ W'.cell? ⟨gb, 0, none⟩ = some (.bool t) ∧ W'.cell? ⟨gb, 1, none⟩ = some (.slice q n n)) W1) := ⟨Xa.out.c0, Xa.out.c1, Xb.out.c0, Xb.out.c1⟩
  refine wp_region_J (fun W' => W'.cell? ⟨ga, 0, none⟩ = some (.bool s) ∧ W'.cell? ⟨ga, 1, none⟩ = some (.slice p m m) ∧ W'.cell? ⟨gb, 0, none⟩ = some (.bool t) ∧ W'.cell? ⟨gb, 1, none⟩ = some (.slice q n n)) (by kernel_rfl) ?_
  rw [← hW1]
  clear hW1
  refine wpJ_tq 0 rfl HJ.out ?_
  refine wpJ_tq 1 rfl HJ.out ?_
  refine wpJ_tq 2 rfl HJ.out ?_
  refine wpJ_tq 3 rfl HJ.out ?_
  refine wpJ_tq 4 rfl HJ.out ?_
  refine wpJ_tq 5 rfl HJ.out ?_
  refine wpJ_on 6 rfl fun KJ hK => ?_
  go_simp
  refine (rsub_any AY.out AX.out HNX.out.2 HNX.out.1 (by have := HM.out; omega) (Nat.le_of_lt HCM.out)).mono ?_
  rintro e w2 ⟨p2, m2, z2, rfl, hA2, hN2, hl2q, hb2⟩
  have hl2 : m2 ≤ max m n + 1 := by omega
  clear hl2q
  replace Xa : Hid _ := Xa.out.below hb2
  replace Xb : Hid _ := Xb.out.below hb2
  replace Xr : Hid _ := Xr.out.below hb2
  replace HA : Hid _ := HA.out.below hb2
  replace HB : Hid _ := HB.out.below hb2
  replace AX : Hid _ := AX.out.below hb2
  replace AY : Hid _ := AY.out.below hb2
  replace hbw := Below.on hbw hb2
  clear hb2
  have A2 : Hid (At32 w2 p2 m2 m2 z2) := hA2
  have N2 : Hid (Nf B32 z2 (y.natAbs - x.natAbs)) := hN2
  have HLL : Hid (m2 ≤ max m n + 1) := hl2
  have HRL : Hid (gr < w2.heap.size) := Xr.out.lt
  have HBS : Hid (w.heap.size ≤ w2.heap.size) := hbw.size
  clear hA2 hN2 hl2
  refine hK _ _ ⟨Xa.out.c0, Xa.out.c1, Xb.out.c0, Xb.out.c1⟩ ?_
  clear hK
  refine wpJ_on 7 rfl fun KJ hK => ?_
  go_simp
  refine (rmk_any t A2.out N2.out (by have := HLL.out; have := HM.out; omega)).mono ?_
  rintro e w3 ⟨v, rfl, hv, hb3⟩
  rw [HZV.out] at hv
  replace Xa : Hid _ := Xa.out.below hb3
  replace Xb : Hid _ := Xb.out.below hb3
  replace Xr : Hid _ := Xr.out.below hb3
  replace HA : Hid _ := HA.out.below hb3
  replace HB : Hid _ := HB.out.below hb3
  replace AX : Hid _ := AX.out.below hb3
  replace AY : Hid _ := AY.out.below hb3
  replace A2 : Hid _ := A2.out.below hb3
  replace hbw := Below.on hbw hb3
  clear hb3
  obtain ⟨s9, g9, m9, rfl, hg9, hz9, hl9⟩ := hv
  have ZA : Hid (ZR w3 s9 (some ⟨g9, 0, none⟩) m9 (x + y)) := hz9
  have HL : Hid (m9 ≤ max m n + 1) := by have := hl9; have := HLL.out; show m9 ≤ _; omega
  have HGE : Hid (gr < g9) := Nat.lt_of_lt_of_le HRL.out hg9
  have HGB : Hid (w.heap.size ≤ g9) := Nat.le_trans HBS.out hg9
  clear hg9 hz9 hl9
  refine hK _ _ ⟨Xa.out.c0, Xa.out.c1, Xb.out.c0, Xb.out.c1⟩ ?_
  clear hK
  obtain ⟨cr0, cr1, fr0, fr1⟩ := Xr.out
  have hner := Xr.out.lt
  obtain ⟨ca0, ca1, fa0, fa1⟩ := Xa.out
  have hnea := Xa.out.lt
  obtain ⟨cb0, cb1, fb0, fb1⟩ := Xb.out
  have hneb := Xb.out.lt
  obtain ⟨hgd0, hgd1, hgd2, hgd3, hgd4, hgd5⟩ := HGD.out
  refine wpJ_on 8 rfl fun KJ hK => ?_
  go_simp
  have HJ2 : Hid ((fun W' : World => W'.cell? ⟨ga, 0, none⟩ = some (.bool s) ∧ W'.cell? ⟨ga, 1, none⟩ = some (.slice p m m) ∧ W'.cell? ⟨gb, 0, none⟩ = some (.bool t) ∧ W'.cell? ⟨gb, 1, none⟩ = some (.slice q n n)) ((w3.setCell ⟨gr, 0, none⟩ (.bool s9)).setCell ⟨gr, 1, none⟩ (.slice (some ⟨g9, 0, none⟩) m9 m9))) := ⟨by go_simp, by go_simp, by go_simp, by go_simp⟩
  refine hK _ _ HJ2.out ?_
  clear hK HJ
  have HJ := HJ2
  clear HJ2
  refine wpJ_done (by kernel_rfl) ?_ _
  clear HJ
  go_wp2_with fail
  refine bodyPost_ret (v := .agg #[.bool s9, .slice (some ⟨g9, 0, none⟩) m9 m9]) (by rw [results_cell1 rfl]; go_simp) rfl ⟨_, rfl, ⟨s9, g9, m9, rfl, HGB.out, ?_, HL.out⟩, ?_⟩
  · have := HGE.out
    exact (ZA.out.set _ _ _ (by omega)).set _ _ _ (by omega)
  · exact bSet (bSet hbw _ _ _ HGr.out) _ _ _ HGr.out
theorem radd04 {p q : Option Addr} {m n : Nat} {w : World} {x y : Int} (s t : Bool) (h : ZR w s p m x) (k : ZR w t q n y) (hm : m ≤ 50000) (hn : n ≤ 50000) : Calls Tryz.prog 74 #[.agg #[.bool s, .slice p m m], .agg #[.bool t, .slice q n n]] w fun e w' => ∃ v, e = .returned v ∧ GotR w.heap.size w' v (x + y) (max m n + 1) ∧ Below w.heap.size w w' := by
  by_cases hst : s = t
  · exact radd04_s s t h k hm hn hst
  · rcases Nat.lt_or_ge x.natAbs y.natAbs with hl | hl
    · exact radd04_l s t h k hm hn hst hl
    · exact radd04_g s t h k hm hn hst hl
theorem rsub04 {p q : Option Addr} {m n : Nat} {w : World} {x y : Int} (s t : Bool) (h : ZR w s p m x) (k : ZR w t q n y) (hm : m ≤ 50000) (hn : n ≤ 50000) :
    Calls Tryz.prog 132 #[.agg #[.bool s, .slice p m m], .agg #[.bool t, .slice q n n]] w fun e w' => ∃ v, e = .returned v ∧ GotR w.heap.size w' v (x - y) (max m n + 1) ∧ Below w.heap.size w w' := by
  have HA : Hid (ZR w s p m x) := h
  have HB : Hid (ZR w t q n y) := k
  have HM : Hid (m ≤ 50000 ∧ n ≤ 50000) := ⟨hm, hn⟩
  clear h k hm hn
  go_enter Tryz.func132, Tryz.ntmps132
  go_wp2_with fail
  obtain ⟨W0, hW0⟩ : ∃ W0, W0 = (((w.alloc (.cells #[.bool s, .slice p m m] 122)).alloc (.cells #[.bool t, .slice q n n] 122)).alloc (.cells #[.bool false, .slice none 0 0] 122)) := ⟨_, rfl⟩
  have Xa : Hid (Box W0 (w.heap.size) (.bool s) (.slice p m m)) := by rw [hW0]; exact ⟨by go_simp, by go_simp, by go_simp, by go_simp⟩
  have Xb : Hid (Box W0 (w.heap.size + 1) (.bool t) (.slice q n n)) := by rw [hW0]; exact ⟨by go_simp, by go_simp, by go_simp, by go_simp⟩
  have Xr : Hid (Box W0 (w.heap.size + 1 + 1) (.bool false) (.slice none 0 0)) := by rw [hW0]; exact ⟨by go_simp, by go_simp, by go_simp, by go_simp⟩
  have hb0 : Below w.heap.size w W0 := by rw [hW0]; exact below3 w _ _ _
  rw [← hW0]
  clear hW0
  have hbw : Below w.heap.size w w := Below.refl _ _
  obtain ⟨gr, hgr⟩ : ∃ g, g = w.heap.size + 1 + 1 := ⟨_, rfl⟩
  have HGr : Hid (w.heap.size ≤ gr) := by rw [hgr]; show _ ≤ _; omega
  rw [← hgr] at Xr
  try rw [← hgr]
  obtain ⟨gb, hgb⟩ : ∃ g, g = w.heap.size + 1 := ⟨_, rfl⟩
  have HGb : Hid (w.heap.size ≤ gb) := by rw [hgb]; show _ ≤ _; omega
  rw [← hgb] at Xb
  try rw [← hgb]
  obtain ⟨ga, hga⟩ : ∃ g, g = w.heap.size := ⟨_, rfl⟩
  have HGa : Hid (w.heap.size ≤ ga) := by rw [hga]; show _ ≤ _; omega
  rw [← hga] at Xa
  try rw [← hga]
  have HGD : Hid (ga ≠ gb ∧ ga ≠ gr ∧ gb ≠ ga ∧ gb ≠ gr ∧ gr ≠ ga ∧ gr ≠ gb) := by rw [hga, hgb, hgr]; exact ⟨by omega, by omega, by omega, by omega, by omega, by omega⟩
  clear hga hgb hgr
  replace HA : Hid _ := HA.out.below hb0
  replace HB : Hid _ := HB.out.below hb0
  replace hbw := Below.on hbw hb0
  clear hb0
  obtain ⟨W1, hW1⟩ : ∃ W1, W1 = W0.drew := ⟨_, rfl⟩
  have hbd : Below W0.heap.size W0 W1 := by rw [hW1]; exact bDrew1 (Below.refl _ _)
  replace Xa : Hid _ := Xa.out.below hbd
  replace Xb : Hid _ := Xb.out.below hbd
  replace Xr : Hid _ := Xr.out.below hbd
  replace HA : Hid _ := HA.out.below hbd
  replace HB : Hid _ := HB.out.below hbd
  replace hbw := Below.on hbw hbd
  clear hbd
  have HJ : Hid ((fun W' : World => W'.cell? ⟨ga, 0, none⟩ = some (.bool s) ∧ W'.cell? ⟨ga, 1, none⟩ = some (.slice p m m) ∧ W'.cell? ⟨gb, 0, none⟩ = some (.bool t) ∧ W'.cell? ⟨gb, 1, none⟩ = some (.slice q n n)) W1) := ⟨Xa.out.c0, Xa.out.c1, Xb.out.c0, Xb.out.c1⟩
  refine wp_region_J (fun W' => W'.cell? ⟨ga, 0, none⟩ = some (.bool s) ∧ W'.cell? ⟨ga, 1, none⟩ = some (.slice p m m) ∧ W'.cell? ⟨gb, 0, none⟩ = some (.bool t) ∧ W'.cell? ⟨gb, 1, none⟩ = some (.slice q n n)) (by kernel_rfl) ?_
  rw [← hW1]
  clear hW1
  refine wpJ_tq 0 rfl HJ.out ?_
  refine wpJ_tq 1 rfl HJ.out ?_
  refine wpJ_on 2 rfl fun KJ hK => ?_
  go_simp
  refine (rflip_any t HB.out (by have := HM.out; omega)).mono ?_
  rintro e w2 ⟨v, rfl, hv, hb2⟩
  obtain ⟨s2, g2, m2, rfl, hg2, hz2, hl2⟩ := hv
  replace Xa : Hid _ := Xa.out.below hb2
  replace Xb : Hid _ := Xb.out.below hb2
  replace Xr : Hid _ := Xr.out.below hb2
  replace HA : Hid _ := HA.out.below hb2
  replace HB : Hid _ := HB.out.below hb2
  replace hbw := Below.on hbw hb2
  clear hb2
  have ZB : Hid (ZR w2 s2 (some ⟨g2, 0, none⟩) m2 (-y)) := hz2
  have HL2 : Hid (m2 ≤ n) := hl2
  have HRL : Hid (gr < w2.heap.size) := Xr.out.lt
  have HBS : Hid (w.heap.size ≤ w2.heap.size) := hbw.size
  clear hg2 hz2 hl2
  refine hK _ _ ⟨Xa.out.c0, Xa.out.c1, Xb.out.c0, Xb.out.c1⟩ ?_
  clear hK
  refine wpJ_on 3 rfl fun KJ hK => ?_
  go_simp
  refine (radd04 s s2 HA.out ZB.out HM.out.1 (Nat.le_trans HL2.out HM.out.2)).mono ?_
  rintro e w3 ⟨v, rfl, hv, hb3⟩
  rw [← Int.sub_eq_add_neg] at hv
  replace Xa : Hid _ := Xa.out.below hb3
  replace Xb : Hid _ := Xb.out.below hb3
  replace Xr : Hid _ := Xr.out.below hb3
  replace HA : Hid _ := HA.out.below hb3
  replace HB : Hid _ := HB.out.below hb3
  replace ZB : Hid _ := ZB.out.below hb3
  replace hbw := Below.on hbw hb3
  clear hb3
  have HLL : Hid (max m m2 + 1 ≤ max m n + 1) := by have := HL2.out; show _ ≤ _; omega
  obtain ⟨s9, g9, m9, rfl, hg9, hz9, hl9⟩ := hv
  have ZA : Hid (ZR w3 s9 (some ⟨g9, 0, none⟩) m9 (x - y)) := hz9
  have HL : Hid (m9 ≤ max m n + 1) := by have := hl9; have := HLL.out; show m9 ≤ _; omega
  have HGE : Hid (gr < g9) := Nat.lt_of_lt_of_le HRL.out hg9
  have HGB : Hid (w.heap.size ≤ g9) := Nat.le_trans HBS.out hg9
  clear hg9 hz9 hl9
  refine hK _ _ ⟨Xa.out.c0, Xa.out.c1, Xb.out.c0, Xb.out.c1⟩ ?_
  clear hK
  obtain ⟨cr0, cr1, fr0, fr1⟩ := Xr.out
  have hner := Xr.out.lt
  obtain ⟨ca0, ca1, fa0, fa1⟩ := Xa.out
  have hnea := Xa.out.lt
  obtain ⟨cb0, cb1, fb0, fb1⟩ := Xb.out
  have hneb := Xb.out.lt
  obtain ⟨hgd0, hgd1, hgd2, hgd3, hgd4, hgd5⟩ := HGD.out
  refine wpJ_on 4 rfl fun KJ hK => ?_
  go_simp
  have HJ2 : Hid ((fun W' : World => W'.cell? ⟨ga, 0, none⟩ = some (.bool s) ∧ W'.cell? ⟨ga, 1, none⟩ = some (.slice p m m) ∧ W'.cell? ⟨gb, 0, none⟩ = some (.bool t) ∧ W'.cell? ⟨gb, 1, none⟩ = some (.slice q n n)) ((w3.setCell ⟨gr, 0, none⟩ (.bool s9)).setCell ⟨gr, 1, none⟩ (.slice (some ⟨g9, 0, none⟩) m9 m9))) := ⟨by go_simp, by go_simp, by go_simp, by go_simp⟩
  refine hK _ _ HJ2.out ?_
  clear hK HJ
  have HJ := HJ2
  clear HJ2
  refine wpJ_done (by kernel_rfl) ?_ _
  clear HJ
  go_wp2_with fail
  refine bodyPost_ret (v := .agg #[.bool s9, .slice (some ⟨g9, 0, none⟩) m9 m9]) (by rw [results_cell1 rfl]; go_simp) rfl ⟨_, rfl, ⟨s9, g9, m9, rfl, HGB.out, ?_, HL.out⟩, ?_⟩
  · have := HGE.out
    exact (ZA.out.set _ _ _ (by omega)).set _ _ _ (by omega)
  · exact bSet (bSet hbw _ _ _ HGr.out) _ _ _ HGr.out
theorem rsign04 {p : Option Addr} {m : Nat} {w : World} {z : Int} (s : Bool) (h : ZR w s p m z) :
    Calls Tryz.prog 102 #[.agg #[.bool s, .slice p m m]] w fun e w' => e = .returned (.int .i64 (sgnI z)) ∧ Below w.heap.size w w' := by
  have hz := h.zero
  have hsg := h.sg
  obtain ⟨sg, hs⟩ : ∃ sg, sg = sgnI z := ⟨_, rfl⟩
  rw [← hs]
  by_cases hm : m = 0
  · have hv : sg = 0 := by rw [hs, hz.1 hm]; rfl
    subst hv
    subst hm
    clear h hz hsg hs
    go_enter Tryz.func102, Tryz.ntmps102
    go_wp2_with fail
    go_ret
    exact ⟨rfl, below1 w _⟩
  · have hm0 : ((m : Int) == 0) = false := by simp; omega
    have hz0 : z ≠ 0 := fun e => hm (hz.2 e)
    cases s
    · have hv : sg = 1 := by rw [hs]; unfold sgnI; have := of_decide_eq_false hsg.symm; rw [if_neg this, if_neg hz0]
      subst hv
      clear h hz hsg hs hz0
      go_enter Tryz.func102, Tryz.ntmps102
      go_wp2_with fail
      go_ret
      exact ⟨rfl, below1 w _⟩
    · have hv : sg = -1 := by rw [hs]; unfold sgnI; have := of_decide_eq_true hsg.symm; rw [if_pos this]
      subst hv
      clear h hz hsg hs hz0
      go_enter Tryz.func102, Tryz.ntmps102
      go_wp2_with fail
      go_ret
      exact ⟨rfl, below1 w _⟩
theorem sgn_cmp (x y : Int) : sgnI (x - y) = cmpI x y := by
  unfold sgnI cmpI
  rcases Int.lt_trichotomy x y with h | h | h
  · rw [if_pos (by omega), if_pos h]
  · rw [if_neg (by omega), if_pos (by omega), if_neg (by omega), if_pos h]
  · rw [if_neg (by omega), if_neg (by omega), if_neg (by omega), if_neg (by omega)]
theorem rcmp04 {p q : Option Addr} {m n : Nat} {w : World} {x y : Int} (s t : Bool) (h : ZR w s p m x) (k : ZR w t q n y) (hm : m ≤ 50000) (hn : n ≤ 50000) :
    Calls Tryz.prog 104 #[.agg #[.bool s, .slice p m m], .agg #[.bool t, .slice q n n]] w fun e w' => e = .returned (.int .i64 (cmpI x y)) ∧ Below w.heap.size w w' := by
  have HA : Hid (ZR w s p m x) := h
  have HB : Hid (ZR w t q n y) := k
  have HM : Hid (m ≤ 50000 ∧ n ≤ 50000) := ⟨hm, hn⟩
  clear h k hm hn
  rw [← sgn_cmp]
  go_enter Tryz.func104, Tryz.ntmps104
  go_wp2_with fail
  obtain ⟨W0, hW0⟩ : ∃ W0, W0 = ((w.alloc (.cells #[.bool s, .slice p m m] 122)).alloc (.cells #[.bool t, .slice q n n] 122)) := ⟨_, rfl⟩
  have Xa : Hid (Box W0 (w.heap.size) (.bool s) (.slice p m m)) := by rw [hW0]; exact ⟨by go_simp, by go_simp, by go_simp, by go_simp⟩
  have Xb : Hid (Box W0 (w.heap.size + 1) (.bool t) (.slice q n n)) := by rw [hW0]; exact ⟨by go_simp, by go_simp, by go_simp, by go_simp⟩
  have hb0 : Below w.heap.size w W0 := by rw [hW0]; exact below2 w _ _
  rw [← hW0]
  clear hW0
  have hbw : Below w.heap.size w w := Below.refl _ _
  obtain ⟨gb, hgb⟩ : ∃ g, g = w.heap.size + 1 := ⟨_, rfl⟩
  have HGb : Hid (w.heap.size ≤ gb) := by rw [hgb]; show _ ≤ _; omega
  rw [← hgb] at Xb
  try rw [← hgb]
  obtain ⟨ga, hga⟩ : ∃ g, g = w.heap.size := ⟨_, rfl⟩
  have HGa : Hid (w.heap.size ≤ ga) := by rw [hga]; show _ ≤ _; omega
  rw [← hga] at Xa
  try rw [← hga]
  have HGD : Hid (ga ≠ gb ∧ gb ≠ ga) := by rw [hga, hgb]; exact ⟨by omega, by omega⟩
  clear hga hgb
  replace HA : Hid _ := HA.out.below hb0
  replace HB : Hid _ := HB.out.below hb0
  replace hbw := Below.on hbw hb0
  clear hb0
  refine (rsub04 s t HA.out HB.out HM.out.1 HM.out.2).mono ?_
  rintro e w2 ⟨v, rfl, hv, hb2⟩
  obtain ⟨s2, g2, m2, rfl, hg2, hz2, hl2⟩ := hv
  replace Xa : Hid _ := Xa.out.below hb2
  replace Xb : Hid _ := Xb.out.below hb2
  replace HA : Hid _ := HA.out.below hb2
  replace HB : Hid _ := HB.out.below hb2
  replace hbw := Below.on hbw hb2
  clear hb2
  have ZB : Hid (ZR w2 s2 (some ⟨g2, 0, none⟩) m2 (x - y)) := hz2
  clear hg2 hz2 hl2
  go_wp2_with fail
  refine (rsign04 s2 ZB.out).mono ?_
  rintro e v3 ⟨rfl, hb3⟩
  obtain ⟨sv, hsv⟩ : ∃ sv, sv = sgnI (x - y) := ⟨_, rfl⟩
  rw [← hsv]
  have HSV : Hid (sv = sgnI (x - y)) := hsv
  clear hsv
  replace Xa : Hid _ := Xa.out.below hb3
  replace Xb : Hid _ := Xb.out.below hb3
  replace HA : Hid _ := HA.out.below hb3
  replace HB : Hid _ := HB.out.below hb3
  replace ZB : Hid _ := ZB.out.below hb3
  replace hbw := Below.on hbw hb3
  clear hb3
  go_wp2_with fail
  go_ret
  exact ⟨by rw [← HSV.out]; rfl, hbw⟩
def NewAt (B : Nat) (w : World) (p : Option Addr) (m c : Nat) (us : List Nat) : Prop := At w p m c us ∧ (m = 0 ∨ ∃ g, p = some ⟨g, 0, none⟩ ∧ B ≤ g)
theorem NewAt.below {B : Nat} {w w' : World} {p : Option Addr} {m c : Nat} {us : List Nat} (h : NewAt B w p m c us) (hb : Below w.heap.size w w') : NewAt B w' p m c us := ⟨h.1.below hb, h.2⟩
theorem NewAt.mono {B B' : Nat} {w : World} {p : Option Addr} {m c : Nat} {us : List Nat} (h : NewAt B w p m c us) (hB : B' ≤ B) : NewAt B' w p m c us :=
  ⟨h.1, h.2.imp id (fun ⟨g, e, k⟩ => ⟨g, e, Nat.le_trans hB k⟩)⟩
theorem NewAt.set {B : Nat} {w : World} {p : Option Addr} {m c : Nat} {us : List Nat} (h : NewAt B w p m c us) {r : Nat} (hr : r < B) (o : Nat) (v : Value) : NewAt B (w.setCell ⟨r, o, none⟩ v) p m c us := by
  refine ⟨?_, h.2⟩
  rcases h.2 with h0 | ⟨g, rfl, hg⟩
  · subst h0
    obtain rfl : us = [] := List.eq_nil_of_length_eq_zero h.1.len
    exact At.empty _ _ _ h.1.big
  · exact h.1.setOther _ _ _ (by omega)
def DocZ (z : Int) (s : Bool) (us : List Nat) (er : Int) : Prop :=
  (z.natAbs < LIM ∧ s = decide (z < 0) ∧ Nf B64 us z.natAbs ∧ er = 0) ∨ (LIM ≤ z.natAbs ∧ s = false ∧ us = [] ∧ er = 5)
theorem DocZ.inj {z : Int} {s s' : Bool} {us us' : List Nat} {er er' : Int} (h : DocZ z s us er) (k : DocZ z s' us' er') : s = s' ∧ us = us' ∧ er = er' := by
  rcases h with ⟨h0, rfl, h1, rfl⟩ | ⟨h0, rfl, rfl, rfl⟩ <;> rcases k with ⟨k0, rfl, k1, rfl⟩ | ⟨k0, rfl, rfl, rfl⟩
  · exact ⟨rfl, h1.inj B64_one k1, rfl⟩
  · omega
  · omega
  · exact ⟨rfl, rfl, rfl⟩
def OneZ (r : Int → Int) (sx : Bool) (xs : List Nat) (s : Bool) (us : List Nat) (er : Int) : Prop :=
  (formZ sx xs = false ∧ s = false ∧ us = [] ∧ er = 2) ∨ (formZ sx xs = true ∧ DocZ (r (iv sx (valB B64 xs))) s us er)
def TwoZ (r : Int → Int → Int) (sx : Bool) (xs : List Nat) (sy : Bool) (ys : List Nat) (s : Bool) (us : List Nat) (er : Int) : Prop :=
  ((formZ sx xs && formZ sy ys) = false ∧ s = false ∧ us = [] ∧ er = 2) ∨ ((formZ sx xs && formZ sy ys) = true ∧ DocZ (r (iv sx (valB B64 xs)) (iv sy (valB B64 ys))) s us er)
theorem OneZ.inj {r : Int → Int} {sx : Bool} {xs : List Nat} {s s' : Bool} {us us' : List Nat} {er er' : Int} (h : OneZ r sx xs s us er) (k : OneZ r sx xs s' us' er') : s = s' ∧ us = us' ∧ er = er' := by
  rcases h with ⟨h0, rfl, rfl, rfl⟩ | ⟨h0, h1⟩ <;> rcases k with ⟨k0, rfl, rfl, rfl⟩ | ⟨k0, k1⟩
  · exact ⟨rfl, rfl, rfl⟩
  · rw [h0] at k0; cases k0
  · rw [h0] at k0; cases k0
  · exact h1.inj k1
theorem TwoZ.inj {r : Int → Int → Int} {sx sy : Bool} {xs ys : List Nat} {s s' : Bool} {us us' : List Nat} {er er' : Int} (h : TwoZ r sx xs sy ys s us er) (k : TwoZ r sx xs sy ys s' us' er') : s = s' ∧ us = us' ∧ er = er' := by
  rcases h with ⟨h0, rfl, rfl, rfl⟩ | ⟨h0, h1⟩ <;> rcases k with ⟨k0, rfl, rfl, rfl⟩ | ⟨k0, k1⟩
  · exact ⟨rfl, rfl, rfl⟩
  · rw [h0] at k0; cases k0
  · rw [h0] at k0; cases k0
  · exact h1.inj k1
def OffR (g m g2 : Nat) : Prop := m = 0 ∨ g ≠ g2
theorem ZR.setOff {w : World} {s : Bool} {g m : Nat} {z : Int} (h : ZR w s (some ⟨g, 0, none⟩) m z) {g2 : Nat} (hf : OffR g m g2) (o2 : Nat) (v : Value) : ZR (w.setCell ⟨g2, o2, none⟩ v) s (some ⟨g, 0, none⟩) m z := by
  rcases hf with h0 | h0
  · subst h0
    obtain ⟨zs, hA, hN⟩ := h.ex
    obtain rfl : zs = [] := List.eq_nil_of_length_eq_zero hA.len
    exact ⟨⟨[], At32.empty _ _ _ (by decide), hN⟩, h.sg⟩
  · exact h.set g2 o2 v h0
theorem rshl_nil {p : Option Addr} {c : Nat} {w : World} (hc : c ≤ maxLen) (k : Int) :
    Calls Tryz.prog 71 #[.slice p 0 c, .int .i64 k] w fun e w' => ∃ g, e = .returned (.slice (some ⟨g, 0, none⟩) 0 0) ∧ At32 w' (some ⟨g, 0, none⟩) 0 0 [] ∧ Below w.heap.size w w' := by
  have HC : Hid (c ≤ maxLen) := hc
  clear hc
  by_cases h0 : k ≤ 0
  · have h1 : ¬ 0 < k := by omega
    go_enter Tryz.func71, Tryz.ntmps71
    go_wp2_with fail
    refine (rnorm_any (At32.empty w p c HC.out) (by omega)).mono ?_
    rintro e w1 ⟨g, rfl, hg, hblk, hb⟩
    go_wp2_with fail
    go_ret
    exact ⟨g, rfl, At32.empty _ _ _ (by decide), hb⟩
  · have h1 : 0 < k := by omega
    go_enter Tryz.func71, Tryz.ntmps71
    go_wp2_with fail
    refine (rnorm_any (At32.empty w p c HC.out) (by omega)).mono ?_
    rintro e w1 ⟨g, rfl, hg, hblk, hb⟩
    go_wp2_with fail
    go_ret
    exact ⟨g, rfl, At32.empty _ _ _ (by decide), hb⟩
theorem rshl_all {p : Option Addr} {n : Nat} {xs : List Nat} {a : Nat} {w : World} (h : At32 w p n n xs) (hx : Nf B32 xs a) (hn : n ≤ 16384) (k : Nat) (hk : k ≤ 524288 ∨ a = 0) :
    Calls Tryz.prog 71 #[.slice p n n, .int .i64 k] w fun e w' => ∃ p' m' zs, e = .returned (.slice p' m' m') ∧ At32 w' p' m' m' zs ∧ Nf B32 zs (a * 2 ^ k) ∧ m' ≤ 40000 ∧ Below w.heap.size w w' := by
  rcases Nat.eq_zero_or_pos n with h0 | h0
  · subst h0
    have ha : a = 0 := (hx.zero_iff B32_one).1 (List.eq_nil_of_length_eq_zero h.len)
    refine (rshl_nil (by unfold maxLen; omega) (k : Int)).mono ?_
    rintro e w' ⟨g, he, hA, hb⟩
    exact ⟨_, 0, [], he, hA, by rw [ha, Nat.zero_mul]; exact Nf.nil _, by omega, hb⟩
  · refine rshl_any h hx h0 hn k (hk.resolve_right fun e => ?_)
    have := (hx.zero_iff B32_one).2 e
    rw [this] at h
    have := h.len
    simp at this
    omega
theorem iv_mul_nat (s : Bool) (a k : Nat) : iv s (a * k) = iv s a * (k : Int) := by cases s <;> simp [iv, Int.neg_mul]
theorem rshl04 {p : Option Addr} {m : Nat} {w : World} {x : Int} (s : Bool) (h : ZR w s p m x) (hm : m ≤ 16384) (k : Nat) (hk : k ≤ 524288 ∨ x = 0) :
    Calls Tryz.prog 105 #[.agg #[.bool s, .slice p m m], .int .i64 k] w fun e w' => ∃ v, e = .returned v ∧ GotR w.heap.size w' v (x * 2 ^ k) (40000) ∧ Below w.heap.size w w' := by
  have HA : Hid (ZR w s p m x) := h
  have HM : Hid (m ≤ 16384 ∧ (k ≤ 524288 ∨ x = 0)) := ⟨hm, hk⟩
  have HZV : Hid (iv s (x.natAbs * 2 ^ k) = x * 2 ^ k) := by show _ = _; rw [iv_mul_nat, h.iv]; rfl
  obtain ⟨xs, hAx, hNx⟩ := h.ex
  have HNX : Hid (Nf B32 xs x.natAbs) := hNx
  have AX : Hid (At32 w p m m xs) := hAx
  clear h hm hk hAx hNx
  go_enter Tryz.func105, Tryz.ntmps105
  go_wp2_with fail
  obtain ⟨W0, hW0⟩ : ∃ W0, W0 = ((w.alloc (.cells #[.bool s, .slice p m m] 122)).alloc (.cells #[.bool false, .slice none 0 0] 122)) := ⟨_, rfl⟩
  have Xa : Hid (Box W0 (w.heap.size) (.bool s) (.slice p m m)) := by rw [hW0]; exact ⟨by go_simp, by go_simp, by go_simp, by go_simp⟩
  have Xr : Hid (Box W0 (w.heap.size + 1) (.bool false) (.slice none 0 0)) := by rw [hW0]; exact ⟨by go_simp, by go_simp, by go_simp, by go_simp⟩
  have hb0 : Below w.heap.size w W0 := by rw [hW0]; exact below2 w _ _
  rw [← hW0]
  clear hW0
  have hbw : Below w.heap.size w w := Below.refl _ _
  obtain ⟨gr, hgr⟩ : ∃ g, g = w.heap.size + 1 := ⟨_, rfl⟩
  have HGr : Hid (w.heap.size ≤ gr) := by rw [hgr]; show _ ≤ _; omega
  rw [← hgr] at Xr
  try rw [← hgr]
  obtain ⟨ga, hga⟩ : ∃ g, g = w.heap.size := ⟨_, rfl⟩
  have HGa : Hid (w.heap.size ≤ ga) := by rw [hga]; show _ ≤ _; omega
  rw [← hga] at Xa
  try rw [← hga]
  have HGD : Hid (ga ≠ gr ∧ gr ≠ ga) := by rw [hga, hgr]; exact ⟨by omega, by omega⟩
  clear hga hgr
  replace AX : Hid _ := AX.out.below hb0
  replace hbw := Below.on hbw hb0
  clear hb0
  obtain ⟨W1, hW1⟩ : ∃ W1, W1 = W0.drew := ⟨_, rfl⟩
  have hbd : Below W0.heap.size W0 W1 := by rw [hW1]; exact bDrew1 (Below.refl _ _)
  replace Xa : Hid _ := Xa.out.below hbd
  replace Xr : Hid _ := Xr.out.below hbd
  replace AX : Hid _ := AX.out.below hbd
  replace hbw := Below.on hbw hbd
  clear hbd
  have HJ : Hid ((fun W' : World => W'.cell? ⟨ga, 0, none⟩ = some (.bool s) ∧ W'.cell? ⟨ga, 1, none⟩ = some (.slice p m m)) W1) := ⟨Xa.out.c0, Xa.out.c1⟩
  refine wp_region_J (fun W' => W'.cell? ⟨ga, 0, none⟩ = some (.bool s) ∧ W'.cell? ⟨ga, 1, none⟩ = some (.slice p m m)) (by kernel_rfl) ?_
  rw [← hW1]
  clear hW1
  refine wpJ_tq 0 rfl HJ.out ?_
  refine wpJ_tq 1 rfl HJ.out ?_
  refine wpJ_tq 2 rfl HJ.out ?_
  refine wpJ_tq 3 rfl HJ.out ?_
  refine wpJ_tq 4 rfl HJ.out ?_
  refine wpJ_on 5 rfl fun KJ hK => ?_
  go_simp
  refine (rshl_all AX.out HNX.out HM.out.1 k (by have := HM.out.2; omega)).mono ?_
  rintro e v2 ⟨p2, m2, z2, rfl, hA2, hN2, hl2, hb2⟩
  replace Xa : Hid _ := Xa.out.below hb2
  replace Xr : Hid _ := Xr.out.below hb2
  replace AX : Hid _ := AX.out.below hb2
  replace hbw := Below.on hbw hb2
  clear hb2
  have A2 : Hid (At32 v2 p2 m2 m2 z2) := hA2
  have N2 : Hid (Nf B32 z2 (x.natAbs * 2 ^ k) ∧ m2 ≤ 40000) := ⟨hN2, hl2⟩
  clear hA2 hN2 hl2
  refine hK _ _ ⟨Xa.out.c0, Xa.out.c1⟩ ?_
  clear hK
  have HRB : Hid (gr < v2.heap.size ∧ w.heap.size ≤ v2.heap.size) := ⟨Xr.out.lt, hbw.size⟩
  refine wpJ_on 6 rfl fun KJ hK => ?_
  go_simp
  refine (rmk_any s A2.out N2.out.1 (by have := N2.out.2; omega)).mono ?_
  rintro e v3 ⟨v, rfl, hv, hb3⟩
  rw [HZV.out] at hv
  obtain ⟨s9, g9, m9, rfl, hg9, hz9, hl9⟩ := hv
  have HN9 : Hid (v2.heap.size ≤ g9) := hg9
  replace Xa : Hid _ := Xa.out.below hb3
  replace Xr : Hid _ := Xr.out.below hb3
  replace AX : Hid _ := AX.out.below hb3
  replace A2 : Hid _ := A2.out.below hb3
  replace hbw := Below.on hbw hb3
  clear hb3
  have Z9 : Hid (ZR v3 s9 (some ⟨g9, 0, none⟩) m9 (x * 2 ^ k)) := hz9
  have HL9 : Hid (m9 ≤ 40000) := Nat.le_trans hl9 N2.out.2
  clear hg9 hz9 hl9
  refine hK _ _ ⟨Xa.out.c0, Xa.out.c1⟩ ?_
  clear hK
  obtain ⟨cr0, cr1, fr0, fr1⟩ := Xr.out
  have hner := Xr.out.lt
  obtain ⟨ca0, ca1, fa0, fa1⟩ := Xa.out
  have hnea := Xa.out.lt
  obtain ⟨hgd0, hgd1⟩ := HGD.out
  refine wpJ_on 7 rfl fun KJ hK => ?_
  go_simp
  have HJ2 : Hid ((fun W' : World => W'.cell? ⟨ga, 0, none⟩ = some (.bool s) ∧ W'.cell? ⟨ga, 1, none⟩ = some (.slice p m m)) ((v3.setCell ⟨gr, 0, none⟩ (.bool s9)).setCell ⟨gr, 1, none⟩ (.slice (some ⟨g9, 0, none⟩) m9 m9))) := ⟨by go_simp, by go_simp⟩
  refine hK _ _ HJ2.out ?_
  clear hK HJ
  have HJ := HJ2
  clear HJ2
  refine wpJ_done (by kernel_rfl) ?_ _
  clear HJ
  go_wp2_with fail
  refine bodyPost_ret (v := .agg #[.bool s9, .slice (some ⟨g9, 0, none⟩) m9 m9]) (by rw [results_cell1 rfl]; go_simp) rfl ⟨_, rfl, ⟨s9, g9, m9, rfl, Nat.le_trans HRB.out.2 HN9.out, ?_, HL9.out⟩, ?_⟩
  · have := HN9.out; have := HRB.out.1
    exact (Z9.out.set _ _ _ (by omega)).set _ _ _ (by omega)
  · exact bSet (bSet hbw _ _ _ HGr.out) _ _ _ HGr.out
end Go.Proofs.YtglkjbkpgfencaaGreatDoor
