import Derived.Test.YteooedpaeddkcaaDoorJ9
import Derived.Test.YteooedpaeddkcaaDoorJ8
import Derived.Laws.ResultCell
import Derived.Deep.RegionWith
import Derived.Deep.DeepCutAuto
import Derived.Deep.LoopGhost
import Derived.Lib.OthersKept
import Derived.ArgAppend
import Derived.Lib.SmallJoins
import Derived.OneCell
import Derived.Maps.AppendAt
import Derived.Deep.DeepAppendWide
namespace Go.Proofs.YteooedpaeddkcaaDoor
open Go.RowKit Go.Shelf
set_option maxRecDepth 20000
set_option maxHeartbeats 0
structure B5 (W : World) (g : Nat) (v0 v1 v2 v3 v4 : Value) : Prop where
  c0 : W.cell? ⟨g, 0, none⟩ = some v0
  c1 : W.cell? ⟨g, 1, none⟩ = some v1
  c2 : W.cell? ⟨g, 2, none⟩ = some v2
  c3 : W.cell? ⟨g, 3, none⟩ = some v3
  c4 : W.cell? ⟨g, 4, none⟩ = some v4
  f0 : W.frozen? ⟨g, 0, none⟩ = false
  f1 : W.frozen? ⟨g, 1, none⟩ = false
  f2 : W.frozen? ⟨g, 2, none⟩ = false
  f3 : W.frozen? ⟨g, 3, none⟩ = false
  f4 : W.frozen? ⟨g, 4, none⟩ = false
theorem B5.below {W W' : World} {g : Nat} {v0 v1 v2 v3 v4 : Value} (h : B5 W g v0 v1 v2 v3 v4) (hb : Below W.heap.size W W') : B5 W' g v0 v1 v2 v3 v4 := by
  have hl : g < W.heap.size := World.block_lt_of_cell? W _ h.c0
  exact ⟨(hb.cell (p := ⟨g, 0, none⟩) hl).trans h.c0, (hb.cell (p := ⟨g, 1, none⟩) hl).trans h.c1, (hb.cell (p := ⟨g, 2, none⟩) hl).trans h.c2, (hb.cell (p := ⟨g, 3, none⟩) hl).trans h.c3, (hb.cell (p := ⟨g, 4, none⟩) hl).trans h.c4,
    (hb.frozen (p := ⟨g, 0, none⟩) hl).trans h.f0, (hb.frozen (p := ⟨g, 1, none⟩) hl).trans h.f1, (hb.frozen (p := ⟨g, 2, none⟩) hl).trans h.f2, (hb.frozen (p := ⟨g, 3, none⟩) hl).trans h.f3, (hb.frozen (p := ⟨g, 4, none⟩) hl).trans h.f4⟩
theorem B5.new (w : World) (ty : TypeId) (v0 v1 v2 v3 v4 : Value) : B5 (w.alloc (.cells #[v0, v1, v2, v3, v4] ty)) w.heap.size v0 v1 v2 v3 v4 :=
  ⟨by go_simp, by go_simp, by go_simp, by go_simp, by go_simp, by go_simp, by go_simp, by go_simp, by go_simp, by go_simp⟩
theorem DocIs.inj {v : Nat} {us us' : List Nat} {f f' : Int} (h : DocIs v us f) (k : DocIs v us' f') : us = us' ∧ f = f' := by
  rcases h with ⟨h1, h2, rfl⟩ | ⟨h1, rfl, rfl⟩ <;> rcases k with ⟨k1, k2, rfl⟩ | ⟨k1, rfl, rfl⟩
  · exact ⟨h2.inj B64_one k2, rfl⟩
  · omega
  · omega
  · exact ⟨rfl, rfl⟩
theorem DocIs.er {v : Nat} {us : List Nat} {f : Int} (h : DocIs v us f) : f = 0 ∨ f = 5 := by
  rcases h with ⟨_, _, rfl⟩ | ⟨_, _, rfl⟩ <;> simp
structure Op5 where
  k : Int
  pa : Option Addr
  na : Nat
  ca : Nat
  xa : List Nat
  pb : Option Addr
  nb : Nat
  cb : Nat
  xb : List Nat
  nn : Int
  wd : Nat
structure Scr (w : World) (P : Option Addr) (N C : Nat) (its : List Op5) : Prop where
  len : its.length = N
  cap : N ≤ C
  big : C ≤ maxLen
  ats : ∀ t ∈ its, At w t.pa t.na t.ca t.xa ∧ At w t.pb t.nb t.cb t.xb ∧ t.na ≤ 17592186044416 ∧ t.nb ≤ 17592186044416 ∧ t.wd < B64 ∧ -9223372036854775808 ≤ t.nn ∧ t.nn ≤ 9223372036854775807
  cells : N = 0 ∨ ∃ g off, P = some ⟨g, off, none⟩ ∧ ∀ i (h : i < its.length), w.cell? ⟨g, off + i * 5, none⟩ = some (.int .i64 its[i].k) ∧ w.cell? ⟨g, off + i * 5 + 1, none⟩ = some (.slice its[i].pa its[i].na its[i].ca) ∧
    w.cell? ⟨g, off + i * 5 + 2, none⟩ = some (.slice its[i].pb its[i].nb its[i].cb) ∧ w.cell? ⟨g, off + i * 5 + 3, none⟩ = some (.int .i64 its[i].nn) ∧ w.cell? ⟨g, off + i * 5 + 4, none⟩ = some (U its[i].wd)
theorem Scr.below {w w' : World} {P : Option Addr} {N C : Nat} {its : List Op5} (h : Scr w P N C its) (hb : Below w.heap.size w w') : Scr w' P N C its := by
  refine ⟨h.len, h.cap, h.big, fun t ht => ?_, ?_⟩
  · obtain ⟨h1, h2, h3⟩ := h.ats t ht
    exact ⟨h1.below hb, h2.below hb, h3⟩
  · rcases h.cells with h0 | ⟨g, off, hP, hc⟩
    · exact .inl h0
    · refine .inr ⟨g, off, hP, fun i hi => ?_⟩
      obtain ⟨h0, h1, h2, h3, h4⟩ := hc i hi
      have hl : g < w.heap.size := World.block_lt_of_cell? w _ h0
      exact ⟨(hb.cell (p := ⟨g, off + i * 5, none⟩) hl).trans h0, (hb.cell (p := ⟨g, off + i * 5 + 1, none⟩) hl).trans h1, (hb.cell (p := ⟨g, off + i * 5 + 2, none⟩) hl).trans h2,
        (hb.cell (p := ⟨g, off + i * 5 + 3, none⟩) hl).trans h3, (hb.cell (p := ⟨g, off + i * 5 + 4, none⟩) hl).trans h4⟩
def ShIs (r : Nat → Nat → Nat) (xs : List Nat) (t : Int) (us : List Nat) (f : Int) : Prop :=
  (t < 0 ∧ us = [] ∧ f = 1) ∨ (0 ≤ t ∧ formB xs = false ∧ us = [] ∧ f = 2) ∨ (0 ≤ t ∧ formB xs = true ∧ DocIs (r (valB B64 xs) t.toNat) us f)
theorem ShIs.inj {r : Nat → Nat → Nat} {xs : List Nat} {t : Int} {us us' : List Nat} {f f' : Int} (h : ShIs r xs t us f) (k : ShIs r xs t us' f') : us = us' ∧ f = f' := by
  rcases h with ⟨h1, rfl, rfl⟩ | ⟨h1, h2, rfl, rfl⟩ | ⟨h1, h2, h3⟩ <;> rcases k with ⟨k1, rfl, rfl⟩ | ⟨k1, k2, rfl, rfl⟩ | ⟨k1, k2, k3⟩
  · exact ⟨rfl, rfl⟩
  · omega
  · omega
  · omega
  · exact ⟨rfl, rfl⟩
  · rw [k2] at h2; simp at h2
  · omega
  · rw [k2] at h2; simp at h2
  · exact h3.inj k3
theorem ShIs.er {r : Nat → Nat → Nat} {xs us : List Nat} {t f : Int} (h : ShIs r xs t us f) : f = 0 ∨ f = 1 ∨ f = 2 ∨ f = 3 ∨ f = 4 ∨ f = 5 := by
  rcases h with ⟨_, _, rfl⟩ | ⟨_, _, _, rfl⟩ | ⟨_, _, ⟨_, _, rfl⟩ | ⟨_, _, rfl⟩⟩ <;> simp
structure DigRel32 (w : World) (gq gr L n : Nat) (A D : Nat) (k : Nat) (qs rs : List Nat) (wr : World) : Prop where
  bel : ∀ B, B ≤ gq → B ≤ gr → Below B w wr
  rowq : Row32 wr gq 0 L qs
  rowr : Row32 wr gr 0 (L + n) rs
  cell : ∀ b o, b ≠ gq → b ≠ gr → wr.cell? ⟨b, o, none⟩ = w.cell? ⟨b, o, none⟩
  lt : valB B32 (rs.drop (L - k)) < D
  sum : valB B32 rs + B32 ^ (L - k) * valB B32 (qs.drop (L - k)) * D = A

theorem Row32.other {w : World} {g off n : Nat} {xs : List Nat} (h : Row32 w g off n xs) (g2 o2 : Nat) (v : Value) (hne : g ≠ g2) : Row32 (w.setCell ⟨g2, o2, none⟩ v) g off n xs := by
  refine ⟨h.len, h.dig, fun j hj => ?_, fun j hj => by rw [World.frozen?_setCell]; exact h.frozen j hj⟩
  exact (World.cell?_setCell_other _ _ _ _ (by intro e; apply hne; have := congrArg Addr.block e; simp at this; omega)).trans (h.cell j hj)
theorem Row32.wr {w w' : World} {g off n g2 o2 l2 : Nat} {xs : List Nat} (h : Row32 w g off n xs) (hwr : Wr g2 o2 l2 w w') (hne : g ≠ g2) : Row32 w' g off n xs :=
  ⟨h.len, h.dig, fun j hj => (hwr.cell g (off + j) (.inl hne)).trans (h.cell j hj), fun j hj => (hwr.frozen _).trans (h.frozen j hj)⟩
theorem dig_abs32 {P W q r D T Q A : Nat} (hW : q * D + r = W) (h : T + P * W + P * B32 * Q * D = A) : T + P * r + P * (q + B32 * Q) * D = A := by
  subst hW
  have e1 : P * (q + B32 * Q) * D = P * (q * D) + P * B32 * Q * D := by
    rw [Nat.mul_add, Nat.add_mul, Nat.mul_assoc P q D, ← Nat.mul_assoc P B32 Q]
  rw [e1]
  rw [Nat.mul_add] at h
  omega
theorem DigRel32.window {w : World} {gq gr L n A D k : Nat} {qs rs : List Nat} {wr : World} (h : DigRel32 w gq gr L n A D k qs rs wr) (hk : k < L) (hDn : D < B32 ^ n) :
    ∃ a ws, a = L - 1 - k ∧ ws = (rs.drop a).take (n + 1) ∧ Row32 wr gr a (n + 1) ws ∧ valB B32 ws < B32 * D ∧ valB B32 rs = valB B32 (rs.take a) + B32 ^ a * valB B32 ws ∧ valB B32 (rs.drop (a + (n + 1))) = 0 := by
  have hl := h.rowr.len
  obtain ⟨a, ha⟩ : ∃ a, a = L - 1 - k := ⟨_, rfl⟩
  have hlt := h.lt
  rw [show L - k = a + 1 by omega] at hlt
  have hz : valB B32 (rs.drop (a + (n + 1))) = 0 := by
    have hs := valB_split B32 (rs.drop (a + 1)) n (by rw [List.length_drop]; omega)
    rw [List.drop_drop, show a + 1 + n = a + (n + 1) by omega] at hs
    rcases Nat.eq_zero_or_pos (valB B32 (rs.drop (a + (n + 1)))) with e | e
    · exact e
    · exfalso
      have : B32 ^ n * 1 ≤ B32 ^ n * valB B32 (rs.drop (a + (n + 1))) := Nat.mul_le_mul_left _ e
      omega
  have hw := win_take32 rs a (n + 1) (by omega)
  rw [hz, Nat.mul_zero, Nat.add_zero] at hw
  refine ⟨a, _, ha, rfl, h.rowr.win a (n + 1) (by omega), ?_, hw, hz⟩
  have hs := valB_split B32 (rs.drop a) (n + 1) (by rw [List.length_drop]; omega)
  rw [List.drop_drop, hz, Nat.mul_zero, Nat.add_zero] at hs
  rw [← hs, valB_drop B32 rs a (by omega)]
  have hb := h.rowr.dig.getD B32_pos a
  have : B32 * (valB B32 (rs.drop (a + 1)) + 1) ≤ B32 * D := Nat.mul_le_mul_left _ hlt
  rw [Nat.mul_add] at this
  omega
theorem DigRel32.step {w : World} {gq gr L n A D k : Nat} {qs rs : List Nat} {wr wr' : World} (h : DigRel32 w gq gr L n A D k qs rs wr) (hk : k < L) (hne : gq ≠ gr) {a q : Nat} {ws ws' : List Nat} (ha : a = L - 1 - k)
    (hrs : valB B32 rs = valB B32 (rs.take a) + B32 ^ a * valB B32 ws) (hz : valB B32 (rs.drop (a + (n + 1))) = 0) (hD : 0 < D) (hq : q = valB B32 ws / D) (hqb : q < B32) (hr : valB B32 ws' = valB B32 ws % D)
    (hwr : Wr gr a (n + 1) wr wr') (hrow : Row32 wr' gr a (n + 1) ws') : DigRel32 w gq gr L n A D (k + 1) (qs.set a q) (winPut rs ws' a) (wr'.setCell ⟨gq, a, none⟩ (V q)) := by
  have hl := h.rowr.len; have hql := h.rowq.len; have hwl := hrow.len
  have hle : a + ws'.length ≤ rs.length := by omega
  have e1 : L - (k + 1) = a := by omega
  have e2 : L - k = a + 1 := by omega
  have hdrop : valB B32 ((winPut rs ws' a).drop a) = valB B32 ws % D := by
    rw [winPut_drop rs ws' a hle, valB_append, hwl, hz, Nat.mul_zero, Nat.add_zero, hr]
  refine ⟨fun B h1 h2 => ?_, ?_, ?_, fun b o h1 h2 => ?_, ?_, ?_⟩
  · exact ((h.bel B h1 h2).trans (hwr.below h2)).trans ((Wr.refl gq 0 L wr').setCell a ⟨by omega, by omega⟩ (V q) |>.below h1)
  · have := (h.rowq.wr hwr hne).set a q (by omega) hqb
    rw [Nat.zero_add] at this; exact this
  · exact (h.rowr.put hwr hrow (by omega)).other gq a _ (Ne.symm hne)
  · rw [World.cell?_setCell_other _ _ _ _ (by intro e; apply h1; have := congrArg Addr.block e; simp at this; omega), hwr.cell b o (.inl h2)]
    exact h.cell b o h1 h2
  · rw [e1, hdrop]; exact Nat.mod_lt _ hD
  · have hs := h.sum
    rw [e2, hrs, Nat.pow_succ] at hs
    rw [e1, valB_split B32 (winPut rs ws' a) a (by rw [winPut_len rs ws' a hle]; omega), winPut_take rs ws' a hle, hdrop, drop_set_at qs a q (by omega), valB_cons]
    refine dig_abs32 (W := valB B32 ws) (q := q) ?_ hs
    rw [hq, Nat.mul_comm]; exact Nat.div_add_mod _ _
structure RN (w : World) (p : Option Addr) (m a : Nat) : Prop where
  mem : ∃ zs, At32 w p m m zs ∧ Nf B32 zs a
  len : m ≤ 4000
theorem RN.below {w w' : World} {p : Option Addr} {m a : Nat} (h : RN w p m a) (hb : Below w.heap.size w w') : RN w' p m a := by
  obtain ⟨⟨zs, h1, h2⟩, h3⟩ := h
  exact ⟨⟨zs, h1.below hb, h2⟩, h3⟩
theorem RN.zero {w : World} {p : Option Addr} {m a : Nat} (h : RN w p m a) : m = 0 ↔ a = 0 := by
  obtain ⟨⟨zs, h1, h2⟩, h3⟩ := h
  rw [← h2.zero_iff (by decide), ← h1.len]
  exact List.length_eq_zero_iff
def sb (s : ByteArray) (i : Nat) : Nat := if h : i < s.size then (s[i]'h).toNat else 0
theorem sb_eq {s : ByteArray} {i : Nat} (h : i < s.size) : (s[i]'h).toNat = sb s i := by unfold sb; rw [dif_pos h]
def IsD (s : ByteArray) (i : Nat) : Prop := 48 ≤ sb s i ∧ sb s i ≤ 57
def dN (s : ByteArray) : Nat → Nat
  | 0 => 0
  | i + 1 => dN s i * 10 + (sb s i - 48)
theorem dN_succ (s : ByteArray) (i : Nat) : dN s (i + 1) = dN s i * 10 + (sb s i - 48) := rfl
theorem dN_lt {s : ByteArray} : ∀ {i : Nat}, (∀ j, j < i → IsD s j) → dN s i < 10 ^ i
  | 0, _ => by show 0 < 1; decide
  | i + 1, h => by
    have h1 := dN_lt (fun j hj => h j (by omega) : ∀ j, j < i → IsD s j)
    have h2 := h i (by omega)
    rw [dN_succ, Nat.pow_succ]
    unfold IsD at h2
    omega
theorem ten_pow {n K : Nat} (h : 4 * n ≤ K) : (10 : Nat) ^ n ≤ 2 ^ K := by
  refine Nat.le_trans (Nat.pow_le_pow_left (by decide : 10 ≤ 2 ^ 4) n) ?_
  rw [← Nat.pow_mul]
  exact Nat.pow_le_pow_right (by decide) (by omega)
def RdOk (s : ByteArray) : Prop := s.size ≤ 4900 ∧ s.size ≠ 0 ∧ ∀ j, j < s.size → IsD s j
def rdErr (s : ByteArray) : Int := if 4900 < s.size then 7 else 8
theorem extended_ok {p : Option Addr} {m a : Nat} {w : World} (h : GN w p m a) (v x : Nat) (hv : v < B64) (hx : x < B64) {K : Nat} (hK : K ≤ 100000) (hb : a * v + x < 2 ^ K) :
    Calls Tryd.prog 11 #[.slice p m m, U v, U x] w fun en w' => ∃ q l, en = .returned (.slice q l l) ∧ GO w.heap.size w' q l (a * v + x) ∧ Below w.heap.size w w' := by
  have HA : Hid (GN w p m a) := h
  have HX : Hid (v < B64 ∧ x < B64 ∧ K ≤ 100000 ∧ a * v + x < 2 ^ K ∧ a * v < 2 ^ K) := ⟨hv, hx, hK, hb, by omega⟩
  clear h hv hx hb hK
  go_enter Tryd.func11, Tryd.ntmps11
  go_wp2_with fail
  have hbw : Below w.heap.size w w := Below.refl _ _
  refine (gn_mulw HA.out v HX.out.1 HX.out.2.2.1 HX.out.2.2.2.2).mono ?_
  rintro e v1 ⟨p1, m1, rfl, hR, hb1⟩
  have GN1 : Hid (GN v1 p1 m1 (a * v)) := hR.gn
  clear hR
  replace HA : Hid (GN v1 p m a) := HA.out.below hb1
  replace hbw := Below.on hbw hb1
  clear hb1
  clear HA
  go_wp2_with fail
  refine (gn_word x HX.out.2.1).mono ?_
  rintro e v2 ⟨p2, m2, rfl, hR, hb2⟩
  have GN2 : Hid (GN v2 p2 m2 x) := hR
  clear hR
  replace GN1 : Hid (GN v2 p1 m1 (a * v)) := GN1.out.below hb2
  replace hbw := Below.on hbw hb2
  clear hb2
  go_wp2_with fail
  have HS1 : Hid (w.heap.size ≤ v2.heap.size) := hbw.size
  refine (gn_add GN1.out GN2.out HX.out.2.2.1 HX.out.2.2.2.1).mono ?_
  rintro e v3 ⟨p3, m3, rfl, hR, hb3⟩
  have GO3 : Hid (GO v2.heap.size v3 p3 m3 (a * v + x)) := hR
  clear hR
  replace GN1 : Hid (GN v3 p1 m1 (a * v)) := GN1.out.below hb3
  replace GN2 : Hid (GN v3 p2 m2 x) := GN2.out.below hb3
  replace hbw := Below.on hbw hb3
  clear hb3
  go_wp2_with fail
  go_ret
  exact ⟨_, _, rfl, GO3.out.mono HS1.out, hbw⟩
def TxA (xs : List Nat) (s : ByteArray) (e : Int) : Prop := (formB xs = true ∧ valB B64 xs < TXL ∧ s = ⟨(Lib.decDigits (valB B64 xs)).toArray⟩ ∧ e = 0) ∨ (formB xs = true ∧ ¬ valB B64 xs < TXL ∧ s = ⟨#[]⟩ ∧ e = 5) ∨ (formB xs = false ∧ s = ⟨#[]⟩ ∧ e = 2)
theorem TxA.uniq {xs : List Nat} {s t : ByteArray} {e f : Int} (h : TxA xs s e) (k : TxA xs t f) : s = t ∧ e = f := by
  rcases h with ⟨h1, h2, rfl, rfl⟩ | ⟨h1, h2, rfl, rfl⟩ | ⟨h1, rfl, rfl⟩ <;> rcases k with ⟨k1, k2, rfl, rfl⟩ | ⟨k1, k2, rfl, rfl⟩ | ⟨k1, rfl, rfl⟩
  · exact ⟨rfl, rfl⟩
  · exact absurd h2 k2
  · rw [h1] at k1; cases k1
  · exact absurd k2 h2
  · exact ⟨rfl, rfl⟩
  · rw [h1] at k1; cases k1
  · rw [h1] at k1; cases k1
  · rw [h1] at k1; cases k1
  · exact ⟨rfl, rfl⟩
theorem txl_bits {a : Nat} (h : 19600 < bitsN a) : ¬ a < TXL := by
  have h0 : a ≠ 0 := fun e => by rw [e, bitsN_zero] at h; omega
  have h1 := bitsN_le a h0
  have h2 : (10 : Nat) ^ TXN ≤ 2 ^ (bitsN a - 1) := ten_pow (by unfold TXN; omega)
  unfold TXL
  omega
theorem bits_kk {a : Nat} (h : ¬ 19600 < bitsN a) : a < 2 ^ KKN := Nat.lt_of_lt_of_le (bitsN_lt a) (Nat.pow_le_pow_right (by decide) (by unfold KKN; omega))
theorem text_ok {p : Option Addr} {m c : Nat} {xs : List Nat} {w : World} (h : At w p m c xs) (ht : TbP w) :
    Calls Tryd.prog 7 #[.slice p m c] w fun en w' => ∃ s er, en = .returned (.tuple #[.string s, .int .i64 er]) ∧ TxA xs s er ∧ Below w.heap.size w w' := by
  have AT : Hid (At w p m c xs ∧ TbP w) := ⟨h, ht⟩
  have hl := h.len
  clear ht
  cases hf : formB xs with
  | false =>
    have HF : Hid (formB xs = false) := hf
    go_enter Tryd.func7, Tryd.ntmps7
    go_wp2_with fail
    refine (form_false AT.out.1 hf).mono ?_
    rintro e w1 ⟨rfl, rfl⟩
    clear h
    go_wp2_with fail
    go_ret2
    exact ⟨_, _, rfl, .inr (.inr ⟨HF.out, rfl, rfl⟩), Below.refl _ _⟩
  | true =>
    have hnf := formB_nf hf h.dig
    have HF : Hid (formB xs = true ∧ Nf B64 xs (valB B64 xs) ∧ xs.length ≤ 8192 ∧ xs.length = m) := ⟨hf, hnf.1, hnf.2, hl⟩
    have hmz : m = 0 ↔ valB B64 xs = 0 := by rw [← hnf.1.zero_iff B64_one, ← hl]; exact List.length_eq_zero_iff
    clear h hnf
    by_cases hm0 : m = 0
    · have HV : Hid (valB B64 xs = 0) := hmz.1 hm0
      subst hm0
      clear hmz
      go_enter Tryd.func7, Tryd.ntmps7
      go_wp2_with fail
      refine (form_true AT.out.1 hf).mono ?_
      rintro e w1 ⟨rfl, rfl⟩
      clear hf
      go_wp2_with fail
      go_ret2
      refine ⟨_, _, rfl, .inl ⟨HF.out.1, by rw [HV.out]; exact txl_pos, ?_, rfl⟩, Below.refl _ _⟩
      rw [HV.out, Lib.decDigits_one (by decide)]; rfl
    · have hm1 : ((m : Int) == 0) = false := by simp; omega
      obtain ⟨bn, hbn⟩ : ∃ b, b = bitsN (valB B64 xs) := ⟨_, rfl⟩
      have HBN : Hid (bn = bitsN (valB B64 xs)) := hbn
      have HVZ : Hid (valB B64 xs ≠ 0) := fun e => hm0 (hmz.2 e)
      clear hmz
      go_enter Tryd.func7, Tryd.ntmps7
      go_wp2_with fail
      refine (form_true AT.out.1 hf).mono ?_
      rintro e w1 ⟨rfl, rfl⟩
      clear hf
      go_wp2_with fail
      refine (bits_any AT.out.1 (by have := HF.out; omega)).mono ?_
      rintro e w1 ⟨rfl, rfl⟩
      rw [← hbn]
      clear hbn
      by_cases hb : 19600 < bn
      · have hd1 : decide ((19600 : Int) < (bn : Int)) = true := decide_eq_true (by omega)
        have hd2 : decide (19600 < bn) = true := decide_eq_true hb
        have HNL : Hid (¬ valB B64 xs < TXL) := txl_bits (HBN.out ▸ hb)
        go_wp2_with fail
        go_ret2
        exact ⟨_, _, rfl, .inr (.inl ⟨HF.out.1, HNL.out, rfl, rfl⟩), Below.refl _ _⟩
      · have hd1 : decide ((19600 : Int) < (bn : Int)) = false := decide_eq_false (by omega)
        have hd2 : decide (19600 < bn) = false := decide_eq_false hb
        have HKK : Hid (valB B64 xs < 2 ^ KKN) := bits_kk (HBN.out ▸ hb)
        clear hb
        go_wp2_with fail
        clear hd1 hd2
        refine (padded_ok AT.out.1 HF.out.2.1 (by have := HF.out; omega) HKK.out AT.out.2).mono ?_
        rintro e v1 ⟨l, rfl, hdg, hdv, hb1⟩
        have HL : Hid ((∀ c, c ∈ l → IsDg c) ∧ dval l = valB B64 xs) := ⟨hdg, hdv⟩
        clear hdg hdv
        go_wp2_with fail
        refine (trim_c ⟨l.toArray⟩ 48 (by decide) v1).mono ?_
        rintro e v2 ⟨rfl, rfl⟩
        have htr : Lib.trimLeftB (⟨l.toArray⟩ : ByteArray).data.toList 48 = Lib.decDigits (valB B64 xs) := by have h1 := trim_dec l HL.out.1 (by rw [HL.out.2]; exact HVZ.out); rw [HL.out.2] at h1; exact h1
        rw [htr]
        clear htr
        obtain ⟨ds, hds⟩ : ∃ ds : ByteArray, ds = ⟨(Lib.decDigits (valB B64 xs)).toArray⟩ := ⟨_, rfl⟩
        rw [← hds]
        have hsz : ds.size = (Lib.decDigits (valB B64 xs)).length := by rw [hds]; rfl
        have HD : Hid (ds = ⟨(Lib.decDigits (valB B64 xs)).toArray⟩) := hds
        clear hds
        by_cases hlt : valB B64 xs < TXL
        · have hs : ds.size ≤ 4900 := by rw [hsz]; exact txl_le hlt
          have hd1 : decide ((4900 : Int) < (ds.size : Int)) = false := decide_eq_false (by omega)
          have hd2 : decide (4900 < ds.size) = false := decide_eq_false (by omega)
          have HLT : Hid (valB B64 xs < TXL) := hlt
          clear hsz hlt hs
          go_wp2_with fail
          go_ret2
          exact ⟨_, _, rfl, .inl ⟨HF.out.1, HLT.out, HD.out, rfl⟩, hb1⟩
        · have hs : 4900 < ds.size := by rw [hsz]; exact txl_gt hlt
          have hd1 : decide ((4900 : Int) < (ds.size : Int)) = true := decide_eq_true (by omega)
          have hd2 : decide (4900 < ds.size) = true := decide_eq_true hs
          have HLT : Hid (¬ valB B64 xs < TXL) := hlt
          clear hsz hlt hs
          go_wp2_with fail
          go_ret2
          exact ⟨_, _, rfl, .inr (.inl ⟨HF.out.1, HLT.out, rfl, rfl⟩), hb1⟩
theorem At32.growN {w w' : World} {p : Option Addr} {n c : Nat} {xs : List Nat} {row : Option Nat} (h : At32 w p n c xs) (hg : w.grownBy w' row) (hne : ∀ g off, p = some ⟨g, off, none⟩ → n ≠ 0 → some g ≠ row) : At32 w' p n c xs := by
  refine ⟨h.len, h.cap, h.big, h.dig, ?_⟩
  rcases h.cells with h1 | ⟨g', off, h1, h2⟩
  · exact .inl h1
  · by_cases h0 : n = 0
    · exact .inl h0
    · exact .inr ⟨g', off, h1, fun j hj => hg.cell (h2 j hj) (hne g' off h1 h0)⟩
structure OwB8 (w : World) (hB : Nat) (lv : Value) (k : Nat) (l : List UInt8) : Prop where
  row : w.ownsRow hB 5 1 lv k (Lib.byteCells l)
theorem OwB8.below {w w' : World} {hB k : Nat} {lv : Value} {l : List UInt8} (h : OwB8 w hB lv k l) (hb : Below w.heap.size w w') : OwB8 w' hB lv k l := by
  refine ⟨⟨h.row.1, ?_⟩⟩
  rcases h.row.2 with h2 | ⟨g, cap, cur, h2, h3, h4, h5⟩
  · exact .inl h2
  · have hg : g < w.heap.size := by
      rcases Nat.lt_or_ge g w.heap.size with h6 | h6
      · exact h6
      · rw [Array.getElem?_eq_none h6] at h4; cases h4
    exact .inr ⟨g, cap, cur, h2, h3, (hb.block _ hg).trans h4, h5⟩
theorem OwB8.len {w : World} {hB k : Nat} {lv : Value} {l : List UInt8} (h : OwB8 w hB lv k l) : l.length = k := by
  have h1 := h.row.1
  rw [Lib.byteCells_length] at h1; omega
theorem OwB8.cells {w : World} {hB k : Nat} {lv : Value} {l : List UInt8} (h : OwB8 w hB lv k l) : ∃ p cap, lv = .slice p k cap ∧ k ≤ cap ∧ cap ≤ maxLen ∧ ∀ j, j < k → ∃ g, p = some ⟨g, 0, none⟩ ∧ w.cell? ⟨g, j, none⟩ = some (.int .u8 ((l.getD j 0).toNat : Int)) := by
  rcases h.row.2 with ⟨h1, h2⟩ | ⟨g, cap, cur, h1, h2, h3, h4, h4b, h5⟩
  · exact ⟨none, 0, by rw [h1, h2], by omega, by unfold maxLen; omega, fun j hj => by omega⟩
  · refine ⟨_, cap, h1, h4, h4b, fun j hj => ⟨g, rfl, ?_⟩⟩
    have h6 := h.row
    have hl := h.len
    rw [h1] at h6
    rw [h6.cellAt j (by omega)]
    unfold Lib.byteCells
    rw [List.getElem?_map, List.getElem?_eq_getElem (by omega), List.getD_eq_getElem?_getD, List.getElem?_eq_getElem (by omega)]
    rfl
theorem takeB (l : List UInt8) (n : Nat) (h : n < l.length) : l.take (n + 1) = l.take n ++ [l.getD n 0] := by
  rw [List.take_add_one, List.getD_eq_getElem?_getD, List.getElem?_eq_getElem h]; rfl
theorem dec_low {s : ByteArray} {i : Nat} (h : i < s.size) (hd : sb s i < 128) : Utf8.decode s i = (sb s i, 1) := by
  rw [decode_ascii s i h (by rw [sb_eq h]; exact hd), sb_eq h]
theorem dec_bad {s : ByteArray} {i : Nat} (h : i < s.size) (hd : ¬ IsD s i) : (Utf8.decode s i).1 < 48 ∨ 57 < (Utf8.decode s i).1 := by
  by_cases h1 : sb s i < 128
  · rw [dec_low h h1]; unfold IsD at hd; show sb s i < 48 ∨ 57 < sb s i; omega
  · exact .inr (Nat.lt_of_lt_of_le (by decide) (decode_high s i h (by rw [sb_eq h]; omega)).1)
theorem cell_iter {w : World} {k : Nat} {s : ByteArray} {pos pos' : Nat} (hk : w.heap[k]? = some (.stringIter s pos)) {a : Addr} {v : Value} (h : w.cell? a = some v) : (w.iterAt k s pos').cell? a = some v := by
  by_cases e : a.block = k
  · exfalso
    rw [← e] at hk
    simp [World.cell?, hk] at h
  · rw [World.cell?_of_block (Lib.iterAt_other w k a.block s pos' e)]; exact h
theorem GN.iter {w : World} {k : Nat} {s : ByteArray} {pos : Nat} (hk : w.heap[k]? = some (.stringIter s pos)) (pos' : Nat) {p : Option Addr} {m a : Nat} (h : GN w p m a) : GN (w.iterAt k s pos') p m a := by
  obtain ⟨⟨zs, h1, h2⟩, h3⟩ := h
  refine ⟨⟨zs, ⟨h1.len, h1.cap, h1.big, h1.dig, ?_⟩, h2⟩, h3⟩
  rcases h1.cells with h0 | ⟨g, off, rfl, hc⟩
  · exact .inl h0
  · exact .inr ⟨g, off, rfl, fun j hj => cell_iter hk (hc j hj)⟩
theorem rdw {t pc k : Nat} (h1 : pc < 10 ^ k) (h2 : k < 19) (h3 : 48 ≤ t) (h4 : t ≤ 57) : IntKind.u64.wrap (10 * (pc : Int) + ((t - 48 : Nat) : Int)) = ((10 * pc + (t - 48) : Nat) : Int) ∧ IntKind.u64.wrap (10 * (pc : Int)) = ((10 * pc : Nat) : Int) ∧ IntKind.u64.wrap (10 * ((10 ^ k : Nat) : Int)) = ((10 ^ (k + 1) : Nat) : Int) := by
  have h5 : (10 : Nat) ^ k ≤ 10 ^ 18 := Nat.pow_le_pow_right (by decide) (by omega)
  have h6 : (10 : Nat) ^ (k + 1) = 10 * 10 ^ k := by rw [Nat.pow_succ, Nat.mul_comm]
  simp only [IntKind.wrap_u64]
  rw [h6]
  generalize 10 ^ k = z at *
  omega
theorem rdu {t : Nat} (h3 : 48 ≤ t) (h4 : t ≤ 57) : IntKind.i32.wrap ((t : Int) - 48) = ((t - 48 : Nat) : Int) ∧ IntKind.u64.wrap ((t - 48 : Nat) : Int) = ((t - 48 : Nat) : Int) := by
  rw [IntKind.wrap_u64, IntKind.wrap_i32]; omega
theorem read_ok (s : ByteArray) {w : World} : Calls Tryd.prog 4 #[.string s] w fun en w' => ((RdOk s ∧ ∃ q l, en = .returned (.tuple #[.slice q l l, .int .i64 0]) ∧ GO w.heap.size w' q l (dN s s.size)) ∨ (¬ RdOk s ∧ en = .returned (.tuple #[.slice none 0 0, .int .i64 (rdErr s)]))) ∧ Below w.heap.size w w' := by
  by_cases h1 : 4900 < s.size
  · have h1' : decide ((4900 : Int) < (s.size : Int)) = true := decide_eq_true (by omega)
    have h1'' : decide (4900 < s.size) = true := decide_eq_true h1
    have HE : Hid (rdErr s = 7 ∧ ¬ RdOk s) := ⟨by unfold rdErr; rw [if_pos h1], fun h => by unfold RdOk at h; omega⟩
    clear h1
    go_enter Tryd.func4, Tryd.ntmps4
    go_wp2_with fail
    go_ret2
    exact ⟨.inr ⟨HE.out.2, by rw [HE.out.1]; rfl⟩, Below.refl _ _⟩
  by_cases h2 : s.size = 0
  · have HE : Hid (rdErr s = 8 ∧ ¬ RdOk s) := ⟨by unfold rdErr; rw [if_neg h1], fun h => by unfold RdOk at h; omega⟩
    obtain rfl : s = ⟨#[]⟩ := by cases s with | mk d => cases d with | mk l => cases l with | nil => rfl | cons a l => simp [ByteArray.size] at h2
    clear h1 h2
    go_enter Tryd.func4, Tryd.ntmps4
    go_wp2_with fail
    go_ret2
    exact ⟨.inr ⟨HE.out.2, by rw [HE.out.1]; rfl⟩, Below.refl _ _⟩
  have h1' : decide ((4900 : Int) < (s.size : Int)) = false := decide_eq_false (by omega)
  have h1'' : decide (4900 < s.size) = false := decide_eq_false h1
  have h2' : (s.toList == []) = false := by simp only [beq_eq_false_iff_ne, ne_eq]; intro h; apply h2; rw [ByteArray.toList_eq] at h; show s.data.size = 0; rw [← Array.length_toList, h]; rfl
  have HE : Hid (s.size ≤ 4900 ∧ s.size ≠ 0 ∧ rdErr s = 8) := ⟨by omega, h2, by unfold rdErr; rw [if_neg h1]⟩
  clear h1 h2
  go_enter Tryd.func4, Tryd.ntmps4
  go_wp2_with fail
  obtain ⟨W0, hW0⟩ : ∃ W0, W0 = w.iter s 0 := ⟨_, rfl⟩
  have HI : Hid (W0.heap[w.heap.size]? = some (.stringIter s 0)) := by rw [hW0]; exact World.iter_heap w s 0
  have hbw : Below w.heap.size w W0 := by rw [hW0]; exact below1 w _
  rw [← hW0]
  clear hW0 h1' h1'' h2'
  obtain ⟨gi, hgi⟩ : ∃ g, g = w.heap.size := ⟨_, rfl⟩
  have HGI : Hid (w.heap.size ≤ gi) := by rw [hgi]; exact Nat.le_refl _
  rw [← hgi] at HI
  rw [← hgi]
  clear hgi
  go_loopg [4, 5, 6] s.size (fun gk vv pv sv wr => ∃ (pos k a pc m : Nat) (p : Option Addr), pos + gk = s.size ∧ vv = .slice p m m ∧ pv = U pc ∧ sv = U (10 ^ k) ∧ k < 19 ∧ pc < 10 ^ k ∧ a * 10 ^ k + pc = dN s pos ∧ (∀ j, j < pos → IsD s j) ∧ GN wr p m a ∧ wr.heap[gi]? = some (.stringIter s pos) ∧ Below w.heap.size w wr)
  case atStart => exact ⟨0, 0, 0, 0, 0, none, by omega, rfl, rfl, rfl, by decide, by decide, rfl, fun j hj => by omega, GN.nil _ _, HI.out, hbw⟩
  case round =>
    obtain ⟨pos, k, a, pc, m, p, hig, rfl, rfl, rfl, hk, hpc, hval, hdig, xg, xi, hbr⟩ := hrel
    clear HI hbw
    have GNa : Hid (GN wr p m a) := xg
    have HI : Hid (wr.heap[gi]? = some (.stringIter s pos)) := xi
    have hbw := hbr
    have HV : Hid (a * 10 ^ k + pc = dN s pos ∧ pc < 10 ^ k ∧ k < 19 ∧ ∀ j, j < pos → IsD s j) := ⟨hval, hpc, hk, hdig⟩
    clear xg xi hbr hval hpc hk hdig
    by_cases hp : pos < s.size
    · by_cases hd : IsD s pos
      · obtain ⟨g, rfl⟩ : ∃ g, gk = g + 1 := ⟨gk - 1, by omega⟩
        have hnx := fun ty => Lib.run_next_any_at (P := Tryd.prog) wr gi s pos ty HI.out hp
        have hd0 := hd
        unfold IsD at hd0
        have hdec := dec_low hp (by omega)
        obtain ⟨t, ht⟩ : ∃ t, t = sb s pos := ⟨_, rfl⟩
        rw [hdec, ← ht] at hnx
        rw [← ht] at hd0
        have hw1 := rdu hd0.1 hd0.2
        have hw2 := rdw (t := t) HV.out.2.1 HV.out.2.2.1 hd0.1 hd0.2
        have HD : Hid (IsD s pos ∧ t = sb s pos ∧ pos < s.size ∧ pos + (g + 1) = s.size) := ⟨hd, ht, hp, hig⟩
        obtain ⟨c, hc⟩ : ∃ c, c = t - 48 := ⟨_, rfl⟩
        obtain ⟨z, hz⟩ : ∃ z, z = 10 ^ k := ⟨_, rfl⟩
        obtain ⟨z1, hz1⟩ : ∃ z, z = 10 ^ (k + 1) := ⟨_, rfl⟩
        obtain ⟨q, hq⟩ : ∃ q, q = 10 * pc + c := ⟨_, rfl⟩
        obtain ⟨q0, hq0⟩ : ∃ q, q = 10 * pc := ⟨_, rfl⟩
        rw [← hc] at hw1 hw2
        rw [← hz, ← hz1, ← hq, ← hq0] at hw2
        rw [← hz]
        have HZ : Hid (c = t - 48 ∧ z = 10 ^ k ∧ z1 = 10 ^ (k + 1) ∧ q = 10 * pc + c) := ⟨hc, hz, hz1, hq⟩
        have t1 : decide ((t : Int) < 48) = false := decide_eq_false (by omega)
        have t2 : decide ((57 : Int) < (t : Int)) = false := decide_eq_false (by omega)
        have t3 : decide (t < 48) = false := decide_eq_false (by omega)
        have t4 : decide (57 < t) = false := decide_eq_false (by omega)
        obtain ⟨wa, wb⟩ := hw1
        obtain ⟨wc, wd, we⟩ := hw2
        have wc' : IntKind.u64.wrap ((q0 : Int) + (c : Int)) = (q : Int) := by rw [IntKind.wrap_u64] at wc ⊢; omega
        have HVV := HV.out
        by_cases hk : k = 18
        · have e19 : ((z1 : Int) == 10000000000000000000) = true := by rw [hz1, hk]; decide
          have HZ1 : Hid (z1 < B64 ∧ q < B64) := by have h9 := HVV.2.1; rw [hk] at h9; refine ⟨by rw [hz1, hk]; decide, ?_⟩; show q < 18446744073709551616; rw [show (10 : Nat) ^ 18 = 1000000000000000000 by decide] at h9; omega
          have HK18 : Hid (k = 18) := hk
          have HN : Hid (a * z1 + q = dN s (pos + 1) ∧ q < z1) := by rw [dN_succ, ← HVV.1, hz1, hq, hc, ht, Nat.pow_succ]; rw [ht] at hd0; have h5 := HVV.2.1; generalize 10 ^ k = y at *; refine ⟨?_, by omega⟩; rw [Nat.add_mul, Nat.mul_comm 10 pc, Nat.mul_assoc, Nat.add_assoc]
          have HDD : Hid (∀ j, j < pos + 1 → IsD s j) := fun j hj => by rcases Nat.lt_or_ge j pos with h | h; exact HVV.2.2.2 j h; rw [show j = pos by omega]; exact hd
          clear hd hp hig hdec ht hd0 hc hz hz1 hq hq0 hk HVV
          go_wp2_with fail
          clear t1 t2 t3 t4 wa wb wc wd we wc' e19 hnx
          have GNb : Hid (GN (wr.iterAt gi s (pos + 1)) p m a) := GN.iter HI.out _ GNa.out
          have HI2 : Hid ((wr.iterAt gi s (pos + 1)).heap[gi]? = some (.stringIter s (pos + 1))) := Lib.iterAt_heap wr gi s pos (pos + 1) HI.out
          have hbw2 : Below w.heap.size w (wr.iterAt gi s (pos + 1)) := Lib.below_iterAt hbw HGI.out s _
          generalize (wr.iterAt gi s (pos + 1)) = W1 at *
          clear GNa HI hbw
          obtain ⟨KK, hK1, hK2⟩ : ∃ K : Nat, K ≤ 100000 ∧ 19600 ≤ K := ⟨20000, by decide, by decide⟩
          refine (extended_ok GNb.out z1 q HZ1.out.1 HZ1.out.2 (K := KK) hK1 (by rw [HN.out.1]; exact Nat.lt_of_lt_of_le (dN_lt HDD.out) (ten_pow (by have h1 := HE.out.1; have h2 := HD.out.2.2.1; omega)))).mono ?_
          rintro e v1 ⟨p1, m1, rfl, hR, hb1⟩
          clear hK1 hK2
          have GN1 : Hid (GN v1 p1 m1 (a * z1 + q)) := hR.gn
          clear hR
          have HI3 : Hid (v1.heap[gi]? = some (.stringIter s (pos + 1))) := (hb1.block gi (Array.getElem?_eq_some_iff.1 HI2.out).1).trans HI2.out
          have hbw3 := Below.on hbw2 hb1
          clear GNb HI2 hbw2 hb1
          go_wp2_with fail
          go_roundg g
          case measure => omega
          case rel => exact ⟨pos + 1, 0, dN s (pos + 1), 0, m1, p1, by have := HD.out.2.2.2; omega, rfl, rfl, rfl, by decide, by decide, by rw [Nat.pow_zero, Nat.mul_one, Nat.add_zero], HDD.out, HN.out.1 ▸ GN1.out, HI3.out, hbw3⟩
        · have e19 : ((z1 : Int) == 10000000000000000000) = false := by rw [hz1, beq_eq_false_iff_ne]; have h9 : (10 : Nat) ^ (k + 1) ≤ 10 ^ 18 := Nat.pow_le_pow_right (by decide) (by have := HVV.2.2.1; omega); rw [show (10 : Nat) ^ 18 = 1000000000000000000 by decide] at h9; omega
          have HK18 : Hid (k ≠ 18) := hk
          have HN : Hid (a * z1 + q = dN s (pos + 1) ∧ q < z1) := by rw [dN_succ, ← HVV.1, hz1, hq, hc, ht, Nat.pow_succ]; rw [ht] at hd0; have h5 := HVV.2.1; generalize 10 ^ k = y at *; refine ⟨?_, by omega⟩; rw [Nat.add_mul, Nat.mul_comm 10 pc, Nat.mul_assoc, Nat.add_assoc]
          have HDD : Hid (∀ j, j < pos + 1 → IsD s j) := fun j hj => by rcases Nat.lt_or_ge j pos with h | h; exact HVV.2.2.2 j h; rw [show j = pos by omega]; exact hd
          clear hd hp hig hdec ht hd0 hc hz hz1 hq hq0 hk HVV
          go_wp2_with fail
          clear t1 t2 t3 t4 wa wb wc wd we wc' e19 hnx
          have GNb : Hid (GN (wr.iterAt gi s (pos + 1)) p m a) := GN.iter HI.out _ GNa.out
          have HI2 : Hid ((wr.iterAt gi s (pos + 1)).heap[gi]? = some (.stringIter s (pos + 1))) := Lib.iterAt_heap wr gi s pos (pos + 1) HI.out
          have hbw2 : Below w.heap.size w (wr.iterAt gi s (pos + 1)) := Lib.below_iterAt hbw HGI.out s _
          generalize (wr.iterAt gi s (pos + 1)) = W1 at *
          clear GNa HI hbw
          go_roundg g
          case measure => omega
          case rel => exact ⟨pos + 1, k + 1, a, q, m, p, by have := HD.out.2.2.2; omega, rfl, rfl, by rw [HZ.out.2.2.1], by have h1 := HV.out.2.2.1; have h2 := HK18.out; omega, by rw [← HZ.out.2.2.1]; exact HN.out.2, by rw [← HZ.out.2.2.1]; exact HN.out.1, HDD.out, GNb.out, HI2.out, hbw2⟩
      · have hnx := fun ty => Lib.run_next_any_at (P := Tryd.prog) wr gi s pos ty HI.out hp
        have hdec := dec_bad hp hd
        have HNO : Hid (¬ RdOk s) := fun h => hd (h.2.2 pos hp)
        obtain ⟨t, ht⟩ : ∃ t, t = (Utf8.decode s pos).1 := ⟨_, rfl⟩
        obtain ⟨l, hl⟩ : ∃ t, t = (Utf8.decode s pos).2 := ⟨_, rfl⟩
        rw [← ht, ← hl] at hnx
        rw [← ht] at hdec
        obtain ⟨z, hz⟩ : ∃ z, z = 10 ^ k := ⟨_, rfl⟩
        rw [← hz]
        clear hp hd ht hl hz hig
        rcases hdec with hdec | hdec
        · have t1 : decide ((t : Int) < 48) = true := decide_eq_true (by omega)
          have t3 : decide (t < 48) = true := decide_eq_true (by omega)
          clear hdec
          go_wp2_with fail
          go_ret2
          exact ⟨.inr ⟨HNO.out, by rw [HE.out.2.2]; rfl⟩, Lib.below_iterAt hbw HGI.out s _⟩
        · have t1 : decide ((t : Int) < 48) = false := decide_eq_false (by omega)
          have t3 : decide (t < 48) = false := decide_eq_false (by omega)
          have t2 : decide ((57 : Int) < (t : Int)) = true := decide_eq_true (by omega)
          have t4 : decide (57 < t) = true := decide_eq_true (by omega)
          clear hdec
          go_wp2_with fail
          go_ret2
          exact ⟨.inr ⟨HNO.out, by rw [HE.out.2.2]; rfl⟩, Lib.below_iterAt hbw HGI.out s _⟩
    · have hnx := fun ty => Lib.run_next_end_at (P := Tryd.prog) wr gi s pos ty HI.out hp
      obtain rfl : pos = s.size := by omega
      have HOK : Hid (RdOk s) := ⟨HE.out.1, HE.out.2.1, HV.out.2.2.2⟩
      obtain ⟨z, hz⟩ : ∃ z, z = 10 ^ k := ⟨_, rfl⟩
      have HZ1 : Hid (z < B64 ∧ pc < B64 ∧ a * z + pc = dN s s.size) := by have h1 := HV.out; have h9 : (10 : Nat) ^ k ≤ 10 ^ 18 := Nat.pow_le_pow_right (by decide) (by omega); rw [← hz] at h1 h9; exact ⟨Nat.lt_of_le_of_lt h9 (by decide), Nat.lt_trans h1.2.1 (Nat.lt_of_le_of_lt h9 (by decide)), h1.1⟩
      rw [← hz]
      clear hz hig hp
      go_wp2_with fail
      clear hnx
      have HSZ : Hid (w.heap.size ≤ wr.heap.size) := hbw.size
      obtain ⟨KK, hK1, hK2⟩ : ∃ K : Nat, K ≤ 100000 ∧ 19600 ≤ K := ⟨20000, by decide, by decide⟩
      refine (extended_ok GNa.out z pc HZ1.out.1 HZ1.out.2.1 (K := KK) hK1 (by rw [HZ1.out.2.2]; exact Nat.lt_of_lt_of_le (dN_lt HOK.out.2.2) (ten_pow (by have h1 := HE.out.1; omega)))).mono ?_
      rintro e v1 ⟨p1, m1, rfl, hR, hb1⟩
      clear hK1 hK2
      have GO1 : Hid (GO w.heap.size v1 p1 m1 (a * z + pc)) := hR.mono HSZ.out
      have hbw2 := Below.on hbw hb1
      clear hR hbw hb1
      go_wp2_with fail
      go_ret2
      exact ⟨.inl ⟨HOK.out, _, _, rfl, HZ1.out.2.2 ▸ GO1.out⟩, hbw2⟩
theorem sb_list (s : ByteArray) (i : Nat) (h : i < s.size) : sb s i = (s.data.toList.getD i 0).toNat := by
  unfold sb
  rw [dif_pos h, List.getD_eq_getElem?_getD, List.getElem?_eq_getElem (by rw [Array.length_toList]; exact h)]; rfl
theorem dN_list (s : ByteArray) : ∀ i, i ≤ s.size → dN s i = dval (s.data.toList.take i)
  | 0, _ => rfl
  | i + 1, h => by
    rw [dN_succ, dN_list s i (by omega), takeB _ i (by rw [Array.length_toList]; exact h), dval_snoc, sb_list s i (by omega)]
theorem dN_all (s : ByteArray) : dN s s.size = dval s.data.toList := by
  rw [dN_list s s.size (Nat.le_refl _), List.take_of_length_le (by rw [Array.length_toList]; exact Nat.le_refl _)]
theorem rdok_dec {v : Nat} (h : v < TXL) : RdOk ⟨(Lib.decDigits v).toArray⟩ ∧ dN ⟨(Lib.decDigits v).toArray⟩ (Lib.decDigits v).length = v := by
  have hs : (⟨(Lib.decDigits v).toArray⟩ : ByteArray).size = (Lib.decDigits v).length := rfl
  have hp := Lib.nDigits_pos v
  rw [← Lib.decDigits_length] at hp
  refine ⟨⟨by rw [hs]; exact txl_le h, by rw [hs]; omega, fun j hj => ?_⟩, ?_⟩
  · have h1 := dec_dg v ((Lib.decDigits v).getD j 0) (by rw [List.getD_eq_getElem?_getD, List.getElem?_eq_getElem hj]; exact List.getElem_mem _)
    unfold IsD
    rw [sb_list _ j hj]
    exact h1
  · have h1 := dN_all ⟨(Lib.decDigits v).toArray⟩
    rw [hs] at h1
    rw [h1]; exact dval_dec v
def lit40 : ByteArray := ⟨#[48, 48, 52, 48]⟩
theorem lit40_ok : RdOk lit40 := ⟨by decide, by decide, by have h : ∀ j : Fin 4, 48 ≤ sb lit40 j.1 ∧ sb lit40 j.1 ≤ 57 := by decide +kernel
                                                           exact fun j hj => h ⟨j, hj⟩⟩
theorem lit40_v : dN lit40 lit40.size = 40 := by decide +kernel
theorem lit40_nf : Nf B64 [40] 40 := ⟨dig1 (by decide), by intro x hx; simp at hx; omega, by simp [valB, B64]⟩
end Go.Proofs.YteooedpaeddkcaaDoor
namespace Go.Proofs.YteooedpaeddkcaaDoor
open Go.RowKit
set_option maxRecDepth 20000
set_option maxHeartbeats 0
variable {P : Program} {md : Region.Mode} {ops : Array Oper} {Q : Exit → Act → World → Prop} {J : World → Prop} {L : Nat}

def ClosedL (md : Region.Mode) (ops : Array Oper) (listed : Array Bool) : Prop :=
  ∀ (k : Nat) (o : Oper), ops[k]? = some o → listed.getD k false = true → ∀ e ∈ o.after, Region.binds md e = true → listed.getD e.on false = true
theorem ClosedL.step {listed : Array Bool} (h : ClosedL md ops listed) {j : Nat} (hj : j ∈ Region.ready md ops listed) : ClosedL md ops (listed.setIfInBounds j true) := by
  intro k o ho hk e he hb
  obtain ⟨h0, oj, hoj, hall⟩ := mem_ready.1 hj
  by_cases hjk : j = k
  · subst hjk
    rw [hoj] at ho
    obtain rfl := Option.some.inj ho
    exact getD_set_true (hall e he hb)
  · rw [getD_set_ne false hjk] at hk
    exact getD_set_true (h k o ho hk e he hb)
end Go.Proofs.YteooedpaeddkcaaDoor
namespace Go.Proofs.YteooedpaeddkcaaDoor
open Go.RowKit Go.Shelf
set_option maxRecDepth 20000
set_option maxHeartbeats 0
theorem cell_new5 (w : World) (v : Value) (t : TypeId) : ∀ j u, [v][j]? = some u → (w.alloc (.cells #[v] t)).cell? ((⟨w.heap.size, 0, none⟩ : Addr).add j) = some u := by
  intro j u h
  cases j with
  | zero => simp at h; subst h; simp [Addr.add]
  | succ j => simp at h
def mkR (i j : Nat) : Nat := (i + 1) * 1000003 + j * 7919 + 6485183463413514240
theorem mkR_lt {i j : Nat} (hi : i ≤ 1000) (hj : j < 100000000000000) : mkR i j < B64 := by unfold mkR; show _ < 18446744073709551616; omega
def rmy (i : Nat) (xs : List Nat) : List Nat := xs ++ (List.range 6).map (fun j => mkR i (300000 + j))
theorem rmy_take (i : Nat) (xs : List Nat) : (rmy i xs).take xs.length = xs := by simp [rmy]
theorem rmy_lo {k : Nat} {xs : List Nat} {i : Nat} (h : i < xs.length) : (rmy k xs).getD i 0 = xs.getD i 0 := by
  unfold rmy
  rw [List.getD_eq_getElem?_getD, List.getElem?_append_left h, ← List.getD_eq_getElem?_getD]
theorem rmy_hi {k : Nat} {xs : List Nat} {i : Nat} (h : xs.length ≤ i) (h2 : i < xs.length + 6) : (rmy k xs).getD i 0 = mkR k (300000 + i - xs.length) := by
  unfold rmy
  rw [List.getD_eq_getElem?_getD, List.getElem?_append_right h, List.getElem?_map, List.getElem?_range (by omega)]
  show mkR k (300000 + (i - xs.length)) = _
  rw [show 300000 + (i - xs.length) = 300000 + i - xs.length by omega]
theorem mark3_ok (i j : Nat) (hi : i ≤ 1000) (hj : j < 100000000000000) {w : World} :
    Calls Tryd.prog 9 #[.int .i64 i, .int .i64 j] w fun en w' => en = .returned (U (mkR i j)) ∧ w' = w := by
  have h0 : wrap64 ((i : Int) + 1) = (i : Int) + 1 := by simp only [wrap64]; omega
  have h1 : IntKind.u64.wrap (j : Int) = (j : Int) := by rw [IntKind.wrap_u64]; omega
  have h3 : IntKind.u64.wrap ((i : Int) + 1) = (i : Int) + 1 := by rw [IntKind.wrap_u64]; omega
  have h4 : IntKind.u64.wrap ((j : Int) * 7919) = (j : Int) * 7919 := by rw [IntKind.wrap_u64]; omega
  have h5 : IntKind.u64.wrap (((i : Int) + 1) * 1000003) = ((i : Int) + 1) * 1000003 := by rw [IntKind.wrap_u64]; omega
  have h6 : IntKind.u64.wrap (((i : Int) + 1) * 1000003 + (j : Int) * 7919) = ((i : Int) + 1) * 1000003 + (j : Int) * 7919 := by rw [IntKind.wrap_u64]; omega
  have h7 : IntKind.u64.wrap (((i : Int) + 1) * 1000003 + (j : Int) * 7919 + 6485183463413514240) = ((mkR i j : Nat) : Int) := by rw [IntKind.wrap_u64]; unfold mkR; omega
  clear hi hj
  go_enter Tryd.func9, Tryd.ntmps9
  go_wp2_with fail
  go_ret
  exact ⟨rfl, rfl⟩
theorem kept3_ok {p : Option Addr} {n c g k : Nat} {xs : List Nat} {w : World} (h : At w p n c xs) (r : At w (some ⟨g, 0, none⟩) (n + 6) (n + 6) (rmy k xs)) (hn : n ≤ 35184372088832) (hk : k ≤ 1000) :
    Calls Tryd.prog 8 #[.slice p n c, .slice (some ⟨g, 0, none⟩) (n + 6) (n + 6), .int .i64 k] w fun en w' => en = .returned (.bool true) ∧ Below w.heap.size w w' := by
  have HX : Hid (At w p n c xs) := h
  have HK : Hid (At w (some ⟨g, 0, none⟩) (n + 6) (n + 6) (rmy k xs)) := r
  have HL : Hid (xs.length = n) := h.len
  have HKK : Hid (k ≤ 1000) := hk
  have wn : wrap64 ((n : Int) + 6) = ((n + 6 : Nat) : Int) := by simp only [wrap64]; omega
  clear h r hk
  go_enter Tryd.func8, Tryd.ntmps8
  go_wp2_with fail
  go_loopg [7] (n + 6) (fun gk jv wr => ∃ (j : Nat), j + gk = n + 6 ∧ jv = .int .i64 j ∧ Below w.heap.size w wr)
  case atStart => exact ⟨0, by omega, rfl, Below.refl _ _⟩
  case round =>
    obtain ⟨j, hjg, rfl, hbw⟩ := hrel
    cases gk with
    | zero =>
      obtain rfl : j = n + 6 := by omega
      have hnk : ¬ ((n + 6 : Nat) : Int) < ((n + 6 : Nat) : Int) := by omega
      go_wp2_with fail
      go_ret
      exact ⟨rfl, hbw⟩
    | succ gg =>
      clear wn
      have hjl : (j : Int) < ((n + 6 : Nat) : Int) := by omega
      have hj2 : (0 : Int) ≤ (j : Int) ∧ (j : Int) < ((n + 6 : Nat) : Int) := by omega
      have hj3 : (0 : Int) ≤ (j : Int) ∧ (j : Int) < (n : Int) + 6 := by omega
      have wj : wrap64 ((j : Int) + 1) = ((j + 1 : Nat) : Int) := by simp only [wrap64]; omega
      have hcf : w.cell? ⟨g, j, none⟩ = some (U ((rmy k xs).getD j 0)) := by rcases HK.out.cells with h0 | ⟨g', o', h1, h2⟩; omega; simp only [Option.some.injEq, Addr.mk.injEq, and_true] at h1; obtain ⟨rfl, rfl⟩ := h1; have h3 := h2 j (by omega); rw [Nat.zero_add] at h3; exact h3
      have HCF : Hid (w.cell? ⟨g, j, none⟩ = some (U ((rmy k xs).getD j 0))) := hcf
      clear hcf
      by_cases hjn : j < n
      · have hs := rmy_lo (k := k) (xs := xs) (i := j) (by rw [HL.out]; exact hjn)
        obtain ⟨ga, oa, rfl, hca⟩ := HX.out.cells.resolve_left (by omega)
        have HCA : Hid (w.cell? ⟨ga, oa + j, none⟩ = some (U (xs.getD j 0))) := hca j hjn
        rw [hs] at HCF
        obtain ⟨x, hx⟩ : ∃ x, x = xs.getD j 0 := ⟨_, rfl⟩
        rw [← hx] at HCF HCA
        have hj5 : (j : Int) < (n : Int) := by omega
        have hj6 : (0 : Int) ≤ (j : Int) ∧ (j : Int) < (n : Int) := by omega
        have dd1 : decide ((j : Int) < (n : Int)) = true := decide_eq_true hj5
        have dd2 : decide ((n : Int) ≤ (j : Int)) = false := decide_eq_false (by omega)
        have dd3 : decide (j < n) = true := decide_eq_true hjn
        have dd4 : decide (n ≤ j) = false := decide_eq_false (by omega)
        clear hs hca hx
        go_wp2_with fail
        obtain ⟨W1, hW1⟩ : ∃ W1, W1 = wr.drew := ⟨_, rfl⟩
        have hbd : Below wr.heap.size wr W1 := by rw [hW1]; exact bDrew1 (Below.refl _ _)
        replace hbw := Below.on hbw hbd
        clear hbd
        have HJ : Hid ((fun W' : World => W'.cell? ⟨g, j, none⟩ = some (U x) ∧ W'.cell? ⟨ga, oa + j, none⟩ = some (U x)) W1) := ⟨((hbw.cell (p := ⟨g, j, none⟩) (World.block_lt_of_cell? w _ HCF.out)).trans HCF.out), ((hbw.cell (p := ⟨ga, oa + j, none⟩) (World.block_lt_of_cell? w _ HCA.out)).trans HCA.out)⟩
        refine wp_region_J (fun W' => W'.cell? ⟨g, j, none⟩ = some (U x) ∧ W'.cell? ⟨ga, oa + j, none⟩ = some (U x)) (by kernel_rfl) ?_
        rw [← hW1]
        clear hW1
        refine wpJ_tq 0 rfl HJ.out ?_
        refine wpJ_tq 1 rfl HJ.out ?_
        refine wpJ_tq 2 rfl HJ.out ?_
        refine wpJ_tq 3 rfl HJ.out ?_
        refine wpJ_tq 4 rfl HJ.out ?_
        go_simp
        refine wpJ_tq 5 rfl HJ.out ?_
        refine wpJ_tq 6 rfl HJ.out ?_
        refine wpJ_tq 7 rfl HJ.out ?_
        refine wpJ_tq 8 rfl HJ.out ?_
        refine wpJ_tq 9 rfl HJ.out ?_
        go_simp
        refine wpJ_tq 10 rfl HJ.out ?_
        refine wpJ_tq 11 rfl HJ.out ?_
        refine wpJ_tq 12 rfl HJ.out ?_
        refine wpJ_tq 13 rfl HJ.out ?_
        refine wpJ_tq 14 rfl HJ.out ?_
        go_simp
        refine wpJ_tq 15 rfl HJ.out ?_
        refine wpJ_tq 16 rfl HJ.out ?_
        refine wpJ_tq 17 rfl HJ.out ?_
        refine wpJ_tq 18 rfl HJ.out ?_
        refine wpJ_tq 19 rfl HJ.out ?_
        go_simp
        refine wpJ_tq 20 rfl HJ.out ?_
        refine wpJ_sk 21 rfl HJ.out ?_
        refine wpJ_sk 22 rfl HJ.out ?_
        refine wpJ_sk 23 rfl HJ.out ?_
        refine wpJ_sk 24 rfl HJ.out ?_
        go_simp
        refine wpJ_sk 25 rfl HJ.out ?_
        refine wpJ_sk 26 rfl HJ.out ?_
        refine wpJ_sk 27 rfl HJ.out ?_
        refine wpJ_sk 28 rfl HJ.out ?_
        refine wpJ_sk 29 rfl HJ.out ?_
        go_simp
        refine wpJ_sk 30 rfl HJ.out ?_
        refine wpJ_sk 31 rfl HJ.out ?_
        refine wpJ_sk 32 rfl HJ.out ?_
        refine wpJ_tq 33 rfl HJ.out ?_
        refine wpJ_tq 34 rfl HJ.out ?_
        refine wpJ_done (by kernel_rfl) ?_ _
        clear HJ
        clear dd1 dd2 dd3 dd4
        go_wp2_with fail
        go_roundg gg
        case measure => omega
        case rel => exact ⟨j + 1, by omega, by go_num, hbw⟩
      · have hs := rmy_hi (k := k) (xs := xs) (i := j) (by rw [HL.out]; omega) (by rw [HL.out]; omega)
        rw [HL.out] at hs
        rw [hs] at HCF
        obtain ⟨x, hx⟩ : ∃ x, x = mkR k (300000 + j - n) := ⟨_, rfl⟩
        rw [← hx] at HCF
        have HXX : Hid (x = mkR k (300000 + j - n)) := hx
        obtain ⟨y, hy⟩ : ∃ y : Nat, y = 300000 + j - n := ⟨_, rfl⟩
        have w1 : wrap64 (300000 + (j : Int)) = 300000 + (j : Int) := by simp only [wrap64]; omega
        have w2 : wrap64 (300000 + (j : Int) - (n : Int)) = (y : Int) := by simp only [wrap64]; omega
        rw [← hy] at HXX
        have HY : Hid (y < 100000000000000) := by rw [hy]; show _ < _; omega
        clear hy
        have dd1 : decide ((j : Int) < (n : Int)) = false := decide_eq_false (by omega)
        have dd2 : decide ((n : Int) ≤ (j : Int)) = true := decide_eq_true (by omega)
        have dd3 : decide (j < n) = false := decide_eq_false (by omega)
        have dd4 : decide (n ≤ j) = true := decide_eq_true (by omega)
        clear hs hx
        go_wp2_with fail
        obtain ⟨W1, hW1⟩ : ∃ W1, W1 = wr.drew := ⟨_, rfl⟩
        have hbd : Below wr.heap.size wr W1 := by rw [hW1]; exact bDrew1 (Below.refl _ _)
        replace hbw := Below.on hbw hbd
        clear hbd
        have HJ : Hid ((fun W' : World => W'.cell? ⟨g, j, none⟩ = some (U x)) W1) := ((hbw.cell (p := ⟨g, j, none⟩) (World.block_lt_of_cell? w _ HCF.out)).trans HCF.out)
        refine wp_region_J (fun W' => W'.cell? ⟨g, j, none⟩ = some (U x)) (by kernel_rfl) ?_
        rw [← hW1]
        clear hW1
        refine wpJ_tk 0 (v := ?v24x0) rfl ?hy24x0 HJ.out ?_
        case hy24x0 => (intro W' hJ; have j0 := hJ; go_simp; first | done | with_reducible rfl)
        refine wpJ_tk 1 (v := ?v25x1) rfl ?hy25x1 HJ.out ?_
        case hy25x1 => (intro W' hJ; have j0 := hJ; go_simp; first | done | with_reducible rfl)
        refine wpJ_tk 2 (v := ?v26x2) rfl ?hy26x2 HJ.out ?_
        case hy26x2 => (intro W' hJ; have j0 := hJ; go_simp; first | done | with_reducible rfl)
        refine wpJ_tk 3 (v := ?v27x3) rfl ?hy27x3 HJ.out ?_
        case hy27x3 => (intro W' hJ; have j0 := hJ; go_simp; first | done | with_reducible rfl)
        refine wpJ_tk 4 (v := ?v28x4) rfl ?hy28x4 HJ.out ?_
        case hy28x4 => (intro W' hJ; have j0 := hJ; go_simp; first | done | with_reducible rfl)
        go_simp
        refine wpJ_sk 5 rfl HJ.out ?_
        refine wpJ_sk 6 rfl HJ.out ?_
        refine wpJ_sk 7 rfl HJ.out ?_
        refine wpJ_sk 8 rfl HJ.out ?_
        refine wpJ_sk 9 rfl HJ.out ?_
        go_simp
        refine wpJ_sk 10 rfl HJ.out ?_
        refine wpJ_sk 11 rfl HJ.out ?_
        refine wpJ_sk 12 rfl HJ.out ?_
        refine wpJ_sk 13 rfl HJ.out ?_
        refine wpJ_tk 14 (v := ?v29x14) rfl ?hy29x14 HJ.out ?_
        case hy29x14 => (intro W' hJ; have j0 := hJ; go_simp; first | done | with_reducible rfl)
        go_simp
        refine wpJ_tk 15 (v := ?v30x15) rfl ?hy30x15 HJ.out ?_
        case hy30x15 => (intro W' hJ; have j0 := hJ; go_simp; first | done | with_reducible rfl)
        refine wpJ_tk 16 (v := ?v31x16) rfl ?hy31x16 HJ.out ?_
        case hy31x16 => (intro W' hJ; have j0 := hJ; go_simp; first | done | with_reducible rfl)
        refine wpJ_tk 17 (v := ?v32x17) rfl ?hy32x17 HJ.out ?_
        case hy32x17 => (intro W' hJ; have j0 := hJ; go_simp; first | done | with_reducible rfl)
        refine wpJ_tk 18 (v := ?v33x18) rfl ?hy33x18 HJ.out ?_
        case hy33x18 => (intro W' hJ; have j0 := hJ; go_simp; first | done | with_reducible rfl)
        refine wpJ_tk 19 (v := ?v34x19) rfl ?hy34x19 HJ.out ?_
        case hy34x19 => (intro W' hJ; have j0 := hJ; go_simp; first | done | with_reducible rfl)
        go_simp
        refine wpJ_tk 20 (v := ?v35x20) rfl ?hy35x20 HJ.out ?_
        case hy35x20 => (intro W' hJ; have j0 := hJ; go_simp; first | done | with_reducible rfl)
        refine wpJ_tk 21 (v := ?v36x21) rfl ?hy36x21 HJ.out ?_
        case hy36x21 => (intro W' hJ; have j0 := hJ; go_simp; first | done | with_reducible rfl)
        refine wpJ_tk 22 (v := ?v37x22) rfl ?hy37x22 HJ.out ?_
        case hy37x22 => (intro W' hJ; have j0 := hJ; go_simp; first | done | with_reducible rfl)
        refine wpJ_tk 23 (v := ?v38x23) rfl ?hy38x23 HJ.out ?_
        case hy38x23 => (intro W' hJ; have j0 := hJ; go_simp; first | done | with_reducible rfl)
        refine wpJ_tk 24 (v := ?v39x24) rfl ?hy39x24 HJ.out ?_
        case hy39x24 => (intro W' hJ; have j0 := hJ; go_simp; first | done | with_reducible rfl)
        go_simp
        refine wpJ_tk 25 (v := ?v40x25) rfl ?hy40x25 HJ.out ?_
        case hy40x25 => (intro W' hJ; have j0 := hJ; go_simp; first | done | with_reducible rfl)
        refine wpJ_tk 26 (v := ?v41x26) rfl ?hy41x26 HJ.out ?_
        case hy41x26 => (intro W' hJ; have j0 := hJ; go_simp; first | done | with_reducible rfl)
        refine wpJ_tk 27 (v := ?v42x27) rfl ?hy42x27 HJ.out ?_
        case hy42x27 => (intro W' hJ; have j0 := hJ; go_simp; first | done | with_reducible rfl)
        refine wpJ_tk 28 (v := ?v43x28) rfl ?hy43x28 HJ.out ?_
        case hy43x28 => (intro W' hJ; have j0 := hJ; go_simp; first | done | with_reducible rfl)
        refine wpJ_tk 29 (v := ?v44x29) rfl ?hy44x29 HJ.out ?_
        case hy44x29 => (intro W' hJ; have j0 := hJ; go_simp; first | done | with_reducible rfl)
        refine wpJ_tk 30 (v := ?v45x30) rfl ?hy45x30 HJ.out ?_
        case hy45x30 => (intro W' hJ; have j0 := hJ; go_simp; first | done | with_reducible rfl)
        refine wpJ_on 31 rfl fun KJ hK => ?_
        go_simp
        rw [show IntKind.i64.wrap (IntKind.i64.wrap (300000 + (j : Int)) - (n : Int)) = (y : Int) from (by rw [show ∀ z : Int, IntKind.i64.wrap z = wrap64 z from fun z => by simp [IntKind.wrap_i64, wrap64], show ∀ z : Int, IntKind.i64.wrap z = wrap64 z from fun z => by simp [IntKind.wrap_i64, wrap64], w1, w2])]
        refine (mark3_ok k y HKK.out HY.out).mono ?_
        rintro e w' ⟨rfl, hw⟩
        obtain rfl := hw.symm
        clear hw
        rw [← HXX.out]
        clear HJ
        have HJ : Hid ((fun W' : World => W'.cell? ⟨g, j, none⟩ = some (U x)) W1) := ((hbw.cell (p := ⟨g, j, none⟩) (World.block_lt_of_cell? w _ HCF.out)).trans HCF.out)
        refine hK _ _ HJ.out ?_
        clear hK
        refine wpJ_tk 32 (v := ?v46x32) rfl ?hy46x32 HJ.out ?_
        case hy46x32 => (intro W' hJ; have j0 := hJ; go_simp; first | done | with_reducible rfl)
        refine wpJ_tk 33 (v := ?v47x33) rfl ?hy47x33 HJ.out ?_
        case hy47x33 => (intro W' hJ; have j0 := hJ; go_simp; first | done | with_reducible rfl)
        refine wpJ_tk 34 (v := ?v48x34) rfl ?hy48x34 HJ.out ?_
        case hy48x34 => (intro W' hJ; have j0 := hJ; go_simp; first | done | with_reducible rfl)
        refine wpJ_done (by kernel_rfl) ?_ _
        clear HJ
        clear dd1 dd2 dd3 dd4
        go_wp2_with fail
        go_roundg gg
        case measure => omega
        case rel => exact ⟨j + 1, by omega, by go_num, hbw⟩
theorem At.srcAny {w : World} {p : Option Addr} {n c : Nat} {xs : List Nat} (h : At w p n c xs) : ∀ ad, p = some ad → ∀ j u, (cellsU xs)[j]? = some u → w.cell? (ad.add j) = some u := by
  intro ad he j u hu
  have hj := (List.getElem?_eq_some_iff.1 hu).1
  rw [cellsU_length, h.len] at hj
  obtain ⟨ad', e1, h1⟩ := h.src (by omega)
  rw [e1] at he
  cases he
  exact h1 j u hu
def rmyJ (i j : Nat) (xs : List Nat) : List Nat := xs ++ (List.range j).map (fun m => mkR i (300000 + m))
theorem rmyJ_0 (i : Nat) (xs : List Nat) : rmyJ i 0 xs = xs := by simp [rmyJ]
theorem rmyJ_succ (i j : Nat) (xs : List Nat) : cellsU (rmyJ i (j + 1) xs) = cellsU (rmyJ i j xs) ++ [U (mkR i (300000 + j))] := by
  unfold rmyJ cellsU
  rw [List.range_succ, List.map_append, List.map_append, List.map_append, List.map_append, List.append_assoc]; rfl
theorem roomy3_ok {p : Option Addr} {n c k : Nat} {xs : List Nat} {w : World} (h : At w p n c xs) (hz : p = none → n = 0 ∧ c = 0) (hn : n ≤ 17592186044416) (hk : k ≤ 1000) :
    Calls Tryd.prog 6 #[.slice p n c, .int .i64 k] w fun en w' => ∃ g, en = .returned (.tuple #[.slice (some ⟨g, 0, none⟩) n (n + 6), .slice (some ⟨g, 0, none⟩) (n + 6) (n + 6)]) ∧ w.heap.size ≤ g ∧ w'.ownsRow w.heap.size 27 1 (.slice (some ⟨g, 0, none⟩) (n + 6) (n + 6)) (n + 6) (cellsU (rmy k xs)) ∧ Below w.heap.size w w' := by
  obtain ⟨i0, hi, hz0, hz1, hz2⟩ := info_parts Tryd.infoU64
  have HX : Hid (At w p n c xs) := h
  have HZ : Hid (p = none → n = 0 ∧ c = 0) := hz
  have HL : Hid (xs.length = n) := h.len
  have HKK : Hid (k ≤ 1000) := hk
  have wn : wrap64 ((n : Int) + 6) = ((n + 6 : Nat) : Int) := by simp only [wrap64]; omega
  clear h hz hk
  go_enter Tryd.func6, Tryd.ntmps6
  go_wp2_with (first
    | (at_make; refine wpList_make_own _ rfl _ _ 22 rfl w.heap.size 27 i0 (.int .u64 0) 1 Tryd.underlying22 hi hz0 hz1 _ _ _ (n + 6) rfl rfl (by omega) (by rw [hz2]; omega) (by unfold maxLen; omega) (Nat.le_refl _) ?_; intro w1 hown hgrow; have hb1 : Below w.heap.size w w1 := (Below.refl _ _).grown hgrow (Nat.le_refl _) (fun k hk => by simp at hk))
    | (at_builtin; refine wpList_append_fits_any _ rfl (.tmp 12) (.tmp 13) 22 rfl w.heap.size 27 i0 1 Tryd.underlying22 hi hz1 w.heap.size 0 (n + 6) [] rfl hown p n c (cellsU xs) rfl (by rw [cellsU_length, HL.out, Nat.mul_one]) HZ.out ((HX.out.below hb1).srcAny) (cellsU_one xs) (by omega) ?_; intro w2 hown2 hgr2))
  have hbw : Below w.heap.size w w2 := hb1.grown hgr2 hb1.size (fun q hq => by simp at hq; omega)
  have HO : Hid (w2.ownsRow w.heap.size 27 1 (.slice (some ⟨w.heap.size, 0, none⟩) n (n + 6)) n (cellsU xs)) := by have h9 := hown2; simp only [Nat.zero_add, List.nil_append] at h9; exact h9
  obtain ⟨g, hg⟩ : ∃ g, g = w.heap.size := ⟨_, rfl⟩
  rw [← hg] at HO ⊢
  have HG : Hid (g = w.heap.size) := hg
  clear hown hown2 hgr2 hgrow hb1 wn hg
  go_loopg [6, 7] 6 (fun gk sv jv wr => ∃ (j : Nat), j + gk = 6 ∧ jv = .int .i64 j ∧ sv = .slice (some ⟨g, 0, none⟩) (n + j) (n + 6) ∧ wr.ownsRow g 27 1 (.slice (some ⟨g, 0, none⟩) (n + j) (n + 6)) (n + j) (cellsU (rmyJ k j xs)) ∧ Below w.heap.size w wr)
  case atStart => exact ⟨0, by omega, rfl, rfl, by rw [rmyJ_0]; exact HO.out, hbw⟩
  case round =>
    obtain ⟨j, hjg, rfl, rfl, xo, hbr⟩ := hrel
    clear HO hbw
    have HO : Hid (wr.ownsRow g 27 1 (.slice (some ⟨g, 0, none⟩) (n + j) (n + 6)) (n + j) (cellsU (rmyJ k j xs))) := xo
    have hbw := hbr
    clear xo hbr
    cases gk with
    | zero =>
      obtain rfl : j = 6 := by omega
      have hs1 : (0 : Int) ≤ (n : Int) ∧ (n : Int) ≤ ((n + 6 : Nat) : Int) := by omega
      have hs2 : ¬ ((n + 6 : Nat) : Int) < (n : Int) := by omega
      go_wp2_with fail
      go_ret2
      exact ⟨g, rfl, by rw [HG.out]; exact Nat.le_refl _, by rw [← HG.out]; exact HO.out, hbw⟩
    | succ gg =>
      have hj6 : j < 6 := by omega
      have w1 : wrap64 (300000 + (j : Int)) = ((300000 + j : Nat) : Int) := by simp only [wrap64]; omega
      have wj : wrap64 ((j : Int) + 1) = ((j + 1 : Nat) : Int) := by simp only [wrap64]; omega
      have hjl : (j : Int) < 6 := by omega
      obtain ⟨y, hy⟩ : ∃ y : Nat, y = 300000 + j := ⟨_, rfl⟩
      rw [← hy] at w1
      go_wp2_with fail
      have hyi : 300000 + (j : Int) = (y : Int) := by omega
      rw [hyi]
      clear w1
      refine (mark3_ok k y HKK.out (by omega)).mono ?_
      rintro e w' ⟨rfl, hw⟩
      obtain rfl := hw.symm
      have HY : Hid (y = 300000 + j) := hy
      clear hw hyi hy
      obtain ⟨x, hx⟩ : ∃ x, Hid (x = mkR k y) := ⟨_, rfl⟩
      rw [← hx.out]
      have HOA : Hid ((wr.alloc (.cells #[U x] 27)).ownsRow g 27 1 (.slice (some ⟨g, 0, none⟩) (n + j) (n + 6)) (n + j) (cellsU (rmyJ k j xs))) := HO.out.alloc _
      go_wp2_with (at_builtin; refine wpList_append_fits _ rfl _ _ 22 rfl g 27 i0 1 Tryd.underlying22 hi hz1 g (n + j) (n + 6) (cellsU (rmyJ k j xs)) rfl HOA.out ⟨wr.heap.size, 0, none⟩ 1 1 [U x] rfl rfl (cell_new5 _ _ _) (by intro u hu; simp at hu; subst hu; rfl) (by omega) ?_; intro w3 hw3 hgr3)
      have hbx : Below w.heap.size w w3 := (hbw.alloc hbw.size _).grown hgr3 (by have := hbw.size; simp; omega) (fun q hq => by simp at hq; have := HG.out; omega)
      rw [hx.out, HY.out, ← rmyJ_succ] at hw3
      go_roundg gg
      case measure => omega
      case rel => exact ⟨j + 1, by omega, by go_num, rfl, hw3, hbx⟩
theorem wpList_append_moves {P : Program} (w : World) {ops : Array Oper} {rest : List Oper} {o : Oper} {a : Act} {Q : Exit → Act → World → Prop}
    (hg : o.guard = none) (s x : Operand) (t : TypeId) (hop : o.op = Op.call { callee := Callee.builtin Builtin.append, args := #[s, x], argTypes := #[t, t] })
    (e : TypeId) (i : TypeInfo) (z : Value) (size bytes : Nat) (h1 : P.underlying t = some (.slice e)) (h2 : P.info? e = some i) (h3 : i.zero = some z) (h4 : i.size = size) (h5 : i.bytes = bytes) (h6 : z.cells.size = size) (h7 : 0 < size)
    (p : Option Addr) (n r : Nat) (olds : List Value) (hs : a.eval s = .slice p n r) (hp0 : p = none → n = 0 ∧ r = 0) (hlo : olds.length = n * size) (holds : ∀ b, p = some b → ∀ j u, olds[j]? = some u → w.cell? (b.add j) = some u)
    (ad : Addr) (m c : Nat) (news : List Value) (hx : a.eval x = .slice (some ad) m c) (hn : news.length = m * size) (hc : ∀ j u, news[j]? = some u → w.cell? (ad.add j) = some u) (h1c : ∀ u ∈ news, u.oneCell' = true)
    (hm : r < n + m) (b1 : n + m ≤ maxLen) (b2 : ((n + m) + (n + m) / 4 + 192) * bytes ≤ 281474976710656)
    (hgrow : ∀ v' w', w'.ownsRow w.heap.size e size v' (n + m) (olds ++ news) → w.grownBy w' none → wpList P ops Q rest (a.put o.dst v') w') :
    wpList P ops Q (o :: rest) a w := by
  refine wpList_plain hg fun K hK' => ?_
  have hrun : ∃ v' w', (Builtin.append_ #[t, t] o.type #[.slice p n r, .slice (some ad) m c]).run P w = .ok v' w' ∧ w'.ownsRow w.heap.size e size v' (n + m) (olds ++ news) ∧ w.grownBy w' none := by
    cases p with
    | none =>
      obtain ⟨rfl, rfl⟩ := hp0 rfl
      obtain rfl : olds = [] := List.eq_nil_of_length_eq_zero (by omega)
      obtain ⟨v', w', r1, r2, r3, _⟩ := run_append_own_wide (P := P) w w.heap.size t o.type e i z size bytes h1 h2 h3 h4 h5 h6 h7 (.slice none 0 0) 0 [] ⟨by simp, .inl ⟨rfl, rfl⟩⟩ ad m c news hn hc h1c b1 b2 (Nat.le_refl _)
      exact ⟨v', w', r1, r2, r3⟩
    | some b =>
      subst h4 h5
      have hf : r < n + m := hm
      have hln : (olds ++ news).length = (n + m) * i.size := by rw [List.length_append, hlo, hn, Nat.add_mul]
      have hg1 := grownCap_ge w (n + m) r e
      have hg2 := grownCap_le_maxLen w (n + m) r e b1
      have hr := run_append_grow (P := P) w t o.type e i z h1 h2 h3 b n r olds hlo (holds b rfl) ad m c news hn hc hf (by unfold maxLen at b1; omega) (growslice_fits_wide hf b2)
      refine ⟨_, _, hr, ⟨hln, .inr ⟨w.heap.size, _, _, rfl, Nat.le_refl _, heap_alloc_new w.drew _, hg1, hg2, ?_, ?_⟩⟩, ⟨rfl, rfl, rfl, by simp, fun k hk _ => _root_.Go.heap_alloc_old w.drew _ hk⟩⟩
      · simp only [Array.size_append, List.size_toArray, size_zeroCells, h6, hlo, hn, ← Nat.add_mul]
        congr 1
        omega
      · rw [Array.toList_append, Array.toList_append, ← hln]
        exact List.take_left
  obtain ⟨v', w', r1, r2, r3⟩ := hrun
  unfold Oper.wp
  simp [execOp, hop, resolve, invoke, builtin, hs, hx, r1, Result.andThen]
  exact hK' _ _ (hgrow v' w' r2 r3)
theorem own_pre {w : World} {B g n m c : Nat} {e : TypeId} {xs ys : List Value} (h : w.ownsRow B e 1 (.slice (some ⟨g, 0, none⟩) (n + m) c) (n + m) (xs ++ ys)) (hl : xs.length = n) : w.ownsRow B e 1 (.slice (some ⟨g, 0, none⟩) n c) n xs := by
  rcases h.2 with ⟨h', _⟩ | ⟨g', cap', cur, h', hb, hg, hc, hm, hsz, ht⟩
  · cases h'
  · simp only [Value.slice.injEq, Option.some.injEq, Addr.mk.injEq, and_true, true_and] at h'
    obtain ⟨rfl, rfl⟩ := h'
    refine ⟨by omega, .inr ⟨g, c, cur, rfl, hb, hg, by omega, hm, hsz, ?_⟩⟩
    rw [Nat.mul_one] at ht ⊢
    have h1 : cur.toList.take n = (cur.toList.take (n + m)).take n := by rw [List.take_take, Nat.min_eq_left (by omega)]
    rw [h1, ht, ← hl, List.take_left]
theorem own_set {w : World} {B g n c : Nat} {e : TypeId} {xs : List Value} (h : w.ownsRow B e 1 (.slice (some ⟨g, 0, none⟩) n c) n xs) (j : Nat) (v : Value) : (w.setCell ⟨g, j, none⟩ v).ownsRow B e 1 (.slice (some ⟨g, 0, none⟩) n c) n (xs.set j v) := by
  rcases h.2 with ⟨h', _⟩ | ⟨g', cap', cur, h', hb, hg, hc, hm, hsz, ht⟩
  · cases h'
  · simp only [Value.slice.injEq, Option.some.injEq, Addr.mk.injEq, and_true, true_and] at h'
    obtain ⟨rfl, rfl⟩ := h'
    refine ⟨by rw [List.length_set]; exact h.1, .inr ⟨g, c, cur.setIfInBounds j v, rfl, hb, _root_.Go.Joins.block_setCell hg v, hc, hm, by rw [Array.size_setIfInBounds]; exact hsz, ?_⟩⟩
    rw [← ht, Array.toList_setIfInBounds, List.take_set]
theorem row_lt3 {w : World} {g off n : Nat} {xs : List Nat} (h : Row w g off n xs) (hn : n ≠ 0) : g < w.heap.size := World.block_lt_of_cell? w _ (h.cell 0 (by omega))
theorem row_none3 {w : World} {g off n : Nat} {xs : List Nat} (h : Row w g off n xs) (hn : n = 0) (w' : World) (g' : Nat) : Row w' g' 0 n xs := ⟨h.len, h.dig, fun j hj => by omega, fun j hj => by omega⟩
theorem Row.setNo3 {w : World} {g n : Nat} {xs : List Nat} (h : Row w g 0 n xs) (g2 o2 : Nat) (v : Value) (hne : g ≠ g2) : Row (w.setCell ⟨g2, o2, none⟩ v) g 0 n xs :=
  ⟨h.len, h.dig, fun j hj => (World.cell?_setCell_other _ _ _ _ (by intro e; exact hne (congrArg Addr.block e).symm)).trans (h.cell j hj), fun j hj => by rw [World.frozen?_setCell]; exact h.frozen j hj⟩
theorem ownAny3 {w w' : World} {B k : Nat} {e : TypeId} {v : Value} {xs : List Value} (h : w.ownsRow B e 1 v k xs) (hb : Below w.heap.size w w') : w'.ownsRow B e 1 v k xs := by
  refine ⟨h.1, ?_⟩
  rcases h.2 with h2 | ⟨g, cap, cur, h2, h3, h4, h5⟩
  · exact .inl h2
  · have hg : g < w.heap.size := by
      rcases Nat.lt_or_ge g w.heap.size with h6 | h6
      · exact h6
      · rw [Array.getElem?_eq_none h6] at h4; cases h4
    exact .inr ⟨g, cap, cur, h2, h3, (hb.block _ hg).trans h4, h5⟩
theorem cellsU_set (xs : List Nat) (j y : Nat) : cellsU (xs.set j y) = (cellsU xs).set j (U y) := by unfold cellsU; rw [List.map_set]
structure LC (w : World) (B go N : Nat) (p : Nat → Option Addr) (n c b : Nat → Nat) (X : Nat → List Nat) : Prop where
  cells : ∀ i, i < N → w.cell? ⟨go, i, none⟩ = some (.slice (p i) (n i) (c i))
  cap : ∀ i, i < N → n i ≤ c i
  six : ∀ i, i < N → c i ≤ n i + 6
  addr : ∀ i, i < N → c i = 0 ∨ p i = some ⟨b i, 0, none⟩
  pn : ∀ i, i < N → p i = none → n i = 0 ∧ c i = 0
  row : ∀ i, i < N → Row w (b i) 0 (n i) (X i)
  room : ∀ i, i < N → n i < c i → w.ownsRow B 27 1 (.slice (some ⟨b i, 0, none⟩) (n i) (c i)) (n i) (cellsU (X i))
  ge : ∀ i, i < N → B ≤ b i
  le : ∀ i, i < N → n i ≤ 17592186044422
  ne : ∀ i, i < N → c i ≠ 0 → b i ≠ go
  dist : ∀ i j, i < N → j < N → i ≠ j → c i ≠ 0 → c j ≠ 0 → b i ≠ b j
theorem LC.set {w : World} {B go N : Nat} {p : Nat → Option Addr} {n c b : Nat → Nat} {X : Nat → List Nat} (h : LC w B go N p n c b X) {i j y : Nat} (hi : i < N) (hj : j < n i) (hy : y < B64) :
    LC (w.setCell ⟨b i, j, none⟩ (U y)) B go N p n c b (fun k => if k = i then (X i).set j y else X k) := by
  have hci := h.cap i hi
  refine ⟨fun k hk => ?_, h.cap, h.six, h.addr, h.pn, fun k hk => ?_, fun k hk hr => ?_, h.ge, h.le, h.ne, h.dist⟩
  · exact (World.cell?_setCell_other _ _ _ _ (by intro e; exact h.ne i hi (by omega) (congrArg Addr.block e))).trans (h.cells k hk)
  · by_cases e : k = i
    · subst e
      rw [if_pos rfl]
      have := (h.row k hk).set j y hj hy
      rw [Nat.zero_add] at this
      exact this
    · rw [if_neg e]
      have hck := h.cap k hk
      by_cases h0 : n k = 0
      · exact row_none3 (h.row k hk) h0 _ _
      · exact (h.row k hk).setNo3 _ _ _ (h.dist k i hk hi e (by omega) (by omega))
  · by_cases e : k = i
    · subst e
      rw [if_pos rfl, cellsU_set]
      exact own_set (h.room k hk hr) j (U y)
    · rw [if_neg e]
      exact ownsRow_setCell_other (h.room k hk hr) (a := ⟨b i, j, none⟩) (by simp only [Value.ownBlock, ne_eq, Option.some.injEq]; exact h.dist k i hk hi e (by omega) (by omega)) (U y)
theorem LC.below {w w' : World} {B go N : Nat} {p : Nat → Option Addr} {n c b : Nat → Nat} {X : Nat → List Nat} (h : LC w B go N p n c b X) (hb : Below w.heap.size w w') : LC w' B go N p n c b X :=
  ⟨fun i hi => (hb.cell (p := ⟨go, i, none⟩) (World.block_lt_of_cell? w _ (h.cells i hi))).trans (h.cells i hi), h.cap, h.six, h.addr, h.pn, fun i hi => by
    by_cases h0 : n i = 0
    · exact row_none3 (h.row i hi) h0 _ _
    · exact (h.row i hi).below hb (row_lt3 (h.row i hi) h0), fun i hi hr => ownAny3 (h.room i hi hr) hb, h.ge, h.le, h.ne, h.dist⟩
def Mk3 (n : Nat → Nat) (X : Nat → List Nat) (k : Nat) : Prop := ∀ m, m < n k → (X k).getD m 0 = mkR k m
structure VB (w : World) (g n : Nat) (f : Nat → Value) : Prop where
  cell : ∀ j, j < n → w.cell? ⟨g, j, none⟩ = some (f j)
  frz : ∀ j, j < n → w.frozen? ⟨g, j, none⟩ = false
theorem VB.below {w w' : World} {g n : Nat} {f : Nat → Value} (h : VB w g n f) (hb : Below w.heap.size w w') : VB w' g n f :=
  ⟨fun j hj => (hb.cell (p := ⟨g, j, none⟩) (World.block_lt_of_cell? w _ (h.cell j hj))).trans (h.cell j hj), fun j hj => (hb.frozen (p := ⟨g, j, none⟩) (World.block_lt_of_cell? w _ (h.cell j hj))).trans (h.frz j hj)⟩
theorem VB.set {w : World} {g n : Nat} {f : Nat → Value} (h : VB w g n f) (k : Nat) (y : Value) : VB (w.setCell ⟨g, k, none⟩ y) g n (fun j => if j = k then y else f j) := by
  refine ⟨fun j hj => ?_, fun j hj => by rw [World.frozen?_setCell]; exact h.frz j hj⟩
  by_cases e : j = k
  · subst e; rw [if_pos rfl]; exact World.cell?_setCell_same _ _ _ (h.cell j hj)
  · rw [if_neg e, World.cell?_setCell_other _ _ _ _ (fun h9 => e (by simpa using (congrArg Addr.off h9).symm))]; exact h.cell j hj
theorem VB.other {w : World} {g n : Nat} {f : Nat → Value} (h : VB w g n f) (a : Addr) (y : Value) (hne : a.block ≠ g) : VB (w.setCell a y) g n f :=
  ⟨fun j hj => (World.cell?_setCell_other _ _ _ _ (by intro e; exact hne (congrArg Addr.block e))).trans (h.cell j hj), fun j hj => by rw [World.frozen?_setCell]; exact h.frz j hj⟩
theorem Tryd.infoSl3 : (Tryd.prog.info? 22).map (fun i => (i.zero, i.size, i.bytes)) = some (some (.slice none 0 0), 1, 24) := by kernel_rfl
theorem madeVB (n : Nat) : (madeCells (Value.cells (.slice none 0 0)) (n * 1)).toList = List.replicate n (Value.slice none 0 0) := by
  have h : madeCells (Value.cells (.slice none 0 0)) (n * 1) = Array.replicate n (Value.slice none 0 0) := by
    refine Array.ext (by simp [madeCells]) fun i h1 h2 => ?_
    simp [madeCells, Value.cells, Nat.mod_one]
  rw [h]; simp
theorem made_vb {w w1 : World} {n : Nat} (hown : w1.ownsRow w.heap.size 22 1 (.slice (some ⟨w.heap.size, 0, none⟩) n n) n (madeCells (Value.cells (.slice none 0 0)) (n * 1)).toList) (hgrow : w.grownBy w1 none) :
    VB w1 w.heap.size n (fun _ => .slice none 0 0) ∧ Below w.heap.size w w1 := by
  rw [madeVB] at hown
  refine ⟨⟨fun j hj => ?_, fun j hj => ?_⟩, (Below.refl _ _).grown hgrow (Nat.le_refl _) (fun k hk => by simp at hk)⟩
  · rw [hown.cellAt j (by omega), List.getElem?_replicate, if_pos hj]
  · rcases hown.2 with ⟨h1, _⟩ | ⟨g, cap, cur, h1, h2, h3, _⟩
    · cases h1
    · simp only [Value.slice.injEq, Option.some.injEq, Addr.mk.injEq] at h1
      rw [h1.1.1]; exact frozen_of_row w1 g j _ _ h3
theorem own_row3 {w : World} {B g n c : Nat} {xs : List Nat} (h : w.ownsRow B 27 1 (.slice (some ⟨g, 0, none⟩) n c) n (cellsU xs)) (hd : Dig B64 xs) : Row w g 0 n xs := by
  have hl : xs.length = n := by have := h.1; rw [cellsU_length, Nat.mul_one] at this; exact this
  refine ⟨hl, hd, fun j hj => ?_, fun j hj => ?_⟩
  · rw [Nat.zero_add, h.cellAt j (by omega)]
    unfold cellsU
    rw [List.getElem?_map, List.getD_eq_getElem?_getD, List.getElem?_eq_getElem (by omega)]; rfl
  · rcases h.2 with ⟨h1, _⟩ | ⟨g', cap, cur, h1, h2, h3, _⟩
    · cases h1
    · simp only [Value.slice.injEq, Option.some.injEq, Addr.mk.injEq] at h1
      rw [Nat.zero_add, h1.1.1]; exact frozen_of_row w g' j _ _ h3
theorem LC.grow {w w' : World} {B go N : Nat} {p : Nat → Option Addr} {n c b : Nat → Nat} {X : Nat → List Nat} (h : LC w B go N p n c b X) {i m : Nat} {ys : List Value} (hi : i < N) (hgr : w.grownBy w' (some (b i)))
    (ho : w'.ownsRow B 27 1 (.slice (some ⟨b i, 0, none⟩) (n i + m) (c i)) (n i + m) (cellsU (X i) ++ ys)) (hm : 0 < m) (hc : n i + m ≤ c i) : LC w' B go N p n c b X := by
  have hlen : (cellsU (X i)).length = n i := by rw [cellsU_length]; exact (h.row i hi).len
  have hpre := own_pre ho hlen
  have hblk : ∀ k, k < w.heap.size → k ≠ b i → w'.heap[k]? = w.heap[k]? := fun k hk hne => hgr.block k hk (fun e => hne (by simpa using e))
  have hgo := h.ne i hi (by omega)
  refine ⟨fun k hk => ?_, h.cap, h.six, h.addr, h.pn, fun k hk => ?_, fun k hk hr => ?_, h.ge, h.le, h.ne, h.dist⟩
  · rw [World.cell?_of_block (w := w) (hblk go (World.block_lt_of_cell? w _ (h.cells k hk)) (fun e => hgo e.symm))]; exact h.cells k hk
  · by_cases e : k = i
    · subst e; exact own_row3 hpre (h.row k hk).dig
    · by_cases h0 : n k = 0
      · exact row_none3 (h.row k hk) h0 _ _
      · have hck := h.cap k hk
        have hbk := hblk (b k) (row_lt3 (h.row k hk) h0) (h.dist k i hk hi e (by omega) (by omega))
        exact ⟨(h.row k hk).len, (h.row k hk).dig, fun j hj => by rw [World.cell?_of_block (w := w) hbk]; exact (h.row k hk).cell j hj, fun j hj => by rw [World.frozen?_of_block (w := w) hbk]; exact (h.row k hk).frozen j hj⟩
  · by_cases e : k = i
    · subst e; exact hpre
    · exact (h.room k hk hr).kept hgr (.inr (by simp only [Value.ownBlock, ne_eq, Option.some.injEq]; exact h.dist k i hk hi e (by omega) (by omega)))
theorem Row.keepB {w w' : World} {g n : Nat} {xs : List Nat} (h : Row w g 0 n xs) (hb : n ≠ 0 → w'.heap[g]? = w.heap[g]?) : Row w' g 0 n xs :=
  ⟨h.len, h.dig, fun j hj => (World.cell?_of_block (w := w) (hb (by omega))).trans (h.cell j hj), fun j hj => (World.frozen?_of_block (w := w) (hb (by omega))).trans (h.frozen j hj)⟩
theorem VB.keepB {w w' : World} {g n : Nat} {f : Nat → Value} (h : VB w g n f) (hb : w'.heap[g]? = w.heap[g]?) : VB w' g n f :=
  ⟨fun j hj => (World.cell?_of_block (w := w) hb).trans (h.cell j hj), fun j hj => (World.frozen?_of_block (w := w) hb).trans (h.frz j hj)⟩
theorem VB.congr {w : World} {g n : Nat} {f f' : Nat → Value} (h : VB w g n f) (he : ∀ j, j < n → f j = f' j) : VB w g n f' :=
  ⟨fun j hj => by rw [← he j hj]; exact h.cell j hj, h.frz⟩
theorem own_keepB {w w' : World} {B g n c : Nat} {e : TypeId} {xs : List Value} (h : w.ownsRow B e 1 (.slice (some ⟨g, 0, none⟩) n c) n xs) (hb : w'.heap[g]? = w.heap[g]?) : w'.ownsRow B e 1 (.slice (some ⟨g, 0, none⟩) n c) n xs := by
  refine ⟨h.1, ?_⟩
  rcases h.2 with h2 | ⟨g', cap, cur, h2, h3, h4, h5⟩
  · exact .inl h2
  · simp only [Value.slice.injEq, Option.some.injEq, Addr.mk.injEq, and_true, true_and] at h2
    obtain ⟨rfl, rfl⟩ := h2
    exact .inr ⟨g, c, cur, rfl, h3, hb.trans h4, h5⟩
theorem own_blt {w : World} {B g n c : Nat} {e : TypeId} {xs : List Value} (h : w.ownsRow B e 1 (.slice (some ⟨g, 0, none⟩) n c) n xs) : g < w.heap.size := by
  rcases h.2 with ⟨h2, _⟩ | ⟨g', cap, cur, h2, h3, h4, h5⟩
  · cases h2
  · simp only [Value.slice.injEq, Option.some.injEq, Addr.mk.injEq, and_true, true_and] at h2
    obtain ⟨rfl, rfl⟩ := h2
    exact (Array.getElem?_eq_some_iff.1 h4).1
theorem own_cut5 {w : World} {B k : Nat} {e : TypeId} {v : Value} {xs : List Value} (h : w.ownsRow B e 1 v (k + 1) xs) : ∃ g cap, v = .slice (some ⟨g, 0, none⟩) (k + 1) cap ∧ B ≤ g ∧ g < w.heap.size := by
  rcases h.2 with ⟨_, h2⟩ | ⟨g, cap, cur, h2, h3, h4, h5⟩
  · omega
  · exact ⟨g, cap, h2, h3, (Array.getElem?_eq_some_iff.1 h4).1⟩
theorem own_mono5 {w : World} {B B' k : Nat} {e : TypeId} {v : Value} {xs : List Value} (h : w.ownsRow B e 1 v k xs) (hB : B' ≤ B) : w.ownsRow B' e 1 v k xs := by
  refine ⟨h.1, ?_⟩
  rcases h.2 with h2 | ⟨g, cap, cur, h2, h3, h4⟩
  · exact .inl h2
  · exact .inr ⟨g, cap, cur, h2, Nat.le_trans hB h3, h4⟩
theorem LC.lt {w : World} {B go N : Nat} {p : Nat → Option Addr} {n c b : Nat → Nat} {X : Nat → List Nat} (h : LC w B go N p n c b X) {i : Nat} (hi : i < N) (hc : c i ≠ 0) : b i < w.heap.size := by
  rcases Nat.lt_or_ge (n i) (c i) with h1 | h1
  · exact own_blt (h.room i hi h1)
  · exact row_lt3 (h.row i hi) (by omega)
theorem LC.keepB {w w' : World} {B go N : Nat} {p : Nat → Option Addr} {n c b : Nat → Nat} {X : Nat → List Nat} (h : LC w B go N p n c b X) (hgo : w'.heap[go]? = w.heap[go]?) (hb : ∀ i, i < N → c i ≠ 0 → w'.heap[b i]? = w.heap[b i]?) : LC w' B go N p n c b X :=
  ⟨fun i hi => (World.cell?_of_block (w := w) hgo).trans (h.cells i hi), h.cap, h.six, h.addr, h.pn, fun i hi => (h.row i hi).keepB (fun h0 => hb i hi (by have := h.cap i hi; omega)), fun i hi hr => own_keepB (h.room i hi hr) (hb i hi (by omega)), h.ge, h.le, h.ne, h.dist⟩
def mq (Mb i k : Nat) : List Nat := (List.range k).map (fun j => mkR i (Mb + j))
theorem mq_len (Mb i k : Nat) : (mq Mb i k).length = k := by simp [mq]
theorem mq_succ (Mb i k : Nat) : mq Mb i (k + 1) = mq Mb i k ++ [mkR i (Mb + k)] := by unfold mq; rw [List.range_succ, List.map_append]; rfl
theorem mq_dig {Mb i k : Nat} (hi : i ≤ 1000) (hk : Mb + k < 100000000000000) : Dig B64 (mq Mb i k) := by
  intro x hx
  obtain ⟨j, hj, rfl⟩ := List.mem_map.1 hx
  have := List.mem_range.1 hj
  exact mkR_lt hi (by omega)
theorem dig_app5 {xs ys : List Nat} (h1 : Dig B64 xs) (h2 : Dig B64 ys) : Dig B64 (xs ++ ys) := by
  intro x hx
  rcases List.mem_append.1 hx with h | h
  · exact h1 x h
  · exact h2 x h
theorem mq_lo {xs ys : List Nat} {i : Nat} (h : i < xs.length) : (xs ++ ys).getD i 0 = xs.getD i 0 := by
  rw [List.getD_eq_getElem?_getD, List.getElem?_append_left h, ← List.getD_eq_getElem?_getD]
theorem mq_hi {Mb k L : Nat} {xs : List Nat} {j : Nat} (h : xs.length ≤ j) (h2 : j < xs.length + L) : (xs ++ mq Mb k L).getD j 0 = mkR k (Mb + j - xs.length) := by
  unfold mq
  rw [List.getD_eq_getElem?_getD, List.getElem?_append_right h, List.getElem?_map, List.getElem?_range (by omega)]
  show mkR k (Mb + (j - xs.length)) = _
  rw [show Mb + (j - xs.length) = Mb + j - xs.length by omega]
theorem cellsU_app5 (xs : List Nat) (y : Nat) : cellsU xs ++ [U y] = cellsU (xs ++ [y]) := by unfold cellsU; rw [List.map_append]; rfl
structure SG (w0 w : World) (B go N : Nat) (p : Nat → Option Addr) (n c b : Nat → Nat) (X : Nat → List Nat) (h0 H L Mb i : Nat) (F : Nat → Value) (f cc : Nat → Nat) : Prop where
  lc : LC w B go N p n c b X
  vb : VB w h0 N F
  val : ∀ k, k < i → F k = .slice (some ⟨f k, 0, none⟩) (n k + L) (cc k)
  gt : ∀ k, k < i → H < f k
  row : ∀ k, k < i → Row w (f k) 0 (n k + L) (X k ++ mq Mb k L)
  bb : Below B w0 w
  sz : H < w.heap.size
  bh : B ≤ h0 ∧ h0 ≤ H ∧ go < h0 ∧ 0 < L
  lo : ∀ k, k < N → c k ≠ 0 → b k < h0
theorem SG.keepB {w0 w w' : World} {B go N : Nat} {p : Nat → Option Addr} {n c b : Nat → Nat} {X : Nat → List Nat} {h0 H L Mb i : Nat} {F : Nat → Value} {f cc : Nat → Nat} (h : SG w0 w B go N p n c b X h0 H L Mb i F f cc)
    (hbe : Below B w w') (hgo : w'.heap[go]? = w.heap[go]?) (hb : ∀ k, k < N → c k ≠ 0 → w'.heap[b k]? = w.heap[b k]?) (hh : w'.heap[h0]? = w.heap[h0]?) (hf : ∀ k, k < i → w'.heap[f k]? = w.heap[f k]?) : SG w0 w' B go N p n c b X h0 H L Mb i F f cc :=
  ⟨h.lc.keepB hgo hb, h.vb.keepB hh, h.val, h.gt, fun k hk => (h.row k hk).keepB (fun _ => hf k hk), h.bb.trans hbe, Nat.lt_of_lt_of_le h.sz hbe.size, h.bh, h.lo⟩
theorem SG.flt {w0 w : World} {B go N : Nat} {p : Nat → Option Addr} {n c b : Nat → Nat} {X : Nat → List Nat} {h0 H L Mb i : Nat} {F : Nat → Value} {f cc : Nat → Nat} (h : SG w0 w B go N p n c b X h0 H L Mb i F f cc) {k : Nat} (hk : k < i) : f k < w.heap.size :=
  row_lt3 (h.row k hk) (by have := h.bh; omega)
theorem SG.away {w0 w w' : World} {B go N : Nat} {p : Nat → Option Addr} {n c b : Nat → Nat} {X : Nat → List Nat} {h0 H L Mb i : Nat} {F : Nat → Value} {f cc : Nat → Nat} (h : SG w0 w B go N p n c b X h0 H L Mb i F f cc)
    (hbe : Below B w w') (q : Nat) (hq : H ≤ q ∧ h0 < q) (hqf : ∀ k, k < i → f k ≠ q) (hb : ∀ k, k < w.heap.size → k ≠ q → w'.heap[k]? = w.heap[k]?) : SG w0 w' B go N p n c b X h0 H L Mb i F f cc := by
  have h1 := h.bh
  have h2 := h.sz
  refine h.keepB hbe (hb _ (by omega) (by omega)) (fun k hk hc => ?_) (hb _ (by omega) (by omega)) (fun k hk => hb _ (h.flt hk) (hqf k hk))
  have := h.lo k hk hc
  exact hb _ (by omega) (by omega)
theorem SG.below {w0 w w' : World} {B go N : Nat} {p : Nat → Option Addr} {n c b : Nat → Nat} {X : Nat → List Nat} {h0 H L Mb i : Nat} {F : Nat → Value} {f cc : Nat → Nat} (h : SG w0 w B go N p n c b X h0 H L Mb i F f cc)
    (hbe : Below w.heap.size w w') : SG w0 w' B go N p n c b X h0 H L Mb i F f cc := by
  have h1 := h.bh
  have h2 := h.sz
  refine h.away (hbe.mono (by omega)) w.heap.size ⟨by omega, by omega⟩ (fun k hk => ?_) (fun k hk _ => hbe.block k hk)
  have := h.flt hk
  omega
theorem SG.store {w0 w : World} {B go N : Nat} {p : Nat → Option Addr} {n c b : Nat → Nat} {X : Nat → List Nat} {h0 H L Mb i : Nat} {F : Nat → Value} {f cc : Nat → Nat} (h : SG w0 w B go N p n c b X h0 H L Mb i F f cc)
    {g cap : Nat} (hg : H < g) (hr : Row w g 0 (n i + L) (X i ++ mq Mb i L)) :
    SG w0 (w.setCell ⟨h0, i, none⟩ (.slice (some ⟨g, 0, none⟩) (n i + L) cap)) B go N p n c b X h0 H L Mb (i + 1) (fun j => if j = i then .slice (some ⟨g, 0, none⟩) (n i + L) cap else F j) (fun k => if k = i then g else f k) (fun k => if k = i then cap else cc k) := by
  have h1 := h.bh
  have h2 := h.sz
  have hot : ∀ k, k ≠ h0 → (w.setCell ⟨h0, i, none⟩ (.slice (some ⟨g, 0, none⟩) (n i + L) cap)).heap[k]? = w.heap[k]? := fun k hk => Below.heap_setCell w _ _ k hk
  refine ⟨h.lc.keepB (hot _ (by omega)) (fun k hk hc => hot _ (by have := h.lo k hk hc; omega)), h.vb.set i _, fun k hk => ?_, fun k hk => ?_, fun k hk => ?_, bSet h.bb _ _ _ (by omega), by rw [World.size_setCell]; exact h2, h.bh, h.lo⟩
  · by_cases e : k = i
    · rw [if_pos e, if_pos e, if_pos e, e]
    · rw [if_neg e, if_neg e, if_neg e]; exact h.val k (by omega)
  · by_cases e : k = i
    · rw [if_pos e]; exact hg
    · rw [if_neg e]; exact h.gt k (by omega)
  · by_cases e : k = i
    · rw [if_pos e, e]; exact hr.keepB (fun _ => hot _ (by omega))
    · rw [if_neg e]; exact (h.row k (by omega)).keepB (fun _ => hot _ (by have := h.gt k (by omega); omega))
structure S2 (w0 w : World) (B go N : Nat) (p : Nat → Option Addr) (n c b : Nat → Nat) (X : Nat → List Nat) (h0 H L Mb i : Nat) (F : Nat → Value) (f cc : Nat → Nat) (h1 k : Nat) (gv : Value) : Prop where
  sg : SG w0 w B go N p n c b X h0 H L Mb i F f cc
  hw : h1 ≤ w.heap.size
  hh : H < h1
  fl : ∀ k, k < i → f k < h1
  gs : (gv = .slice (p i) (n i + k) (c i) ∧ n i + k ≤ c i ∧ Row w (b i) 0 (n i + k) (X i ++ mq Mb i k) ∧ (n i + k < c i → w.ownsRow B 27 1 (.slice (some ⟨b i, 0, none⟩) (n i + k) (c i)) (n i + k) (cellsU (X i ++ mq Mb i k)))) ∨ (1 ≤ k ∧ w.ownsRow h1 27 1 gv (n i + k) (cellsU (X i ++ mq Mb i k)))
theorem S2.start {w0 w : World} {B go N : Nat} {p : Nat → Option Addr} {n c b : Nat → Nat} {X : Nat → List Nat} {h0 H L Mb i : Nat} {F : Nat → Value} {f cc : Nat → Nat} (h : SG w0 w B go N p n c b X h0 H L Mb i F f cc) (hi : i < N) :
    S2 w0 w B go N p n c b X h0 H L Mb i F f cc w.heap.size 0 (.slice (p i) (n i) (c i)) := by
  refine ⟨h, Nat.le_refl _, h.sz, fun k hk => h.flt hk, .inl ?_⟩
  have e : X i ++ mq Mb i 0 = X i := by simp [mq]
  rw [e, Nat.add_zero]
  exact ⟨rfl, h.lc.cap i hi, h.lc.row i hi, h.lc.room i hi⟩
theorem S2.below {w0 w w' : World} {B go N : Nat} {p : Nat → Option Addr} {n c b : Nat → Nat} {X : Nat → List Nat} {h0 H L Mb i : Nat} {F : Nat → Value} {f cc : Nat → Nat} {h1 k : Nat} {gv : Value} (h : S2 w0 w B go N p n c b X h0 H L Mb i F f cc h1 k gv)
    (hb : Below w.heap.size w w') : S2 w0 w' B go N p n c b X h0 H L Mb i F f cc h1 k gv := by
  refine ⟨h.sg.below hb, Nat.le_trans h.hw hb.size, h.hh, h.fl, ?_⟩
  rcases h.gs with ⟨e1, e2, e3, e4⟩ | ⟨e1, e2⟩
  · exact .inl ⟨e1, e2, e3.keepB (fun h0 => hb.block _ (row_lt3 e3 h0)), fun hr => ownAny3 (e4 hr) hb⟩
  · exact .inr ⟨e1, ownAny3 e2 hb⟩
theorem S2.way {w0 w : World} {B go N : Nat} {p : Nat → Option Addr} {n c b : Nat → Nat} {X : Nat → List Nat} {h0 H L Mb i : Nat} {F : Nat → Value} {f cc : Nat → Nat} {h1 k : Nat} {gv : Value} (h : S2 w0 w B go N p n c b X h0 H L Mb i F f cc h1 k gv) (hi : i < N) :
    (gv = .slice (some ⟨b i, 0, none⟩) (n i + k) (c i) ∧ n i + k + 1 ≤ c i ∧ w.ownsRow B 27 1 (.slice (some ⟨b i, 0, none⟩) (n i + k) (c i)) (n i + k) (cellsU (X i ++ mq Mb i k)))
    ∨ (gv = .slice (p i) (n i + k) (c i) ∧ c i < n i + k + 1 ∧ (p i = none → n i + k = 0 ∧ c i = 0) ∧ (cellsU (X i ++ mq Mb i k)).length = (n i + k) * 1 ∧ (∀ a, p i = some a → ∀ j u, (cellsU (X i ++ mq Mb i k))[j]? = some u → w.cell? (a.add j) = some u))
    ∨ w.ownsRow h1 27 1 gv (n i + k) (cellsU (X i ++ mq Mb i k)) := by
  rcases h.gs with ⟨e1, e2, e3, e4⟩ | ⟨e1, e2⟩
  · rcases Nat.lt_or_ge (n i + k) (c i) with h5 | h5
    · have hp := (h.sg.lc.addr i hi).resolve_left (by omega)
      rw [hp] at e1
      exact .inl ⟨e1, h5, e4 h5⟩
    · refine .inr (.inl ⟨e1, by omega, fun hp => ?_, ?_, fun a ha j u hu => ?_⟩)
      · have := h.sg.lc.pn i hi hp; omega
      · rw [cellsU_length, e3.len]; omega
      · have hj : j < n i + k := by
          rcases Nat.lt_or_ge j (n i + k) with h6 | h6
          · exact h6
          · rw [List.getElem?_eq_none (by rw [cellsU_length, e3.len]; exact h6)] at hu; cases hu
        have hp := (h.sg.lc.addr i hi).resolve_left (by omega)
        rw [hp] at ha
        cases ha
        have hadd : (⟨b i, 0, none⟩ : Addr).add j = ⟨b i, j, none⟩ := by unfold Addr.add; split <;> simp_all
        have hcl := e3.cell j hj
        rw [Nat.zero_add] at hcl
        rw [hadd, hcl, ← hu, cellsU_get _ _ (by rw [e3.len]; exact hj)]
  · exact .inr (.inr e2)
theorem S2.fits {w0 w w' : World} {B go N : Nat} {p : Nat → Option Addr} {n c b : Nat → Nat} {X : Nat → List Nat} {h0 H L Mb i : Nat} {F : Nat → Value} {f cc : Nat → Nat} {h1 k : Nat} {gv : Value} (h : S2 w0 w B go N p n c b X h0 H L Mb i F f cc h1 k gv) (hi : i < N) (hi2 : i ≤ 1000) (hk2 : Mb + k < 10000000)
    (hc : n i + k + 1 ≤ c i) (hgr : w.grownBy w' (some (b i))) (ho : w'.ownsRow B 27 1 (.slice (some ⟨b i, 0, none⟩) (n i + k + 1) (c i)) (n i + k + 1) (cellsU (X i ++ mq Mb i k) ++ [U (mkR i (Mb + k))])) :
    S2 w0 w' B go N p n c b X h0 H L Mb i F f cc h1 (k + 1) (.slice (some ⟨b i, 0, none⟩) (n i + k + 1) (c i)) := by
  have hbh := h.sg.bh
  have hsz := h.sg.sz
  have hge := h.sg.lc.ge i hi
  have hlo := h.sg.lo i hi (by omega)
  have hbk : ∀ k, k < w.heap.size → k ≠ b i → w'.heap[k]? = w.heap[k]? := fun k hk hne => hgr.block k hk (fun e => hne (by simpa using e))
  have hp := (h.sg.lc.addr i hi).resolve_left (by omega)
  have ec : cellsU (X i ++ mq Mb i k) ++ [U (mkR i (Mb + k))] = cellsU (X i ++ mq Mb i (k + 1)) := by rw [cellsU_app5, mq_succ, List.append_assoc]
  have hd : Dig B64 (X i ++ mq Mb i (k + 1)) := dig_app5 (h.sg.lc.row i hi).dig (mq_dig hi2 (by omega))
  have ho1 := ho
  rw [ec] at ho1
  refine ⟨⟨h.sg.lc.grow (m := k + 1) (ys := cellsU (mq Mb i (k + 1))) hi hgr ?_ (by omega) (by omega), h.sg.vb.keepB (hbk _ (by omega) (by omega)), h.sg.val, h.sg.gt, fun k hk => (h.sg.row k hk).keepB (fun _ => hbk _ (h.sg.flt hk) (by have := h.sg.gt k hk; omega)), h.sg.bb.grown hgr (by omega) (fun q hq => by cases hq; exact hge), Nat.lt_of_lt_of_le hsz hgr.size, h.sg.bh, h.sg.lo⟩, Nat.le_trans h.hw hgr.size, h.hh, h.fl, .inl ⟨by rw [hp, Nat.add_assoc], by omega, ?_, fun _ => ?_⟩⟩
  · rw [show cellsU (X i) ++ cellsU (mq Mb i (k + 1)) = cellsU (X i ++ mq Mb i (k + 1)) from by unfold cellsU; rw [List.map_append]]
    exact ho1
  · exact own_row3 ho1 hd
  · exact ho1
theorem S2.newm {w0 w w' : World} {B go N : Nat} {p : Nat → Option Addr} {n c b : Nat → Nat} {X : Nat → List Nat} {h0 H L Mb i : Nat} {F : Nat → Value} {f cc : Nat → Nat} {h1 k : Nat} {gv v' : Value} (h : S2 w0 w B go N p n c b X h0 H L Mb i F f cc h1 k gv)
    {row : Option Nat} (hrow : ∀ q, row = some q → h1 ≤ q) (hgr : w.grownBy w' row) (ho : w'.ownsRow h1 27 1 v' (n i + k + 1) (cellsU (X i ++ mq Mb i k) ++ [U (mkR i (Mb + k))])) :
    S2 w0 w' B go N p n c b X h0 H L Mb i F f cc h1 (k + 1) v' := by
  have hbh := h.sg.bh
  have hsz := h.sg.sz
  have hhh := h.hh
  have ec : cellsU (X i ++ mq Mb i k) ++ [U (mkR i (Mb + k))] = cellsU (X i ++ mq Mb i (k + 1)) := by rw [cellsU_app5, mq_succ, List.append_assoc]
  have hbk : ∀ q, q < w.heap.size → q < h1 → w'.heap[q]? = w.heap[q]? := fun q hq hne => hgr.block q hq (fun e => by have := hrow q e.symm; omega)
  rw [ec] at ho
  refine ⟨h.sg.keepB ((Below.refl _ _).grown hgr (by omega) (fun q hq => by have := hrow q hq; omega)) (hbk _ (by omega) (by omega)) (fun k hk hc => by have := h.sg.lo k hk hc; exact hbk _ (by omega) (by omega)) (hbk _ (by omega) (by omega)) (fun k hk => hbk _ (h.sg.flt hk) (h.fl k hk)), Nat.le_trans h.hw hgr.size, h.hh, h.fl, .inr ⟨by omega, ho⟩⟩
theorem S2.stop {w0 w : World} {B go N : Nat} {p : Nat → Option Addr} {n c b : Nat → Nat} {X : Nat → List Nat} {h0 H L Mb i : Nat} {F : Nat → Value} {f cc : Nat → Nat} {h1 : Nat} {gv : Value} (h : S2 w0 w B go N p n c b X h0 H L Mb i F f cc h1 L gv) (hi : i < N) (hi2 : i ≤ 1000) (hL : 6 < L) (hk2 : Mb + L < 10000000) :
    ∃ g cap, gv = .slice (some ⟨g, 0, none⟩) (n i + L) cap ∧ H < g ∧ Row w g 0 (n i + L) (X i ++ mq Mb i L) := by
  rcases h.gs with ⟨e1, e2, e3, e4⟩ | ⟨e1, e2⟩
  · have := h.sg.lc.six i hi; omega
  · obtain ⟨L', rfl⟩ : ∃ L', L = L' + 1 := ⟨L - 1, by omega⟩
    obtain ⟨g, cap, rfl, h5, h6⟩ := own_cut5 (k := n i + L') e2
    exact ⟨g, cap, rfl, Nat.lt_of_lt_of_le h.hh h5, own_row3 e2 (dig_app5 (h.sg.lc.row i hi).dig (mq_dig hi2 (by omega)))⟩
structure EK (w : World) (B : Nat) (p : Option Addr) (n c b : Nat) (X : List Nat) : Prop where
  cap : n ≤ c
  six : c ≤ n + 6
  addr : c = 0 ∨ p = some ⟨b, 0, none⟩
  pn : p = none → n = 0 ∧ c = 0
  row : Row w b 0 n X
  room : n < c → w.ownsRow B 27 1 (.slice (some ⟨b, 0, none⟩) n c) n (cellsU X)
  ge : B ≤ b
  le : n ≤ 17592186044422
theorem EK.below {w w' : World} {B : Nat} {p : Option Addr} {n c b : Nat} {X : List Nat} (h : EK w B p n c b X) (hb : Below w.heap.size w w') : EK w' B p n c b X :=
  ⟨h.cap, h.six, h.addr, h.pn, h.row.keepB (fun h0 => hb.block _ (row_lt3 h.row h0)), fun hr => ownAny3 (h.room hr) hb, h.ge, h.le⟩
theorem ek_own {w : World} {B B1 : Nat} {p : Option Addr} {m : Nat} {zs : List Nat} (h : Own B1 w p m zs) (hB : B ≤ B1) (hm : m ≤ 8192) : ∃ b, EK w B p m m b zs ∧ (m ≠ 0 → B1 ≤ b ∧ b < w.heap.size) := by
  rcases h.mem with h0 | ⟨g, e, hg, hr⟩
  · subst h0
    exact ⟨B, ⟨Nat.le_refl _, by omega, .inl rfl, fun _ => ⟨rfl, rfl⟩, ⟨h.len, h.dig, fun j hj => by omega, fun j hj => by omega⟩, fun hr => by omega, Nat.le_refl _, by omega⟩, fun h => absurd rfl h⟩
  · by_cases h0 : m = 0
    · subst h0
      exact ⟨B, ⟨Nat.le_refl _, by omega, .inl rfl, fun _ => ⟨rfl, rfl⟩, ⟨h.len, h.dig, fun j hj => by omega, fun j hj => by omega⟩, fun hr => by omega, Nat.le_refl _, by omega⟩, fun h => absurd rfl h⟩
    · exact ⟨g, ⟨Nat.le_refl _, by omega, .inr e, fun hp => (by rw [e] at hp; cases hp), hr, fun hr => by omega, by omega, by omega⟩, fun _ => ⟨hg, row_lt3 hr h0⟩⟩
theorem ek_room {w : World} {B m g : Nat} {zs : List Nat} (h : w.ownsRow B 27 1 (.slice (some ⟨g, 0, none⟩) (m + 6) (m + 6)) (m + 6) (cellsU zs)) (hd : Dig B64 zs) (hm : m ≤ 17592186044416) : EK w B (some ⟨g, 0, none⟩) m (m + 6) g (zs.take m) := by
  have hl : zs.length = m + 6 := by have := h.1; rw [cellsU_length, Nat.mul_one] at this; exact this
  have e : cellsU zs = cellsU (zs.take m) ++ cellsU (zs.drop m) := by unfold cellsU; rw [← List.map_append, List.take_append_drop]
  have hd2 : Dig B64 (zs.take m) := fun x hx => hd x (List.mem_of_mem_take hx)
  have h2 := h
  rw [e] at h2
  have h3 := own_pre h2 (by rw [cellsU_length, List.length_take]; omega)
  refine ⟨by omega, Nat.le_refl _, .inr rfl, fun h => (by cases h), own_row3 h3 hd2, fun _ => h3, ?_, by omega⟩
  rcases h.2 with ⟨h4, _⟩ | ⟨g', cap, cur, h4, h5, h6⟩
  · cases h4
  · simp only [Value.slice.injEq, Option.some.injEq, Addr.mk.injEq, and_true, true_and] at h4
    rw [h4.1]; exact h5
def sel4 {α : Type} (a b c d : α) (i : Nat) : α := if i = 0 then a else if i = 1 then b else if i = 2 then c else d
theorem lc4 {w : World} {B go : Nat} {p0 p1 p2 p3 : Option Addr} {n0 n1 n2 n3 c0 c1 c2 c3 b0 b1 b2 b3 : Nat} {X0 X1 X2 X3 : List Nat} (e0 : EK w B p0 n0 c0 b0 X0) (e1 : EK w B p1 n1 c1 b1 X1) (e2 : EK w B p2 n2 c2 b2 X2) (e3 : EK w B p3 n3 c3 b3 X3)
    (k0 : w.cell? ⟨go, 0, none⟩ = some (.slice p0 n0 c0)) (k1 : w.cell? ⟨go, 1, none⟩ = some (.slice p1 n1 c1)) (k2 : w.cell? ⟨go, 2, none⟩ = some (.slice p2 n2 c2)) (k3 : w.cell? ⟨go, 3, none⟩ = some (.slice p3 n3 c3))
    (g0 : c0 ≠ 0 → b0 ≠ go) (g1 : c1 ≠ 0 → b1 ≠ go) (g2 : c2 ≠ 0 → b2 ≠ go) (g3 : c3 ≠ 0 → b3 ≠ go)
    (d01 : c0 ≠ 0 → c1 ≠ 0 → b0 ≠ b1) (d02 : c0 ≠ 0 → c2 ≠ 0 → b0 ≠ b2) (d03 : c0 ≠ 0 → c3 ≠ 0 → b0 ≠ b3) (d12 : c1 ≠ 0 → c2 ≠ 0 → b1 ≠ b2) (d13 : c1 ≠ 0 → c3 ≠ 0 → b1 ≠ b3) (d23 : c2 ≠ 0 → c3 ≠ 0 → b2 ≠ b3) :
    LC w B go 4 (sel4 p0 p1 p2 p3) (sel4 n0 n1 n2 n3) (sel4 c0 c1 c2 c3) (sel4 b0 b1 b2 b3) (sel4 X0 X1 X2 X3) := by
  have key : ∀ {P : Nat → Prop}, P 0 → P 1 → P 2 → P 3 → ∀ i, i < 4 → P i := by
    intro P h0 h1 h2 h3 i hi
    rcases (by omega : i = 0 ∨ i = 1 ∨ i = 2 ∨ i = 3) with rfl | rfl | rfl | rfl <;> assumption
  refine ⟨key k0 k1 k2 k3, key e0.cap e1.cap e2.cap e3.cap, key e0.six e1.six e2.six e3.six, key e0.addr e1.addr e2.addr e3.addr, key e0.pn e1.pn e2.pn e3.pn, key e0.row e1.row e2.row e3.row, key e0.room e1.room e2.room e3.room, key e0.ge e1.ge e2.ge e3.ge, key e0.le e1.le e2.le e3.le, key g0 g1 g2 g3, ?_⟩
  intro i j hi hj hne hci hcj
  rcases (by omega : i = 0 ∨ i = 1 ∨ i = 2 ∨ i = 3) with rfl | rfl | rfl | rfl <;> rcases (by omega : j = 0 ∨ j = 1 ∨ j = 2 ∨ j = 3) with rfl | rfl | rfl | rfl
  · exact absurd rfl hne
  · exact d01 hci hcj
  · exact d02 hci hcj
  · exact d03 hci hcj
  · exact (d01 hcj hci).symm
  · exact absurd rfl hne
  · exact d12 hci hcj
  · exact d13 hci hcj
  · exact (d02 hcj hci).symm
  · exact (d12 hcj hci).symm
  · exact absurd rfl hne
  · exact d23 hci hcj
  · exact (d03 hcj hci).symm
  · exact (d13 hcj hci).symm
  · exact (d23 hcj hci).symm
  · exact absurd rfl hne
def RdR (s : ByteArray) (zs : List Nat) (er : Int) : Prop := (RdOk s ∧ Nf B64 zs (dN s s.size) ∧ er = 0) ∨ (¬ RdOk s ∧ zs = [] ∧ er = rdErr s)
theorem RdR.uniq {s : ByteArray} {zs ys : List Nat} {e f : Int} (h : RdR s zs e) (k : RdR s ys f) : zs = ys ∧ e = f := by
  rcases h with ⟨h1, h2, rfl⟩ | ⟨h1, rfl, rfl⟩ <;> rcases k with ⟨k1, k2, rfl⟩ | ⟨k1, rfl, rfl⟩
  · exact ⟨h2.inj B64_one k2, rfl⟩
  · exact absurd h1 k1
  · exact absurd k1 h1
  · exact ⟨rfl, rfl⟩
theorem read_u (s : ByteArray) {w : World} : Calls Tryd.prog 4 #[.string s] w fun en w' => ∃ q l er zs, en = .returned (.tuple #[.slice q l l, .int .i64 er]) ∧ RdR s zs er ∧ Own w.heap.size w' q l zs ∧ l ≤ 8192 ∧ Below w.heap.size w w' := by
  refine (read_ok s).mono ?_
  rintro en w' ⟨⟨h1, q, l, rfl, ⟨⟨zs, h2, h3⟩, h4⟩⟩ | ⟨h1, rfl⟩, hb⟩
  · exact ⟨q, l, 0, zs, rfl, .inl ⟨h1, h3, rfl⟩, h2, h4, hb⟩
  · exact ⟨none, 0, rdErr s, [], rfl, .inr ⟨h1, rfl, rfl⟩, ⟨rfl, Dig.nil _, .inl rfl⟩, by omega, hb⟩
theorem mark_top {zs : List Nat} {m : Nat} (hl : zs.length = m) (h : ∀ k, k < m → zs.getD k 0 = mkR 92 k) (hm : m ≤ 200) : formB zs = true ∧ valB B64 zs < TXL := by
  have hd : Dig B64 zs := by
    intro x hx
    obtain ⟨j, hj, rfl⟩ := List.getElem_of_mem hx
    have := h j (by omega)
    rw [List.getD_eq_getElem?_getD, List.getElem?_eq_getElem hj] at this
    rw [show zs[j] = mkR 92 j from this]
    exact mkR_lt (by omega) (by omega)
  refine ⟨(formB_iff zs).2 ⟨by omega, ?_⟩, ?_⟩
  · intro x hx
    by_cases h0 : m = 0
    · rw [List.eq_nil_of_length_eq_zero (by omega : zs.length = 0)] at hx; simp at hx
    · rw [List.getLast?_eq_getElem?] at hx
      have h2 := h (m - 1) (by omega)
      rw [List.getD_eq_getElem?_getD, ← hl, hx] at h2
      have h3 : x = mkR 92 (zs.length - 1) := h2
      rw [h3]; unfold mkR; omega
  · have h1 := valB_lt B64_pos hd
    refine Nat.lt_of_lt_of_le h1 ?_
    rw [hl]
    obtain ⟨k, hk⟩ : ∃ k : Nat, k = 200 := ⟨_, rfl⟩
    refine Nat.le_trans (Nat.pow_le_pow_right (by decide) (by omega) : B64 ^ m ≤ B64 ^ k) ?_
    unfold TXL
    have h2 : (B64 : Nat) ≤ 10 ^ 20 := by decide
    refine Nat.le_trans (Nat.pow_le_pow_left h2 k) ?_
    rw [← Nat.pow_mul]
    exact Nat.pow_le_pow_right (by decide) (by rw [hk]; decide)
end Go.Proofs.YteooedpaeddkcaaDoor
