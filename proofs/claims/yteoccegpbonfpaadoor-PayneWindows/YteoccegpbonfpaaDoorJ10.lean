import Derived.Test.YteoccegpbonfpaaDoorJ9
import Derived.Test.YteoccegpbonfpaaDoorJ8
import Derived.Laws.Bits64b
import Derived.Deep.RegionWith
import Derived.Test.YteoccegpbonfpaaDoorChecked
import Derived.Test.YteoccegpbonfpaaDoorMem
import Derived.Shelf.Strconv.Itoa0
import Derived.Laws.ResultCell
import Derived.Lib.SliceRun
import Derived.Sort.Row
import Derived.Deep.DeepCutAuto
import Derived.Deep.LoopGhost
import Derived.Shelf.Spec.TrailingZeros
import Derived.BigQuiet
namespace Go.Proofs.YteoccegpbonfpaaDoor
open Go.RowKit Go.Shelf
set_option maxRecDepth 20000
set_option maxHeartbeats 0
structure DigRel32 (w : World) (gq gr L n : Nat) (A D : Nat) (k : Nat) (qs rs : List Nat) (wr : World) : Prop where
  bel : ∀ B, B ≤ gq → B ≤ gr → Below B w wr
  rowq : Row32 wr gq 0 L qs
  rowr : Row32 wr gr 0 (L + n) rs
  cell : ∀ b o, b ≠ gq → b ≠ gr → wr.cell? ⟨b, o, none⟩ = w.cell? ⟨b, o, none⟩
  lt : valB B32 (rs.drop (L - k)) < D
  sum : valB B32 rs + B32 ^ (L - k) * valB B32 (qs.drop (L - k)) * D = A

theorem Row32.other {w : World} {g off n : Nat} {xs : List Nat} (h : Row32 w g off n xs) (g2 o2 : Nat) (v : Value) (hne : g ≠ g2) : Row32 (w.setCell ⟨g2, o2, none⟩ v) g off n xs := by
  refine ⟨h.len, h.dig, fun j hj => ?_, fun j hj => by rw [World.frozen?_setCell]; exact h.frozen j hj⟩
  exact (World.cell?_setCell_other _ _ _ _ (by intro e; apply hne; have := congrArg Addr.block e; simp at this; omega)).trans (h.cell j hj)
theorem Row32.wr {w w' : World} {g off n g2 o2 l2 : Nat} {xs : List Nat} (h : Row32 w g off n xs) (hwr : Wr g2 o2 l2 w w') (hne : g ≠ g2) : Row32 w' g off n xs :=
  ⟨h.len, h.dig, fun j hj => (hwr.cell g (off + j) (.inl hne)).trans (h.cell j hj), fun j hj => (hwr.frozen _).trans (h.frozen j hj)⟩
theorem At32.cells_of {w w' : World} {g off n c : Nat} {xs : List Nat} (h : At32 w (some ⟨g, off, none⟩) n c xs) (hc : ∀ o, w'.cell? ⟨g, o, none⟩ = w.cell? ⟨g, o, none⟩) : At32 w' (some ⟨g, off, none⟩) n c xs :=
  ⟨h.len, h.cap, h.big, h.dig, by
    rcases h.cells with h0 | ⟨g', o', he, hcl⟩
    · exact .inl h0
    · refine .inr ⟨g', o', he, fun j hj => ?_⟩
      simp only [Option.some.injEq, Addr.mk.injEq, and_true] at he
      rw [← he.1, ← he.2] at hcl ⊢
      exact (hc (off + j)).trans (hcl j hj)⟩

theorem dig_abs32 {P W q r D T Q A : Nat} (hW : q * D + r = W) (h : T + P * W + P * B32 * Q * D = A) : T + P * r + P * (q + B32 * Q) * D = A := by
  subst hW
  have e1 : P * (q + B32 * Q) * D = P * (q * D) + P * B32 * Q * D := by
    rw [Nat.mul_add, Nat.add_mul, Nat.mul_assoc P q D, ← Nat.mul_assoc P B32 Q]
  rw [e1]
  rw [Nat.mul_add] at h
  omega
theorem DigRel32.window {w : World} {gq gr L n A D k : Nat} {qs rs : List Nat} {wr : World} (h : DigRel32 w gq gr L n A D k qs rs wr) (hk : k < L) (hDn : D < B32 ^ n) :
    ∃ a ws, a = L - 1 - k ∧ ws = (rs.drop a).take (n + 1) ∧ Row32 wr gr a (n + 1) ws ∧ valB B32 ws < B32 * D ∧ valB B32 rs = valB B32 (rs.take a) + B32 ^ a * valB B32 ws ∧ valB B32 (rs.drop (a + (n + 1))) = 0 := by
  have hl := h.rowr.len
  obtain ⟨a, ha⟩ : ∃ a, a = L - 1 - k := ⟨_, rfl⟩
  have hlt := h.lt
  rw [show L - k = a + 1 by omega] at hlt
  have hz : valB B32 (rs.drop (a + (n + 1))) = 0 := by
    have hs := valB_split B32 (rs.drop (a + 1)) n (by rw [List.length_drop]; omega)
    rw [List.drop_drop, show a + 1 + n = a + (n + 1) by omega] at hs
    rcases Nat.eq_zero_or_pos (valB B32 (rs.drop (a + (n + 1)))) with e | e
    · exact e
    · exfalso
      have : B32 ^ n * 1 ≤ B32 ^ n * valB B32 (rs.drop (a + (n + 1))) := Nat.mul_le_mul_left _ e
      omega
  have hw := win_take32 rs a (n + 1) (by omega)
  rw [hz, Nat.mul_zero, Nat.add_zero] at hw
  refine ⟨a, _, ha, rfl, h.rowr.win a (n + 1) (by omega), ?_, hw, hz⟩
  have hs := valB_split B32 (rs.drop a) (n + 1) (by rw [List.length_drop]; omega)
  rw [List.drop_drop, hz, Nat.mul_zero, Nat.add_zero] at hs
  rw [← hs, valB_drop B32 rs a (by omega)]
  have hb := h.rowr.dig.getD B32_pos a
  have : B32 * (valB B32 (rs.drop (a + 1)) + 1) ≤ B32 * D := Nat.mul_le_mul_left _ hlt
  rw [Nat.mul_add] at this
  omega
theorem DigRel32.step {w : World} {gq gr L n A D k : Nat} {qs rs : List Nat} {wr wr' : World} (h : DigRel32 w gq gr L n A D k qs rs wr) (hk : k < L) (hne : gq ≠ gr) {a q : Nat} {ws ws' : List Nat} (ha : a = L - 1 - k)
    (hrs : valB B32 rs = valB B32 (rs.take a) + B32 ^ a * valB B32 ws) (hz : valB B32 (rs.drop (a + (n + 1))) = 0) (hD : 0 < D) (hq : q = valB B32 ws / D) (hqb : q < B32) (hr : valB B32 ws' = valB B32 ws % D)
    (hwr : Wr gr a (n + 1) wr wr') (hrow : Row32 wr' gr a (n + 1) ws') : DigRel32 w gq gr L n A D (k + 1) (qs.set a q) (winPut rs ws' a) (wr'.setCell ⟨gq, a, none⟩ (V q)) := by
  have hl := h.rowr.len; have hql := h.rowq.len; have hwl := hrow.len
  have hle : a + ws'.length ≤ rs.length := by omega
  have e1 : L - (k + 1) = a := by omega
  have e2 : L - k = a + 1 := by omega
  have hdrop : valB B32 ((winPut rs ws' a).drop a) = valB B32 ws % D := by
    rw [winPut_drop rs ws' a hle, valB_append, hwl, hz, Nat.mul_zero, Nat.add_zero, hr]
  refine ⟨fun B h1 h2 => ?_, ?_, ?_, fun b o h1 h2 => ?_, ?_, ?_⟩
  · exact ((h.bel B h1 h2).trans (hwr.below h2)).trans ((Wr.refl gq 0 L wr').setCell a ⟨by omega, by omega⟩ (V q) |>.below h1)
  · have := (h.rowq.wr hwr hne).set a q (by omega) hqb
    rw [Nat.zero_add] at this; exact this
  · exact (h.rowr.put hwr hrow (by omega)).other gq a _ (Ne.symm hne)
  · rw [World.cell?_setCell_other _ _ _ _ (by intro e; apply h1; have := congrArg Addr.block e; simp at this; omega), hwr.cell b o (.inl h2)]
    exact h.cell b o h1 h2
  · rw [e1, hdrop]; exact Nat.mod_lt _ hD
  · have hs := h.sum
    rw [e2, hrs, Nat.pow_succ] at hs
    rw [e1, valB_split B32 (winPut rs ws' a) a (by rw [winPut_len rs ws' a hle]; omega), winPut_take rs ws' a hle, hdrop, drop_set_at qs a q (by omega), valB_cons]
    refine dig_abs32 (W := valB B32 ws) (q := q) ?_ hs
    rw [hq, Nat.mul_comm]; exact Nat.div_add_mod _ _

theorem Row32.below2 {w w' : World} {g off n B : Nat} {xs : List Nat} (h : Row32 w g off n xs) (hb : Below B w w') (hg : g < B) : Row32 w' g off n xs :=
  ⟨h.len, h.dig, fun j hj => (hb.cell (p := ⟨g, off + j, none⟩) hg).trans (h.cell j hj), fun j hj => (hb.frozen (p := ⟨g, off + j, none⟩) hg).trans (h.frozen j hj)⟩
theorem own_row32 {wr : World} {base i N : Nat} {p : Option Addr} {ss : List Nat} (ho : wr.ownsRow base 64 1 (.slice p i N) i (cellsV ss)) (hl : ss.length = i) (hd : Dig B32 ss) (hi : 0 < i) : ∃ g, p = some ⟨g, 0, none⟩ ∧ base ≤ g ∧ Row32 wr g 0 i ss ∧ i ≤ N ∧ N ≤ maxLen := by
  rcases ho.2 with ⟨h', h0⟩ | ⟨g', cap', cur, h', hbase, hgc, hcap', hmx, hsz, htake⟩
  · omega
  · simp only [Value.slice.injEq, true_and] at h'
    obtain ⟨rfl, rfl⟩ := h'
    refine ⟨g', rfl, hbase, ⟨hl, hd, fun jj hj => ?_, fun jj _ => frozen_of_row wr g' _ _ _ hgc⟩, hcap', hmx⟩
    rw [Nat.zero_add, cell_of_row wr g' jj _ _ _ hgc]
    have e1 := cellsV_get ss jj (by rw [hl]; exact hj)
    rw [← htake, Nat.mul_one, List.getElem?_take, if_pos hj] at e1
    rw [← Array.getElem?_toList]; exact e1
theorem shl_len {b M y s : Nat} {ys : List Nat} (hy : Nf B32 ys b) (hl : ys.length = M + 1) (hyy : y = ys.getD M 0) (hy0 : 0 < y) (hs : s = 32 - bitsN y) (hb32 : bitsN y ≤ 32) : b * 2 ^ s < B32 ^ (M + 1) ∧ B32 ^ M ≤ b * 2 ^ s := by
  have h1 : b = valB B32 (ys.take M) + B32 ^ M * y := by
    rw [← hy.val, valB_split B32 ys M (by omega), valB_drop B32 ys M (by omega), ← hyy, List.drop_of_length_le (by omega), valB_nil, Nat.mul_zero, Nat.add_zero]
  have h2 := valB_lt B32_pos (hy.dig.take M)
  rw [List.length_take, hl, Nat.min_eq_left (by omega)] at h2
  have h3 := bitsN_lt y
  have hp : 0 < 2 ^ s := Nat.pow_pos (by omega)
  refine ⟨?_, ?_⟩
  · have h4 : b < B32 ^ M * 2 ^ bitsN y := by
      have : B32 ^ M * (y + 1) ≤ B32 ^ M * 2 ^ bitsN y := Nat.mul_le_mul_left _ h3
      rw [Nat.mul_add, Nat.mul_one] at this
      omega
    have h5 : B32 ^ M * 2 ^ bitsN y * 2 ^ s = B32 ^ (M + 1) := by
      rw [Nat.mul_assoc, ← Nat.pow_add, Nat.pow_succ, show bitsN y + s = 32 by omega]; rfl
    rw [← h5]
    exact Nat.mul_lt_mul_of_pos_right h4 hp
  · have h4 : B32 ^ M * 1 ≤ B32 ^ M * y := Nat.mul_le_mul_left _ hy0
    have h5 : b * 1 ≤ b * 2 ^ s := Nat.mul_le_mul_left _ hp
    omega
theorem rdivmod_big {p q : Option Addr} {n m c d : Nat} {xs ys : List Nat} {a b : Nat} {w : World} (h : At32 w p n c xs) (k : At32 w q m d ys) (hx : Nf B32 xs a) (hy : Nf B32 ys b) (hn : n ≤ 16384) (hm : m ≤ 16384) (hb : b ≠ 0) (hge : b ≤ a) (hm2 : 2 ≤ m) :
    Calls Tryd.prog 31 #[.slice p n c, .slice q m d] w fun e w' => ∃ p1 m1 z1 p2 m2 z2, e = .returned (.tuple #[.slice p1 m1 m1, .slice p2 m2 m2]) ∧ At32 w' p1 m1 m1 z1 ∧ Nf B32 z1 (a / b) ∧ At32 w' p2 m2 m2 z2 ∧ Nf B32 z2 (a % b) ∧ m1 ≤ n ∧ m2 ≤ n ∧ Below w.heap.size w w' := by
  have HA : Hid (At32 w p n c xs) := h
  have HB : Hid (At32 w q m d ys) := k
  have HX : Hid (Nf B32 xs a) := hx
  have HY : Hid (Nf B32 ys b) := hy
  have hm0 : m ≠ 0 := fun e => hb ((hy.zero_iff B32_one).1 (List.eq_nil_of_length_eq_zero (by rw [k.len]; exact e)))
  have hmb : ((m : Int) == 0) = false := by simp; omega
  have hcap := k.cap; have hbig := k.big
  unfold maxLen at hbig
  have HGE : Hid (b ≤ a) := hge
  have hm1 : ((m : Int) == 1) = false := by simp; omega
  have hm1' : ¬ m = 1 := by omega
  obtain ⟨gq, oq, rfl, hcq⟩ := k.cells.resolve_left (by omega)
  obtain ⟨M, rfl⟩ : ∃ M, m = M + 1 := ⟨m - 1, by omega⟩
  obtain ⟨y, hyy⟩ : ∃ y, y = ys.getD M 0 := ⟨_, rfl⟩
  have hc0 : w.cell? ⟨gq, oq + M, none⟩ = some (V y) := by rw [hyy]; exact hcq M (by omega)
  have hyB : y < B32 := by rw [hyy]; exact hy.dig.getD B32_pos _
  have hyp : 0 < y := by
    rcases Nat.eq_zero_or_pos y with e | e
    · exfalso
      have h1 := valB_pos B32_pos (zs := ys) (by intro e2; have := k.len; rw [e2] at this; simp at this) hy.top
      rw [hy.val, k.len, Nat.add_sub_cancel] at h1
      have h2 : b = valB B32 (ys.take M) := by
        rw [← hy.val, valB_split B32 ys M (by rw [k.len]; omega), valB_drop B32 ys M (by rw [k.len]; omega), ← hyy, e, List.drop_of_length_le (by rw [k.len]; omega), valB_nil, Nat.mul_zero, Nat.add_zero, Nat.mul_zero, Nat.add_zero]
      have h3 := valB_lt B32_pos (hy.dig.take M)
      rw [List.length_take, k.len, Nat.min_eq_left (by omega)] at h3
      omega
    · exact e
  have hbN : bitsN y ≤ 32 ∧ 1 ≤ bitsN y := ⟨(lt_pow_bits y 32).1 (by rw [B32_eq] at hyB; omega), bitsN_pos (by omega)⟩
  obtain ⟨s, hs⟩ : ∃ s, s = 32 - bitsN y := ⟨_, rfl⟩
  have hsI : wrap64 (32 - (bitsN y : Int)) = (s : Int) := by simp only [wrap64]; omega
  have hsI2 : (32 : Int) - (bitsN y : Int) = (s : Int) := by omega
  have HS : Hid (s = 32 - bitsN y ∧ s ≤ 31) := ⟨hs, by omega⟩
  have HYY : Hid (y = ys.getD M 0 ∧ 0 < y ∧ y < B32) := ⟨hyy, hyp, hyB⟩
  have HLXY : Hid (xs.length = n ∧ ys.length = M + 1) := ⟨h.len, k.len⟩
  have hMI : (M : Int) + 1 - 1 = (M : Int) := by omega
  clear h k hx hy hb hge hcq hyy hyB hyp hs
  go_enter Tryd.func31, Tryd.ntmps31
  go_wp2_with fail
  refine (rcmp_any HA.out HB.out HX.out HY.out).mono ?_
  rintro e w1 ⟨rfl, r, rfl⟩
  obtain ⟨cm, hcm⟩ : ∃ cm, cm = cmpN a b := ⟨_, rfl⟩
  rw [← hcm]
  have hcm0 : decide (cm < 0) = false := decide_eq_false (by rw [hcm, cmpN_neg]; have := HGE.out; omega)
  have A1 : Hid (At32 (w.drewN r) p n c xs) := HA.out.drewN r
  have B1 : Hid (At32 (w.drewN r) (some ⟨gq, oq, none⟩) (M + 1) d ys) := HB.out.drewN r
  have hb1 : Below w.heap.size w (w.drewN r) := bDrewN (Below.refl _ _) r
  have hc1 : (w.drewN r).cell? ⟨gq, oq + M, none⟩ = some (V y) := hc0
  clear HA HB hcm hc0
  generalize w.drewN r = w1 at *
  go_wp2_with fail
  have NY : Hid (Nf B32 [y] y) := by
    have h9 := HYY.out
    refine ⟨Dig.cons h9.2.2 (Dig.nil _), ?_, by simp [valB]⟩
    intro z hz
    simp at hz
    omega
  have AY : Hid (At32 w1 (some ⟨gq, oq + M, none⟩) 1 (d - M) [y]) := ⟨rfl, by omega, by unfold maxLen; omega, NY.out.dig, .inr ⟨gq, oq + M, rfl, fun j hj => by obtain rfl : j = 0 := (by omega); rw [Nat.add_zero]; exact hc1⟩⟩
  refine (rbits_any AY.out NY.out (by omega)).mono ?_
  rintro e w' ⟨rfl, hw⟩
  obtain rfl := hw.symm
  clear hw AY NY hc1 hcm0
  go_wp2_with fail
  clear hsI hsI2
  have HSL : Hid (b * 2 ^ s < B32 ^ (M + 1) ∧ B32 ^ M ≤ b * 2 ^ s) := shl_len HY.out HLXY.out.2 HYY.out.1 HYY.out.2.1 HS.out.1 hbN.1
  refine (rshl_blk B1.out HY.out (by omega) hm s (by have := HS.out.2; omega)).mono ?_
  rintro e w2 ⟨gv, vs, rfl, hgv, hKv, hNv, hlv, hb2⟩
  obtain ⟨D, hD⟩ : ∃ D, D = b * 2 ^ s := ⟨_, rfl⟩
  rw [← hD] at hNv
  have hvl : vs.length = M + 1 := by
    have h1 := (hNv.len_le B32_one (k := M + 1)).2 (by rw [hD]; exact HSL.out.1)
    have h2 : ¬ vs.length ≤ M := fun e => by have := (hNv.len_le B32_one).1 e; have := HSL.out.2; omega
    omega
  rw [hvl]
  have HVL : Hid (vs.length = M + 1 ∧ D = b * 2 ^ s) := ⟨hvl, hD⟩
  have HNV : Hid (Nf B32 vs D) := hNv
  have hgv2 : gv < w2.heap.size := hKv.lt
  have V2 : Hid (At32 w2 (some ⟨gv, 0, none⟩) (M + 1) (M + 1) vs) := hKv.at_ hNv.dig hvl (by unfold maxLen; omega)
  have A2 : Hid (At32 w2 p n c xs) := A1.out.below hb2
  have HB2 : Hid (Below w.heap.size w w2) := Below.on hb1 hb2
  have HN0 : Hid (0 < n) := by
    have h1 := HGE.out
    rcases Nat.eq_zero_or_pos n with e | e
    · have h2 := (HX.out.zero_iff B32_one).1 (List.eq_nil_of_length_eq_zero (by rw [HLXY.out.1]; exact e))
      have h3 := HSL.out.2
      have h4 : b = 0 := by omega
      rw [h4, Nat.zero_mul] at h3
      have : 0 < B32 ^ M := Nat.pow_pos B32_pos
      omega
    · exact e
  clear hKv hNv hb2 hb1 A1 B1 hD hvl hlv hgv
  go_wp2_with fail
  refine (rshl_blk A2.out HX.out HN0.out hn s (by have := HS.out.2; omega)).mono ?_
  rintro e w3 ⟨gu, u0, rfl, hgu, hKu, hNu, hlu, hb3⟩
  obtain ⟨A', hA'⟩ : ∃ A', A' = a * 2 ^ s := ⟨_, rfl⟩
  rw [← hA'] at hNu
  have hp2 : 0 < 2 ^ s := Nat.pow_pos (by omega)
  have hul : n ≤ u0.length ∧ u0.length ≤ n + 1 := by
    refine ⟨?_, (hNu.len_le B32_one).2 ?_⟩
    · rcases Nat.lt_or_ge u0.length n with e | e
      · exfalso
        have h1 := (hNu.len_le B32_one (k := n - 1)).1 (by omega)
        have h2 : ¬ a < B32 ^ (n - 1) := fun e3 => by have := (HX.out.len_le B32_one).2 e3; have := HLXY.out.1; have := HN0.out; omega
        have h3 : a * 1 ≤ a * 2 ^ s := Nat.mul_le_mul_left _ hp2
        omega
      · exact e
    · have h1 := (HX.out.len_le B32_one (k := n)).1 (by rw [HLXY.out.1]; exact Nat.le_refl _)
      have h2 : 2 ^ s ≤ B32 := by rw [show B32 = 2 ^ 32 from rfl]; exact Nat.pow_le_pow_right (by omega) (by have := HS.out.2; omega)
      rw [hA', Nat.pow_succ]
      exact Nat.lt_of_lt_of_le (Nat.mul_lt_mul_of_pos_right h1 hp2) (Nat.mul_le_mul_left _ h2)
  have HAV : Hid (A' = a * 2 ^ s) := hA'
  have V3 : Hid (At32 w3 (some ⟨gv, 0, none⟩) (M + 1) (M + 1) vs) := V2.out.below hb3
  have HB3 : Hid (Below w2.heap.size w2 w3) := hb3
  have HO : Hid (w3.ownsRow w2.heap.size 64 1 (.slice (some ⟨gu, 0, none⟩) u0.length u0.length) u0.length (cellsV u0)) := hKu.own hgu (by unfold maxLen; omega)
  have HDU : Hid (Dig B32 u0 ∧ valB B32 u0 = A') := ⟨hNu.dig, hNu.val⟩
  obtain ⟨L0, hL0⟩ : ∃ L0, L0 = u0.length := ⟨_, rfl⟩
  rw [← hL0] at HO hul ⊢
  have HL0 : Hid (u0.length = L0) := hL0.symm
  obtain ⟨i0, hi, hz0, hz1, hz2⟩ := info_parts Tryd.infoU32
  clear hKu hNu hb3 hgu hlu hA' hL0 A2
  go_wp2_with fail
  go_loopg [10] (n + 1 - L0) (fun gk uv wr => ∃ (i Nc : Nat) (pp : Option Addr) (ss : List Nat), i + gk = n + 1 ∧ uv = .slice pp i Nc ∧ Hid (wr.ownsRow w2.heap.size 64 1 (.slice pp i Nc) i (cellsV ss) ∧ ss.length = i ∧ Dig B32 ss ∧ valB B32 ss = A' ∧ Below w2.heap.size w2 wr))
  case atStart => exact ⟨L0, L0, _, u0, by omega, rfl, HO.out, HL0.out, HDU.out.1, HDU.out.2, HB3.out⟩
  case round =>
    obtain ⟨i, Nc, pp, ss, hig, rfl, HR⟩ := hrel
    have hbr := HR.out.2.2.2.2
    cases gk with
    | succ gg =>
      have hle : (i : Int) ≤ (n : Int) := by omega
      have hle2 : i ≤ n := by omega
      have hleb : decide (i ≤ n) = true := decide_eq_true hle2
      have HOA : Hid ((wr.alloc (.cells #[V 0] 64)).ownsRow w2.heap.size 64 1 (.slice pp i Nc) i (cellsV ss)) := HR.out.1.alloc _
      have hsz1 : w2.heap.size ≤ (wr.alloc (.cells #[V 0] 64)).heap.size := by have := hbr.size; simp; omega
      go_wp2_with (at_builtin; refine wpList_append_own _ rfl (.tmp 59) (.tmp 60) 44 rfl w2.heap.size 64 i0 (.int .u32 0) 1 4 Tryd.underlying44 hi hz0 hz1 hz2 rfl (by decide) (.slice pp i Nc) i (cellsV ss) rfl HOA.out ⟨wr.heap.size, 0, none⟩ 1 1 [V 0] rfl rfl (one_cell wr 0) (by intro u hu; simp at hu; subst hu; rfl) (by unfold maxLen; omega) (by omega) hsz1 ?_; intro v3 w3 hw3 hgr3 hnil3)
      obtain ⟨p3, N3, rfl⟩ := own_form hw3
      have HR3 : Hid (w3.ownsRow w2.heap.size 64 1 (.slice p3 (i + 1) N3) (i + 1) (cellsV (ss ++ [0])) ∧ (ss ++ [0]).length = i + 1 ∧ Dig B32 (ss ++ [0]) ∧ valB B32 (ss ++ [0]) = A' ∧ Below w2.heap.size w2 w3) := by
        have hR := HR.out
        refine ⟨?_, by simp [hR.2.1], hR.2.2.1.append (Dig.cons B32_pos (Dig.nil _)), by rw [valB_snoc, Nat.mul_zero, Nat.add_zero]; exact hR.2.2.2.1, ?_⟩
        · have e0 : cellsV (ss ++ [0]) = cellsV ss ++ [V 0] := by unfold cellsV; rw [List.map_append]; rfl
          rw [e0]; exact hw3
        · exact (hR.2.2.2.2.alloc hR.2.2.2.2.size _).grown hgr3 (by have := hR.2.2.2.2.size; simp; omega) (own_base HOA.out)
      clear hw3 hgr3 hnil3
      go_roundg gg
      case measure => omega
      case rel => exact ⟨i + 1, N3, p3, ss ++ [0], by omega, rfl, HR3⟩
    | zero =>
      obtain rfl : i = n + 1 := by omega
      obtain ⟨gu2, rfl, hgu2, hrow, hNc, hNcm⟩ := own_row32 HR.out.1 HR.out.2.1 HR.out.2.2.1 (by omega)
      unfold maxLen at hNcm
      have V4 : Hid (At32 wr (some ⟨gv, 0, none⟩) (M + 1) (M + 1) vs) := V2.out.below hbr
      have HROW : Hid (Row32 wr gu2 0 (n + 1) ss ∧ valB B32 ss = A' ∧ w2.heap.size ≤ gu2 ∧ gu2 < wr.heap.size) := ⟨hrow, HR.out.2.2.2.1, hgu2, World.block_lt_of_cell? wr _ (hrow.cell 0 (by omega))⟩
      have HBR : Hid (Below w.heap.size w wr) := Below.on HB2.out hbr
      have hbr2 : Hid (gv < wr.heap.size ∧ gv < w2.heap.size) := ⟨Nat.lt_of_lt_of_le hgv2 hbr.size, hgv2⟩
      clear HR hrow hgu2 hbr HO
      obtain ⟨L, hL⟩ : ∃ L, L = n - M := ⟨_, rfl⟩
      have hMn : M < n := by
        rcases Nat.lt_or_ge M n with e | e
        · exact e
        · exfalso
          have h1 := (HX.out.len_le B32_one (k := n)).1 (by rw [HLXY.out.1]; exact Nat.le_refl _)
          have h2 : B32 ^ n ≤ B32 ^ M := Nat.pow_le_pow_right B32_pos e
          have h3 : ¬ b < B32 ^ M := fun e3 => by have := (HY.out.len_le B32_one).2 e3; have := HLXY.out.2; omega
          have := HGE.out
          omega
      have hLI : (n : Int) + 1 - ((M : Int) + 1) = (L : Int) := by omega
      have hLb : L ≤ 16384 := by omega
      have hLp : 1 ≤ L := by omega
      have HL : Hid (L = n - M ∧ M < n) := ⟨hL, hMn⟩
      obtain ⟨wo, hwo⟩ : ∃ wo, wo = wr := ⟨_, rfl⟩
      subst hwo
      clear hL hMn
      go_wp2_with (at_make; refine wpList_make_full _ rfl _ _ 44 rfl wo.heap.size 64 i0 (.int .u32 0) 1 Tryd.underlying44 hi hz0 hz1 _ _ _ _ L rfl rfl (by omega) (by omega) (by rw [hz2]; omega) (by unfold maxLen; omega) (Nat.le_refl _) ?_; intro w5 hown hgrow; have hb := made_blk32 hown hgrow; clear hown hgrow)
      have HNM : Hid (n + 1 = L + (M + 1)) := by have := HL.out; show _ = _; omega
      have hblt : Below wo.heap.size wo w5 := hb.2
      have HG : Hid (gv ≠ gu2 ∧ gv ≠ wo.heap.size ∧ wo.heap.size ≠ gu2 ∧ w2.heap.size ≤ gu2) := by
        have h1 := HROW.out.2.2
        have h2 := hbr2.out
        exact ⟨by omega, by omega, by omega, h1.1⟩
      have V5 : Hid (At32 w5 (some ⟨gv, 0, none⟩) (M + 1) (M + 1) vs) := V4.out.below hblt
      have HD0 : Hid (DigRel32 w5 wo.heap.size gu2 L (M + 1) A' D 0 (List.replicate L 0) ss w5) := by
        have hr := hb.1.row (Dig.replicate B32 L B32_pos)
        rw [List.length_replicate] at hr
        have hru := HROW.out.1.below2 hblt HROW.out.2.2.2
        rw [HNM.out] at hru
        refine ⟨fun B _ _ => Below.refl _ _, hr, hru, fun _ _ _ _ => rfl, ?_, ?_⟩
        · rw [Nat.sub_zero]
          have hs9 := valB_split B32 ss L (by rw [hru.len]; omega)
          rw [HROW.out.2.1] at hs9
          have hA9 : A' < B32 ^ L * D := by
            have h1 := (HX.out.len_le B32_one (k := n)).1 (by rw [HLXY.out.1]; exact Nat.le_refl _)
            have h3 : B32 ^ M ≤ b := by
              rcases Nat.lt_or_ge b (B32 ^ M) with e | e
              · have := (HY.out.len_le B32_one).2 e; have := HLXY.out.2; omega
              · exact e
            have h4 : B32 ^ n = B32 ^ L * B32 ^ M := by rw [← Nat.pow_add]; congr 1; have := HL.out; omega
            have h5 : B32 ^ L * B32 ^ M ≤ B32 ^ L * b := Nat.mul_le_mul_left _ h3
            rw [HAV.out, HVL.out.2, ← Nat.mul_assoc]
            exact Nat.mul_lt_mul_of_pos_right (by omega) (Nat.pow_pos (by omega))
          have h6 : B32 ^ L * valB B32 (ss.drop L) < B32 ^ L * D := by omega
          exact Nat.lt_of_mul_lt_mul_left h6
        · rw [Nat.sub_zero, List.drop_of_length_le (by rw [List.length_replicate]; exact Nat.le_refl _), valB_nil, Nat.mul_zero, Nat.zero_mul, Nat.add_zero]; exact HROW.out.2.1
      have HB5 : Hid (Below w.heap.size w w5) := Below.on HBR.out hblt
      have HV0 : Hid (0 < vs.getD (M + 1 - 1) 0 ∧ valB B32 vs = D ∧ D < B32 ^ (M + 1) ∧ 0 < D) := by
        have h1 := HNV.out
        have h2 := HVL.out
        have h3 := HSL.out
        have hDlt : D < B32 ^ (M + 1) := by rw [h2.2]; exact h3.1
        have hDge : B32 ^ M ≤ D := by rw [h2.2]; exact h3.2
        have hP9 : 0 < B32 ^ M := Nat.pow_pos B32_pos
        refine ⟨?_, h1.val, hDlt, by omega⟩
        rw [Nat.add_sub_cancel]
        rcases Nat.eq_zero_or_pos (vs.getD M 0) with e | e
        · exfalso
          have h4 : D = valB B32 (vs.take M) := by
            rw [← h1.val, valB_split B32 vs M (by omega), valB_drop B32 vs M (by omega), e, List.drop_of_length_le (by omega), valB_nil, Nat.mul_zero, Nat.add_zero, Nat.mul_zero, Nat.add_zero]
          have h5 := valB_lt B32_pos (h1.dig.take M)
          rw [List.length_take, h2.1, Nat.min_eq_left (by omega)] at h5
          omega
        · exact e
      obtain ⟨gq2, hgq2⟩ : ∃ g, g = wo.heap.size := ⟨_, rfl⟩
      have HGQ : Hid (w.heap.size ≤ gq2 ∧ w.heap.size ≤ gu2) := ⟨by rw [hgq2]; exact HBR.out.size, Nat.le_trans HB2.out.size HG.out.2.2.2⟩
      rw [← hgq2] at HD0 HG ⊢
      clear hb hblt hgq2 HROW V4 hLI
      go_loopg [13] L (fun gk jv wr => ∃ (k : Nat) (z : Int) (qs rs : List Nat), k + gk = L ∧ jv = .int .i64 z ∧ z = (gk : Int) - 1 ∧ Hid (DigRel32 w5 gq2 gu2 L (M + 1) A' D k qs rs wr))
      case atStart => exact ⟨0, _, _, ss, by omega, rfl, by omega, HD0⟩
      case round =>
        obtain ⟨k, z, qs, rs, hkg, rfl, hz, HR⟩ := hrel
        cases gk with
        | zero =>
          obtain rfl : k = L := by omega
          obtain rfl : z = -1 := by omega
          have hsum := HR.out.sum
          have hltD := HR.out.lt
          rw [Nat.sub_self, List.drop_zero] at hltD
          rw [Nat.sub_self, List.drop_zero, Nat.pow_zero, Nat.one_mul] at hsum
          have hquo : valB B32 qs = A' / D ∧ valB B32 rs = A' % D := by
            have h1 := quo_unique (n := A') (q := valB B32 qs) (y := D) (r := valB B32 rs) (by omega) hltD
            exact h1
          have hAD : A' / D = a / b ∧ A' % D = a % b * 2 ^ s := by
            rw [HAV.out, HVL.out.2]
            exact ⟨Nat.mul_div_mul_right a b (Nat.pow_pos (by omega)), by rw [Nat.mul_mod_mul_right]⟩
          have HQU : Hid (valB B32 qs = a / b ∧ valB B32 rs = a % b * 2 ^ s) := ⟨by rw [hquo.1, hAD.1], by rw [hquo.2, hAD.2]⟩
          have HTK : Hid (valB B32 (rs.take (M + 1)) = a % b * 2 ^ s) := by
            show _ = _
            rw [← HQU.out.2]
            have h1 := valB_split B32 rs (M + 1) (by rw [HR.out.rowr.len]; omega)
            rcases Nat.eq_zero_or_pos (valB B32 (rs.drop (M + 1))) with e | e
            · rw [e, Nat.mul_zero, Nat.add_zero] at h1; exact h1.symm
            · exfalso
              have h2 : B32 ^ (M + 1) * 1 ≤ B32 ^ (M + 1) * valB B32 (rs.drop (M + 1)) := Nat.mul_le_mul_left _ e
              have := HV0.out.2.2.1
              omega
          have AQ : Hid (At32 wr (some ⟨gq2, 0, none⟩) k k qs) := HR.out.rowq.at_ (Nat.le_refl _) (by unfold maxLen; omega)
          have AU0 : At32 wr (some ⟨gu2, 0, none⟩) (n + 1) Nc rs := by
            have h1 := HR.out.rowr
            rw [← HNM.out] at h1
            exact h1.at_ hNc (by unfold maxLen; omega)
          have AU : Hid (At32 wr (some ⟨gu2, 0, none⟩) (M + 1) Nc (rs.take (M + 1))) := AU0.take (M + 1) (by have := HL.out; omega) Nc (by have := HL.out; omega) (by unfold maxLen; omega)
          have HBW : Hid (Below w.heap.size w wr) := Below.trans HB5.out (HR.out.bel w.heap.size HGQ.out.1 HGQ.out.2)
          have hMN : M + 1 ≤ n := by have := HL.out; omega
          have hMc : M + 1 ≤ Nc := by have := HL.out; omega
          clear hsum hltD hquo hAD AU0 hz hkg HR
          go_wp2_with fail
          obtain ⟨wq, hwq⟩ : ∃ wq, wq = wr.drew := ⟨_, rfl⟩
          have hbd : Below wr.heap.size wr wq := by rw [hwq]; exact Below.drew (Below.refl _ _)
          have AQ2 : Hid (At32 wq (some ⟨gq2, 0, none⟩) k k qs) := AQ.out.below hbd
          have AU2 : Hid (At32 wq (some ⟨gu2, 0, none⟩) (M + 1) Nc (rs.take (M + 1))) := AU.out.below hbd
          have HBW2 : Hid (Below w.heap.size w wq) := Below.on HBW.out hbd
          clear AQ AU HBW hbd
          have AQ := AQ2
          have AU := AU2
          have HBW := HBW2
          clear AQ2 AU2 HBW2
          refine wp_region_J (fun _ => True) (by kernel_rfl) ?_
          rw [← hwq]
          clear hwq
          refine wpJ_take (i := 0) (v := ?va0) rfl (by kernel_rfl) (by kernel_rfl) (by kernel_rfl) (fun _ _ _ h => h) (by kernel_rfl) ?hya0 trivial ?resta0
          case hya0 => (intro W' hJ; go_simp; first | done | with_reducible rfl)
          refine wpJ_take (i := 2) (v := ?va2) rfl (by kernel_rfl) (by kernel_rfl) (by kernel_rfl) (fun _ _ _ h => h) (by kernel_rfl) ?hya2 trivial ?resta2
          case hya2 => (intro W' hJ; go_simp; first | done | with_reducible rfl)
          refine wpJ_take (i := 3) (v := ?va3) rfl (by kernel_rfl) (by kernel_rfl) (by kernel_rfl) (fun _ _ _ h => h) (by kernel_rfl) ?hya3 trivial ?resta3
          case hya3 => (intro W' hJ; go_simp; first | done | with_reducible rfl)
          refine wpJ_take (i := 4) (v := ?va4) rfl (by kernel_rfl) (by kernel_rfl) (by kernel_rfl) (fun _ _ _ h => h) (by kernel_rfl) ?hya4 trivial ?resta4
          case hya4 => (intro W' hJ; go_simp; first | done | (rw [if_pos ⟨by omega, by omega⟩]) | with_reducible rfl)
          refine wpJ_take (i := 6) (v := ?va6) rfl (by kernel_rfl) (by kernel_rfl) (by kernel_rfl) (fun _ _ _ h => h) (by kernel_rfl) ?hya6 trivial ?resta6
          case hya6 => (intro W' hJ; go_simp; first | done | with_reducible rfl)
          refine wpJ_on 1 rfl fun KJ hK => ?_
          go_simp
          refine (rnorm_any AQ.out (by omega)).mono ?_
          rintro e w7 ⟨g7, rfl, hg7, hblk7, hb7⟩
          have hd7 : Dig B32 (trimL qs) := Dig.trimL AQ.out.dig
          have hl7 := trimL_length_le qs
          rw [AQ.out.len] at hl7
          have A7 : Hid (At32 w7 (some ⟨g7, 0, none⟩) (trimL qs).length (trimL qs).length (trimL qs)) := hblk7.at_ hd7 rfl (by unfold maxLen; omega)
          have N7 : Hid (Nf B32 (trimL qs) (a / b) ∧ (trimL qs).length ≤ n) := ⟨by have h1 := Nf.trim AQ.out.dig; rw [HQU.out.1] at h1; exact h1, by have := HL.out; omega⟩
          have AU7 : Hid (At32 w7 (some ⟨gu2, 0, none⟩) (M + 1) Nc (rs.take (M + 1))) := AU.out.below hb7
          have HB7 : Hid (Below w.heap.size w w7) := Below.on HBW.out hb7
          generalize trimL qs = q7 at *
          refine hK _ _ trivial ?_
          clear hK hblk7 hb7 hg7 hd7 hl7 AQ AU HBW
          refine wpJ_on 5 rfl fun KJ hK => ?_
          go_simp
          refine (rnorm_any AU7.out (by omega)).mono ?_
          rintro e w8 ⟨g8, rfl, hg8, hblk8, hb8⟩
          have hl8 := trimL_length_le (rs.take (M + 1))
          rw [AU7.out.len] at hl8
          have A8 : Hid (At32 w8 (some ⟨g8, 0, none⟩) (trimL (rs.take (M + 1))).length (trimL (rs.take (M + 1))).length (trimL (rs.take (M + 1)))) := hblk8.at_ (Dig.trimL AU7.out.dig) rfl (by unfold maxLen; omega)
          have N8 : Hid (Nf B32 (trimL (rs.take (M + 1))) (a % b * 2 ^ s) ∧ (trimL (rs.take (M + 1))).length ≤ M + 1) := ⟨by have h1 := Nf.trim AU7.out.dig; rw [HTK.out] at h1; exact h1, hl8⟩
          have A78 : Hid (At32 w8 (some ⟨g7, 0, none⟩) q7.length q7.length q7) := A7.out.below hb8
          have HB8 : Hid (Below w.heap.size w w8) := Below.on HB7.out hb8
          generalize trimL (rs.take (M + 1)) = u8 at *
          refine hK _ _ trivial ?_
          clear hK hblk8 hb8 hg8 hl8 A7 AU7 HB7
          refine wpJ_on 7 rfl fun KJ hK => ?_
          go_simp
          refine (rshr_all A8.out N8.out.1 (by have := N8.out.2; omega) s (by have := HS.out.2; omega)).mono ?_
          rintro e w9 ⟨p9, m9, z9, rfl, hA9, hN9, hl9, hb9⟩
          have A9 : Hid (At32 w9 p9 m9 m9 z9) := hA9
          have N9 : Hid (Nf B32 z9 (a % b) ∧ m9 ≤ n) := ⟨by rw [Nat.mul_div_cancel _ (Nat.pow_pos (by omega))] at hN9; exact hN9, by have := N8.out.2; omega⟩
          have A79 : Hid (At32 w9 (some ⟨g7, 0, none⟩) q7.length q7.length q7) := A78.out.below hb9
          have HB9 : Hid (Below w.heap.size w w9) := Below.on HB8.out hb9
          refine hK _ _ trivial ?_
          clear hK hA9 hN9 hl9 hb9 A8 A78 HB8
          refine wpJ_take (i := 8) (v := ?va8) rfl (by kernel_rfl) (by kernel_rfl) (by kernel_rfl) (fun _ _ _ h => h) (by kernel_rfl) ?hya8 trivial ?resta8
          case hya8 => (intro W' hJ; go_simp; first | done | with_reducible rfl)
          refine wpJ_take (i := 9) (v := ?va9) rfl (by kernel_rfl) (by kernel_rfl) (by kernel_rfl) (fun _ _ _ h => h) (by kernel_rfl) ?hya9 trivial ?resta9
          case hya9 => (intro W' hJ; go_simp; first | done | with_reducible rfl)
          refine wpJ_done (by kernel_rfl) ?_ _
          go_wp2_with fail
          go_ret2
          exact ⟨_, _, q7, _, _, z9, rfl, A79.out, N7.out.1, A9.out, N9.out.1, N7.out.2, N9.out.2, HB9.out⟩
        | succ gg =>
          obtain rfl : z = (gg : Int) := by omega
          obtain ⟨wp, hwp⟩ : ∃ wp, wp = wr := ⟨_, rfl⟩
          subst hwp
          obtain ⟨a9, ws, ha9, hws, hrow, hwlt, hrs, hzz⟩ := HR.out.window (by omega) HV0.out.2.2.1
          obtain rfl : a9 = gg := by omega
          have HWIN : Hid (valB B32 rs = valB B32 (rs.take a9) + B32 ^ a9 * valB B32 ws ∧ valB B32 (rs.drop (a9 + (M + 1 + 1))) = 0 ∧ Row32 wp gu2 a9 (M + 1 + 1) ws ∧ valB B32 ws < B32 * D) := ⟨hrs, hzz, hrow, hwlt⟩
          have V6 : Hid (At32 wp (some ⟨gv, 0, none⟩) (M + 1) (M + 1) vs) := V5.out.cells_of (fun o => HR.out.cell gv o HG.out.2.1 HG.out.1)
          have hgL : a9 < L := by omega
          have hcq : wp.cell? ⟨gq2, a9, none⟩ = some (V (qs.getD a9 0)) := by have := HR.out.rowq.cell a9 hgL; rw [Nat.zero_add] at this; exact this
          have hfq : wp.frozen? ⟨gq2, a9, none⟩ = false := by have := HR.out.rowq.frozen a9 hgL; rw [Nat.zero_add] at this; exact this
          have hj1 : a9 + (M + 1) + 1 ≤ n + 1 := by have := HNM.out; omega
          have hj2 : a9 + (M + 1) + 1 ≤ Nc := by omega
          have HAK : Hid (a9 = L - 1 - k ∧ k < L) := ⟨by omega, by omega⟩
          clear hws hrow hwlt hrs hzz ha9 hz hkg
          go_wp2_with fail
          rw [show a9 + (M + 1) + 1 - a9 = M + 1 + 1 by omega]
          refine (rdigit_any HWIN.out.2.2.1 (by omega) (by unfold maxLen; omega) V6.out HG.out.1 (by omega) (by omega) (by rw [HV0.out.2.1]; exact HWIN.out.2.2.2) HV0.out.1).mono ?_
          rintro e w6 ⟨ws', rfl, hwr6, hrow6, hval6⟩
          rw [HV0.out.2.1] at hval6 ⊢
          obtain ⟨q9, hq9⟩ : ∃ q9, q9 = valB B32 ws / D := ⟨_, rfl⟩
          rw [← hq9]
          have hq9b : q9 < B32 := by rw [hq9]; exact Nat.div_lt_of_lt_mul (by rw [Nat.mul_comm]; exact HWIN.out.2.2.2)
          have hcq6 : w6.cell? ⟨gq2, a9, none⟩ = some (V (qs.getD a9 0)) := (hwr6.cell gq2 a9 (.inl HG.out.2.2.1)).trans hcq
          have hfq6 : w6.frozen? ⟨gq2, a9, none⟩ = false := (hwr6.frozen _).trans hfq
          have HNX : Hid (DigRel32 w5 gq2 gu2 L (M + 1) A' D (k + 1) (qs.set a9 q9) (winPut rs ws' a9) (w6.setCell ⟨gq2, a9, none⟩ (V q9))) := HR.out.step HAK.out.2 HG.out.2.2.1 HAK.out.1 HWIN.out.1 HWIN.out.2.1 HV0.out.2.2.2 hq9 hq9b hval6 hwr6 hrow6
          clear hcq hfq hq9 hq9b hwr6 hrow6 hval6
          go_wp2_with fail
          go_roundg a9
          case measure => omega
          case rel => exact ⟨k + 1, _, qs.set a9 q9, winPut rs ws' a9, by have := HAK.out; omega, rfl, by omega, HNX⟩
end Go.Proofs.YteoccegpbonfpaaDoor
namespace Go.Proofs.YteoccegpbonfpaaDoor
open Go.RowKit
set_option maxRecDepth 20000
set_option maxHeartbeats 0
variable {P : Program} {md : Region.Mode} {ops : Array Oper} {Q : Exit → Act → World → Prop} {J : World → Prop}

theorem wpJ_two {i k : Nat} {oi ok : Oper} {fuel : Nat} {listed : Array Bool} {a : Act} {w : World} (hr : Region.ready md ops listed = [i, k]) (hi : ops[i]? = some oi) (hk : ops[k]? = some ok)
    (hwi : Region.wanted oi (yielded ops a.tmps) = true) (hwk : Region.wanted ok (yielded ops a.tmps) = true)
    (h1 : ∀ K : Act → World → Prop, (∀ a' w', J w' → wpJ P md ops Q J fuel (listed.setIfInBounds i true) a' w' → K a' w') → Oper.wp P oi a w K Q)
    (h2 : ∀ K : Act → World → Prop, (∀ a' w', J w' → wpJ P md ops Q J fuel (listed.setIfInBounds k true) a' w' → K a' w') → Oper.wp P ok a w K Q) : wpJ P md ops Q J (fuel + 1) listed a w := by
  refine ⟨fun h => (by rw [hr] at h; cases h), fun j hj => ?_⟩
  rw [hr] at hj
  rcases List.mem_cons.1 hj with rfl | hj
  · unfold wpOp
    simp only [hi, hwi, if_true]
    exact .inl (h1 _ fun a' w' h1 h2 => ⟨h1, h2⟩)
  · obtain rfl : j = k := by simpa using hj
    unfold wpOp
    simp only [hk, hwk, if_true]
    exact .inl (h2 _ fun a' w' h1 h2 => ⟨h1, h2⟩)
variable {P : Program} {md : Region.Mode} {ops : Array Oper} {Q : Exit → Act → World → Prop} {J : World → Prop}
end Go.Proofs.YteoccegpbonfpaaDoor
namespace Go.Proofs.YteoccegpbonfpaaDoor
open Go.RowKit Go.Shelf
set_option maxRecDepth 20000
set_option maxHeartbeats 0
structure RN (w : World) (p : Option Addr) (m a : Nat) : Prop where
  mem : ∃ zs, At32 w p m m zs ∧ Nf B32 zs a
  len : m ≤ 4000
theorem RN.below {w w' : World} {p : Option Addr} {m a : Nat} (h : RN w p m a) (hb : Below w.heap.size w w') : RN w' p m a := by
  obtain ⟨⟨zs, h1, h2⟩, h3⟩ := h
  exact ⟨⟨zs, h1.below hb, h2⟩, h3⟩
theorem RN.cast {w : World} {p : Option Addr} {m a b : Nat} (h : RN w p m a) (e : a = b) : RN w p m b := e ▸ h
theorem rn_len {w : World} {p : Option Addr} {m c a K : Nat} {zs : List Nat} (h : At32 w p m c zs) (hN : Nf B32 zs a) (hK : K ≤ 100000) (hb : a < 2 ^ K) : m ≤ 4000 := by
  rw [← h.len]
  obtain ⟨k, hk⟩ : ∃ k, k = 3200 := ⟨_, rfl⟩
  refine Nat.le_trans ((hN.len_le (k := k) (by decide)).2 (Nat.lt_of_lt_of_le hb ?_)) (by omega)
  rw [show B32 = 2 ^ 32 from rfl, ← Nat.pow_mul]
  exact Nat.pow_le_pow_right (by decide) (by omega)
theorem RN.mk2 {w : World} {p : Option Addr} {m a K : Nat} {zs : List Nat} (h : At32 w p m m zs) (hN : Nf B32 zs a) (hK : K ≤ 100000) (hb : a < 2 ^ K) : RN w p m a := ⟨⟨zs, h, hN⟩, rn_len h hN hK hb⟩
theorem RN.zero {w : World} {p : Option Addr} {m a : Nat} (h : RN w p m a) : m = 0 ↔ a = 0 := by
  obtain ⟨⟨zs, h1, h2⟩, h3⟩ := h
  rw [← h2.zero_iff (by decide), ← h1.len]
  exact List.length_eq_zero_iff
def RNs (w w' : World) (e : Ending) (a : Nat) : Prop := ∃ p m, e = .returned (.slice p m m) ∧ RN w' p m a ∧ Below w.heap.size w w'
theorem rn_mul {w : World} {p : Option Addr} {m a : Nat} (h : RN w p m a) {q : Option Addr} {n b : Nat} (k : RN w q n b) {K : Nat} (hK : K ≤ 100000) (hb : a * b < 2 ^ K) : Calls Tryd.prog 63 #[.slice p m m, .slice q n n] w fun e w' => RNs w w' e (a * b) := by
  obtain ⟨⟨zs, h1, h2⟩, h3⟩ := h
  obtain ⟨⟨ys, k1, k2⟩, k3⟩ := k
  refine (rmul_any h1 k1 h2 k2 (by omega) (by omega)).mono ?_
  rintro e w' ⟨p', m', z, rfl, g1, g2, _, hb2⟩
  exact ⟨_, _, rfl, RN.mk2 g1 g2 hK hb, hb2⟩
theorem rn_add {w : World} {p : Option Addr} {m a : Nat} (h : RN w p m a) {q : Option Addr} {n b : Nat} (k : RN w q n b) {K : Nat} (hK : K ≤ 100000) (hb : a + b < 2 ^ K) : Calls Tryd.prog 47 #[.slice p m m, .slice q n n] w fun e w' => RNs w w' e (a + b) := by
  obtain ⟨⟨zs, h1, h2⟩, h3⟩ := h
  obtain ⟨⟨ys, k1, k2⟩, k3⟩ := k
  refine (radd_any h1 k1 h2 k2 (by omega) (by omega)).mono ?_
  rintro e w' ⟨p', m', z, rfl, g1, g2, hb2⟩
  exact ⟨_, _, rfl, RN.mk2 g1 g2 hK hb, hb2⟩
theorem rn_word {w : World} (x : Nat) (hx : x < 18446744073709551616) : Calls Tryd.prog 28 #[U x] w fun e w' => RNs w w' e (x) := by
  refine (rword x hx w).mono ?_
  rintro e w' ⟨g, zs, rfl, g1, g2, g3, hb2⟩
  exact ⟨_, _, rfl, ⟨⟨zs, g2, g3⟩, by omega⟩, hb2⟩
theorem rn_divs {w : World} {p : Option Addr} {m a : Nat} (h : RN w p m a) (d : Nat) (hd : 1 ≤ d) (hdb : d < B32) : Calls Tryd.prog 49 #[.slice p m m, .int .u32 d] w fun e w' => ∃ p' m' r, e = .returned (.tuple #[.slice p' m' m', .int .u32 r]) ∧ RN w' p' m' (a / d) ∧ Below w.heap.size w w' := by
  obtain ⟨⟨zs, h1, h2⟩, h3⟩ := h
  refine (rdivsmall h1 (by omega) d hd hdb).mono ?_
  rintro e w' ⟨p', m', z, r, rfl, g1, g2, g3, hb2⟩
  rw [h2.val] at g2
  exact ⟨_, _, _, rfl, ⟨⟨z, g1, g2⟩, by omega⟩, hb2⟩
theorem rn_muls {w : World} {p : Option Addr} {m a : Nat} (h : RN w p m a) (v : Nat) (hv : v < B32) {K : Nat} (hK : K ≤ 100000) (hb : a * v < 2 ^ K) : Calls Tryd.prog 66 #[.slice p m m, V v, .int .u32 0] w fun e w' => RNs w w' e (a * v) := by
  obtain ⟨⟨zs, h1, h2⟩, h3⟩ := h
  refine (rsmall_any (u := 0) h1 h2 (by omega) hv (by decide)).mono ?_
  rintro e w' ⟨g, z, rfl, g1, g2, g3, hb2⟩
  rw [Nat.add_zero] at g2
  exact ⟨_, _, rfl, RN.mk2 (g1.at_ g2.dig rfl (by unfold maxLen; omega)) g2 hK hb, hb2⟩
theorem rn_cmp {w : World} {p q : Option Addr} {m n a b : Nat} (h : RN w p m a) (k : RN w q n b) : Calls Tryd.prog 32 #[.slice p m m, .slice q n n] w fun e w' => e = .returned (.int .i64 (cmpN a b)) ∧ Below w.heap.size w w' := by
  obtain ⟨⟨zs, h1, h2⟩, h3⟩ := h
  obtain ⟨⟨ys, k1, k2⟩, k3⟩ := k
  refine (rcmp_any h1 k1 h2 k2).mono ?_
  rintro e w' ⟨rfl, r, rfl⟩
  exact ⟨rfl, bDrewN (Below.refl _ _) r⟩
theorem rn_divmod {w : World} {p q : Option Addr} {m n a b : Nat} (h : RN w p m a) (k : RN w q n b) (hb : b ≠ 0) (hge : b ≤ a) (hbig : 4294967296 ≤ b) : Calls Tryd.prog 31 #[.slice p m m, .slice q n n] w fun e w' => ∃ p1 m1 p2 m2, e = .returned (.tuple #[.slice p1 m1 m1, .slice p2 m2 m2]) ∧ RN w' p1 m1 (a / b) ∧ Below w.heap.size w w' := by
  obtain ⟨⟨zs, h1, h2⟩, h3⟩ := h
  obtain ⟨⟨ys, k1, k2⟩, k3⟩ := k
  have hm2 : 2 ≤ n := by
    refine Nat.le_of_not_lt fun hlt => ?_
    have := (k2.len_le (k := 1) (by decide)).1 (by rw [k1.len]; omega)
    rw [Nat.pow_one] at this
    exact absurd this (Nat.not_lt.2 hbig)
  refine (rdivmod_big h1 k1 h2 k2 (by omega) (by omega) hb hge hm2).mono ?_
  rintro e w' ⟨p1, m1, z1, p2, m2, z2, rfl, g1, g2, _, _, g3, _, hb2⟩
  exact ⟨_, _, _, _, rfl, ⟨⟨z1, g1, g2⟩, by omega⟩, hb2⟩
theorem rn_low {w : World} {p : Option Addr} {m a : Nat} (h : RN w p m a) (N : Nat) (hN : 1 ≤ N) (hN2 : N ≤ 100000) : Calls Tryd.prog 14 #[.slice p m m, .int .i64 N] w fun e w' => RNs w w' e (a % 2 ^ N) := by
  obtain ⟨⟨zs, h1, h2⟩, h3⟩ := h
  refine (rlow_any h1 h2 (by omega) N hN (by omega)).mono ?_
  rintro e w' ⟨p', m', z, rfl, g1, g2, g3, hb2⟩
  exact ⟨_, _, rfl, ⟨⟨z, g1, g2⟩, by omega⟩, hb2⟩
theorem rn_shl {w : World} {p : Option Addr} {m a : Nat} (h : RN w p m a) (h0 : a ≠ 0) (N : Nat) (hN : N ≤ 100000) {K : Nat} (hK : K ≤ 100000) (hb : a * 2 ^ N < 2 ^ K) : Calls Tryd.prog 48 #[.slice p m m, .int .i64 N] w fun e w' => RNs w w' e (a * 2 ^ N) := by
  have hz := h.zero
  obtain ⟨⟨zs, h1, h2⟩, h3⟩ := h
  refine (rshl_any h1 h2 (by omega) (by omega) N (by omega)).mono ?_
  rintro e w' ⟨p', m', z, rfl, g1, g2, _, hb2⟩
  exact ⟨_, _, rfl, RN.mk2 g1 g2 hK hb, hb2⟩
theorem rn_pow2 {w : World} (N : Nat) (hN : N < 100000) : Calls Tryd.prog 30 #[.int .i64 N] w fun e w' => RNs w w' e (2 ^ N) := by
  have HN : Hid (N < 100000) := hN
  clear hN
  go_enter Tryd.func30, Tryd.ntmps30
  go_wp2_with fail
  refine (rn_word 1 (by decide)).mono ?_
  rintro e v1 ⟨p, m, rfl, hR, hb1⟩
  have HR : Hid (RN v1 p m 1 ∧ Below w.heap.size w v1) := ⟨hR, hb1⟩
  clear hR hb1
  go_wp2_with fail
  refine (rn_shl HR.out.1 (by decide) N (by have := HN.out; omega) (K := N + 1) (by have := HN.out; omega) (by rw [Nat.one_mul]; exact Nat.pow_lt_pow_right (by decide) (by omega))).mono ?_
  rintro e v2 ⟨p2, m2, rfl, hR2, hb2⟩
  have HR2 : Hid (RN v2 p2 m2 (1 * 2 ^ N) ∧ Below w.heap.size w v2) := ⟨hR2, Below.on HR.out.2 hb2⟩
  clear hR2 hb2
  go_wp2_with fail
  go_ret
  exact ⟨_, _, rfl, HR2.out.1.cast (Nat.one_mul _), HR2.out.2⟩
theorem rn_small {w : World} (x : Nat) (hx : x < 9223372036854775808) : Calls Tryd.prog 64 #[.int .i64 x] w fun e w' => RNs w w' e x := by
  have HX : Hid (x < 18446744073709551616) := by show x < _; omega
  have h1 : decide ((x : Int) < 0) = false := decide_eq_false (by omega)
  have h2 : IntKind.u64.wrap (x : Int) = (x : Int) := by rw [IntKind.wrap_u64]; omega
  clear hx
  go_enter Tryd.func64, Tryd.ntmps64
  go_wp2_with fail
  refine (rn_word x HX.out).mono ?_
  rintro e v1 ⟨p, m, rfl, hR, hb1⟩
  have HR : Hid (RN v1 p m x ∧ Below w.heap.size w v1) := ⟨hR, hb1⟩
  clear hR hb1
  go_wp2_with fail
  go_ret
  exact ⟨_, _, rfl, HR.out.1, HR.out.2⟩
theorem rdiv12 {p q : Option Addr} {m n a d : Nat} {w : World} (h : RN w p m a) (k : RN w q n d) (hd : 1 ≤ d) (hdb : d < 4294967296) :
    Calls Tryd.prog 65 #[.slice p m m, .slice q n n] w fun en w' => RNs w w' en (a / d) := by
  have HR : Hid (RN w p m a ∧ RN w q n d ∧ 1 ≤ d ∧ d < 4294967296) := ⟨h, k, hd, hdb⟩
  obtain ⟨⟨zs, k1, k2⟩, k3⟩ := k
  have hn : n = 1 := by
    have h1 := (k2.len_le (k := 1) (by decide)).2 (by rw [Nat.pow_one]; exact hdb)
    have h2 : zs ≠ [] := fun e => by have := (k2.zero_iff (by decide)).1 e; omega
    have h3 := List.length_pos_iff.2 h2
    rw [k1.len] at h1 h3
    omega
  subst hn
  obtain ⟨g, off, rfl, hc⟩ := k1.cells.resolve_left (by omega)
  have hd0 : zs.getD 0 0 = d := by
    have h1 := k2.val
    have h2 := k1.len
    match zs, h2 with
    | [x], _ => simpa [valB] using h1
  have hc0 : w.cell? ⟨g, off, none⟩ = some (.int .u32 d) := by have := hc 0 (by omega); rw [Nat.add_zero, hd0] at this; exact this
  clear h k1 k2 k3 hc hd0 hd hdb
  go_enter Tryd.func65, Tryd.ntmps65
  go_wp2_with fail
  refine (rn_divs HR.out.1 d HR.out.2.2.1 HR.out.2.2.2).mono ?_
  rintro e v1 ⟨p1, m1, r1, rfl, hR, hb1⟩
  have HQ : Hid (RN v1 p1 m1 (a / d) ∧ Below w.heap.size w v1) := ⟨hR, hb1⟩
  clear hR hb1
  go_wp2_with fail
  go_ret
  exact ⟨_, _, rfl, HQ.out.1, HQ.out.2⟩
def arcN (m : Nat) : Nat → Nat → Nat → Nat → Nat → Nat × Nat
  | 0, _, _, s, o => (s, o)
  | f + 1, i, t, s, o => bif Nat.beq t 0 then (s, o) else arcN m f (i + 1) (t * (2 * i) / (2 * i + 1) / m) (s + t) (o + 2)
def arc0 (k w : Nat) : Nat × Nat := arcN (k * k + 1) w 1 (2 ^ w * k / (k * k + 1)) 0 4
theorem arcN_zero (m f i s o : Nat) : arcN m f i 0 s o = (s, o) := by cases f <;> rfl
theorem arcN_succ (m f i t s o : Nat) (h : t ≠ 0) : arcN m (f + 1) i t s o = arcN m f (i + 1) (t * (2 * i) / (2 * i + 1) / m) (s + t) (o + 2) := by
  show (bif Nat.beq t 0 then _ else _) = _
  rw [show Nat.beq t 0 = false by cases t with | zero => exact absurd rfl h | succ n => rfl]
  rfl
theorem arc_next {t i m : Nat} (hm : 2 ≤ m) : t * (2 * i) / (2 * i + 1) / m ≤ t / 2 := by
  have h1 : t * (2 * i) / (2 * i + 1) ≤ t := Nat.div_le_of_le_mul (by rw [Nat.mul_comm]; exact Nat.mul_le_mul_right _ (by omega))
  exact Nat.le_trans (Nat.div_le_div_left hm (by decide)) (Nat.div_le_div_right h1)
theorem start_lt (n k : Nat) (hk : 2 ≤ k) : 2 ^ n * k / (k * k + 1) < 2 ^ n := by
  refine Nat.div_lt_of_lt_mul ?_
  rw [Nat.mul_comm]
  refine Nat.mul_lt_mul_of_pos_right ?_ (Nat.two_pow_pos n)
  have : k ≤ k * k := Nat.le_mul_of_pos_left k (by omega)
  omega
theorem arc_bound {s i n : Nat} (h1 : s ≤ (i - 1) * 2 ^ n) (h2 : i ≤ n + 1) (h3 : n ≤ 1400) : s + (2 * i + 2) < 2 ^ (n + 20) := by
  have hp := Nat.two_pow_pos n
  have h4 : (i - 1) * 2 ^ n ≤ 1400 * 2 ^ n := Nat.mul_le_mul_right _ (by omega)
  rw [Nat.pow_add, show (2 : Nat) ^ 20 = 1048576 by decide]
  generalize 2 ^ n = X at *
  omega
theorem arc_step {t s i g n k : Nat} (hg : i + g = n) (hi1 : 1 ≤ i) (hi9 : i ≤ 1400) (htb : t < 2 ^ (g + 1)) (hsb : s ≤ (i - 1) * 2 ^ n) (hk : 2 ≤ k) : t < 2 ^ n ∧ s + t ≤ i * 2 ^ n ∧ t * (2 * i) / (2 * i + 1) / (k * k + 1) < 2 ^ g ∧ i + g = n ∧ 1 ≤ i ∧ i ≤ 1400 := by
  have h1 : t < 2 ^ n := Nat.lt_of_lt_of_le htb (Nat.pow_le_pow_right (by decide) (by omega))
  have hkk : 2 ≤ k * k + 1 := by have : k ≤ k * k := Nat.le_mul_of_pos_left k (by omega); omega
  have h2 := arc_next (t := t) (i := i) hkk
  rw [Nat.pow_succ] at htb
  refine ⟨h1, ?_, by omega, hg, hi1, hi9⟩
  have h3 : i * 2 ^ n = (i - 1) * 2 ^ n + 2 ^ n := by
    obtain ⟨j, rfl⟩ : ∃ j, i = j + 1 := ⟨i - 1, by omega⟩
    rw [Nat.add_sub_cancel, Nat.succ_mul]
  omega
theorem arc_b2 {s t i x n : Nat} (h1 : t < 2 ^ n) (h2 : s + t ≤ i * 2 ^ n) (h3 : i ≤ 1400) (h4 : x = 2 * i) : s + t < 2 ^ (n + 20) ∧ t * x < 2 ^ (n + 20) := by
  have hp := Nat.two_pow_pos n
  have h5 : i * 2 ^ n ≤ 1400 * 2 ^ n := Nat.mul_le_mul_right _ h3
  have h6 : t * x ≤ 2 ^ n * 2800 := Nat.mul_le_mul (Nat.le_of_lt h1) (by omega)
  rw [Nat.pow_add, show (2 : Nat) ^ 20 = 1048576 by decide]
  generalize 2 ^ n = X at *
  exact ⟨by omega, by omega⟩
theorem kwc {i : Nat} (hb : i ≤ 1400) : wrap64 (2 * (i : Int) + 2 + 2) = ((2 * (i + 1) + 2 : Nat) : Int) := by simp only [wrap64]; omega
theorem kwd {i : Nat} (hb : i ≤ 1400) : wrap64 ((i : Int) + 1) = ((i + 1 : Nat) : Int) := by simp only [wrap64]; omega
theorem kwa {i x : Nat} (h : x = 2 * i) (hb : i ≤ 1400) : wrap64 (2 * (i : Int)) = (x : Int) := by subst h; simp only [wrap64]; omega
theorem kwb {i x y : Nat} (h : x = 2 * i) (h2 : y = 2 * i + 1) (hb : i ≤ 1400) : wrap64 ((x : Int) + 1) = (y : Int) := by subst h; subst h2; simp only [wrap64]; omega
theorem arc_ok (k n : Nat) (hk : 2 ≤ k) (hk2 : k ≤ 100) (hn : n ≤ 1400) {w : World} : Calls Tryd.prog 46 #[.int .i64 k, .int .i64 n] w fun en w' => ∃ p m q l, en = .returned (.tuple #[.slice p m m, .slice q l l]) ∧ RN w' p m (arc0 k n).1 ∧ RN w' q l ((arc0 k n).1 + (arc0 k n).2) ∧ (arc0 k n).1 + (arc0 k n).2 < 2 ^ (n + 20) ∧ Below w.heap.size w w' := by
  have HK : Hid (2 ≤ k ∧ k ≤ 100 ∧ n ≤ 1400) := ⟨hk, hk2, hn⟩
  clear hk hk2 hn
  go_enter Tryd.func46, Tryd.ntmps46
  go_wp2_with fail
  have hbw : Below w.heap.size w w := Below.refl _ _
  refine (rn_small k (by have := HK.out; omega)).mono ?_
  rintro e v1 ⟨p1, m1, rfl, hR, hb1⟩
  have RN1 : Hid (RN v1 p1 m1 (k)) := hR
  clear hR
  replace hbw := Below.on hbw hb1
  clear hb1
  go_wp2_with fail
  refine (rn_small k (by have := HK.out; omega)).mono ?_
  rintro e v2 ⟨p2, m2, rfl, hR, hb2⟩
  have RN2 : Hid (RN v2 p2 m2 (k)) := hR
  clear hR
  replace RN1 : Hid (RN v2 p1 m1 (k)) := RN1.out.below hb2
  replace hbw := Below.on hbw hb2
  clear hb2
  go_wp2_with fail
  refine (rn_mul RN1.out RN2.out (K := 100) (by decide) (by have h1 := HK.out; exact Nat.lt_of_le_of_lt (Nat.mul_le_mul h1.2.1 h1.2.1) (by decide))).mono ?_
  rintro e v3 ⟨p3, m3, rfl, hR, hb3⟩
  have RN3 : Hid (RN v3 p3 m3 (k * k)) := hR
  clear hR
  replace RN1 : Hid (RN v3 p1 m1 (k)) := RN1.out.below hb3
  replace RN2 : Hid (RN v3 p2 m2 (k)) := RN2.out.below hb3
  replace hbw := Below.on hbw hb3
  clear hb3
  go_wp2_with fail
  refine (rn_word 1 (by decide)).mono ?_
  rintro e v4 ⟨p4, m4, rfl, hR, hb4⟩
  have RN4 : Hid (RN v4 p4 m4 (1)) := hR
  clear hR
  replace RN1 : Hid (RN v4 p1 m1 (k)) := RN1.out.below hb4
  replace RN2 : Hid (RN v4 p2 m2 (k)) := RN2.out.below hb4
  replace RN3 : Hid (RN v4 p3 m3 (k * k)) := RN3.out.below hb4
  replace hbw := Below.on hbw hb4
  clear hb4
  go_wp2_with fail
  refine (rn_add RN3.out RN4.out (K := 100) (by decide) (by have h1 := HK.out; exact Nat.lt_of_le_of_lt (Nat.add_le_add_right (Nat.mul_le_mul h1.2.1 h1.2.1) 1) (by decide))).mono ?_
  rintro e v5 ⟨p5, m5, rfl, hR, hb5⟩
  have RN5 : Hid (RN v5 p5 m5 (k * k + 1)) := hR
  clear hR
  replace RN1 : Hid (RN v5 p1 m1 (k)) := RN1.out.below hb5
  replace RN2 : Hid (RN v5 p2 m2 (k)) := RN2.out.below hb5
  replace RN3 : Hid (RN v5 p3 m3 (k * k)) := RN3.out.below hb5
  replace RN4 : Hid (RN v5 p4 m4 (1)) := RN4.out.below hb5
  replace hbw := Below.on hbw hb5
  clear hb5
  clear RN1
  clear RN2
  clear RN3
  clear RN4
  go_wp2_with fail
  refine (rn_pow2 n (by have := HK.out; omega)).mono ?_
  rintro e v6 ⟨p6, m6, rfl, hR, hb6⟩
  have RN6 : Hid (RN v6 p6 m6 (2 ^ n)) := hR
  clear hR
  replace RN5 : Hid (RN v6 p5 m5 (k * k + 1)) := RN5.out.below hb6
  replace hbw := Below.on hbw hb6
  clear hb6
  go_wp2_with fail
  refine (rn_small k (by have := HK.out; omega)).mono ?_
  rintro e v7 ⟨p7, m7, rfl, hR, hb7⟩
  have RN7 : Hid (RN v7 p7 m7 (k)) := hR
  clear hR
  replace RN5 : Hid (RN v7 p5 m5 (k * k + 1)) := RN5.out.below hb7
  replace RN6 : Hid (RN v7 p6 m6 (2 ^ n)) := RN6.out.below hb7
  replace hbw := Below.on hbw hb7
  clear hb7
  go_wp2_with fail
  refine (rn_mul RN6.out RN7.out (K := n + 7) (by have := HK.out; omega) (by have h1 := HK.out; rw [Nat.pow_add]; exact Nat.mul_lt_mul_of_le_of_lt (Nat.le_refl _) (by omega) (Nat.two_pow_pos _))).mono ?_
  rintro e v8 ⟨p8, m8, rfl, hR, hb8⟩
  have RN8 : Hid (RN v8 p8 m8 (2 ^ n * k)) := hR
  clear hR
  replace RN5 : Hid (RN v8 p5 m5 (k * k + 1)) := RN5.out.below hb8
  replace RN6 : Hid (RN v8 p6 m6 (2 ^ n)) := RN6.out.below hb8
  replace RN7 : Hid (RN v8 p7 m7 (k)) := RN7.out.below hb8
  replace hbw := Below.on hbw hb8
  clear hb8
  clear RN6
  clear RN7
  go_wp2_with fail
  refine (rdiv12 RN8.out RN5.out (by omega) (by have h1 := HK.out; exact Nat.lt_of_le_of_lt (Nat.add_le_add_right (Nat.mul_le_mul h1.2.1 h1.2.1) 1) (by decide))).mono ?_
  rintro e v9 ⟨p9, m9, rfl, hR, hb9⟩
  have RN9 : Hid (RN v9 p9 m9 (2 ^ n * k / (k * k + 1))) := hR
  clear hR
  replace RN5 : Hid (RN v9 p5 m5 (k * k + 1)) := RN5.out.below hb9
  replace RN8 : Hid (RN v9 p8 m8 (2 ^ n * k)) := RN8.out.below hb9
  replace hbw := Below.on hbw hb9
  clear hb9
  clear RN8
  go_wp2_with fail
  refine (rn_word 0 (by decide)).mono ?_
  rintro e v10 ⟨p10, m10, rfl, hR, hb10⟩
  have RN10 : Hid (RN v10 p10 m10 (0)) := hR
  clear hR
  replace RN5 : Hid (RN v10 p5 m5 (k * k + 1)) := RN5.out.below hb10
  replace RN9 : Hid (RN v10 p9 m9 (2 ^ n * k / (k * k + 1))) := RN9.out.below hb10
  replace hbw := Below.on hbw hb10
  clear hb10
  go_wp2_with fail
  go_loopg [7, 8, 9, 10] n (fun gk tv sv ov iv wr => ∃ (i t s : Nat) (p q : Option Addr) (a b : Nat), i + gk = n + 1 ∧ tv = .slice p a a ∧ sv = .slice q b b ∧ ov = .int .i64 ((2 * i + 2 : Nat) : Int) ∧ iv = .int .i64 i ∧ 1 ≤ i ∧ RN wr p a t ∧ RN wr q b s ∧ RN wr p5 m5 (k * k + 1) ∧ arcN (k * k + 1) gk i t s (2 * i + 2) = arc0 k n ∧ t < 2 ^ gk ∧ s ≤ (i - 1) * 2 ^ n ∧ Below w.heap.size w wr)
  case atStart => exact ⟨1, 2 ^ n * k / (k * k + 1), 0, p9, p10, m9, m10, by omega, rfl, rfl, rfl, rfl, by omega, RN9.out, RN10.out, RN5.out, rfl, start_lt n k HK.out.1, Nat.zero_le _, hbw⟩
  case round =>
    obtain ⟨i, t, s, p, q, a, b, hig, rfl, rfl, rfl, rfl, hi1, xt, xs, xm, har, htb, hsb, hbr⟩ := hrel
    clear RN5 RN9 RN10 hbw
    have RNt : Hid (RN wr p a t) := xt
    have RNs_ : Hid (RN wr q b s) := xs
    have RN5 : Hid (RN wr p5 m5 (k * k + 1)) := xm
    have hbw := hbr
    have hz := xt.zero
    clear xt xs xm hbr
    by_cases ht : t = 0
    · obtain rfl : a = 0 := hz.2 ht
      subst ht
      rw [arcN_zero] at har
      have HF : Hid (arc0 k n = (s, 2 * i + 2) ∧ s ≤ (i - 1) * 2 ^ n ∧ i ≤ n + 1) := ⟨har.symm, hsb, by omega⟩
      clear RN5 RNt hz har htb hsb hig hi1
      go_wp2_with fail
      refine (rn_small (2 * i + 2) (by have h1 := HF.out.2.2; have h2 := HK.out; omega)).mono ?_
      rintro e v20 ⟨p20, m20, rfl, hR, hb20⟩
      have RN20 : Hid (RN v20 p20 m20 (2 * i + 2)) := hR
      clear hR
      replace RNs_ : Hid (RN v20 q b s) := RNs_.out.below hb20
      replace hbw := Below.on hbw hb20
      clear hb20
      go_wp2_with fail
      have HB : Hid (s + (2 * i + 2) < 2 ^ (n + 20)) := arc_bound HF.out.2.1 HF.out.2.2 HK.out.2.2
      refine (rn_add RNs_.out RN20.out (K := n + 20) (by have := HK.out; omega) HB.out).mono ?_
      rintro e v21 ⟨p21, m21, rfl, hR, hb21⟩
      have RN21 : Hid (RN v21 p21 m21 (s + (2 * i + 2))) := hR
      clear hR
      replace RNs_ : Hid (RN v21 q b s) := RNs_.out.below hb21
      replace RN20 : Hid (RN v21 p20 m20 (2 * i + 2)) := RN20.out.below hb21
      replace hbw := Below.on hbw hb21
      clear hb21
      go_wp2_with fail
      go_ret2
      rw [HF.out.1]
      exact ⟨_, _, _, _, rfl, RNs_.out, RN21.out, HB.out, hbw⟩
    · cases gk with
      | zero => rw [Nat.pow_zero] at htb; omega
      | succ g =>
        have ha0 : decide ((0 : Int) < (a : Int)) = true := decide_eq_true (by have : a ≠ 0 := fun e => ht (hz.1 e); omega)
        have ha1 : (0 : Int) < (a : Int) := of_decide_eq_true ha0
        rw [arcN_succ _ _ _ _ _ _ ht] at har
        have hn9 := HK.out
        have hgi : i + g = n := by omega
        have hi9 : i ≤ 1400 := by omega
        have HT : Hid (t < 2 ^ n ∧ s + t ≤ i * 2 ^ n ∧ t * (2 * i) / (2 * i + 1) / (k * k + 1) < 2 ^ g ∧ i + g = n ∧ 1 ≤ i ∧ i ≤ 1400) := arc_step hgi hi1 hi9 htb hsb hn9.1
        have HR : Hid (arcN (k * k + 1) g (i + 1) (t * (2 * i) / (2 * i + 1) / (k * k + 1)) (s + t) (2 * i + 2 + 2) = arc0 k n) := har
        have HWR : Hid (IntKind.u32.wrap (((2 * i : Nat) : Int)) = ((2 * i : Nat) : Int)) := by show IntKind.u32.wrap _ = _; rw [IntKind.wrap_u32]; omega
        obtain ⟨i2, hi2⟩ : ∃ x, x = 2 * i := ⟨_, rfl⟩
        obtain ⟨i3, hi3⟩ : ∃ x, x = 2 * i + 1 := ⟨_, rfl⟩
        rw [← hi2] at HWR
        have q1 : wrap64 (2 * (i : Int)) = (i2 : Int) := kwa hi2 hi9
        have q2 : wrap64 ((i2 : Int) + 1) = (i3 : Int) := kwb hi2 hi3 hi9
        have HII : Hid (i2 = 2 * i ∧ i3 = 2 * i + 1) := ⟨hi2, hi3⟩
        clear hz htb hsb hig hi1 har hn9 hgi hi9 hi2 hi3 ht
        go_wp2_with fail
        have HB : Hid (s + t < 2 ^ (n + 20) ∧ t * i2 < 2 ^ (n + 20)) := arc_b2 HT.out.1 HT.out.2.1 HT.out.2.2.2.2.2 HII.out.1
        refine (rn_add RNs_.out RNt.out (K := n + 20) (by have := HK.out; omega) HB.out.1).mono ?_
        rintro e v21 ⟨p21, m21, rfl, hR, hb21⟩
        have RN21 : Hid (RN v21 p21 m21 (s + t)) := hR
        clear hR
        replace RNt : Hid (RN v21 p a t) := RNt.out.below hb21
        replace RNs_ : Hid (RN v21 q b s) := RNs_.out.below hb21
        replace RN5 : Hid (RN v21 p5 m5 (k * k + 1)) := RN5.out.below hb21
        replace hbw := Below.on hbw hb21
        clear hb21
        have q3 := HWR.out
        go_wp2_with fail
        refine (rn_muls RNt.out i2 (by have h1 := HII.out.1; have h2 := HT.out.2.2.2.2.2; show i2 < 4294967296; omega) (K := n + 20) (by have := HK.out; omega) HB.out.2).mono ?_
        rintro e v22 ⟨p22, m22, rfl, hR, hb22⟩
        have RN22 : Hid (RN v22 p22 m22 (t * i2)) := hR
        clear hR
        replace RNt : Hid (RN v22 p a t) := RNt.out.below hb22
        replace RNs_ : Hid (RN v22 q b s) := RNs_.out.below hb22
        replace RN5 : Hid (RN v22 p5 m5 (k * k + 1)) := RN5.out.below hb22
        replace RN21 : Hid (RN v22 p21 m21 (s + t)) := RN21.out.below hb22
        replace hbw := Below.on hbw hb22
        clear hb22
        go_wp2_with fail
        refine (rn_small i3 (by have h1 := HII.out.2; have h2 := HT.out.2.2.2.2.2; omega)).mono ?_
        rintro e v23 ⟨p23, m23, rfl, hR, hb23⟩
        have RN23 : Hid (RN v23 p23 m23 (i3)) := hR
        clear hR
        replace RNt : Hid (RN v23 p a t) := RNt.out.below hb23
        replace RNs_ : Hid (RN v23 q b s) := RNs_.out.below hb23
        replace RN5 : Hid (RN v23 p5 m5 (k * k + 1)) := RN5.out.below hb23
        replace RN21 : Hid (RN v23 p21 m21 (s + t)) := RN21.out.below hb23
        replace RN22 : Hid (RN v23 p22 m22 (t * i2)) := RN22.out.below hb23
        replace hbw := Below.on hbw hb23
        clear hb23
        go_wp2_with fail
        refine (rdiv12 RN22.out RN23.out (by have h1 := HII.out.2; omega) (by have h1 := HII.out.2; have h2 := HT.out.2.2.2.2.2; omega)).mono ?_
        rintro e v24 ⟨p24, m24, rfl, hR, hb24⟩
        have RN24 : Hid (RN v24 p24 m24 (t * i2 / i3)) := hR
        clear hR
        replace RNt : Hid (RN v24 p a t) := RNt.out.below hb24
        replace RNs_ : Hid (RN v24 q b s) := RNs_.out.below hb24
        replace RN5 : Hid (RN v24 p5 m5 (k * k + 1)) := RN5.out.below hb24
        replace RN21 : Hid (RN v24 p21 m21 (s + t)) := RN21.out.below hb24
        replace RN22 : Hid (RN v24 p22 m22 (t * i2)) := RN22.out.below hb24
        replace RN23 : Hid (RN v24 p23 m23 (i3)) := RN23.out.below hb24
        replace hbw := Below.on hbw hb24
        clear hb24
        go_wp2_with fail
        refine (rdiv12 RN24.out RN5.out (by omega) (by have h1 := HK.out; exact Nat.lt_of_le_of_lt (Nat.add_le_add_right (Nat.mul_le_mul h1.2.1 h1.2.1) 1) (by decide))).mono ?_
        rintro e v25 ⟨p25, m25, rfl, hR, hb25⟩
        have RN25 : Hid (RN v25 p25 m25 (t * i2 / i3 / (k * k + 1))) := hR
        clear hR
        replace RNt : Hid (RN v25 p a t) := RNt.out.below hb25
        replace RNs_ : Hid (RN v25 q b s) := RNs_.out.below hb25
        replace RN5 : Hid (RN v25 p5 m5 (k * k + 1)) := RN5.out.below hb25
        replace RN21 : Hid (RN v25 p21 m21 (s + t)) := RN21.out.below hb25
        replace RN22 : Hid (RN v25 p22 m22 (t * i2)) := RN22.out.below hb25
        replace RN23 : Hid (RN v25 p23 m23 (i3)) := RN23.out.below hb25
        replace RN24 : Hid (RN v25 p24 m24 (t * i2 / i3)) := RN24.out.below hb25
        replace hbw := Below.on hbw hb25
        clear hb25
        clear q1 q2 q3
        go_wp2_with fail
        go_roundg g
        case measure => omega
        case rel =>
          obtain ⟨e2, e3⟩ := HII.out
          have h4 := HT.out
          rw [e2, e3] at RN25
          refine ⟨i + 1, t * (2 * i) / (2 * i + 1) / (k * k + 1), s + t, p25, p21, m25, m21, by omega, rfl, rfl, congrArg (Value.int .i64) (kwc h4.2.2.2.2.2), congrArg (Value.int .i64) (kwd h4.2.2.2.2.2), by omega, RN25.out, RN21.out, RN5.out, HR.out, h4.2.2.1, ?_, hbw⟩
          rw [Nat.add_sub_cancel]
          exact h4.2.1
def loN (w : Nat) : Nat := (arc0 3 w).1 * 2 ^ 3 + (arc0 7 w).1 * 2 ^ 2
def hiN (w : Nat) : Nat := ((arc0 3 w).1 + (arc0 3 w).2) * 2 ^ 3 + ((arc0 7 w).1 + (arc0 7 w).2) * 2 ^ 2
theorem iltshl {x n : Nat} (N : Nat) (hN : N ≤ 3) (h : x < 2 ^ (n + 20)) : x * 2 ^ N < 2 ^ (n + 24) := by
  have h1 : (2 : Nat) ^ N ≤ 8 := Nat.le_trans (Nat.pow_le_pow_right (by decide) hN) (by decide)
  have h2 : 2 ^ (n + 24) = 2 ^ (n + 20) * 16 := by rw [show n + 24 = n + 20 + 4 by omega, Nat.pow_add _ (n + 20) 4]
  rw [h2]
  exact Nat.lt_of_le_of_lt (Nat.mul_le_mul_left x h1) (by generalize 2 ^ (n + 20) = X at *; omega)
theorem iltsum {x y n : Nat} (h : x < 2 ^ (n + 20)) (k : y < 2 ^ (n + 20)) : x * 2 ^ 3 + y * 2 ^ 2 < 2 ^ (n + 30) := by
  have h2 : 2 ^ (n + 30) = 2 ^ (n + 20) * 1024 := by rw [show n + 30 = n + 20 + 10 by omega, Nat.pow_add _ (n + 20) 10]
  rw [h2]
  generalize 2 ^ (n + 20) = X at *
  omega
theorem bounds_ok (n : Nat) (hn : n ≤ 1400) (h3 : (arc0 3 n).1 ≠ 0) (h7 : (arc0 7 n).1 ≠ 0) {w : World} : Calls Tryd.prog 29 #[.int .i64 n] w fun en w' => ∃ p m q l, en = .returned (.tuple #[.slice p m m, .slice q l l]) ∧ RN w' p m (loN n) ∧ RN w' q l (hiN n) ∧ Below w.heap.size w w' := by
  have HN : Hid (n ≤ 1400 ∧ (arc0 3 n).1 ≠ 0 ∧ (arc0 7 n).1 ≠ 0) := ⟨hn, h3, h7⟩
  clear hn h3 h7
  go_enter Tryd.func29, Tryd.ntmps29
  go_wp2_with fail
  have hbw : Below w.heap.size w w := Below.refl _ _
  refine (arc_ok 3 n (by decide) (by decide) HN.out.1).mono ?_
  rintro e v1 ⟨p1, m1, q1, l1, rfl, hR1, hR2, hR3, hb1⟩
  have RNA1 : Hid (RN v1 p1 m1 (arc0 3 n).1) := hR1
  have RNB1 : Hid (RN v1 q1 l1 ((arc0 3 n).1 + (arc0 3 n).2)) := hR2
  have HB1 : Hid ((arc0 3 n).1 + (arc0 3 n).2 < 2 ^ (n + 20)) := hR3
  clear hR1 hR2 hR3
  replace hbw := Below.on hbw hb1
  clear hb1
  go_wp2_with fail
  refine (arc_ok 7 n (by decide) (by decide) HN.out.1).mono ?_
  rintro e v2 ⟨p2, m2, q2, l2, rfl, hR1, hR2, hR3, hb2⟩
  have RNA2 : Hid (RN v2 p2 m2 (arc0 7 n).1) := hR1
  have RNB2 : Hid (RN v2 q2 l2 ((arc0 7 n).1 + (arc0 7 n).2)) := hR2
  have HB2 : Hid ((arc0 7 n).1 + (arc0 7 n).2 < 2 ^ (n + 20)) := hR3
  clear hR1 hR2 hR3
  replace RNA1 : Hid (RN v2 p1 m1 (arc0 3 n).1) := RNA1.out.below hb2
  replace RNB1 : Hid (RN v2 q1 l1 ((arc0 3 n).1 + (arc0 3 n).2)) := RNB1.out.below hb2
  replace hbw := Below.on hbw hb2
  clear hb2
  go_wp2_with fail
  obtain ⟨A, hA⟩ : ∃ A, A = (arc0 3 n).1 := ⟨_, rfl⟩
  obtain ⟨Bq, hB⟩ : ∃ A, A = (arc0 3 n).2 := ⟨_, rfl⟩
  obtain ⟨C, hC⟩ : ∃ A, A = (arc0 7 n).1 := ⟨_, rfl⟩
  obtain ⟨D, hD⟩ : ∃ A, A = (arc0 7 n).2 := ⟨_, rfl⟩
  have HL : Hid (loN n = A * 2 ^ 3 + C * 2 ^ 2 ∧ hiN n = (A + Bq) * 2 ^ 3 + (C + D) * 2 ^ 2) := by rw [hA, hB, hC, hD]; exact ⟨rfl, rfl⟩
  rw [← hA, ← hB] at RNB1 HB1
  rw [← hC, ← hD] at RNB2 HB2
  rw [← hA] at RNA1
  rw [← hC] at RNA2
  have HX : Hid (n ≤ 1400 ∧ A ≠ 0 ∧ C ≠ 0 ∧ A + Bq < 2 ^ (n + 20) ∧ C + D < 2 ^ (n + 20)) := by rw [hA, hC]; exact ⟨HN.out.1, HN.out.2.1, HN.out.2.2, by rw [← hA]; exact HB1.out, by rw [← hC]; exact HB2.out⟩
  clear hA hB hC hD HN HB1 HB2
  refine (rn_shl RNA1.out (by have := HX.out; omega) 3 (by decide) (K := n + 24) (by have := HX.out; omega) (iltshl 3 (by decide) (by have := HX.out; omega))).mono ?_
  rintro e v3 ⟨p3, m3, rfl, hR, hb3⟩
  have RN3 : Hid (RN v3 p3 m3 (A * 2 ^ 3)) := hR
  clear hR
  replace RNA1 : Hid (RN v3 p1 m1 A) := RNA1.out.below hb3
  replace RNB1 : Hid (RN v3 q1 l1 (A + Bq)) := RNB1.out.below hb3
  replace RNA2 : Hid (RN v3 p2 m2 C) := RNA2.out.below hb3
  replace RNB2 : Hid (RN v3 q2 l2 (C + D)) := RNB2.out.below hb3
  replace hbw := Below.on hbw hb3
  clear hb3
  go_wp2_with fail
  refine (rn_shl RNA2.out (by have := HX.out; omega) 2 (by decide) (K := n + 24) (by have := HX.out; omega) (iltshl 2 (by decide) (by have := HX.out; omega))).mono ?_
  rintro e v4 ⟨p4, m4, rfl, hR, hb4⟩
  have RN4 : Hid (RN v4 p4 m4 (C * 2 ^ 2)) := hR
  clear hR
  replace RNA1 : Hid (RN v4 p1 m1 A) := RNA1.out.below hb4
  replace RNB1 : Hid (RN v4 q1 l1 (A + Bq)) := RNB1.out.below hb4
  replace RNA2 : Hid (RN v4 p2 m2 C) := RNA2.out.below hb4
  replace RNB2 : Hid (RN v4 q2 l2 (C + D)) := RNB2.out.below hb4
  replace RN3 : Hid (RN v4 p3 m3 (A * 2 ^ 3)) := RN3.out.below hb4
  replace hbw := Below.on hbw hb4
  clear hb4
  go_wp2_with fail
  refine (rn_add RN3.out RN4.out (K := n + 30) (by have := HX.out; omega) (iltsum (by have := HX.out; omega) (by have := HX.out; omega))).mono ?_
  rintro e v5 ⟨p5, m5, rfl, hR, hb5⟩
  have RN5 : Hid (RN v5 p5 m5 (A * 2 ^ 3 + C * 2 ^ 2)) := hR
  clear hR
  replace RNA1 : Hid (RN v5 p1 m1 A) := RNA1.out.below hb5
  replace RNB1 : Hid (RN v5 q1 l1 (A + Bq)) := RNB1.out.below hb5
  replace RNA2 : Hid (RN v5 p2 m2 C) := RNA2.out.below hb5
  replace RNB2 : Hid (RN v5 q2 l2 (C + D)) := RNB2.out.below hb5
  replace RN3 : Hid (RN v5 p3 m3 (A * 2 ^ 3)) := RN3.out.below hb5
  replace RN4 : Hid (RN v5 p4 m4 (C * 2 ^ 2)) := RN4.out.below hb5
  replace hbw := Below.on hbw hb5
  clear hb5
  go_wp2_with fail
  refine (rn_shl RNB1.out (by have := HX.out; omega) 3 (by decide) (K := n + 24) (by have := HX.out; omega) (iltshl 3 (by decide) HX.out.2.2.2.1)).mono ?_
  rintro e v6 ⟨p6, m6, rfl, hR, hb6⟩
  have RN6 : Hid (RN v6 p6 m6 ((A + Bq) * 2 ^ 3)) := hR
  clear hR
  replace RNA1 : Hid (RN v6 p1 m1 A) := RNA1.out.below hb6
  replace RNB1 : Hid (RN v6 q1 l1 (A + Bq)) := RNB1.out.below hb6
  replace RNA2 : Hid (RN v6 p2 m2 C) := RNA2.out.below hb6
  replace RNB2 : Hid (RN v6 q2 l2 (C + D)) := RNB2.out.below hb6
  replace RN3 : Hid (RN v6 p3 m3 (A * 2 ^ 3)) := RN3.out.below hb6
  replace RN4 : Hid (RN v6 p4 m4 (C * 2 ^ 2)) := RN4.out.below hb6
  replace RN5 : Hid (RN v6 p5 m5 (A * 2 ^ 3 + C * 2 ^ 2)) := RN5.out.below hb6
  replace hbw := Below.on hbw hb6
  clear hb6
  go_wp2_with fail
  refine (rn_shl RNB2.out (by have := HX.out; omega) 2 (by decide) (K := n + 24) (by have := HX.out; omega) (iltshl 2 (by decide) HX.out.2.2.2.2)).mono ?_
  rintro e v7 ⟨p7, m7, rfl, hR, hb7⟩
  have RN7 : Hid (RN v7 p7 m7 ((C + D) * 2 ^ 2)) := hR
  clear hR
  replace RNA1 : Hid (RN v7 p1 m1 A) := RNA1.out.below hb7
  replace RNB1 : Hid (RN v7 q1 l1 (A + Bq)) := RNB1.out.below hb7
  replace RNA2 : Hid (RN v7 p2 m2 C) := RNA2.out.below hb7
  replace RNB2 : Hid (RN v7 q2 l2 (C + D)) := RNB2.out.below hb7
  replace RN3 : Hid (RN v7 p3 m3 (A * 2 ^ 3)) := RN3.out.below hb7
  replace RN4 : Hid (RN v7 p4 m4 (C * 2 ^ 2)) := RN4.out.below hb7
  replace RN5 : Hid (RN v7 p5 m5 (A * 2 ^ 3 + C * 2 ^ 2)) := RN5.out.below hb7
  replace RN6 : Hid (RN v7 p6 m6 ((A + Bq) * 2 ^ 3)) := RN6.out.below hb7
  replace hbw := Below.on hbw hb7
  clear hb7
  go_wp2_with fail
  refine (rn_add RN6.out RN7.out (K := n + 30) (by have := HX.out; omega) (iltsum HX.out.2.2.2.1 HX.out.2.2.2.2)).mono ?_
  rintro e v8 ⟨p8, m8, rfl, hR, hb8⟩
  have RN8 : Hid (RN v8 p8 m8 ((A + Bq) * 2 ^ 3 + (C + D) * 2 ^ 2)) := hR
  clear hR
  replace RNA1 : Hid (RN v8 p1 m1 A) := RNA1.out.below hb8
  replace RNB1 : Hid (RN v8 q1 l1 (A + Bq)) := RNB1.out.below hb8
  replace RNA2 : Hid (RN v8 p2 m2 C) := RNA2.out.below hb8
  replace RNB2 : Hid (RN v8 q2 l2 (C + D)) := RNB2.out.below hb8
  replace RN3 : Hid (RN v8 p3 m3 (A * 2 ^ 3)) := RN3.out.below hb8
  replace RN4 : Hid (RN v8 p4 m4 (C * 2 ^ 2)) := RN4.out.below hb8
  replace RN5 : Hid (RN v8 p5 m5 (A * 2 ^ 3 + C * 2 ^ 2)) := RN5.out.below hb8
  replace RN6 : Hid (RN v8 p6 m6 ((A + Bq) * 2 ^ 3)) := RN6.out.below hb8
  replace RN7 : Hid (RN v8 p7 m7 ((C + D) * 2 ^ 2)) := RN7.out.below hb8
  replace hbw := Below.on hbw hb8
  clear hb8
  go_wp2_with fail
  go_ret2
  exact ⟨_, _, _, _, rfl, RN5.out.cast HL.out.1.symm, RN8.out.cast HL.out.2.symm, hbw⟩
end Go.Proofs.YteoccegpbonfpaaDoor
namespace Go.Proofs.YteoccegpbonfpaaDoor
open Go.RowKit
set_option maxRecDepth 20000
set_option maxHeartbeats 0
theorem bwAlloc (w : World) (o : Obj) : Below w.heap.size w (w.alloc o) := (Below.refl _ _).alloc (Nat.le_refl _) o
theorem bwOn {w w1 w2 : World} (h : Below w.heap.size w w1) (k : Below w1.heap.size w1 w2) : Below w.heap.size w w2 := h.trans (k.mono h.size)
theorem bwDrew {B : Nat} {a w : World} (h : Below B a w) : Below B a w.drew := ⟨h.os, h.tape, h.output, h.size, h.block⟩
theorem bwSet {B : Nat} {a w : World} (h : Below B a w) (g o : Nat) (v : Value) (hB : B ≤ g) : Below B a (w.setCell ⟨g, o, none⟩ v) :=
  h.trans ((Wr.refl g o 1 w).setCell o ⟨by omega, by omega⟩ v |>.below hB)
theorem results_c1 {fn : Func} {p : Tmp} {ty : TypeId} (h : fn.results = #[.cell p ty]) (tmps : Array Value) (P : Program) (w : World) :
    (results fn tmps).run P w = ((asAddr (tmps.getD p undef)).run P w).andThen fun a w₁ => (loadVar ty a).run P w₁ := by
  simp only [results, h]
  simp [Sem.run_bind, Result.andThen]
theorem results_ct {fn : Func} {p q : Tmp} {ty : TypeId} (h : fn.results = #[.cell p ty, .tmp q]) (tmps : Array Value) (P : Program) (w : World) :
    (results fn tmps).run P w = ((asAddr (tmps.getD p undef)).run P w).andThen fun a w₁ => ((loadVar ty a).run P w₁).andThen fun v w₂ => .ok (.tuple #[v, tmps.getD q undef]) w₂ := by
  simp only [results, h]
  simp [Sem.run_bind, Result.andThen]

abbrev WV (p m l : Int) : Value := .agg #[.int .i64 p, .int .i64 m, .int .i64 l]
structure B3 (W : World) (g : Nat) (v0 v1 v2 : Value) : Prop where
  c0 : W.cell? ⟨g, 0, none⟩ = some v0
  c1 : W.cell? ⟨g, 1, none⟩ = some v1
  c2 : W.cell? ⟨g, 2, none⟩ = some v2
  f0 : W.frozen? ⟨g, 0, none⟩ = false
  f1 : W.frozen? ⟨g, 1, none⟩ = false
  f2 : W.frozen? ⟨g, 2, none⟩ = false
theorem B3.below {W W' : World} {g : Nat} {v0 v1 v2 : Value} (h : B3 W g v0 v1 v2) (hb : Below W.heap.size W W') : B3 W' g v0 v1 v2 := by
  have hl : g < W.heap.size := World.block_lt_of_cell? W _ h.c0
  exact ⟨(hb.cell (p := ⟨g, 0, none⟩) hl).trans h.c0, (hb.cell (p := ⟨g, 1, none⟩) hl).trans h.c1, (hb.cell (p := ⟨g, 2, none⟩) hl).trans h.c2,
    (hb.frozen (p := ⟨g, 0, none⟩) hl).trans h.f0, (hb.frozen (p := ⟨g, 1, none⟩) hl).trans h.f1, (hb.frozen (p := ⟨g, 2, none⟩) hl).trans h.f2⟩
theorem B3.new (w : World) (ty : TypeId) (v0 v1 v2 : Value) : B3 (w.alloc (.cells #[v0, v1, v2] ty)) w.heap.size v0 v1 v2 :=
  ⟨by go_simp, by go_simp, by go_simp, by go_simp, by go_simp, by go_simp⟩
theorem B3.lt {W : World} {g : Nat} {v0 v1 v2 : Value} (h : B3 W g v0 v1 v2) : g < W.heap.size := World.block_lt_of_cell? W _ h.c0

theorem widths_64 (w : World) : Calls Tryd.prog 78 #[.int .i64 64] w fun e w' => e = .returned (WV 64 53 (-1074)) ∧ Below w.heap.size w w' := by
  go_enter Tryd.func78, Tryd.ntmps78
  go_wp2_with fail
  exact bodyPost_ret (v := WV 64 53 (-1074)) (by rw [results_c1 rfl]; go_simp) rfl ⟨rfl, bwAlloc w _⟩
theorem of_64 (w : World) : Calls Tryd.prog 73 #[.int .i64 64] w fun e w' => e = .returned (.tuple #[WV 64 53 (-1074), .int .i64 0]) ∧ Below w.heap.size w w' := by
  go_enter Tryd.func73, Tryd.ntmps73
  go_wp2_with fail
  have X0 : B3 (w.alloc (.cells #[.int .i64 0, .int .i64 0, .int .i64 0] 71)) w.heap.size (.int .i64 0) (.int .i64 0) (.int .i64 0) := B3.new ..
  have hb0 : Below w.heap.size w (w.alloc (.cells #[.int .i64 0, .int .i64 0, .int .i64 0] 71)) := bwAlloc w _
  generalize w.alloc (.cells #[.int .i64 0, .int .i64 0, .int .i64 0] 71) = W at *
  obtain ⟨g, hg⟩ : ∃ g, g = w.heap.size := ⟨_, rfl⟩
  have HG : Hid (w.heap.size ≤ g) := by show _ ≤ _; omega
  rw [← hg] at X0 ⊢
  clear hg
  refine (widths_64 _).mono ?_
  rintro e w1 ⟨rfl, hb1⟩
  obtain ⟨d0, d1, d2, d3, d4, d5⟩ := X0.below hb1
  have hgl : g < w1.heap.size := (X0.below hb1).lt
  have HB : Hid (Below w.heap.size w w1) := bwOn hb0 hb1
  clear hb0 hb1 X0
  go_wp2_with fail
  refine bodyPost_ret (v := .tuple #[WV 64 53 (-1074), .int .i64 0]) (by rw [results_ct rfl]; go_simp) rfl ⟨rfl, ?_⟩
  exact Below.alloc (bwSet (bwSet (bwSet HB.out _ _ _ HG.out) _ _ _ HG.out) _ _ _ HG.out) (by simpa using HB.out.size) _
theorem stored_64 (w : World) : Calls Tryd.prog 55 #[WV 64 53 (-1074)] w fun e w' => e = .returned (.int .i64 52) ∧ Below w.heap.size w w' := by
  go_enter Tryd.func55, Tryd.ntmps55
  go_wp2_with fail
  go_ret
  exact ⟨rfl, bwAlloc w _⟩
theorem sign_64 (w : World) : Calls Tryd.prog 74 #[WV 64 53 (-1074)] w fun e w' => e = .returned (.int .u64 9223372036854775808) ∧ Below w.heap.size w w' := by
  go_enter Tryd.func74, Tryd.ntmps74
  go_wp2_with fail
  go_ret
  exact ⟨rfl, bwAlloc w _⟩
theorem infinity_64 (w : World) : Calls Tryd.prog 68 #[WV 64 53 (-1074)] w fun e w' => e = .returned (.int .u64 9218868437227405312) ∧ Below w.heap.size w w' := by
  go_enter Tryd.func68, Tryd.ntmps68
  go_wp2_with fail
  have X0 : B3 (w.alloc (.cells #[.int .i64 64, .int .i64 53, .int .i64 (-1074)] 71)) w.heap.size (.int .i64 64) (.int .i64 53) (.int .i64 (-1074)) := B3.new ..
  have hb0 : Below w.heap.size w (w.alloc (.cells #[.int .i64 64, .int .i64 53, .int .i64 (-1074)] 71)) := bwAlloc w _
  generalize w.alloc (.cells #[.int .i64 64, .int .i64 53, .int .i64 (-1074)] 71) = W at *
  obtain ⟨g, hg⟩ : ∃ g, g = w.heap.size := ⟨_, rfl⟩
  have HG : Hid (w.heap.size ≤ g) := by show _ ≤ _; omega
  rw [← hg] at X0 ⊢
  clear hg
  have XB : Hid (B3 W.drew g (.int .i64 64) (.int .i64 53) (.int .i64 (-1074))) := ⟨X0.c0, X0.c1, X0.c2, X0.f0, X0.f1, X0.f2⟩
  have HBW : Hid (Below w.heap.size w W.drew) := bwDrew hb0
  obtain ⟨c0, c1, c2, c3, c4, c5⟩ := X0
  clear hb0
  go_region_with (first
      | (go_at_call 74; (with_reducible refine (sign_64 _).mono ?_); rintro e w1 ⟨rfl, hb1⟩; obtain ⟨d0, d1, d2, d3, d4, d5⟩ := XB.out.below hb1; have HBW1 : Hid (Below w.heap.size w w1) := bwOn HBW.out hb1; clear hb1)
      | (go_at_call 55; (with_reducible refine (stored_64 _).mono ?_); rintro e w2 ⟨rfl, hb2⟩; have HBW2 : Hid (Below w.heap.size w w2) := bwOn HBW1.out hb2; clear hb2))
  all_goals
    (go_wp2_with fail
     go_ret
     exact ⟨rfl, HBW2.out⟩)
end Go.Proofs.YteoccegpbonfpaaDoor
namespace Go.Proofs.YteoccegpbonfpaaDoor
open Go.RowKit Go.Shelf
set_option maxRecDepth 20000
set_option maxHeartbeats 0
def bl_renLen : Ren := ⟨fun x => match x with | 129 => 69 | n => n, fun x => match x with | 53 => 23 | 3 => 3 | 4 => 4 | 46 => 31 | 5 => 5 | 9 => 9 | n => n, fun n => n⟩
theorem bl_laysLen : Lays.n129 Tryd.prog bl_renLen :=
  { mixed := by kernel_rfl, f129 := Tryd.func69.trans (congrArg some (by kernel_rfl)),
    t3 := Tryd.underlying3, a3 := Tryd.isAgg3, z3 := Tryd.sizeOf3, v3 := Tryd.zeroValue3, t4 := Tryd.underlying4, a4 := Tryd.isAgg4, z4 := Tryd.sizeOf4, v4 := Tryd.zeroValue4,
    t5 := Tryd.underlying5, a5 := Tryd.isAgg5, z5 := Tryd.sizeOf5, v5 := Tryd.zeroValue5, t9 := Tryd.underlying9, a9 := Tryd.isAgg9, z9 := Tryd.sizeOf9, v9 := Tryd.zeroValue9,
    t46 := Tryd.underlying31, a46 := Tryd.isAgg31, z46 := Tryd.sizeOf31, v46 := Tryd.zeroValue31, t53 := Tryd.underlying23, a53 := Tryd.isAgg23, z53 := Tryd.sizeOf23, v53 := Tryd.zeroValue23 }

def bl_bitsN (n : Nat) : Nat := if n = 0 then 0 else n.log2 + 1
theorem bl_bitsN_zero : bl_bitsN 0 = 0 := rfl
theorem bl_bitsN_lt (n : Nat) : n < 2 ^ bl_bitsN n := by
  unfold bl_bitsN
  split
  · rename_i h; subst h; decide
  · exact Nat.lt_log2_self
theorem bl_bitsN_le (n : Nat) (h : n ≠ 0) : 2 ^ (bl_bitsN n - 1) ≤ n := by
  unfold bl_bitsN
  rw [if_neg h, Nat.add_sub_cancel]
  exact Nat.log2_self_le h
theorem bl_bitsN_unique {n k : Nat} (h1 : n < 2 ^ k) (h2 : n ≠ 0 → 2 ^ (k - 1) ≤ n) (h3 : n = 0 → k = 0) : bl_bitsN n = k := by
  by_cases h0 : n = 0
  · subst h0; rw [h3 rfl]; rfl
  · have a1 := bl_bitsN_lt n
    have a2 := bl_bitsN_le n h0
    have b2 := h2 h0
    have c1 : bl_bitsN n - 1 < k := (Nat.pow_lt_pow_iff_right (by decide : 1 < 2)).1 (Nat.lt_of_le_of_lt a2 h1)
    have c2 : k - 1 < bl_bitsN n := (Nat.pow_lt_pow_iff_right (by decide : 1 < 2)).1 (Nat.lt_of_le_of_lt b2 a1)
    have c3 : bl_bitsN n ≠ 0 := by unfold bl_bitsN; rw [if_neg h0]; omega
    omega
theorem bl_bitsN_half (n : Nat) (h : n ≠ 0) : bl_bitsN n = 1 + bl_bitsN (n / 2) := by
  refine bl_bitsN_unique ?_ ?_ (fun e => absurd e h)
  · have := bl_bitsN_lt (n / 2)
    rw [Nat.add_comm, Nat.pow_succ]; omega
  · intro _
    by_cases h2 : n / 2 = 0
    · rw [h2]; simp [bl_bitsN]; omega
    · have a := bl_bitsN_le _ h2
      have c3 : bl_bitsN (n / 2) ≠ 0 := by unfold bl_bitsN; rw [if_neg h2]; omega
      have e : 1 + bl_bitsN (n / 2) - 1 = bl_bitsN (n / 2) - 1 + 1 := by omega
      rw [e, Nat.pow_succ]; omega
theorem bl_bitLen_eq : ∀ (k n : Nat), n < 2 ^ k → k ≤ 64 → Lib.bitLen n = bl_bitsN n := by
  intro k
  induction k with
  | zero => intro n h _; have : n = 0 := by simpa using h
            subst this; rfl
  | succ k ih =>
    intro n h hk
    by_cases h0 : n = 0
    · subst h0; rfl
    · rw [Lib.bitLen_half n h0 (Nat.lt_of_lt_of_le h (Nat.pow_le_pow_right (by decide) hk)), bl_bitsN_half n h0, ih (n / 2) (by rw [Nat.pow_succ] at h; omega) (by omega)]

theorem bl_len_any (x : Nat) (w : World) (hx : x < B64) : Calls Tryd.prog 69 #[U x] w fun e w' => e = .returned (.int .i64 (bl_bitsN x)) ∧ w' = w := by
  rw [B64_eq] at hx
  have h := Any.bits_Len64 bl_laysLen (x : Int) w (by omega) (by omega)
  rw [Int.toNat_natCast, bl_bitLen_eq 64 x hx (Nat.le_refl _)] at h
  exact h

theorem land_two_pow (b k : Nat) : b &&& 2 ^ k = if b / 2 ^ k % 2 = 1 then 2 ^ k else 0 := by
  refine Nat.eq_of_testBit_eq fun i => ?_
  rw [Nat.testBit_and, Nat.testBit_two_pow]
  by_cases h : k = i
  · subst h
    by_cases h2 : b / 2 ^ k % 2 = 1
    · rw [if_pos h2, Nat.testBit_two_pow_self]; simp [Nat.testBit_eq_decide_div_mod_eq, h2]
    · rw [if_neg h2]; simp [Nat.testBit_eq_decide_div_mod_eq, h2]
  · by_cases h2 : b / 2 ^ k % 2 = 1
    · rw [if_pos h2, Nat.testBit_two_pow]; simp [h]
    · rw [if_neg h2]; simp [h]
theorem sign_and (b S k : Nat) (hS : S = 2 ^ k) (hk : k < 64) (hb : b < 2 * S) : bits BinOp.and IntKind.u64 (b : Int) (S : Int) = ((if S ≤ b then S else 0 : Nat) : Int) := by
  have h1 : S ≤ 9223372036854775808 := by rw [hS]; exact Nat.le_trans (Nat.pow_le_pow_right (by decide) (by omega : k ≤ 63)) (by decide)
  rw [bits_and_u64_nat b S (by omega) (by omega)]
  congr 1
  rw [hS] at hb ⊢
  rw [land_two_pow]
  have hp := Nat.two_pow_pos k
  by_cases h : 2 ^ k ≤ b
  · have : b / 2 ^ k = 1 := by
      rw [Nat.div_eq_of_lt_le] <;> omega
    rw [this, if_pos rfl, if_pos h]
  · rw [Nat.div_eq_of_lt (by omega), if_neg (by decide), if_neg h]
theorem andNot_bv (b k : Nat) (hb : b < 2 ^ (k + 1)) (hk : k < 64) : (BitVec.ofNat 64 b &&& ~~~ BitVec.ofNat 64 (2 ^ k)) = BitVec.ofNat 64 (b % 2 ^ k) := by
  refine BitVec.eq_of_getLsbD_eq fun i hi => ?_
  simp only [BitVec.getLsbD_and, BitVec.getLsbD_not, BitVec.getLsbD_ofNat, Nat.testBit_two_pow, Nat.testBit_mod_two_pow, hi, decide_true, Bool.true_and]
  rcases Nat.lt_trichotomy i k with h | h | h
  · have h2 : ¬ k = i := by omega
    simp [h, h2]
  · subst h; simp
  · have h2 : b.testBit i = false := Nat.testBit_lt_two_pow (Nat.lt_of_lt_of_le hb (Nat.pow_le_pow_right (by decide) h))
    simp [h2]
theorem sign_andNot (b S k : Nat) (hS : S = 2 ^ k) (hk : k < 64) (hb : b < 2 * S) : bits BinOp.andNot IntKind.u64 (b : Int) (S : Int) = ((b % S : Nat) : Int) := by
  have h1 : S ≤ 9223372036854775808 := by rw [hS]; exact Nat.le_trans (Nat.pow_le_pow_right (by decide) (by omega : k ≤ 63)) (by decide)
  have hb2 : b < 2 ^ (k + 1) := by rw [Nat.pow_succ, ← hS]; omega
  show IntKind.u64.wrap ((BitVec.ofInt 64 (b : Int) &&& ~~~ BitVec.ofInt 64 (S : Int)).toNat : Int) = _
  rw [BitVec.ofInt_natCast, BitVec.ofInt_natCast, hS, andNot_bv b k hb2 hk, ← hS, BitVec.toNat_ofNat, IntKind.wrap_u64]
  have h2 : b % S < S := Nat.mod_lt _ (by rw [hS]; exact Nat.two_pow_pos k)
  omega
theorem bl_le {b k : Nat} (h : b < 2 ^ k) : bl_bitsN b ≤ k := by
  by_cases h0 : b = 0
  · subst h0; rw [bl_bitsN_zero]; omega
  · have h1 := bl_bitsN_le b h0
    have h2 := (Nat.pow_lt_pow_iff_right (by decide : 1 < 2)).1 (Nat.lt_of_le_of_lt h1 h)
    omega
abbrev PV (p m l : Int) (s : Bool) (z : Nat) : Value := .agg #[.int .i64 p, .int .i64 m, .int .i64 l, .bool s, U z]
structure B5q (W : World) (g : Nat) (v0 v1 v2 v3 v4 : Value) : Prop where
  c0 : W.cell? ⟨g, 0, none⟩ = some v0
  c1 : W.cell? ⟨g, 1, none⟩ = some v1
  c2 : W.cell? ⟨g, 2, none⟩ = some v2
  c3 : W.cell? ⟨g, 3, none⟩ = some v3
  c4 : W.cell? ⟨g, 4, none⟩ = some v4
  f0 : W.frozen? ⟨g, 0, none⟩ = false
  f1 : W.frozen? ⟨g, 1, none⟩ = false
  f2 : W.frozen? ⟨g, 2, none⟩ = false
  f3 : W.frozen? ⟨g, 3, none⟩ = false
  f4 : W.frozen? ⟨g, 4, none⟩ = false
theorem B5q.below {W W' : World} {g : Nat} {v0 v1 v2 v3 v4 : Value} (h : B5q W g v0 v1 v2 v3 v4) (hb : Below W.heap.size W W') : B5q W' g v0 v1 v2 v3 v4 := by
  have hl : g < W.heap.size := World.block_lt_of_cell? W _ h.c0
  exact ⟨(hb.cell (p := ⟨g, 0, none⟩) hl).trans h.c0, (hb.cell (p := ⟨g, 1, none⟩) hl).trans h.c1, (hb.cell (p := ⟨g, 2, none⟩) hl).trans h.c2, (hb.cell (p := ⟨g, 3, none⟩) hl).trans h.c3, (hb.cell (p := ⟨g, 4, none⟩) hl).trans h.c4,
    (hb.frozen (p := ⟨g, 0, none⟩) hl).trans h.f0, (hb.frozen (p := ⟨g, 1, none⟩) hl).trans h.f1, (hb.frozen (p := ⟨g, 2, none⟩) hl).trans h.f2, (hb.frozen (p := ⟨g, 3, none⟩) hl).trans h.f3, (hb.frozen (p := ⟨g, 4, none⟩) hl).trans h.f4⟩
theorem B5q.new (w : World) (ty : TypeId) (v0 v1 v2 v3 v4 : Value) : B5q (w.alloc (.cells #[v0, v1, v2, v3, v4] ty)) w.heap.size v0 v1 v2 v3 v4 :=
  ⟨by go_simp, by go_simp, by go_simp, by go_simp, by go_simp, by go_simp, by go_simp, by go_simp, by go_simp, by go_simp⟩
theorem B5q.lt {W : World} {g : Nat} {v0 v1 v2 v3 v4 : Value} (h : B5q W g v0 v1 v2 v3 v4) : g < W.heap.size := World.block_lt_of_cell? W _ h.c0
theorem B5q.drew {W : World} {g : Nat} {v0 v1 v2 v3 v4 : Value} (h : B5q W g v0 v1 v2 v3 v4) : B5q W.drew g v0 v1 v2 v3 v4 := ⟨h.c0, h.c1, h.c2, h.c3, h.c4, h.f0, h.f1, h.f2, h.f3, h.f4⟩
theorem B3.drew {W : World} {g : Nat} {v0 v1 v2 : Value} (h : B3 W g v0 v1 v2) : B3 W.drew g v0 v1 v2 := ⟨h.c0, h.c1, h.c2, h.f0, h.f1, h.f2⟩
end Go.Proofs.YteoccegpbonfpaaDoor
namespace Go.Proofs.YteoccegpbonfpaaDoor
open Go.RowKit
set_option maxRecDepth 20000
set_option maxHeartbeats 0
structure Num (w : World) (p : Option Addr) (m c : Nat) (xs : List Nat) (a : Nat) : Prop where
  at_ : At w p m c xs
  nf : Nf B64 xs a
  le : m ≤ 8192
theorem Num.below {w w' : World} {p : Option Addr} {m c : Nat} {xs : List Nat} {a : Nat} (h : Num w p m c xs a) (hb : Below w.heap.size w w') : Num w' p m c xs a := ⟨h.at_.below hb, h.nf, h.le⟩
theorem Num.lim {w : World} {p : Option Addr} {m c : Nat} {xs : List Nat} {a : Nat} (h : Num w p m c xs a) : a < LIM := h.nf.lim.1 (by rw [h.at_.len]; exact h.le)
theorem Num.of {B : Nat} {w : World} {p : Option Addr} {m : Nat} {xs : List Nat} {a : Nat} (ho : Own B w p m xs) (hn : Nf B64 xs a) (hm : m ≤ 8192) : Num w p m m xs a := ⟨ho.at_ hm, hn, hm⟩
end Go.Proofs.YteoccegpbonfpaaDoor
namespace Go.Proofs.YteoccegpbonfpaaDoor
open Go.RowKit Go.Shelf
set_option maxRecDepth 20000
set_option maxHeartbeats 0
def iv (s : Bool) (a : Nat) : Int := if s then -(a : Int) else (a : Int)
theorem iv_t (a : Nat) : iv true a = -(a : Int) := rfl
theorem iv_f (a : Nat) : iv false a = (a : Int) := rfl
abbrev ZV (s : Bool) (p : Option Addr) (n c : Nat) : Value := .agg #[.bool s, .slice p n c]
def AnsI (B : Nat) (w' : World) (e : Ending) (z : Int) : Prop :=
  (z.natAbs < LIM ∧ ∃ p m zs, e = .returned (.tuple #[ZV (decide (z < 0)) p m m, .int .i64 0]) ∧ Own B w' p m zs ∧ Nf B64 zs z.natAbs ∧ m ≤ 8192) ∨
  (LIM ≤ z.natAbs ∧ e = .returned (.tuple #[ZV false none 0 0, .int .i64 5]))
theorem AnsI.ok {B : Nat} {w' : World} {e : Ending} {z : Int} (h : AnsI B w' e z) (hz : z.natAbs < LIM) : ∃ p m zs, e = .returned (.tuple #[ZV (decide (z < 0)) p m m, .int .i64 0]) ∧ Own B w' p m zs ∧ Nf B64 zs z.natAbs ∧ m ≤ 8192 := by
  rcases h with ⟨_, h⟩ | ⟨h, _⟩
  · exact h
  · omega
theorem AnsI.no {B : Nat} {w' : World} {e : Ending} {z : Int} (h : AnsI B w' e z) (hz : LIM ≤ z.natAbs) : e = .returned (.tuple #[ZV false none 0 0, .int .i64 5]) := by
  rcases h with ⟨h, _⟩ | ⟨_, h⟩
  · omega
  · exact h
theorem Num.zero {w : World} {p : Option Addr} {m c : Nat} {xs : List Nat} {a : Nat} (h : Num w p m c xs a) : m = 0 ↔ a = 0 := by
  rw [← h.nf.zero_iff B64_one, ← h.at_.len]
  exact ⟨List.eq_nil_of_length_eq_zero, fun e => by rw [e]; rfl⟩

theorem results_cell1 {fn : Func} {p : Tmp} {ty : TypeId} (h : fn.results = #[.cell p ty]) (tmps : Array Value) (P : Program) (w : World) :
    (results fn tmps).run P w = ((asAddr (tmps.getD p undef)).run P w).andThen fun a w₁ => (loadVar ty a).run P w₁ := by
  simp only [results, h]
  simp [Sem.run_bind, Result.andThen]
theorem bSet {B : Nat} {a w : World} (h : Below B a w) (g o : Nat) (v : Value) (hB : B ≤ g) : Below B a (w.setCell ⟨g, o, none⟩ v) :=
  h.trans ((Wr.refl g o 1 w).setCell o ⟨by omega, by omega⟩ v |>.below hB)
theorem below3 (w : World) (o1 o2 o3 : Obj) : Below w.heap.size w (((w.alloc o1).alloc o2).alloc o3) := (below2 w o1 o2).alloc (by simp; omega) o3
theorem Nf.lenpos {zs : List Nat} {n m : Nat} (h : Nf B64 zs n) (hl : zs.length = m) : decide (0 < m) = decide (0 < n) := by
  refine decide_eq_decide.2 ?_
  have := h.zero_iff B64_one
  constructor
  · intro hm
    rcases Nat.eq_zero_or_pos n with e | e
    · have := this.2 e; rw [this] at hl; simp at hl; omega
    · exact e
  · intro hn
    rcases Nat.eq_zero_or_pos m with e | e
    · have := this.1 (List.eq_nil_of_length_eq_zero (by omega)); omega
    · exact e
end Go.Proofs.YteoccegpbonfpaaDoor
namespace Go.Proofs.YteoccegpbonfpaaDoor
open Go.RowKit
set_option maxRecDepth 20000
set_option maxHeartbeats 0
structure Chg (S : Nat → Nat → Prop) (w w' : World) : Prop where
  os : w'.os = w.os
  tape : w'.tape = w.tape
  output : w'.output = w.output
  size : w.heap.size ≤ w'.heap.size
  row : ∀ k cur t fr, w.heap[k]? = some (.cells cur t fr) → ∃ cur', w'.heap[k]? = some (.cells cur' t fr) ∧ cur'.size = cur.size ∧ ∀ j, ¬ S k j → cur'[j]? = cur[j]?
  other : ∀ k, k < w.heap.size → (∀ cur t fr, w.heap[k]? ≠ some (.cells cur t fr)) → w'.heap[k]? = w.heap[k]?

def Rg (g off n : Nat) : Nat → Nat → Prop := fun b o => b = g ∧ off ≤ o ∧ o < off + n
def Dj (g off n g' off' n' : Nat) : Prop := g ≠ g' ∨ off + n ≤ off' ∨ off' + n' ≤ off
theorem Dj.symm {g off n g' off' n' : Nat} (h : Dj g off n g' off' n') : Dj g' off' n' g off n := by unfold Dj at *; omega
theorem Dj.sub {g off n g' off' n' o m : Nat} (h : Dj g off n g' off' n') (h1 : off ≤ o) (h2 : o + m ≤ off + n) : Dj g o m g' off' n' := by unfold Dj at *; omega
theorem Dj.not {g off n g' off' n' j : Nat} (h : Dj g off n g' off' n') (hj : j < n) : ¬ Rg g' off' n' g (off + j) := by unfold Dj Rg at *; omega

theorem Chg.refl (S : Nat → Nat → Prop) (w : World) : Chg S w w := ⟨rfl, rfl, rfl, Nat.le_refl _, fun _ cur _ _ h => ⟨cur, h, rfl, fun _ _ => rfl⟩, fun _ _ _ => rfl⟩
theorem Chg.mono {S S' : Nat → Nat → Prop} {w w' : World} (h : Chg S w w') (hS : ∀ b o, S b o → S' b o) : Chg S' w w' := by
  refine ⟨h.os, h.tape, h.output, h.size, fun k cur t fr hk => ?_, h.other⟩
  obtain ⟨c, h1, h2, h3⟩ := h.row k cur t fr hk
  exact ⟨c, h1, h2, fun j hj => h3 j (fun hs => hj (hS k j hs))⟩
theorem Chg.trans {S : Nat → Nat → Prop} {a b c : World} (h : Chg S a b) (k : Chg S b c) : Chg S a c := by
  refine ⟨k.os.trans h.os, k.tape.trans h.tape, k.output.trans h.output, Nat.le_trans h.size k.size, fun i cur t fr hi => ?_, fun i hi hn => ?_⟩
  · obtain ⟨c1, g1, s1, e1⟩ := h.row i cur t fr hi
    obtain ⟨c2, g2, s2, e2⟩ := k.row i c1 t fr g1
    exact ⟨c2, g2, s2.trans s1, fun j hj => (e2 j hj).trans (e1 j hj)⟩
  · have e1 := h.other i hi hn
    rw [← e1]
    exact k.other i (Nat.lt_of_lt_of_le hi h.size) (by rw [e1]; exact hn)
theorem Wr.chg {g off n : Nat} {w w' : World} (h : Wr g off n w w') : Chg (Rg g off n) w w' := by
  refine ⟨h.os, h.tape, h.output, by rw [h.size]; exact Nat.le_refl _, fun k cur t fr hk => ?_, fun k _ hn => ?_⟩
  · by_cases e : k = g
    · subst e
      obtain ⟨c, h1, h2, h3⟩ := h.row cur t fr hk
      exact ⟨c, h1, h2, fun j hj => h3 j (by unfold Rg at hj; omega)⟩
    · exact ⟨cur, by rw [h.block k e]; exact hk, rfl, fun _ _ => rfl⟩
  · by_cases e : k = g
    · subst e; exact h.other hn
    · exact h.block k e
theorem Chg.drewN {S : Nat → Nat → Prop} {w w' : World} (h : Chg S w w') (q : Nat) : Chg S w (w'.drewN q) := ⟨h.os, h.tape, h.output, h.size, h.row, h.other⟩
theorem Chg.drew {S : Nat → Nat → Prop} {w w' : World} (h : Chg S w w') : Chg S w w'.drew := ⟨h.os, h.tape, h.output, h.size, h.row, h.other⟩
theorem Chg.cell {S : Nat → Nat → Prop} {w w' : World} (h : Chg S w w') {b o : Nat} {v : Value} (hn : ¬ S b o) (hc : w.cell? ⟨b, o, none⟩ = some v) : w'.cell? ⟨b, o, none⟩ = some v := by
  obtain ⟨c, e, fr, hb, hv⟩ := Sort.cells_of_cell? hc
  obtain ⟨c', h1, _, h3⟩ := h.row b c e fr hb
  rw [cell_of_row w' b o c' e fr h1, h3 o hn]; exact hv
theorem Chg.frozen {S : Nat → Nat → Prop} {w w' : World} (h : Chg S w w') {b o : Nat} {v : Value} (hc : w.cell? ⟨b, o, none⟩ = some v) : w'.frozen? ⟨b, o, none⟩ = w.frozen? ⟨b, o, none⟩ := by
  obtain ⟨c, e, fr, hb, hv⟩ := Sort.cells_of_cell? hc
  obtain ⟨c', h1, _, h3⟩ := h.row b c e fr hb
  simp [World.frozen?, hb, h1]
theorem Chg.below {S : Nat → Nat → Prop} {w w' : World} (h : Chg S w w') {B : Nat} (hS : ∀ b o, S b o → B ≤ b) (hB : B ≤ w.heap.size) : Below B w w' := by
  refine ⟨h.os, h.tape, h.output, h.size, fun k hk => ?_⟩
  by_cases hc : ∃ cur t fr, w.heap[k]? = some (.cells cur t fr)
  · obtain ⟨cur, t, fr, hcur⟩ := hc
    obtain ⟨c', h1, h2, h3⟩ := h.row k cur t fr hcur
    have e : c' = cur := by
      apply Array.ext_getElem?
      intro j
      exact h3 j (fun hs => by have := hS k j hs; omega)
    rw [h1, hcur, e]
  · exact h.other k (by omega) (fun cur t fr e => hc ⟨cur, t, fr, e⟩)
theorem Below.chg {w w' : World} (h : Below w.heap.size w w') (S : Nat → Nat → Prop) : Chg S w w' := by
  refine ⟨h.os, h.tape, h.output, h.size, fun k cur t fr hk => ?_, fun k hk _ => h.block k hk⟩
  have hlt : k < w.heap.size := (Array.getElem?_eq_some_iff.1 hk).1
  exact ⟨cur, by rw [h.block k hlt]; exact hk, rfl, fun _ _ => rfl⟩

structure Rd (w : World) (g off n : Nat) (xs : List Nat) : Prop where
  len : xs.length = n
  dig : Dig B64 xs
  cell : ∀ j, j < n → w.cell? ⟨g, off + j, none⟩ = some (U (xs.getD j 0))
theorem Rd.at_ {w : World} {g off n c : Nat} {xs : List Nat} (h : Rd w g off n xs) (hc : n ≤ c) (hb : c ≤ maxLen) : At w (some ⟨g, off, none⟩) n c xs := ⟨h.len, hc, hb, h.dig, .inr ⟨g, off, rfl, h.cell⟩⟩
theorem Rd.chg {w w' : World} {S : Nat → Nat → Prop} {g off n : Nat} {xs : List Nat} (h : Rd w g off n xs) (hc : Chg S w w') (hd : ∀ j, j < n → ¬ S g (off + j)) : Rd w' g off n xs :=
  ⟨h.len, h.dig, fun j hj => hc.cell (hd j hj) (h.cell j hj)⟩
theorem Row.chg {w w' : World} {S : Nat → Nat → Prop} {g off n : Nat} {xs : List Nat} (h : Row w g off n xs) (hc : Chg S w w') (hd : ∀ j, j < n → ¬ S g (off + j)) : Row w' g off n xs :=
  ⟨h.len, h.dig, fun j hj => hc.cell (hd j hj) (h.cell j hj), fun j hj => by rw [hc.frozen (h.cell j hj)]; exact h.frozen j hj⟩
theorem Row.sub {w : World} {g off n : Nat} {xs : List Nat} (h : Row w g off n xs) (k m : Nat) (hkm : k + m ≤ n) : Row w g (off + k) m ((xs.drop k).take m) := by
  have hl := h.len
  refine ⟨by simp; omega, (h.dig.drop k).take m, fun j hj => ?_, fun j hj => by rw [Nat.add_assoc]; exact h.frozen (k + j) (by omega)⟩
  have e : ((xs.drop k).take m).getD j 0 = xs.getD (k + j) 0 := by rw [List.getD_eq_getElem?_getD, List.getD_eq_getElem?_getD, List.getElem?_take, if_pos hj, List.getElem?_drop]
  rw [e, Nat.add_assoc]; exact h.cell (k + j) (by omega)
theorem Rd.sub {w : World} {g off n : Nat} {xs : List Nat} (h : Rd w g off n xs) (k m : Nat) (hkm : k + m ≤ n) : Rd w g (off + k) m ((xs.drop k).take m) := by
  have hl := h.len
  refine ⟨by simp; omega, (h.dig.drop k).take m, fun j hj => ?_⟩
  have e : ((xs.drop k).take m).getD j 0 = xs.getD (k + j) 0 := by rw [List.getD_eq_getElem?_getD, List.getD_eq_getElem?_getD, List.getElem?_take, if_pos hj, List.getElem?_drop]
  rw [e, Nat.add_assoc]; exact h.cell (k + j) (by omega)
theorem Row.join {w : World} {g off n m : Nat} {xs ys : List Nat} (h : Row w g off n xs) (k : Row w g (off + n) m ys) : Row w g off (n + m) (xs ++ ys) := by
  have hl := h.len
  have kl := k.len
  refine ⟨by simp; omega, h.dig.append k.dig, fun j hj => ?_, fun j hj => ?_⟩
  · by_cases e : j < n
    · rw [List.getD_eq_getElem?_getD, List.getElem?_append_left (by omega), ← List.getD_eq_getElem?_getD]; exact h.cell j e
    · rw [List.getD_eq_getElem?_getD, List.getElem?_append_right (by omega), ← List.getD_eq_getElem?_getD, hl]
      have := k.cell (j - n) (by omega)
      rw [Nat.add_assoc, show n + (j - n) = j by omega] at this; exact this
  · by_cases e : j < n
    · exact h.frozen j e
    · have := k.frozen (j - n) (by omega)
      rw [Nat.add_assoc, show n + (j - n) = j by omega] at this; exact this
structure RowsRel (w : World) (g off n m : Nat) (xs ys : List Nat) (i : Nat) (dk : List Nat) (wr : World) : Prop where
  wrs : Wr g off (n + m) w wr
  row : Row wr g off (n + m) dk
  val : valB B64 dk = valB B64 xs * valB B64 (ys.take i)
  top : dk.drop (i + n) = List.replicate (m - i) 0

theorem rows_val {xs ys dk zs2 : List Nat} {n m k cy y : Nat} (hl : dk.length = n + m) (hk : k < m) (hy : y = ys.getD k 0) (hv : valB B64 dk = valB B64 xs * valB B64 (ys.take k)) (ht : dk.drop (k + n) = List.replicate (m - k) 0)
    (hz : zs2.length = n) (hs : valB B64 zs2 + B64 ^ n * cy = valB B64 ((dk.drop k).take n) + valB B64 xs * y) : valB B64 (dk.take k ++ (zs2 ++ [cy] ++ List.replicate (m - k - 1) 0)) = valB B64 xs * valB B64 (ys.take (k + 1)) := by
  have e1 : valB B64 dk = valB B64 (dk.take k) + B64 ^ k * valB B64 ((dk.drop k).take n) := by
    rw [valB_split B64 dk k (by omega), valB_split B64 (dk.drop k) n (by simp; omega), List.drop_drop, ht, valB_replicate]; simp
  rw [valB_append, List.length_take, Nat.min_eq_left (by omega), valB_append_zeros, valB_snoc, hz, hs, valB_take_any _ ys k, ← hy, Nat.mul_add, Nat.mul_add, ← Nat.add_assoc, ← e1, hv]
  rw [show B64 ^ k * (valB B64 xs * y) = valB B64 xs * (B64 ^ k * y) by rw [← Nat.mul_assoc, ← Nat.mul_assoc, Nat.mul_comm (B64 ^ k)]]
theorem RowsRel.step {w : World} {g off n m : Nat} {xs ys : List Nat} {k : Nat} {dk : List Nat} {wr w2 w3 : World} (h : RowsRel w g off n m xs ys k dk wr) (hk : k < m) {y cy : Nat} (hy : y = ys.getD k 0) {zs2 : List Nat} (hcy : cy < B64)
    (hw2 : Wr g (off + k) n wr.drew w2) (hr2 : Row w2 g (off + k) n zs2) (hs : valB B64 zs2 + B64 ^ n * cy = valB B64 ((dk.drop k).take n) + valB B64 xs * y) (hc : w2.cell? ⟨g, off + (k + n), none⟩ = some (U 0)) (hf : w2.frozen? ⟨g, off + (k + n), none⟩ = false)
    (hw3 : w3 = w2.setCell ⟨g, off + (k + n), none⟩ (U cy)) : RowsRel w g off n m xs ys (k + 1) (dk.take k ++ (zs2 ++ [cy] ++ List.replicate (m - k - 1) 0)) w3 := by
  have hl := h.row.len
  have hW23 : Wr g (off + (k + n)) 1 w2 w3 := by rw [hw3]; exact (Wr.refl g (off + (k + n)) 1 w2).setCell _ ⟨by omega, by omega⟩ _
  have hlen2 : (dk.take k ++ (zs2 ++ [cy] ++ List.replicate (m - k - 1) 0)).length = n + m := by simp [hr2.len]; omega
  have lo : Row w3 g off k (dk.take k) := by
    have h0 := (h.row.take k (by omega)).drew
    exact (h0.chg hw2.chg (fun j hj => by unfold Rg; omega)).chg hW23.chg (fun j hj => by unfold Rg; omega)
  have mid : Row w3 g (off + k) n zs2 := hr2.chg hW23.chg (fun j hj => by unfold Rg; omega)
  have one : Row w3 g (off + k) (n + 1) (zs2 ++ [cy]) := by
    refine mid.snoc ?_ ?_ hcy
    · rw [hw3, Nat.add_assoc]; exact World.cell?_setCell_same _ _ _ hc
    · rw [hw3, Nat.add_assoc, World.frozen?_setCell]; exact hf
  have hi : Row w3 g (off + k + (n + 1)) (m - k - 1) (List.replicate (m - k - 1) 0) := by
    have h0 := (h.row.sub (k + n + 1) (m - k - 1) (by omega)).drew
    have e : (dk.drop (k + n + 1)).take (m - k - 1) = List.replicate (m - k - 1) 0 := by
      rw [← List.drop_drop, h.top, List.drop_replicate, List.take_replicate]; simp
    rw [e] at h0
    have h1 := (h0.chg hw2.chg (fun j hj => by unfold Rg; omega)).chg hW23.chg (fun j hj => by unfold Rg; omega)
    rw [show off + (k + n + 1) = off + k + (n + 1) by omega] at h1; exact h1
  have all := lo.join (one.join hi)
  rw [show k + (n + 1 + (m - k - 1)) = n + m by omega] at all
  have hWd : Wr g off (n + m) w wr.drew := h.wrs.drew
  refine ⟨(hWd.trans (hw2.mono (by omega) (by omega))).trans (hW23.mono (by omega) (by omega)), all, rows_val hl hk hy h.val h.top hr2.len hs, ?_⟩
  rw [show k + 1 + n = k + (n + 1) by omega, List.drop_append, List.drop_eq_nil_of_le (by simp; omega), List.nil_append, List.length_take, hl, Nat.min_eq_left (by omega), Nat.add_sub_cancel_left, List.drop_append, List.drop_eq_nil_of_le (by simp [hr2.len]), List.nil_append]
  simp [hr2.len]; omega
theorem nb {P Z A L cy : Nat} (hs : Z + L = A + P * cy) (hz : Z < P) (hle : L ≤ A) (hc : cy ≤ 1) : Z + L = A := by
  by_cases h : cy = 0
  · subst h; omega
  · obtain rfl : cy = 1 := by omega
    omega
theorem At.chg {w w' : World} {S : Nat → Nat → Prop} {p : Option Addr} {n c : Nat} {xs : List Nat} (h : At w p n c xs) (hc : Chg S w w') (hd : ∀ g off, p = some ⟨g, off, none⟩ → ∀ j, j < n → g < w.heap.size → ¬ S g (off + j)) : At w' p n c xs := by
  refine ⟨h.len, h.cap, h.big, h.dig, ?_⟩
  rcases h.cells with h0 | ⟨g, off, rfl, hcl⟩
  · exact .inl h0
  · exact .inr ⟨g, off, rfl, fun j hj => hc.cell (hd g off rfl j hj (World.block_lt_of_cell? w _ (hcl j hj))) (hcl j hj)⟩
theorem Nf.big {us : List Nat} {a n : Nat} (h : Nf B64 us a) (hl : us.length = n) (h0 : 0 < n) : B64 ^ (n - 1) ≤ a := by
  have := mt (h.len_le (k := n - 1) B64_one).2 (by omega)
  omega
theorem Nf.zero {us : List Nat} {a : Nat} (h : Nf B64 us a) (hl : us.length = 0) : a = 0 := by
  obtain rfl := List.eq_nil_of_length_eq_zero hl
  have := h.val; simp [valB] at this; omega
end Go.Proofs.YteoccegpbonfpaaDoor
namespace Go.Proofs.YteoccegpbonfpaaDoor
open Go.RowKit Go.Shelf
set_option maxRecDepth 20000
set_option maxHeartbeats 0
structure Box (W : World) (g : Nat) (v0 v1 : Value) : Prop where
  c0 : W.cell? ⟨g, 0, none⟩ = some v0
  c1 : W.cell? ⟨g, 1, none⟩ = some v1
  f0 : W.frozen? ⟨g, 0, none⟩ = false
  f1 : W.frozen? ⟨g, 1, none⟩ = false
theorem Box.below {W W' : World} {g : Nat} {v0 v1 : Value} (h : Box W g v0 v1) (hb : Below W.heap.size W W') : Box W' g v0 v1 := by
  have hl : g < W.heap.size := World.block_lt_of_cell? W _ h.c0
  exact ⟨(hb.cell (p := ⟨g, 0, none⟩) hl).trans h.c0, (hb.cell (p := ⟨g, 1, none⟩) hl).trans h.c1, (hb.frozen (p := ⟨g, 0, none⟩) hl).trans h.f0, (hb.frozen (p := ⟨g, 1, none⟩) hl).trans h.f1⟩
theorem Box.new (w : World) (ty : TypeId) (v0 v1 : Value) : Box (w.alloc (.cells #[v0, v1] ty)) w.heap.size v0 v1 := ⟨by go_simp, by go_simp, by go_simp, by go_simp⟩
theorem bDrew1 {B : Nat} {a w : World} (h : Below B a w) : Below B a w.drew := ⟨h.os, h.tape, h.output, h.size, h.block⟩
def Told (z : Int) (s : Bool) (m : Nat) (zs : List Nat) (er : Int) : Prop :=
  (z.natAbs < LIM ∧ s = decide (z < 0) ∧ Nf B64 zs z.natAbs ∧ m ≤ 8192 ∧ er = 0) ∨ (LIM ≤ z.natAbs ∧ s = false ∧ zs = [] ∧ m = 0 ∧ er = 5)
theorem AnsI.any {B : Nat} {w' : World} {e : Ending} {z : Int} (h : AnsI B w' e z) : ∃ s p m zs er, e = .returned (.tuple #[ZV s p m m, .int .i64 er]) ∧ At w' p m m zs ∧ Told z s m zs er := by
  rcases h with ⟨hz, p, m, zs, rfl, ho, hn, hm⟩ | ⟨hz, rfl⟩
  · exact ⟨_, p, m, zs, 0, rfl, ho.at_ hm, .inl ⟨hz, rfl, hn, hm, rfl⟩⟩
  · exact ⟨false, none, 0, [], 5, rfl, At.empty _ none 0 (by decide), .inr ⟨hz, rfl, rfl, rfl, rfl⟩⟩
theorem Told.inj {z : Int} {s s' : Bool} {m m' : Nat} {zs zs' : List Nat} {er er' : Int} (h : Told z s m zs er) (k : Told z s' m' zs' er') : s = s' ∧ zs = zs' ∧ er = er' := by
  rcases h with ⟨hz, rfl, hn, hm, rfl⟩ | ⟨hz, rfl, rfl, rfl, rfl⟩ <;> rcases k with ⟨kz, rfl, kn, km, rfl⟩ | ⟨kz, rfl, rfl, rfl, rfl⟩
  · exact ⟨rfl, hn.inj B64_one kn, rfl⟩
  · omega
  · omega
  · exact ⟨rfl, rfl, rfl⟩
theorem Told.er {z : Int} {s : Bool} {m : Nat} {zs : List Nat} {er : Int} (h : Told z s m zs er) : er = 0 ∨ er = 5 := by
  rcases h with ⟨_, _, _, _, rfl⟩ | ⟨_, _, _, _, rfl⟩
  · exact .inl rfl
  · exact .inr rfl
theorem Told.ok {z : Int} {s : Bool} {m : Nat} {zs : List Nat} {w : World} {p : Option Addr} (h : Told z s m zs 0) (a : At w p m m zs) : Num w p m m zs z.natAbs ∧ s = decide (z < 0) := by
  rcases h with ⟨_, h1, h2, h3, _⟩ | ⟨_, _, _, _, h⟩
  · exact ⟨⟨a, h2, h3⟩, h1⟩
  · exact absurd h (by decide)
theorem Told.no {z : Int} {s : Bool} {m : Nat} {zs : List Nat} (h : Told z s m zs 5) : LIM ≤ z.natAbs := by
  rcases h with ⟨_, _, _, _, h⟩ | ⟨h, _⟩
  · exact absurd h (by decide)
  · exact h
theorem iv_abs (z : Int) : iv (decide (z < 0)) z.natAbs = z := by
  unfold iv
  by_cases h : z < 0
  · simp only [h, decide_true, if_true]; omega
  · simp only [h, decide_false, Bool.false_eq_true, if_false]; omega
theorem iv_natAbs (s : Bool) (a : Nat) : (iv s a).natAbs = a := by cases s <;> simp [iv]
def TzIs (v k : Nat) : Prop := v % 2 ^ k = 0 ∧ v / 2 ^ k % 2 = 1
theorem TzIs.inj {v k l : Nat} (h : TzIs v k) (h' : TzIs v l) : k = l := by
  have aux : ∀ {a b : Nat}, TzIs v a → TzIs v b → ¬ a < b := by
    intro a b ha hb hab
    obtain ⟨d, hd⟩ : ∃ d, b = a + (d + 1) := ⟨b - a - 1, by omega⟩
    have h1 := Nat.dvd_of_mod_eq_zero hb.1
    obtain ⟨q, hq⟩ := h1
    have h2 := ha.2
    rw [hq, hd, Nat.pow_add, Nat.mul_assoc, Nat.mul_div_cancel_left _ (Nat.pow_pos (by decide)), Nat.pow_succ, Nat.mul_comm (2 ^ d) 2, Nat.mul_assoc, Nat.mul_mod_right] at h2
    exact absurd h2 (by decide)
  rcases Nat.lt_trichotomy k l with e | e | e
  · exact absurd e (aux h h')
  · exact e
  · exact absurd e (aux h' h)
theorem TzIs.ex : ∀ (v : Nat), 0 < v → ∃ k, TzIs v k := by
  intro v
  induction v using Nat.strongRecOn with
  | _ v ih =>
    intro hv
    rcases Nat.mod_two_eq_zero_or_one v with h | h
    · obtain ⟨k, h1, h2⟩ := ih (v / 2) (by omega) (by omega)
      refine ⟨k + 1, ?_, ?_⟩
      · rw [Nat.pow_succ, Nat.mul_comm, Nat.mod_mul, h, h1]
      · rw [Nat.pow_succ, Nat.mul_comm, ← Nat.div_div_eq_div_mul]; exact h2
    · exact ⟨0, by rw [Nat.pow_zero, Nat.mod_one], by rw [Nat.pow_zero, Nat.div_one]; exact h⟩
theorem TzIs.ge {v k n : Nat} (h : TzIs v k) (hn : v % 2 ^ n = 0) : n ≤ k := by
  rcases Nat.lt_or_ge k n with e | e
  · exfalso
    obtain ⟨d, hd⟩ : ∃ d, n = k + (d + 1) := ⟨n - k - 1, by omega⟩
    obtain ⟨q, hq⟩ := Nat.dvd_of_mod_eq_zero hn
    have h2 := h.2
    rw [hq, hd, Nat.pow_add, Nat.mul_assoc, Nat.mul_div_cancel_left _ (Nat.pow_pos (by decide)), Nat.pow_succ, Nat.mul_comm (2 ^ d) 2, Nat.mul_assoc, Nat.mul_mod_right] at h2
    exact absurd h2 (by decide)
  · exact e
def TzO (v k : Nat) : Prop := (v = 0 ∧ k = 0) ∨ (v ≠ 0 ∧ TzIs v k)
theorem TzO.inj {v k l : Nat} (h : TzO v k) (h' : TzO v l) : k = l := by
  rcases h with ⟨h1, rfl⟩ | ⟨h1, h2⟩ <;> rcases h' with ⟨h3, rfl⟩ | ⟨h3, h4⟩
  · rfl
  · exact absurd h1 h3
  · exact absurd h3 h1
  · exact h2.inj h4
theorem TzO.ex (v : Nat) : ∃ k, TzO v k := by
  by_cases h : v = 0
  · exact ⟨0, .inl ⟨h, rfl⟩⟩
  · obtain ⟨k, hk⟩ := TzIs.ex v (by omega)
    exact ⟨k, .inr ⟨h, hk⟩⟩
def fl (s : Bool) (a d : Nat) : Int := iv s (a / d + (s && decide (a % d ≠ 0)).toNat)
def neUp (a d : Nat) : Bool := decide (d < 2 * (a % d)) || (decide (2 * (a % d) = d) && decide (a / d % 2 = 1))
def HfIs (r d : Nat) (h : Int) : Prop := (2 * r < d ∧ h = -1) ∨ (2 * r = d ∧ h = 0) ∨ (d < 2 * r ∧ h = 1)
theorem HfIs.up {a d : Nat} {h : Int} (k : HfIs (a % d) d h) : neUp a d = (decide (0 < h) || (decide (h = 0) && decide (a / d % 2 = 1))) := by
  unfold neUp
  rcases k with ⟨k, rfl⟩ | ⟨k, rfl⟩ | ⟨k, rfl⟩
  · rw [decide_eq_false (by omega), decide_eq_false (p := 2 * (a % d) = d) (by omega)]; rfl
  · rw [decide_eq_false (by omega), decide_eq_true (p := 2 * (a % d) = d) (by omega)]; rfl
  · rw [decide_eq_true (by omega)]; rfl
theorem ce_le {a d : Nat} (h : a % d ≠ 0) : a / d + 1 ≤ a := by
  rcases Nat.lt_or_ge d 2 with hd | hd
  · have : d = 0 ∨ d = 1 := by omega
    rcases this with rfl | rfl
    · rw [Nat.div_zero]; rw [Nat.mod_zero] at h; omega
    · omega
  · have h1 : a / d ≤ a / 2 := Nat.div_le_div_left hd (by omega)
    rcases Nat.lt_or_ge a 2 with ha | ha
    · have h2 : a ≠ 0 := fun e => h (by rw [e, Nat.zero_mod])
      omega
    · omega
def AnsZ (B : Nat) (w' : World) (v : Value) (z : Int) : Prop :=
  ∃ p m zs, v = ZV (decide (z < 0)) p m m ∧ Own B w' p m zs ∧ Nf B64 zs z.natAbs ∧ m ≤ 8192
theorem iv_lt (s : Bool) (n : Nat) : decide (iv s n < 0) = (s && decide (0 < n)) := by
  cases s
  · simp [iv]
  · simp only [iv, if_true, Bool.true_and]; exact decide_eq_decide.2 (by omega)
theorem AnsZ.mk {B : Nat} {w' : World} {p : Option Addr} {m : Nat} {zs : List Nat} {q : Nat} (s : Bool) (ho : Own B w' p m zs) (hn : Nf B64 zs q) (hm : m ≤ 8192) : AnsZ B w' (ZV (s && decide (0 < m)) p m m) (iv s q) :=
  ⟨p, m, zs, by rw [iv_lt, hn.lenpos ho.len], ho, by rw [iv_natAbs]; exact hn, hm⟩
theorem AnsZ.below {B : Nat} {w w' : World} {v : Value} {z : Int} (h : AnsZ B w v z) (hb : Below w.heap.size w w') : AnsZ B w' v z := by
  obtain ⟨p, m, zs, rfl, ho, hn, hm⟩ := h
  exact ⟨p, m, zs, rfl, ho.below hb, hn, hm⟩
structure B4q (W : World) (g : Nat) (v0 v1 v2 v3 : Value) : Prop where
  c0 : W.cell? ⟨g, 0, none⟩ = some v0
  c1 : W.cell? ⟨g, 1, none⟩ = some v1
  c2 : W.cell? ⟨g, 2, none⟩ = some v2
  c3 : W.cell? ⟨g, 3, none⟩ = some v3
  f0 : W.frozen? ⟨g, 0, none⟩ = false
  f1 : W.frozen? ⟨g, 1, none⟩ = false
  f2 : W.frozen? ⟨g, 2, none⟩ = false
  f3 : W.frozen? ⟨g, 3, none⟩ = false
theorem B4q.below {W W' : World} {g : Nat} {v0 v1 v2 v3 : Value} (h : B4q W g v0 v1 v2 v3) (hb : Below W.heap.size W W') : B4q W' g v0 v1 v2 v3 := by
  have hl : g < W.heap.size := World.block_lt_of_cell? W _ h.c0
  exact ⟨(hb.cell (p := ⟨g, 0, none⟩) hl).trans h.c0, (hb.cell (p := ⟨g, 1, none⟩) hl).trans h.c1, (hb.cell (p := ⟨g, 2, none⟩) hl).trans h.c2, (hb.cell (p := ⟨g, 3, none⟩) hl).trans h.c3,
    (hb.frozen (p := ⟨g, 0, none⟩) hl).trans h.f0, (hb.frozen (p := ⟨g, 1, none⟩) hl).trans h.f1, (hb.frozen (p := ⟨g, 2, none⟩) hl).trans h.f2, (hb.frozen (p := ⟨g, 3, none⟩) hl).trans h.f3⟩
theorem B4q.new (w : World) (ty : TypeId) (v0 v1 v2 v3 : Value) : B4q (w.alloc (.cells #[v0, v1, v2, v3] ty)) w.heap.size v0 v1 v2 v3 :=
  ⟨by go_simp, by go_simp, by go_simp, by go_simp, by go_simp, by go_simp, by go_simp, by go_simp⟩
theorem Box.lt {W : World} {g : Nat} {v0 v1 : Value} (h : Box W g v0 v1) : g < W.heap.size := World.block_lt_of_cell? W _ h.c0
theorem B4q.lt {W : World} {g : Nat} {v0 v1 v2 v3 : Value} (h : B4q W g v0 v1 v2 v3) : g < W.heap.size := World.block_lt_of_cell? W _ h.c0
structure FrIs (B : Nat) (w : World) (s : Bool) (a d : Nat) (p : Option Addr) (m : Nat) (zs : List Nat) (x : Bool) (hf : Int) : Prop where
  own : Own B w p m zs
  nf : Nf B64 zs (a / d)
  le : m ≤ 8192
  ex : x = decide (a % d ≠ 0)
  hf : HfIs (a % d) d hf
  lim : a < LIM
theorem FrIs.below {B : Nat} {w w' : World} {s : Bool} {a d : Nat} {p : Option Addr} {m : Nat} {zs : List Nat} {x : Bool} {hf : Int} (h : FrIs B w s a d p m zs x hf) (hb : Below w.heap.size w w') : FrIs B w' s a d p m zs x hf :=
  ⟨h.own.below hb, h.nf, h.le, h.ex, h.hf, h.lim⟩
theorem FrIs.up {B : Nat} {w : World} {s : Bool} {a d : Nat} {p : Option Addr} {m : Nat} {zs : List Nat} {hf : Int} (h : FrIs B w s a d p m zs true hf) : a / d + 1 < LIM := by
  have := ce_le (of_decide_eq_true h.ex.symm)
  have := h.lim
  omega
theorem FrIs.half {B : Nat} {w : World} {s : Bool} {a d : Nat} {p : Option Addr} {m : Nat} {zs : List Nat} {x : Bool} {hf : Int} (h : FrIs B w s a d p m zs x hf) (hd : 0 < d) (h0 : 0 ≤ hf) : x = true := by
  rw [h.ex]
  refine decide_eq_true ?_
  rcases h.hf with ⟨_, e⟩ | ⟨e, _⟩ | ⟨e, _⟩ <;> omega
def GeW (B : Nat) (w : World) : Prop := B ≤ w.heap.size
theorem GeW.below {B : Nat} {w w' : World} (h : GeW B w) (hb : Below w.heap.size w w') : GeW B w' := Nat.le_trans h hb.size
end Go.Proofs.YteoccegpbonfpaaDoor
namespace Go.Proofs.YteoccegpbonfpaaDoor
open Go.RowKit
set_option maxRecDepth 20000
set_option maxHeartbeats 0
structure DivRel (w : World) (g n : Nat) (zs : List Nat) (v k re : Nat) (dk : List Nat) (wr : World) : Prop where
  wrs : ∀ B, B ≤ g → Below B w wr
  row : Row wr g 0 n dk
  lo : dk.take (n - k) = zs.take (n - k)
  rlt : re < v
  sum : valB B64 (zs.drop (n - k)) = valB B64 (dk.drop (n - k)) * v + re
theorem DivRel.step {w : World} {g n : Nat} {zs : List Nat} {v k re : Nat} {dk : List Nat} {wr wr' : World} (h : DivRel w g n zs v k re dk wr) (hk : k < n) (hz : zs.length = n) {x q r : Nat}
    (hx : x = dk.getD (n - 1 - k) 0) (hq : re * B64 + x = q * v + r) (hr : r < v) (hw : ∀ B, B ≤ g → Below B w wr') (hrow : Row wr' g 0 n (dk.set (n - 1 - k) q)) : DivRel w g n zs v (k + 1) r (dk.set (n - 1 - k) q) wr' := by
  have hl := h.row.len
  have e : n - (k + 1) = n - 1 - k := by omega
  have e2 : n - 1 - k + 1 = n - k := by omega
  have hxz : x = zs.getD (n - 1 - k) 0 := hx.trans (getD_of_take h.lo (by omega))
  refine ⟨hw, hrow, ?_, hr, ?_⟩
  · rw [e, take_set_at]; exact take_of_take h.lo (by omega)
  · rw [e, drop_set_at dk _ q (by omega), valB_drop _ zs (n - 1 - k) (by omega), ← hxz, valB_cons, e2, h.sum, Nat.add_mul, Nat.mul_add]
    have e3 : B64 * (valB B64 (dk.drop (n - k)) * v) = B64 * valB B64 (dk.drop (n - k)) * v := by rw [Nat.mul_assoc]
    rw [e3, Nat.mul_comm B64 re]
    omega
end Go.Proofs.YteoccegpbonfpaaDoor
namespace Go.Proofs.YteoccegpbonfpaaDoor
open Go.RowKit Go.Shelf
set_option maxRecDepth 20000
set_option maxHeartbeats 0
theorem Nf.one {ys : List Nat} {b : Nat} (hy : Nf B64 ys b) (hl : ys.length = 1) : ys = [b] := by
  match ys, hl with
  | [y], _ => have := hy.val; simp [valB] at this; rw [this]
theorem Num.drewN {w : World} {p : Option Addr} {m c : Nat} {xs : List Nat} {a : Nat} (h : Num w p m c xs a) (r : Nat) : Num (w.drewN r) p m c xs a := ⟨h.at_.drewN r, h.nf, h.le⟩
theorem Box.put {W : World} {g : Nat} {v0 v1 : Value} (h : Box W g v0 v1) (u0 u1 : Value) : Box ((W.setCell ⟨g, 0, none⟩ u0).setCell ⟨g, 1, none⟩ u1) g u0 u1 := by
  obtain ⟨c0, c1, f0, f1⟩ := h
  exact ⟨by go_simp, by go_simp, by go_simp, by go_simp⟩
end Go.Proofs.YteoccegpbonfpaaDoor
