import Derived.Test.YtgodajcnhipleaaGreatDoorJ14
import Derived.Test.YtgodajcnhipleaaGreatDoorJ10
import Derived.Test.YtgodajcnhipleaaGreatDoorJ11
import Derived.Test.YtgodajcnhipleaaGreatDoorJ13
import Derived.Test.YtgodajcnhipleaaGreatDoorJ12
namespace Go.Proofs.YtgodajcnhipleaaGreatDoor
open Go.RowKit Go.Shelf

structure DigRel32 (w : World) (gq gr L n : Nat) (A D : Nat) (k : Nat) (qs rs : List Nat) (wr : World) : Prop where
  bel : ∀ B, B ≤ gq → B ≤ gr → Below B w wr
  rowq : Row32 wr gq 0 L qs
  rowr : Row32 wr gr 0 (L + n) rs
  cell : ∀ b o, b ≠ gq → b ≠ gr → wr.cell? ⟨b, o, none⟩ = w.cell? ⟨b, o, none⟩
  lt : valB B32 (rs.drop (L - k)) < D
  sum : valB B32 rs + B32 ^ (L - k) * valB B32 (qs.drop (L - k)) * D = A

theorem Row32.other {w : World} {g off n : Nat} {xs : List Nat} (h : Row32 w g off n xs) (g2 o2 : Nat) (v : Value) (hne : g ≠ g2) : Row32 (w.setCell ⟨g2, o2, none⟩ v) g off n xs := by
  refine ⟨h.len, h.dig, fun j hj => ?_, fun j hj => by rw [World.frozen?_setCell]; exact h.frozen j hj⟩
  exact (World.cell?_setCell_other _ _ _ _ (by intro e; apply hne; have := congrArg Addr.block e; simp at this; omega)).trans (h.cell j hj)
theorem Row32.wr {w w' : World} {g off n g2 o2 l2 : Nat} {xs : List Nat} (h : Row32 w g off n xs) (hwr : Wr g2 o2 l2 w w') (hne : g ≠ g2) : Row32 w' g off n xs :=
  ⟨h.len, h.dig, fun j hj => (hwr.cell g (off + j) (.inl hne)).trans (h.cell j hj), fun j hj => (hwr.frozen _).trans (h.frozen j hj)⟩
theorem At32.cells_of {w w' : World} {g off n c : Nat} {xs : List Nat} (h : At32 w (some ⟨g, off, none⟩) n c xs) (hc : ∀ o, w'.cell? ⟨g, o, none⟩ = w.cell? ⟨g, o, none⟩) : At32 w' (some ⟨g, off, none⟩) n c xs :=
  ⟨h.len, h.cap, h.big, h.dig, by
    rcases h.cells with h0 | ⟨g', o', he, hcl⟩
    · exact .inl h0
    · refine .inr ⟨g', o', he, fun j hj => ?_⟩
      simp only [Option.some.injEq, Addr.mk.injEq, and_true] at he
      rw [← he.1, ← he.2] at hcl ⊢
      exact (hc (off + j)).trans (hcl j hj)⟩

theorem dig_abs32 {P W q r D T Q A : Nat} (hW : q * D + r = W) (h : T + P * W + P * B32 * Q * D = A) : T + P * r + P * (q + B32 * Q) * D = A := by
  subst hW
  have e1 : P * (q + B32 * Q) * D = P * (q * D) + P * B32 * Q * D := by
    rw [Nat.mul_add, Nat.add_mul, Nat.mul_assoc P q D, ← Nat.mul_assoc P B32 Q]
  rw [e1]
  rw [Nat.mul_add] at h
  omega
theorem DigRel32.window {w : World} {gq gr L n A D k : Nat} {qs rs : List Nat} {wr : World} (h : DigRel32 w gq gr L n A D k qs rs wr) (hk : k < L) (hDn : D < B32 ^ n) :
    ∃ a ws, a = L - 1 - k ∧ ws = (rs.drop a).take (n + 1) ∧ Row32 wr gr a (n + 1) ws ∧ valB B32 ws < B32 * D ∧ valB B32 rs = valB B32 (rs.take a) + B32 ^ a * valB B32 ws ∧ valB B32 (rs.drop (a + (n + 1))) = 0 := by
  have hl := h.rowr.len
  obtain ⟨a, ha⟩ : ∃ a, a = L - 1 - k := ⟨_, rfl⟩
  have hlt := h.lt
  rw [show L - k = a + 1 by omega] at hlt
  have hz : valB B32 (rs.drop (a + (n + 1))) = 0 := by
    have hs := valB_split B32 (rs.drop (a + 1)) n (by rw [List.length_drop]; omega)
    rw [List.drop_drop, show a + 1 + n = a + (n + 1) by omega] at hs
    rcases Nat.eq_zero_or_pos (valB B32 (rs.drop (a + (n + 1)))) with e | e
    · exact e
    · exfalso
      have : B32 ^ n * 1 ≤ B32 ^ n * valB B32 (rs.drop (a + (n + 1))) := Nat.mul_le_mul_left _ e
      omega
  have hw := win_take32 rs a (n + 1) (by omega)
  rw [hz, Nat.mul_zero, Nat.add_zero] at hw
  refine ⟨a, _, ha, rfl, h.rowr.win a (n + 1) (by omega), ?_, hw, hz⟩
  have hs := valB_split B32 (rs.drop a) (n + 1) (by rw [List.length_drop]; omega)
  rw [List.drop_drop, hz, Nat.mul_zero, Nat.add_zero] at hs
  rw [← hs, valB_drop B32 rs a (by omega)]
  have hb := h.rowr.dig.getD B32_pos a
  have : B32 * (valB B32 (rs.drop (a + 1)) + 1) ≤ B32 * D := Nat.mul_le_mul_left _ hlt
  rw [Nat.mul_add] at this
  omega
theorem DigRel32.step {w : World} {gq gr L n A D k : Nat} {qs rs : List Nat} {wr wr' : World} (h : DigRel32 w gq gr L n A D k qs rs wr) (hk : k < L) (hne : gq ≠ gr) {a q : Nat} {ws ws' : List Nat} (ha : a = L - 1 - k)
    (hrs : valB B32 rs = valB B32 (rs.take a) + B32 ^ a * valB B32 ws) (hz : valB B32 (rs.drop (a + (n + 1))) = 0) (hD : 0 < D) (hq : q = valB B32 ws / D) (hqb : q < B32) (hr : valB B32 ws' = valB B32 ws % D)
    (hwr : Wr gr a (n + 1) wr wr') (hrow : Row32 wr' gr a (n + 1) ws') : DigRel32 w gq gr L n A D (k + 1) (qs.set a q) (winPut rs ws' a) (wr'.setCell ⟨gq, a, none⟩ (V q)) := by
  have hl := h.rowr.len; have hql := h.rowq.len; have hwl := hrow.len
  have hle : a + ws'.length ≤ rs.length := by omega
  have e1 : L - (k + 1) = a := by omega
  have e2 : L - k = a + 1 := by omega
  have hdrop : valB B32 ((winPut rs ws' a).drop a) = valB B32 ws % D := by
    rw [winPut_drop rs ws' a hle, valB_append, hwl, hz, Nat.mul_zero, Nat.add_zero, hr]
  refine ⟨fun B h1 h2 => ?_, ?_, ?_, fun b o h1 h2 => ?_, ?_, ?_⟩
  · exact ((h.bel B h1 h2).trans (hwr.below h2)).trans ((Wr.refl gq 0 L wr').setCell a ⟨by omega, by omega⟩ (V q) |>.below h1)
  · have := (h.rowq.wr hwr hne).set a q (by omega) hqb
    rw [Nat.zero_add] at this; exact this
  · exact (h.rowr.put hwr hrow (by omega)).other gq a _ (Ne.symm hne)
  · rw [World.cell?_setCell_other _ _ _ _ (by intro e; apply h1; have := congrArg Addr.block e; simp at this; omega), hwr.cell b o (.inl h2)]
    exact h.cell b o h1 h2
  · rw [e1, hdrop]; exact Nat.mod_lt _ hD
  · have hs := h.sum
    rw [e2, hrs, Nat.pow_succ] at hs
    rw [e1, valB_split B32 (winPut rs ws' a) a (by rw [winPut_len rs ws' a hle]; omega), winPut_take rs ws' a hle, hdrop, drop_set_at qs a q (by omega), valB_cons]
    refine dig_abs32 (W := valB B32 ws) (q := q) ?_ hs
    rw [hq, Nat.mul_comm]; exact Nat.div_add_mod _ _

theorem Row32.below2 {w w' : World} {g off n B : Nat} {xs : List Nat} (h : Row32 w g off n xs) (hb : Below B w w') (hg : g < B) : Row32 w' g off n xs :=
  ⟨h.len, h.dig, fun j hj => (hb.cell (p := ⟨g, off + j, none⟩) hg).trans (h.cell j hj), fun j hj => (hb.frozen (p := ⟨g, off + j, none⟩) hg).trans (h.frozen j hj)⟩
theorem own_row32 {wr : World} {base i N : Nat} {p : Option Addr} {ss : List Nat} (ho : wr.ownsRow base 115 1 (.slice p i N) i (cellsV ss)) (hl : ss.length = i) (hd : Dig B32 ss) (hi : 0 < i) : ∃ g, p = some ⟨g, 0, none⟩ ∧ base ≤ g ∧ Row32 wr g 0 i ss ∧ i ≤ N ∧ N ≤ maxLen := by
  rcases ho.2 with ⟨h', h0⟩ | ⟨g', cap', cur, h', hbase, hgc, hcap', hmx, hsz, htake⟩
  · omega
  · simp only [Value.slice.injEq, true_and] at h'
    obtain ⟨rfl, rfl⟩ := h'
    refine ⟨g', rfl, hbase, ⟨hl, hd, fun jj hj => ?_, fun jj _ => frozen_of_row wr g' _ _ _ hgc⟩, hcap', hmx⟩
    rw [Nat.zero_add, cell_of_row wr g' jj _ _ _ hgc]
    have e1 := cellsV_get ss jj (by rw [hl]; exact hj)
    rw [← htake, Nat.mul_one, List.getElem?_take, if_pos hj] at e1
    rw [← Array.getElem?_toList]; exact e1
theorem shl_len {b M y s : Nat} {ys : List Nat} (hy : Nf B32 ys b) (hl : ys.length = M + 1) (hyy : y = ys.getD M 0) (hy0 : 0 < y) (hs : s = 32 - bitsN y) (hb32 : bitsN y ≤ 32) : b * 2 ^ s < B32 ^ (M + 1) ∧ B32 ^ M ≤ b * 2 ^ s := by
  have h1 : b = valB B32 (ys.take M) + B32 ^ M * y := by
    rw [← hy.val, valB_split B32 ys M (by omega), valB_drop B32 ys M (by omega), ← hyy, List.drop_of_length_le (by omega), valB_nil, Nat.mul_zero, Nat.add_zero]
  have h2 := valB_lt B32_pos (hy.dig.take M)
  rw [List.length_take, hl, Nat.min_eq_left (by omega)] at h2
  have h3 := bitsN_lt y
  have hp : 0 < 2 ^ s := Nat.pow_pos (by omega)
  refine ⟨?_, ?_⟩
  · have h4 : b < B32 ^ M * 2 ^ bitsN y := by
      have : B32 ^ M * (y + 1) ≤ B32 ^ M * 2 ^ bitsN y := Nat.mul_le_mul_left _ h3
      rw [Nat.mul_add, Nat.mul_one] at this
      omega
    have h5 : B32 ^ M * 2 ^ bitsN y * 2 ^ s = B32 ^ (M + 1) := by
      rw [Nat.mul_assoc, ← Nat.pow_add, Nat.pow_succ, show bitsN y + s = 32 by omega]; rfl
    rw [← h5]
    exact Nat.mul_lt_mul_of_pos_right h4 hp
  · have h4 : B32 ^ M * 1 ≤ B32 ^ M * y := Nat.mul_le_mul_left _ hy0
    have h5 : b * 1 ≤ b * 2 ^ s := Nat.mul_le_mul_left _ hp
    omega
set_option maxRecDepth 20000 in
set_option maxHeartbeats 8000000 in
theorem rdivmod_big {p q : Option Addr} {n m c d : Nat} {xs ys : List Nat} {a b : Nat} {w : World} (h : At32 w p n c xs) (k : At32 w q m d ys) (hx : Nf B32 xs a) (hy : Nf B32 ys b) (hn : n ≤ 16384) (hm : m ≤ 16384) (hb : b ≠ 0) (hge : b ≤ a) (hm2 : 2 ≤ m) :
    Calls Tryz.prog 130 #[.slice p n c, .slice q m d] w fun e w' => ∃ p1 m1 z1 p2 m2 z2, e = .returned (.tuple #[.slice p1 m1 m1, .slice p2 m2 m2]) ∧ At32 w' p1 m1 m1 z1 ∧ Nf B32 z1 (a / b) ∧ At32 w' p2 m2 m2 z2 ∧ Nf B32 z2 (a % b) ∧ m1 ≤ n ∧ m2 ≤ n ∧ Below w.heap.size w w' := by
  have HA : Hid (At32 w p n c xs) := h
  have HB : Hid (At32 w q m d ys) := k
  have HX : Hid (Nf B32 xs a) := hx
  have HY : Hid (Nf B32 ys b) := hy
  have hm0 : m ≠ 0 := fun e => hb ((hy.zero_iff B32_one).1 (List.eq_nil_of_length_eq_zero (by rw [k.len]; exact e)))
  have hmb : ((m : Int) == 0) = false := by simp; omega
  have hcap := k.cap; have hbig := k.big
  unfold maxLen at hbig
  have HGE : Hid (b ≤ a) := hge
  have hm1 : ((m : Int) == 1) = false := by simp; omega
  have hm1' : ¬ m = 1 := by omega
  obtain ⟨gq, oq, rfl, hcq⟩ := k.cells.resolve_left (by omega)
  obtain ⟨M, rfl⟩ : ∃ M, m = M + 1 := ⟨m - 1, by omega⟩
  obtain ⟨y, hyy⟩ : ∃ y, y = ys.getD M 0 := ⟨_, rfl⟩
  have hc0 : w.cell? ⟨gq, oq + M, none⟩ = some (V y) := by rw [hyy]; exact hcq M (by omega)
  have hyB : y < B32 := by rw [hyy]; exact hy.dig.getD B32_pos _
  have hyp : 0 < y := by
    rcases Nat.eq_zero_or_pos y with e | e
    · exfalso
      have h1 := valB_pos B32_pos (zs := ys) (by intro e2; have := k.len; rw [e2] at this; simp at this) hy.top
      rw [hy.val, k.len, Nat.add_sub_cancel] at h1
      have h2 : b = valB B32 (ys.take M) := by
        rw [← hy.val, valB_split B32 ys M (by rw [k.len]; omega), valB_drop B32 ys M (by rw [k.len]; omega), ← hyy, e, List.drop_of_length_le (by rw [k.len]; omega), valB_nil, Nat.mul_zero, Nat.add_zero, Nat.mul_zero, Nat.add_zero]
      have h3 := valB_lt B32_pos (hy.dig.take M)
      rw [List.length_take, k.len, Nat.min_eq_left (by omega)] at h3
      omega
    · exact e
  have hbN : bitsN y ≤ 32 ∧ 1 ≤ bitsN y := ⟨(lt_pow_bits y 32).1 (by rw [B32_eq] at hyB; omega), bitsN_pos (by omega)⟩
  obtain ⟨s, hs⟩ : ∃ s, s = 32 - bitsN y := ⟨_, rfl⟩
  have hsI : wrap64 (32 - (bitsN y : Int)) = (s : Int) := by simp only [wrap64]; omega
  have hsI2 : (32 : Int) - (bitsN y : Int) = (s : Int) := by omega
  have HS : Hid (s = 32 - bitsN y ∧ s ≤ 31) := ⟨hs, by omega⟩
  have HYY : Hid (y = ys.getD M 0 ∧ 0 < y ∧ y < B32) := ⟨hyy, hyp, hyB⟩
  have HLXY : Hid (xs.length = n ∧ ys.length = M + 1) := ⟨h.len, k.len⟩
  have hMI : (M : Int) + 1 - 1 = (M : Int) := by omega
  clear h k hx hy hb hge hcq hyy hyB hyp hs
  go_enter Tryz.func130, Tryz.ntmps130
  go_wp2_with fail
  refine (rcmp_any HA.out HB.out HX.out HY.out).mono ?_
  rintro e w1 ⟨rfl, r, rfl⟩
  obtain ⟨cm, hcm⟩ : ∃ cm, cm = cmpN a b := ⟨_, rfl⟩
  rw [← hcm]
  have hcm0 : decide (cm < 0) = false := decide_eq_false (by rw [hcm, cmpN_neg]; have := HGE.out; omega)
  have A1 : Hid (At32 (w.drewN r) p n c xs) := HA.out.drewN r
  have B1 : Hid (At32 (w.drewN r) (some ⟨gq, oq, none⟩) (M + 1) d ys) := HB.out.drewN r
  have hb1 : Below w.heap.size w (w.drewN r) := bDrewN (Below.refl _ _) r
  have hc1 : (w.drewN r).cell? ⟨gq, oq + M, none⟩ = some (V y) := hc0
  clear HA HB hcm hc0
  generalize w.drewN r = w1 at *
  go_wp2_with fail
  have NY : Hid (Nf B32 [y] y) := by
    have h9 := HYY.out
    refine ⟨Dig.cons h9.2.2 (Dig.nil _), ?_, by simp [valB]⟩
    intro z hz
    simp at hz
    omega
  have AY : Hid (At32 w1 (some ⟨gq, oq + M, none⟩) 1 (d - M) [y]) := ⟨rfl, by omega, by unfold maxLen; omega, NY.out.dig, .inr ⟨gq, oq + M, rfl, fun j hj => by obtain rfl : j = 0 := (by omega); rw [Nat.add_zero]; exact hc1⟩⟩
  refine (rbits_any AY.out NY.out (by omega)).mono ?_
  rintro e w' ⟨rfl, hw⟩
  obtain rfl := hw.symm
  clear hw AY NY hc1 hcm0
  go_wp2_with fail
  clear hsI hsI2
  have HSL : Hid (b * 2 ^ s < B32 ^ (M + 1) ∧ B32 ^ M ≤ b * 2 ^ s) := shl_len HY.out HLXY.out.2 HYY.out.1 HYY.out.2.1 HS.out.1 hbN.1
  refine (rshl_blk B1.out HY.out (by omega) hm s (by have := HS.out.2; omega)).mono ?_
  rintro e w2 ⟨gv, vs, rfl, hgv, hKv, hNv, hlv, hb2⟩
  obtain ⟨D, hD⟩ : ∃ D, D = b * 2 ^ s := ⟨_, rfl⟩
  rw [← hD] at hNv
  have hvl : vs.length = M + 1 := by
    have h1 := (hNv.len_le B32_one (k := M + 1)).2 (by rw [hD]; exact HSL.out.1)
    have h2 : ¬ vs.length ≤ M := fun e => by have := (hNv.len_le B32_one).1 e; have := HSL.out.2; omega
    omega
  rw [hvl]
  have HVL : Hid (vs.length = M + 1 ∧ D = b * 2 ^ s) := ⟨hvl, hD⟩
  have HNV : Hid (Nf B32 vs D) := hNv
  have hgv2 : gv < w2.heap.size := hKv.lt
  have V2 : Hid (At32 w2 (some ⟨gv, 0, none⟩) (M + 1) (M + 1) vs) := hKv.at_ hNv.dig hvl (by unfold maxLen; omega)
  have A2 : Hid (At32 w2 p n c xs) := A1.out.below hb2
  have HB2 : Hid (Below w.heap.size w w2) := Below.on hb1 hb2
  have HN0 : Hid (0 < n) := by
    have h1 := HGE.out
    rcases Nat.eq_zero_or_pos n with e | e
    · have h2 := (HX.out.zero_iff B32_one).1 (List.eq_nil_of_length_eq_zero (by rw [HLXY.out.1]; exact e))
      have h3 := HSL.out.2
      have h4 : b = 0 := by omega
      rw [h4, Nat.zero_mul] at h3
      have : 0 < B32 ^ M := Nat.pow_pos B32_pos
      omega
    · exact e
  clear hKv hNv hb2 hb1 A1 B1 hD hvl hlv hgv
  go_wp2_with fail
  refine (rshl_blk A2.out HX.out HN0.out hn s (by have := HS.out.2; omega)).mono ?_
  rintro e w3 ⟨gu, u0, rfl, hgu, hKu, hNu, hlu, hb3⟩
  obtain ⟨A', hA'⟩ : ∃ A', A' = a * 2 ^ s := ⟨_, rfl⟩
  rw [← hA'] at hNu
  have hp2 : 0 < 2 ^ s := Nat.pow_pos (by omega)
  have hul : n ≤ u0.length ∧ u0.length ≤ n + 1 := by
    refine ⟨?_, (hNu.len_le B32_one).2 ?_⟩
    · rcases Nat.lt_or_ge u0.length n with e | e
      · exfalso
        have h1 := (hNu.len_le B32_one (k := n - 1)).1 (by omega)
        have h2 : ¬ a < B32 ^ (n - 1) := fun e3 => by have := (HX.out.len_le B32_one).2 e3; have := HLXY.out.1; have := HN0.out; omega
        have h3 : a * 1 ≤ a * 2 ^ s := Nat.mul_le_mul_left _ hp2
        omega
      · exact e
    · have h1 := (HX.out.len_le B32_one (k := n)).1 (by rw [HLXY.out.1]; exact Nat.le_refl _)
      have h2 : 2 ^ s ≤ B32 := by rw [show B32 = 2 ^ 32 from rfl]; exact Nat.pow_le_pow_right (by omega) (by have := HS.out.2; omega)
      rw [hA', Nat.pow_succ]
      exact Nat.lt_of_lt_of_le (Nat.mul_lt_mul_of_pos_right h1 hp2) (Nat.mul_le_mul_left _ h2)
  have HAV : Hid (A' = a * 2 ^ s) := hA'
  have V3 : Hid (At32 w3 (some ⟨gv, 0, none⟩) (M + 1) (M + 1) vs) := V2.out.below hb3
  have HB3 : Hid (Below w2.heap.size w2 w3) := hb3
  have HO : Hid (w3.ownsRow w2.heap.size 115 1 (.slice (some ⟨gu, 0, none⟩) u0.length u0.length) u0.length (cellsV u0)) := hKu.own hgu (by unfold maxLen; omega)
  have HDU : Hid (Dig B32 u0 ∧ valB B32 u0 = A') := ⟨hNu.dig, hNu.val⟩
  obtain ⟨L0, hL0⟩ : ∃ L0, L0 = u0.length := ⟨_, rfl⟩
  rw [← hL0] at HO hul ⊢
  have HL0 : Hid (u0.length = L0) := hL0.symm
  obtain ⟨i0, hi, hz0, hz1, hz2⟩ := info_parts Tryz.infoU32
  clear hKu hNu hb3 hgu hlu hA' hL0 A2
  go_wp2_with fail
  go_loopg [10] (n + 1 - L0) (fun gk uv wr => ∃ (i Nc : Nat) (pp : Option Addr) (ss : List Nat), i + gk = n + 1 ∧ uv = .slice pp i Nc ∧ Hid (wr.ownsRow w2.heap.size 115 1 (.slice pp i Nc) i (cellsV ss) ∧ ss.length = i ∧ Dig B32 ss ∧ valB B32 ss = A' ∧ Below w2.heap.size w2 wr))
  case atStart => exact ⟨L0, L0, _, u0, by omega, rfl, HO.out, HL0.out, HDU.out.1, HDU.out.2, HB3.out⟩
  case round =>
    obtain ⟨i, Nc, pp, ss, hig, rfl, HR⟩ := hrel
    have hbr := HR.out.2.2.2.2
    cases gk with
    | succ gg =>
      have hle : (i : Int) ≤ (n : Int) := by omega
      have hle2 : i ≤ n := by omega
      have hleb : decide (i ≤ n) = true := decide_eq_true hle2
      have HOA : Hid ((wr.alloc (.cells #[V 0] 115)).ownsRow w2.heap.size 115 1 (.slice pp i Nc) i (cellsV ss)) := HR.out.1.alloc _
      have hsz1 : w2.heap.size ≤ (wr.alloc (.cells #[V 0] 115)).heap.size := by have := hbr.size; simp; omega
      go_wp2_with (at_builtin; refine wpList_append_own _ rfl (.tmp 59) (.tmp 60) 68 rfl w2.heap.size 115 i0 (.int .u32 0) 1 4 Tryz.underlying68 hi hz0 hz1 hz2 rfl (by decide) (.slice pp i Nc) i (cellsV ss) rfl HOA.out ⟨wr.heap.size, 0, none⟩ 1 1 [V 0] rfl rfl (one_cell wr 0) (by intro u hu; simp at hu; subst hu; rfl) (by unfold maxLen; omega) (by omega) hsz1 ?_; intro v3 w3 hw3 hgr3 hnil3)
      obtain ⟨p3, N3, rfl⟩ := own_form hw3
      have HR3 : Hid (w3.ownsRow w2.heap.size 115 1 (.slice p3 (i + 1) N3) (i + 1) (cellsV (ss ++ [0])) ∧ (ss ++ [0]).length = i + 1 ∧ Dig B32 (ss ++ [0]) ∧ valB B32 (ss ++ [0]) = A' ∧ Below w2.heap.size w2 w3) := by
        have hR := HR.out
        refine ⟨?_, by simp [hR.2.1], hR.2.2.1.append (Dig.cons B32_pos (Dig.nil _)), by rw [valB_snoc, Nat.mul_zero, Nat.add_zero]; exact hR.2.2.2.1, ?_⟩
        · have e0 : cellsV (ss ++ [0]) = cellsV ss ++ [V 0] := by unfold cellsV; rw [List.map_append]; rfl
          rw [e0]; exact hw3
        · exact (hR.2.2.2.2.alloc hR.2.2.2.2.size _).grown hgr3 (by have := hR.2.2.2.2.size; simp; omega) (own_base HOA.out)
      clear hw3 hgr3 hnil3
      go_roundg gg
      case measure => omega
      case rel => exact ⟨i + 1, N3, p3, ss ++ [0], by omega, rfl, HR3⟩
    | zero =>
      obtain rfl : i = n + 1 := by omega
      obtain ⟨gu2, rfl, hgu2, hrow, hNc, hNcm⟩ := own_row32 HR.out.1 HR.out.2.1 HR.out.2.2.1 (by omega)
      unfold maxLen at hNcm
      have V4 : Hid (At32 wr (some ⟨gv, 0, none⟩) (M + 1) (M + 1) vs) := V2.out.below hbr
      have HROW : Hid (Row32 wr gu2 0 (n + 1) ss ∧ valB B32 ss = A' ∧ w2.heap.size ≤ gu2 ∧ gu2 < wr.heap.size) := ⟨hrow, HR.out.2.2.2.1, hgu2, World.block_lt_of_cell? wr _ (hrow.cell 0 (by omega))⟩
      have HBR : Hid (Below w.heap.size w wr) := Below.on HB2.out hbr
      have hbr2 : Hid (gv < wr.heap.size ∧ gv < w2.heap.size) := ⟨Nat.lt_of_lt_of_le hgv2 hbr.size, hgv2⟩
      clear HR hrow hgu2 hbr HO
      obtain ⟨L, hL⟩ : ∃ L, L = n - M := ⟨_, rfl⟩
      have hMn : M < n := by
        rcases Nat.lt_or_ge M n with e | e
        · exact e
        · exfalso
          have h1 := (HX.out.len_le B32_one (k := n)).1 (by rw [HLXY.out.1]; exact Nat.le_refl _)
          have h2 : B32 ^ n ≤ B32 ^ M := Nat.pow_le_pow_right B32_pos e
          have h3 : ¬ b < B32 ^ M := fun e3 => by have := (HY.out.len_le B32_one).2 e3; have := HLXY.out.2; omega
          have := HGE.out
          omega
      have hLI : (n : Int) + 1 - ((M : Int) + 1) = (L : Int) := by omega
      have hLb : L ≤ 16384 := by omega
      have hLp : 1 ≤ L := by omega
      have HL : Hid (L = n - M ∧ M < n) := ⟨hL, hMn⟩
      obtain ⟨wo, hwo⟩ : ∃ wo, wo = wr := ⟨_, rfl⟩
      subst hwo
      clear hL hMn
      go_wp2_with (at_make; refine wpList_make_full _ rfl _ _ 68 rfl wo.heap.size 115 i0 (.int .u32 0) 1 Tryz.underlying68 hi hz0 hz1 _ _ _ _ L rfl rfl (by omega) (by omega) (by rw [hz2]; omega) (by unfold maxLen; omega) (Nat.le_refl _) ?_; intro w5 hown hgrow; have hb := made_blk32 hown hgrow; clear hown hgrow)
      have HNM : Hid (n + 1 = L + (M + 1)) := by have := HL.out; show _ = _; omega
      have hblt : Below wo.heap.size wo w5 := hb.2
      have HG : Hid (gv ≠ gu2 ∧ gv ≠ wo.heap.size ∧ wo.heap.size ≠ gu2 ∧ w2.heap.size ≤ gu2) := by
        have h1 := HROW.out.2.2
        have h2 := hbr2.out
        exact ⟨by omega, by omega, by omega, h1.1⟩
      have V5 : Hid (At32 w5 (some ⟨gv, 0, none⟩) (M + 1) (M + 1) vs) := V4.out.below hblt
      have HD0 : Hid (DigRel32 w5 wo.heap.size gu2 L (M + 1) A' D 0 (List.replicate L 0) ss w5) := by
        have hr := hb.1.row (Dig.replicate B32 L B32_pos)
        rw [List.length_replicate] at hr
        have hru := HROW.out.1.below2 hblt HROW.out.2.2.2
        rw [HNM.out] at hru
        refine ⟨fun B _ _ => Below.refl _ _, hr, hru, fun _ _ _ _ => rfl, ?_, ?_⟩
        · rw [Nat.sub_zero]
          have hs9 := valB_split B32 ss L (by rw [hru.len]; omega)
          rw [HROW.out.2.1] at hs9
          have hA9 : A' < B32 ^ L * D := by
            have h1 := (HX.out.len_le B32_one (k := n)).1 (by rw [HLXY.out.1]; exact Nat.le_refl _)
            have h3 : B32 ^ M ≤ b := by
              rcases Nat.lt_or_ge b (B32 ^ M) with e | e
              · have := (HY.out.len_le B32_one).2 e; have := HLXY.out.2; omega
              · exact e
            have h4 : B32 ^ n = B32 ^ L * B32 ^ M := by rw [← Nat.pow_add]; congr 1; have := HL.out; omega
            have h5 : B32 ^ L * B32 ^ M ≤ B32 ^ L * b := Nat.mul_le_mul_left _ h3
            rw [HAV.out, HVL.out.2, ← Nat.mul_assoc]
            exact Nat.mul_lt_mul_of_pos_right (by omega) (Nat.pow_pos (by omega))
          have h6 : B32 ^ L * valB B32 (ss.drop L) < B32 ^ L * D := by omega
          exact Nat.lt_of_mul_lt_mul_left h6
        · rw [Nat.sub_zero, List.drop_of_length_le (by rw [List.length_replicate]; exact Nat.le_refl _), valB_nil, Nat.mul_zero, Nat.zero_mul, Nat.add_zero]; exact HROW.out.2.1
      have HB5 : Hid (Below w.heap.size w w5) := Below.on HBR.out hblt
      have HV0 : Hid (0 < vs.getD (M + 1 - 1) 0 ∧ valB B32 vs = D ∧ D < B32 ^ (M + 1) ∧ 0 < D) := by
        have h1 := HNV.out
        have h2 := HVL.out
        have h3 := HSL.out
        have hDlt : D < B32 ^ (M + 1) := by rw [h2.2]; exact h3.1
        have hDge : B32 ^ M ≤ D := by rw [h2.2]; exact h3.2
        have hP9 : 0 < B32 ^ M := Nat.pow_pos B32_pos
        refine ⟨?_, h1.val, hDlt, by omega⟩
        rw [Nat.add_sub_cancel]
        rcases Nat.eq_zero_or_pos (vs.getD M 0) with e | e
        · exfalso
          have h4 : D = valB B32 (vs.take M) := by
            rw [← h1.val, valB_split B32 vs M (by omega), valB_drop B32 vs M (by omega), e, List.drop_of_length_le (by omega), valB_nil, Nat.mul_zero, Nat.add_zero, Nat.mul_zero, Nat.add_zero]
          have h5 := valB_lt B32_pos (h1.dig.take M)
          rw [List.length_take, h2.1, Nat.min_eq_left (by omega)] at h5
          omega
        · exact e
      obtain ⟨gq2, hgq2⟩ : ∃ g, g = wo.heap.size := ⟨_, rfl⟩
      have HGQ : Hid (w.heap.size ≤ gq2 ∧ w.heap.size ≤ gu2) := ⟨by rw [hgq2]; exact HBR.out.size, Nat.le_trans HB2.out.size HG.out.2.2.2⟩
      rw [← hgq2] at HD0 HG ⊢
      clear hb hblt hgq2 HROW V4 hLI
      go_loopg [13] L (fun gk jv wr => ∃ (k : Nat) (z : Int) (qs rs : List Nat), k + gk = L ∧ jv = .int .i64 z ∧ z = (gk : Int) - 1 ∧ Hid (DigRel32 w5 gq2 gu2 L (M + 1) A' D k qs rs wr))
      case atStart => exact ⟨0, _, _, ss, by omega, rfl, by omega, HD0⟩
      case round =>
        obtain ⟨k, z, qs, rs, hkg, rfl, hz, HR⟩ := hrel
        cases gk with
        | zero =>
          obtain rfl : k = L := by omega
          obtain rfl : z = -1 := by omega
          have hsum := HR.out.sum
          have hltD := HR.out.lt
          rw [Nat.sub_self, List.drop_zero] at hltD
          rw [Nat.sub_self, List.drop_zero, Nat.pow_zero, Nat.one_mul] at hsum
          have hquo : valB B32 qs = A' / D ∧ valB B32 rs = A' % D := by
            have h1 := quo_unique (n := A') (q := valB B32 qs) (y := D) (r := valB B32 rs) (by omega) hltD
            exact h1
          have hAD : A' / D = a / b ∧ A' % D = a % b * 2 ^ s := by
            rw [HAV.out, HVL.out.2]
            exact ⟨Nat.mul_div_mul_right a b (Nat.pow_pos (by omega)), by rw [Nat.mul_mod_mul_right]⟩
          have HQU : Hid (valB B32 qs = a / b ∧ valB B32 rs = a % b * 2 ^ s) := ⟨by rw [hquo.1, hAD.1], by rw [hquo.2, hAD.2]⟩
          have HTK : Hid (valB B32 (rs.take (M + 1)) = a % b * 2 ^ s) := by
            show _ = _
            rw [← HQU.out.2]
            have h1 := valB_split B32 rs (M + 1) (by rw [HR.out.rowr.len]; omega)
            rcases Nat.eq_zero_or_pos (valB B32 (rs.drop (M + 1))) with e | e
            · rw [e, Nat.mul_zero, Nat.add_zero] at h1; exact h1.symm
            · exfalso
              have h2 : B32 ^ (M + 1) * 1 ≤ B32 ^ (M + 1) * valB B32 (rs.drop (M + 1)) := Nat.mul_le_mul_left _ e
              have := HV0.out.2.2.1
              omega
          have AQ : Hid (At32 wr (some ⟨gq2, 0, none⟩) k k qs) := HR.out.rowq.at_ (Nat.le_refl _) (by unfold maxLen; omega)
          have AU0 : At32 wr (some ⟨gu2, 0, none⟩) (n + 1) Nc rs := by
            have h1 := HR.out.rowr
            rw [← HNM.out] at h1
            exact h1.at_ hNc (by unfold maxLen; omega)
          have AU : Hid (At32 wr (some ⟨gu2, 0, none⟩) (M + 1) Nc (rs.take (M + 1))) := AU0.take (M + 1) (by have := HL.out; omega) Nc (by have := HL.out; omega) (by unfold maxLen; omega)
          have HBW : Hid (Below w.heap.size w wr) := Below.trans HB5.out (HR.out.bel w.heap.size HGQ.out.1 HGQ.out.2)
          have hMN : M + 1 ≤ n := by have := HL.out; omega
          have hMc : M + 1 ≤ Nc := by have := HL.out; omega
          clear hsum hltD hquo hAD AU0 hz hkg HR
          go_wp2_with fail
          obtain ⟨wq, hwq⟩ : ∃ wq, wq = wr.drew := ⟨_, rfl⟩
          have hbd : Below wr.heap.size wr wq := by rw [hwq]; exact Below.drew (Below.refl _ _)
          have AQ2 : Hid (At32 wq (some ⟨gq2, 0, none⟩) k k qs) := AQ.out.below hbd
          have AU2 : Hid (At32 wq (some ⟨gu2, 0, none⟩) (M + 1) Nc (rs.take (M + 1))) := AU.out.below hbd
          have HBW2 : Hid (Below w.heap.size w wq) := Below.on HBW.out hbd
          clear AQ AU HBW hbd
          have AQ := AQ2
          have AU := AU2
          have HBW := HBW2
          clear AQ2 AU2 HBW2
          refine wp_region_J (fun _ => True) (by kernel_rfl) ?_
          rw [← hwq]
          clear hwq
          refine wpJ_take (i := 0) (v := ?va0) rfl (by kernel_rfl) (by kernel_rfl) (by kernel_rfl) (fun _ _ _ h => h) (by kernel_rfl) ?hya0 trivial ?resta0
          case hya0 => (intro W' hJ; go_simp; first | done | with_reducible rfl)
          refine wpJ_take (i := 2) (v := ?va2) rfl (by kernel_rfl) (by kernel_rfl) (by kernel_rfl) (fun _ _ _ h => h) (by kernel_rfl) ?hya2 trivial ?resta2
          case hya2 => (intro W' hJ; go_simp; first | done | with_reducible rfl)
          refine wpJ_take (i := 3) (v := ?va3) rfl (by kernel_rfl) (by kernel_rfl) (by kernel_rfl) (fun _ _ _ h => h) (by kernel_rfl) ?hya3 trivial ?resta3
          case hya3 => (intro W' hJ; go_simp; first | done | with_reducible rfl)
          refine wpJ_take (i := 4) (v := ?va4) rfl (by kernel_rfl) (by kernel_rfl) (by kernel_rfl) (fun _ _ _ h => h) (by kernel_rfl) ?hya4 trivial ?resta4
          case hya4 => (intro W' hJ; go_simp; first | done | (rw [if_pos ⟨by omega, by omega⟩]) | with_reducible rfl)
          refine wpJ_take (i := 6) (v := ?va6) rfl (by kernel_rfl) (by kernel_rfl) (by kernel_rfl) (fun _ _ _ h => h) (by kernel_rfl) ?hya6 trivial ?resta6
          case hya6 => (intro W' hJ; go_simp; first | done | with_reducible rfl)
          refine wpJ_one (i := 1) (by kernel_rfl) rfl (by kernel_rfl) (fun KJ hK => ?_)
          go_simp
          refine (rnorm_any AQ.out (by omega)).mono ?_
          rintro e w7 ⟨g7, rfl, hg7, hblk7, hb7⟩
          have hd7 : Dig B32 (trimL qs) := Dig.trimL AQ.out.dig
          have hl7 := trimL_length_le qs
          rw [AQ.out.len] at hl7
          have A7 : Hid (At32 w7 (some ⟨g7, 0, none⟩) (trimL qs).length (trimL qs).length (trimL qs)) := hblk7.at_ hd7 rfl (by unfold maxLen; omega)
          have N7 : Hid (Nf B32 (trimL qs) (a / b) ∧ (trimL qs).length ≤ n) := ⟨by have h1 := Nf.trim AQ.out.dig; rw [HQU.out.1] at h1; exact h1, by have := HL.out; omega⟩
          have AU7 : Hid (At32 w7 (some ⟨gu2, 0, none⟩) (M + 1) Nc (rs.take (M + 1))) := AU.out.below hb7
          have HB7 : Hid (Below w.heap.size w w7) := Below.on HBW.out hb7
          generalize trimL qs = q7 at *
          refine hK _ _ trivial ?_
          clear hK hblk7 hb7 hg7 hd7 hl7 AQ AU HBW
          refine wpJ_one (i := 5) (by kernel_rfl) rfl (by kernel_rfl) (fun KJ hK => ?_)
          go_simp
          refine (rnorm_any AU7.out (by omega)).mono ?_
          rintro e w8 ⟨g8, rfl, hg8, hblk8, hb8⟩
          have hl8 := trimL_length_le (rs.take (M + 1))
          rw [AU7.out.len] at hl8
          have A8 : Hid (At32 w8 (some ⟨g8, 0, none⟩) (trimL (rs.take (M + 1))).length (trimL (rs.take (M + 1))).length (trimL (rs.take (M + 1)))) := hblk8.at_ (Dig.trimL AU7.out.dig) rfl (by unfold maxLen; omega)
          have N8 : Hid (Nf B32 (trimL (rs.take (M + 1))) (a % b * 2 ^ s) ∧ (trimL (rs.take (M + 1))).length ≤ M + 1) := ⟨by have h1 := Nf.trim AU7.out.dig; rw [HTK.out] at h1; exact h1, hl8⟩
          have A78 : Hid (At32 w8 (some ⟨g7, 0, none⟩) q7.length q7.length q7) := A7.out.below hb8
          have HB8 : Hid (Below w.heap.size w w8) := Below.on HB7.out hb8
          generalize trimL (rs.take (M + 1)) = u8 at *
          refine hK _ _ trivial ?_
          clear hK hblk8 hb8 hg8 hl8 A7 AU7 HB7
          refine wpJ_one (i := 7) (by kernel_rfl) rfl (by kernel_rfl) (fun KJ hK => ?_)
          go_simp
          refine (rshr_all A8.out N8.out.1 (by have := N8.out.2; omega) s (by have := HS.out.2; omega)).mono ?_
          rintro e w9 ⟨p9, m9, z9, rfl, hA9, hN9, hl9, hb9⟩
          have A9 : Hid (At32 w9 p9 m9 m9 z9) := hA9
          have N9 : Hid (Nf B32 z9 (a % b) ∧ m9 ≤ n) := ⟨by rw [Nat.mul_div_cancel _ (Nat.pow_pos (by omega))] at hN9; exact hN9, by have := N8.out.2; omega⟩
          have A79 : Hid (At32 w9 (some ⟨g7, 0, none⟩) q7.length q7.length q7) := A78.out.below hb9
          have HB9 : Hid (Below w.heap.size w w9) := Below.on HB8.out hb9
          refine hK _ _ trivial ?_
          clear hK hA9 hN9 hl9 hb9 A8 A78 HB8
          refine wpJ_take (i := 8) (v := ?va8) rfl (by kernel_rfl) (by kernel_rfl) (by kernel_rfl) (fun _ _ _ h => h) (by kernel_rfl) ?hya8 trivial ?resta8
          case hya8 => (intro W' hJ; go_simp; first | done | with_reducible rfl)
          refine wpJ_take (i := 9) (v := ?va9) rfl (by kernel_rfl) (by kernel_rfl) (by kernel_rfl) (fun _ _ _ h => h) (by kernel_rfl) ?hya9 trivial ?resta9
          case hya9 => (intro W' hJ; go_simp; first | done | with_reducible rfl)
          refine wpJ_done (by kernel_rfl) ?_ _
          go_wp2_with fail
          go_ret2
          exact ⟨_, _, q7, _, _, z9, rfl, A79.out, N7.out.1, A9.out, N9.out.1, N7.out.2, N9.out.2, HB9.out⟩
        | succ gg =>
          obtain rfl : z = (gg : Int) := by omega
          obtain ⟨wp, hwp⟩ : ∃ wp, wp = wr := ⟨_, rfl⟩
          subst hwp
          obtain ⟨a9, ws, ha9, hws, hrow, hwlt, hrs, hzz⟩ := HR.out.window (by omega) HV0.out.2.2.1
          obtain rfl : a9 = gg := by omega
          have HWIN : Hid (valB B32 rs = valB B32 (rs.take a9) + B32 ^ a9 * valB B32 ws ∧ valB B32 (rs.drop (a9 + (M + 1 + 1))) = 0 ∧ Row32 wp gu2 a9 (M + 1 + 1) ws ∧ valB B32 ws < B32 * D) := ⟨hrs, hzz, hrow, hwlt⟩
          have V6 : Hid (At32 wp (some ⟨gv, 0, none⟩) (M + 1) (M + 1) vs) := V5.out.cells_of (fun o => HR.out.cell gv o HG.out.2.1 HG.out.1)
          have hgL : a9 < L := by omega
          have hcq : wp.cell? ⟨gq2, a9, none⟩ = some (V (qs.getD a9 0)) := by have := HR.out.rowq.cell a9 hgL; rw [Nat.zero_add] at this; exact this
          have hfq : wp.frozen? ⟨gq2, a9, none⟩ = false := by have := HR.out.rowq.frozen a9 hgL; rw [Nat.zero_add] at this; exact this
          have hj1 : a9 + (M + 1) + 1 ≤ n + 1 := by have := HNM.out; omega
          have hj2 : a9 + (M + 1) + 1 ≤ Nc := by omega
          have HAK : Hid (a9 = L - 1 - k ∧ k < L) := ⟨by omega, by omega⟩
          clear hws hrow hwlt hrs hzz ha9 hz hkg
          go_wp2_with fail
          rw [show a9 + (M + 1) + 1 - a9 = M + 1 + 1 by omega]
          refine (rdigit_any HWIN.out.2.2.1 (by omega) (by unfold maxLen; omega) V6.out HG.out.1 (by omega) (by omega) (by rw [HV0.out.2.1]; exact HWIN.out.2.2.2) HV0.out.1).mono ?_
          rintro e w6 ⟨ws', rfl, hwr6, hrow6, hval6⟩
          rw [HV0.out.2.1] at hval6 ⊢
          obtain ⟨q9, hq9⟩ : ∃ q9, q9 = valB B32 ws / D := ⟨_, rfl⟩
          rw [← hq9]
          have hq9b : q9 < B32 := by rw [hq9]; exact Nat.div_lt_of_lt_mul (by rw [Nat.mul_comm]; exact HWIN.out.2.2.2)
          have hcq6 : w6.cell? ⟨gq2, a9, none⟩ = some (V (qs.getD a9 0)) := (hwr6.cell gq2 a9 (.inl HG.out.2.2.1)).trans hcq
          have hfq6 : w6.frozen? ⟨gq2, a9, none⟩ = false := (hwr6.frozen _).trans hfq
          have HNX : Hid (DigRel32 w5 gq2 gu2 L (M + 1) A' D (k + 1) (qs.set a9 q9) (winPut rs ws' a9) (w6.setCell ⟨gq2, a9, none⟩ (V q9))) := HR.out.step HAK.out.2 HG.out.2.2.1 HAK.out.1 HWIN.out.1 HWIN.out.2.1 HV0.out.2.2.2 hq9 hq9b hval6 hwr6 hrow6
          clear hcq hfq hq9 hq9b hwr6 hrow6 hval6
          go_wp2_with fail
          go_roundg a9
          case measure => omega
          case rel => exact ⟨k + 1, _, qs.set a9 q9, winPut rs ws' a9, by have := HAK.out; omega, rfl, by omega, HNX⟩
end Go.Proofs.YtgodajcnhipleaaGreatDoor

namespace Go.Proofs.YtgodajcnhipleaaGreatDoor
open Go.RowKit Go.Shelf

theorem rdivmod04 {p q : Option Addr} {n m c d : Nat} {xs ys : List Nat} {a b : Nat} {w : World} (h : At32 w p n c xs) (k : At32 w q m d ys) (hx : Nf B32 xs a) (hy : Nf B32 ys b) (hn : n ≤ 16384) (hm : m ≤ 40000) (hb : b ≠ 0) :
    Calls Tryz.prog 130 #[.slice p n c, .slice q m d] w fun e w' => ∃ p1 m1 z1 p2 m2 z2, e = .returned (.tuple #[.slice p1 m1 m1, .slice p2 m2 m2]) ∧ At32 w' p1 m1 m1 z1 ∧ Nf B32 z1 (a / b) ∧ At32 w' p2 m2 m2 z2 ∧ Nf B32 z2 (a % b) ∧ m1 ≤ n ∧ m2 ≤ n ∧ Below w.heap.size w w' := by
  rcases Nat.lt_or_ge a b with hlt | hge
  · exact rdivmod_lt h k hx hy hn hm hb hlt
  · have hmn : m ≤ n := by
      have h1 := (hx.len_le B32_one (k := n)).1 (by rw [h.len]; exact Nat.le_refl _)
      have h2 := (hy.len_le B32_one (k := n)).2 (Nat.lt_of_le_of_lt hge h1)
      rw [k.len] at h2
      exact h2
    by_cases h1 : m = 1
    · exact rdivmod_one h k hx hy hn (by omega) hb hge h1
    · have hm0 : m ≠ 0 := fun e => hb ((hy.zero_iff B32_one).1 (List.eq_nil_of_length_eq_zero (by rw [k.len]; exact e)))
      exact rdivmod_big h k hx hy hn (by omega) hb hge (by omega)
theorem rof04 (z : Int) (w : World) (h0 : -9223372036854775808 ≤ z) (h1 : z ≤ 9223372036854775807) :
    Calls Tryz.prog 45 #[.int .i64 z] w fun e w' => ∃ s g m, e = .returned (.agg #[.bool s, .slice (some ⟨g, 0, none⟩) m m]) ∧ ZR w' s (some ⟨g, 0, none⟩) m z ∧ m ≤ 3 ∧ Below w.heap.size w w' :=
  (rof_any z w h0 h1).mono fun _ _ ⟨g, m, zs, he, hA, hN, hl, hb⟩ => ⟨_, g, m, he, ⟨⟨zs, hA, hN⟩, rfl⟩, hl, hb⟩
set_option maxRecDepth 20000 in
set_option maxHeartbeats 8000000 in
theorem rshl_nil {p : Option Addr} {c : Nat} {w : World} (hc : c ≤ maxLen) (k : Int) :
    Calls Tryz.prog 120 #[.slice p 0 c, .int .i64 k] w fun e w' => ∃ g, e = .returned (.slice (some ⟨g, 0, none⟩) 0 0) ∧ At32 w' (some ⟨g, 0, none⟩) 0 0 [] ∧ Below w.heap.size w w' := by
  have HC : Hid (c ≤ maxLen) := hc
  clear hc
  by_cases h0 : k ≤ 0
  · have h1 : ¬ 0 < k := by omega
    go_enter Tryz.func120, Tryz.ntmps120
    go_wp2_with fail
    refine (rnorm_any (At32.empty w p c HC.out) (by omega)).mono ?_
    rintro e w1 ⟨g, rfl, hg, hblk, hb⟩
    go_wp2_with fail
    go_ret
    exact ⟨g, rfl, At32.empty _ _ _ (by decide), hb⟩
  · have h1 : 0 < k := by omega
    go_enter Tryz.func120, Tryz.ntmps120
    go_wp2_with fail
    refine (rnorm_any (At32.empty w p c HC.out) (by omega)).mono ?_
    rintro e w1 ⟨g, rfl, hg, hblk, hb⟩
    go_wp2_with fail
    go_ret
    exact ⟨g, rfl, At32.empty _ _ _ (by decide), hb⟩
theorem rshl_all {p : Option Addr} {n : Nat} {xs : List Nat} {a : Nat} {w : World} (h : At32 w p n n xs) (hx : Nf B32 xs a) (hn : n ≤ 16384) (k : Nat) (hk : k ≤ 524288 ∨ a = 0) :
    Calls Tryz.prog 120 #[.slice p n n, .int .i64 k] w fun e w' => ∃ p' m' zs, e = .returned (.slice p' m' m') ∧ At32 w' p' m' m' zs ∧ Nf B32 zs (a * 2 ^ k) ∧ m' ≤ 40000 ∧ Below w.heap.size w w' := by
  rcases Nat.eq_zero_or_pos n with h0 | h0
  · subst h0
    have ha : a = 0 := (hx.zero_iff B32_one).1 (List.eq_nil_of_length_eq_zero h.len)
    refine (rshl_nil (by unfold maxLen; omega) (k : Int)).mono ?_
    rintro e w' ⟨g, he, hA, hb⟩
    exact ⟨_, 0, [], he, hA, by rw [ha, Nat.zero_mul]; exact Nf.nil _, by omega, hb⟩
  · refine rshl_any h hx h0 hn k (hk.resolve_right fun e => ?_)
    have := (hx.zero_iff B32_one).2 e
    rw [this] at h
    have := h.len
    simp at this
    omega
theorem iv_mul_nat (s : Bool) (a k : Nat) : iv s (a * k) = iv s a * (k : Int) := by cases s <;> simp [iv, Int.neg_mul]
set_option maxRecDepth 20000 in
set_option maxHeartbeats 8000000 in
theorem rshl04 {p : Option Addr} {m : Nat} {w : World} {x : Int} (s : Bool) (h : ZR w s p m x) (hm : m ≤ 16384) (k : Nat) (hk : k ≤ 524288 ∨ x = 0) :
    Calls Tryz.prog 96 #[.agg #[.bool s, .slice p m m], .int .i64 k] w fun e w' => ∃ v, e = .returned v ∧ GotR w.heap.size w' v (x * 2 ^ k) (40000) ∧ Below w.heap.size w w' := by
  have HA : Hid (ZR w s p m x) := h
  have HM : Hid (m ≤ 16384 ∧ (k ≤ 524288 ∨ x = 0)) := ⟨hm, hk⟩
  have HZV : Hid (iv s (x.natAbs * 2 ^ k) = x * 2 ^ k) := by show _ = _; rw [iv_mul_nat, h.iv]; rfl
  obtain ⟨xs, hAx, hNx⟩ := h.ex
  have HNX : Hid (Nf B32 xs x.natAbs) := hNx
  have AX : Hid (At32 w p m m xs) := hAx
  clear h hm hk hAx hNx
  go_enter Tryz.func96, Tryz.ntmps96
  go_wp2_with fail
  obtain ⟨W0, hW0⟩ : ∃ W0, W0 = ((w.alloc (.cells #[.bool s, .slice p m m] 70)).alloc (.cells #[.bool false, .slice none 0 0] 70)) := ⟨_, rfl⟩
  have Xa : Hid (Box W0 (w.heap.size) (.bool s) (.slice p m m)) := by rw [hW0]; exact ⟨by go_simp, by go_simp, by go_simp, by go_simp⟩
  have Xr : Hid (Box W0 (w.heap.size + 1) (.bool false) (.slice none 0 0)) := by rw [hW0]; exact ⟨by go_simp, by go_simp, by go_simp, by go_simp⟩
  have hb0 : Below w.heap.size w W0 := by rw [hW0]; exact below2 w _ _
  rw [← hW0]
  clear hW0
  have hbw : Below w.heap.size w w := Below.refl _ _
  obtain ⟨gr, hgr⟩ : ∃ g, g = w.heap.size + 1 := ⟨_, rfl⟩
  have HGr : Hid (w.heap.size ≤ gr) := by rw [hgr]; show _ ≤ _; omega
  rw [← hgr] at Xr
  try rw [← hgr]
  obtain ⟨ga, hga⟩ : ∃ g, g = w.heap.size := ⟨_, rfl⟩
  have HGa : Hid (w.heap.size ≤ ga) := by rw [hga]; show _ ≤ _; omega
  rw [← hga] at Xa
  try rw [← hga]
  have HGD : Hid (ga ≠ gr ∧ gr ≠ ga) := by rw [hga, hgr]; exact ⟨by omega, by omega⟩
  clear hga hgr
  replace AX : Hid _ := AX.out.below hb0
  replace hbw := Below.on hbw hb0
  clear hb0
  obtain ⟨W1, hW1⟩ : ∃ W1, W1 = W0.drew := ⟨_, rfl⟩
  have hbd : Below W0.heap.size W0 W1 := by rw [hW1]; exact bDrew1 (Below.refl _ _)
  replace Xa : Hid _ := Xa.out.below hbd
  replace Xr : Hid _ := Xr.out.below hbd
  replace AX : Hid _ := AX.out.below hbd
  replace hbw := Below.on hbw hbd
  clear hbd
  have HJ : Hid ((fun W' : World => W'.cell? ⟨ga, 0, none⟩ = some (.bool s) ∧ W'.cell? ⟨ga, 1, none⟩ = some (.slice p m m)) W1) := ⟨Xa.out.c0, Xa.out.c1⟩
  refine wp_region_J (fun W' => W'.cell? ⟨ga, 0, none⟩ = some (.bool s) ∧ W'.cell? ⟨ga, 1, none⟩ = some (.slice p m m)) (by kernel_rfl) ?_
  rw [← hW1]
  clear hW1
  refine wpJ_take (i := 0) (v := ?v1x0) rfl (by kernel_rfl) (by kernel_rfl) (by kernel_rfl) (fun _ _ _ h => h) (by kernel_rfl) ?hy1x0 HJ.out ?rest1x0
  case hy1x0 => (intro W' hJ; obtain ⟨j0, j1⟩ := hJ; go_simp; first | done | with_reducible rfl)
  refine wpJ_take (i := 1) (v := ?v2x1) rfl (by kernel_rfl) (by kernel_rfl) (by kernel_rfl) (fun _ _ _ h => h) (by kernel_rfl) ?hy2x1 HJ.out ?rest2x1
  case hy2x1 => (intro W' hJ; obtain ⟨j0, j1⟩ := hJ; go_simp; first | done | with_reducible rfl)
  refine wpJ_take (i := 2) (v := ?v3x2) rfl (by kernel_rfl) (by kernel_rfl) (by kernel_rfl) (fun _ _ _ h => h) (by kernel_rfl) ?hy3x2 HJ.out ?rest3x2
  case hy3x2 => (intro W' hJ; obtain ⟨j0, j1⟩ := hJ; go_simp; first | done | with_reducible rfl)
  refine wpJ_take (i := 3) (v := ?v4x3) rfl (by kernel_rfl) (by kernel_rfl) (by kernel_rfl) (fun _ _ _ h => h) (by kernel_rfl) ?hy4x3 HJ.out ?rest4x3
  case hy4x3 => (intro W' hJ; obtain ⟨j0, j1⟩ := hJ; go_simp; first | done | with_reducible rfl)
  refine wpJ_take (i := 4) (v := ?v5x4) rfl (by kernel_rfl) (by kernel_rfl) (by kernel_rfl) (fun _ _ _ h => h) (by kernel_rfl) ?hy5x4 HJ.out ?rest5x4
  case hy5x4 => (intro W' hJ; obtain ⟨j0, j1⟩ := hJ; go_simp; first | done | with_reducible rfl)
  refine wpJ_one (i := 5) (by kernel_rfl) rfl (by kernel_rfl) (fun KJ hK => ?_)
  go_simp
  refine (rshl_all AX.out HNX.out HM.out.1 k (by have := HM.out.2; omega)).mono ?_
  rintro e v2 ⟨p2, m2, z2, rfl, hA2, hN2, hl2, hb2⟩
  replace Xa : Hid _ := Xa.out.below hb2
  replace Xr : Hid _ := Xr.out.below hb2
  replace AX : Hid _ := AX.out.below hb2
  replace hbw := Below.on hbw hb2
  clear hb2
  have A2 : Hid (At32 v2 p2 m2 m2 z2) := hA2
  have N2 : Hid (Nf B32 z2 (x.natAbs * 2 ^ k) ∧ m2 ≤ 40000) := ⟨hN2, hl2⟩
  clear hA2 hN2 hl2
  refine hK _ _ ⟨Xa.out.c0, Xa.out.c1⟩ ?_
  clear hK
  have HRB : Hid (gr < v2.heap.size ∧ w.heap.size ≤ v2.heap.size) := ⟨Xr.out.lt, hbw.size⟩
  refine wpJ_one (i := 6) (by kernel_rfl) rfl (by kernel_rfl) (fun KJ hK => ?_)
  go_simp
  refine (rmk_any s A2.out N2.out.1 (by have := N2.out.2; omega)).mono ?_
  rintro e v3 ⟨v, rfl, hv, hb3⟩
  rw [HZV.out] at hv
  obtain ⟨s9, g9, m9, rfl, hg9, hz9, hl9⟩ := hv
  have HN9 : Hid (v2.heap.size ≤ g9) := hg9
  replace Xa : Hid _ := Xa.out.below hb3
  replace Xr : Hid _ := Xr.out.below hb3
  replace AX : Hid _ := AX.out.below hb3
  replace A2 : Hid _ := A2.out.below hb3
  replace hbw := Below.on hbw hb3
  clear hb3
  have Z9 : Hid (ZR v3 s9 (some ⟨g9, 0, none⟩) m9 (x * 2 ^ k)) := hz9
  have HL9 : Hid (m9 ≤ 40000) := Nat.le_trans hl9 N2.out.2
  clear hg9 hz9 hl9
  refine hK _ _ ⟨Xa.out.c0, Xa.out.c1⟩ ?_
  clear hK
  obtain ⟨cr0, cr1, fr0, fr1⟩ := Xr.out
  have hner := Xr.out.lt
  obtain ⟨ca0, ca1, fa0, fa1⟩ := Xa.out
  have hnea := Xa.out.lt
  obtain ⟨hgd0, hgd1⟩ := HGD.out
  refine wpJ_one (i := 7) (by kernel_rfl) rfl (by kernel_rfl) (fun KJ hK => ?_)
  go_simp
  have HJ2 : Hid ((fun W' : World => W'.cell? ⟨ga, 0, none⟩ = some (.bool s) ∧ W'.cell? ⟨ga, 1, none⟩ = some (.slice p m m)) ((v3.setCell ⟨gr, 0, none⟩ (.bool s9)).setCell ⟨gr, 1, none⟩ (.slice (some ⟨g9, 0, none⟩) m9 m9))) := ⟨by go_simp, by go_simp⟩
  refine hK _ _ HJ2.out ?_
  clear hK HJ
  have HJ := HJ2
  clear HJ2
  refine wpJ_done (by kernel_rfl) ?_ _
  clear HJ
  go_wp2_with fail
  refine bodyPost_ret (v := .agg #[.bool s9, .slice (some ⟨g9, 0, none⟩) m9 m9]) (by rw [results_cell1 rfl]; go_simp) rfl ⟨_, rfl, ⟨s9, g9, m9, rfl, Nat.le_trans HRB.out.2 HN9.out, ?_, HL9.out⟩, ?_⟩
  · have := HN9.out; have := HRB.out.1
    exact (Z9.out.set _ _ _ (by omega)).set _ _ _ (by omega)
  · exact bSet (bSet hbw _ _ _ HGr.out) _ _ _ HGr.out
end Go.Proofs.YtgodajcnhipleaaGreatDoor

namespace Go.Proofs.YtgodajcnhipleaaGreatDoor
open Go.RowKit Go.Shelf

set_option maxRecDepth 20000 in
set_option maxHeartbeats 4000000 in
theorem shifted_neg (s : Bool) (p : Option Addr) (m c : Nat) (n : Int) (hn : n < 0) (w : World) :
    Calls Tryz.prog 39 #[ZV s p m c, .int .i64 n] w fun e w' => e = .returned (.tuple #[FR false none 0 0 false 0, .int .i64 1]) ∧ Below w.heap.size w w' := by
  have c0 : decide (n < 0) = true := decide_eq_true hn
  clear hn
  go_enter Tryz.func39, Tryz.ntmps39
  go_wp2_with fail
  refine bodyPost_ret (v := .tuple #[FR false none 0 0 false 0, .int .i64 1]) (by rw [results_cell_tmp rfl]; go_simp) rfl ⟨rfl, ?_⟩
  exact below2 w _ _
end Go.Proofs.YtgodajcnhipleaaGreatDoor

namespace Go.Proofs.YtgodajcnhipleaaGreatDoor
open Go.RowKit Go.Shelf

set_option maxRecDepth 20000 in
set_option maxHeartbeats 4000000 in
theorem near_zero (w : World) :
    Calls Tryz.prog 40 #[FR false none 0 0 false 0] w fun e w' => e = .returned (ZV false none 0 0) ∧ Below w.heap.size w w' := by
  go_enter Tryz.func40, Tryz.ntmps40
  go_wp2_with fail
  obtain ⟨W0, hW0⟩ : ∃ W0, W0 = ((w.alloc (.cells #[.bool false, .slice none 0 0, .bool false, .int .i64 0] 59)).alloc (.cells #[.bool false, .slice none 0 0] 28)) := ⟨_, rfl⟩
  have Xf : Hid (B4q W0 (w.heap.size) (.bool false) (.slice none 0 0) (.bool false) (.int .i64 0)) := by rw [hW0]; exact ⟨by go_simp, by go_simp, by go_simp, by go_simp, by go_simp, by go_simp, by go_simp, by go_simp⟩
  have Xr : Hid (Box W0 (w.heap.size + 1) (.bool false) (.slice none 0 0)) := by rw [hW0]; exact ⟨by go_simp, by go_simp, by go_simp, by go_simp⟩
  have hb0 : Below w.heap.size w W0 := by rw [hW0]; exact below2 w _ _
  rw [← hW0]
  clear hW0
  have hbw : Below w.heap.size w w := Below.refl _ _
  obtain ⟨gr, hgr⟩ : ∃ g, g = w.heap.size + 1 := ⟨_, rfl⟩
  have HGr : Hid (w.heap.size ≤ gr) := by rw [hgr]; show _ ≤ _; omega
  rw [← hgr] at Xr
  try rw [← hgr]
  obtain ⟨gf, hgf⟩ : ∃ g, g = w.heap.size := ⟨_, rfl⟩
  have HGf : Hid (w.heap.size ≤ gf) := by rw [hgf]; show _ ≤ _; omega
  rw [← hgf] at Xf
  try rw [← hgf]
  have HGD : Hid (gf ≠ gr ∧ gr ≠ gf) := by rw [hgf, hgr]; exact ⟨by omega, by omega⟩
  clear hgf hgr
  replace hbw := Below.on hbw hb0
  clear hb0
  obtain ⟨W1, hW1⟩ : ∃ W1, W1 = W0.drew := ⟨_, rfl⟩
  have hbd : Below W0.heap.size W0 W1 := by rw [hW1]; exact bDrew1 (Below.refl _ _)
  replace Xf : Hid _ := Xf.out.below hbd
  replace Xr : Hid _ := Xr.out.below hbd
  replace hbw := Below.on hbw hbd
  clear hbd
  have HJ : Hid ((fun W' : World => W'.cell? ⟨gf, 0, none⟩ = some (.bool false) ∧ W'.cell? ⟨gf, 1, none⟩ = some (.slice none 0 0) ∧ W'.cell? ⟨gf, 2, none⟩ = some (.bool false) ∧ W'.cell? ⟨gf, 3, none⟩ = some (.int .i64 0)) W1) := ⟨Xf.out.c0, Xf.out.c1, Xf.out.c2, Xf.out.c3⟩
  refine wp_region_J (fun W' => W'.cell? ⟨gf, 0, none⟩ = some (.bool false) ∧ W'.cell? ⟨gf, 1, none⟩ = some (.slice none 0 0) ∧ W'.cell? ⟨gf, 2, none⟩ = some (.bool false) ∧ W'.cell? ⟨gf, 3, none⟩ = some (.int .i64 0)) (by kernel_rfl) ?_
  rw [← hW1]
  clear hW1
  refine wpJ_take (i := 0) (v := ?v1x0) rfl (by kernel_rfl) (by kernel_rfl) (by kernel_rfl) (fun _ _ _ h => h) (by kernel_rfl) ?hy1x0 HJ.out ?rest1x0
  case hy1x0 => (intro W' hJ; obtain ⟨j0, j1, j2, j3⟩ := hJ; go_simp; first | done | with_reducible rfl)
  refine wpJ_take (i := 1) (v := ?v2x1) rfl (by kernel_rfl) (by kernel_rfl) (by kernel_rfl) (fun _ _ _ h => h) (by kernel_rfl) ?hy2x1 HJ.out ?rest2x1
  case hy2x1 => (intro W' hJ; obtain ⟨j0, j1, j2, j3⟩ := hJ; go_simp; first | done | with_reducible rfl)
  refine wpJ_take (i := 2) (v := ?v3x2) rfl (by kernel_rfl) (by kernel_rfl) (by kernel_rfl) (fun _ _ _ h => h) (by kernel_rfl) ?hy3x2 HJ.out ?rest3x2
  case hy3x2 => (intro W' hJ; obtain ⟨j0, j1, j2, j3⟩ := hJ; go_simp; first | done | with_reducible rfl)
  refine wpJ_take (i := 3) (v := ?v4x3) rfl (by kernel_rfl) (by kernel_rfl) (by kernel_rfl) (fun _ _ _ h => h) (by kernel_rfl) ?hy4x3 HJ.out ?rest4x3
  case hy4x3 => (intro W' hJ; obtain ⟨j0, j1, j2, j3⟩ := hJ; go_simp; first | done | with_reducible rfl)
  refine wpJ_take (i := 4) (v := ?v5x4) rfl (by kernel_rfl) (by kernel_rfl) (by kernel_rfl) (fun _ _ _ h => h) (by kernel_rfl) ?hy5x4 HJ.out ?rest5x4
  case hy5x4 => (intro W' hJ; obtain ⟨j0, j1, j2, j3⟩ := hJ; go_simp; first | done | with_reducible rfl)
  refine wpJ_take (i := 5) (v := ?v6x5) rfl (by kernel_rfl) (by kernel_rfl) (by kernel_rfl) (fun _ _ _ h => h) (by kernel_rfl) ?hy6x5 HJ.out ?rest6x5
  case hy6x5 => (intro W' hJ; obtain ⟨j0, j1, j2, j3⟩ := hJ; go_simp; first | done | with_reducible rfl)
  refine wpJ_take (i := 6) (v := ?v7x6) rfl (by kernel_rfl) (by kernel_rfl) (by kernel_rfl) (fun _ _ _ h => h) (by kernel_rfl) ?hy7x6 HJ.out ?rest7x6
  case hy7x6 => (intro W' hJ; obtain ⟨j0, j1, j2, j3⟩ := hJ; go_simp; first | done | with_reducible rfl)
  refine wpJ_take (i := 7) (v := ?v8x7) rfl (by kernel_rfl) (by kernel_rfl) (by kernel_rfl) (fun _ _ _ h => h) (by kernel_rfl) ?hy8x7 HJ.out ?rest8x7
  case hy8x7 => (intro W' hJ; obtain ⟨j0, j1, j2, j3⟩ := hJ; go_simp; first | done | with_reducible rfl)
  refine wpJ_take (i := 8) (v := ?v9x8) rfl (by kernel_rfl) (by kernel_rfl) (by kernel_rfl) (fun _ _ _ h => h) (by kernel_rfl) ?hy9x8 HJ.out ?rest9x8
  case hy9x8 => (intro W' hJ; obtain ⟨j0, j1, j2, j3⟩ := hJ; go_simp; first | done | with_reducible rfl)
  refine wpJ_take (i := 9) (v := ?v10x9) rfl (by kernel_rfl) (by kernel_rfl) (by kernel_rfl) (fun _ _ _ h => h) (by kernel_rfl) ?hy10x9 HJ.out ?rest10x9
  case hy10x9 => (intro W' hJ; obtain ⟨j0, j1, j2, j3⟩ := hJ; go_simp; first | done | with_reducible rfl)
  refine wpJ_take (i := 10) (v := ?v11x10) rfl (by kernel_rfl) (by kernel_rfl) (by kernel_rfl) (fun _ _ _ h => h) (by kernel_rfl) ?hy11x10 HJ.out ?rest11x10
  case hy11x10 => (intro W' hJ; obtain ⟨j0, j1, j2, j3⟩ := hJ; go_simp; first | done | with_reducible rfl)
  refine wpJ_one (i := 11) (by kernel_rfl) rfl (by kernel_rfl) (fun KJ hK => ?_)
  go_simp
  refine (bit_int (xs := []) (i := 0) (At.empty _ none 0 (by decide)) (by decide) (by decide)).mono ?_
  rintro e w2 ⟨rfl, hw⟩
  obtain rfl := hw.symm
  clear hw
  rw [show bitO (valB B64 []) 0 = false from by unfold bitO; simp [valB]]
  clear HJ
  have HJ : Hid ((fun W' : World => W'.cell? ⟨gf, 0, none⟩ = some (.bool false) ∧ W'.cell? ⟨gf, 1, none⟩ = some (.slice none 0 0) ∧ W'.cell? ⟨gf, 2, none⟩ = some (.bool false) ∧ W'.cell? ⟨gf, 3, none⟩ = some (.int .i64 0)) W1) := ⟨Xf.out.c0, Xf.out.c1, Xf.out.c2, Xf.out.c3⟩
  refine hK _ _ HJ.out ?_
  clear hK
  refine wpJ_take (i := 12) (v := ?v12x12) rfl (by kernel_rfl) (by kernel_rfl) (by kernel_rfl) (fun _ _ _ h => h) (by kernel_rfl) ?hy12x12 HJ.out ?rest12x12
  case hy12x12 => (intro W' hJ; obtain ⟨j0, j1, j2, j3⟩ := hJ; go_simp; first | done | with_reducible rfl)
  refine wpJ_take (i := 13) (v := ?v13x13) rfl (by kernel_rfl) (by kernel_rfl) (by kernel_rfl) (fun _ _ _ h => h) (by kernel_rfl) ?hy13x13 HJ.out ?rest13x13
  case hy13x13 => (intro W' hJ; obtain ⟨j0, j1, j2, j3⟩ := hJ; go_simp; first | done | with_reducible rfl)
  refine wpJ_one (i := 14) (by kernel_rfl) rfl (by kernel_rfl) (fun KJ hK => ?_)
  go_simp
  refine (rounded_f none 0 false false 0 W1).mono ?_
  rintro e w9 ⟨rfl, hb9⟩
  rw [show (false && decide (0 < 0)) = false from rfl]
  replace Xf : Hid _ := Xf.out.below hb9
  replace Xr : Hid _ := Xr.out.below hb9
  replace hbw := Below.on hbw hb9
  clear hb9
  refine hK _ _ ⟨Xf.out.c0, Xf.out.c1, Xf.out.c2, Xf.out.c3⟩ ?_
  clear hK
  obtain ⟨cr0, cr1, fr0, fr1⟩ := Xr.out
  have hner := Xr.out.lt
  obtain ⟨cf0, cf1, cf2, cf3, ff0, ff1, ff2, ff3⟩ := Xf.out
  have hnef : gf < w9.heap.size := World.block_lt_of_cell? w9 _ cf0
  obtain ⟨hgd0, hgd1⟩ := HGD.out
  refine wpJ_one (i := 15) (by kernel_rfl) rfl (by kernel_rfl) (fun KJ hK => ?_)
  go_simp
  have HJ2 : Hid ((fun W' : World => W'.cell? ⟨gf, 0, none⟩ = some (.bool false) ∧ W'.cell? ⟨gf, 1, none⟩ = some (.slice none 0 0) ∧ W'.cell? ⟨gf, 2, none⟩ = some (.bool false) ∧ W'.cell? ⟨gf, 3, none⟩ = some (.int .i64 0)) ((w9.setCell ⟨gr, 0, none⟩ (.bool false)).setCell ⟨gr, 1, none⟩ (.slice none 0 0))) := ⟨by go_simp, by go_simp, by go_simp, by go_simp⟩
  refine hK _ _ HJ2.out ?_
  clear hK HJ
  have HJ := HJ2
  clear HJ2
  refine wpJ_done (by kernel_rfl) ?_ _
  clear HJ
  go_wp2_with fail
  refine bodyPost_ret (v := ZV false none 0 0) (by rw [results_cell1 rfl]; go_simp) rfl ⟨rfl, ?_⟩
  exact bSet (bSet hbw _ _ _ HGr.out) _ _ _ HGr.out
theorem ansz_none (B : Nat) (w : World) : AnsZ B w (ZV false none 0 0) 0 := ⟨none, 0, [], rfl, ⟨rfl, Dig.nil _, .inl rfl⟩, Nf.nil _, by omega⟩
set_option maxRecDepth 20000 in
set_option maxHeartbeats 4000000 in
theorem shifted_bad {p : Option Addr} {m c : Nat} {xs : List Nat} {w : World} (s : Bool) (h : At w p m c xs) (hf : formZ s xs = false) (n : Int) (hn : 0 ≤ n) :
    Calls Tryz.prog 39 #[ZV s p m c, .int .i64 n] w fun e w' => e = .returned (.tuple #[FR false none 0 0 false 0, .int .i64 2]) ∧ Below w.heap.size w w' := by
  have H : Hid (At w p m c xs) := h
  have HF : Hid (formZ s xs = false) := hf
  have c0 : decide (n < 0) = false := decide_eq_false (by omega)
  clear h hf hn
  go_enter Tryz.func39, Tryz.ntmps39
  go_wp2_with fail
  obtain ⟨W0, hW0⟩ : ∃ W0, W0 = ((w.alloc (.cells #[.bool s, .slice p m c] 28)).alloc (.cells #[.bool false, .slice none 0 0, .bool false, .int .i64 0] 59)) := ⟨_, rfl⟩
  have Xx : Hid (Box W0 (w.heap.size) (.bool s) (.slice p m c)) := by rw [hW0]; exact ⟨by go_simp, by go_simp, by go_simp, by go_simp⟩
  have Xr : Hid (B4q W0 (w.heap.size + 1) (.bool false) (.slice none 0 0) (.bool false) (.int .i64 0)) := by rw [hW0]; exact ⟨by go_simp, by go_simp, by go_simp, by go_simp, by go_simp, by go_simp, by go_simp, by go_simp⟩
  have hb0 : Below w.heap.size w W0 := by rw [hW0]; exact below2 w _ _
  rw [← hW0]
  clear hW0
  have hbw : Below w.heap.size w w := Below.refl _ _
  obtain ⟨gr, hgr⟩ : ∃ g, g = w.heap.size + 1 := ⟨_, rfl⟩
  have HGr : Hid (w.heap.size ≤ gr) := by rw [hgr]; show _ ≤ _; omega
  rw [← hgr] at Xr
  try rw [← hgr]
  obtain ⟨gx, hgx⟩ : ∃ g, g = w.heap.size := ⟨_, rfl⟩
  have HGx : Hid (w.heap.size ≤ gx) := by rw [hgx]; show _ ≤ _; omega
  rw [← hgx] at Xx
  try rw [← hgx]
  have HGD : Hid (gx ≠ gr ∧ gr ≠ gx) := by rw [hgx, hgr]; exact ⟨by omega, by omega⟩
  clear hgx hgr
  replace H : Hid _ := H.out.below hb0
  replace hbw := Below.on hbw hb0
  clear hb0
  clear c0
  refine (numform_f s H.out HF.out).mono ?_
  rintro e w1 ⟨rfl, hb1⟩
  replace Xx : Hid _ := Xx.out.below hb1
  replace Xr : Hid _ := Xr.out.below hb1
  replace H : Hid _ := H.out.below hb1
  replace hbw := Below.on hbw hb1
  clear hb1
  obtain ⟨cr0, cr1, cr2, cr3, fr0, fr1, fr2, fr3⟩ := Xr.out
  have hner : gr < w1.heap.size := World.block_lt_of_cell? w1 _ cr0
  go_wp2_with fail
  refine bodyPost_ret (v := .tuple #[FR false none 0 0 false 0, .int .i64 2]) (by rw [results_cell_tmp rfl]; go_simp) rfl ⟨rfl, ?_⟩
  exact bSet4 hbw _ _ _ _ _ HGr.out
set_option maxRecDepth 20000 in
set_option maxHeartbeats 4000000 in
theorem nshl_neg {p : Option Addr} {m c : Nat} {xs : List Nat} {w : World} (s : Bool) (h : At w p m c xs) (n : Int) (hn : n < 0) :
    Calls Tryz.prog 62 #[ZV s p m c, .int .i64 n] w fun e w' => e = .returned (.tuple #[ZV false none 0 0, .int .i64 1]) ∧ Below w.heap.size w w' := by
  have H : Hid (At w p m c xs) := h
  have c0 : decide (n < 0) = true := decide_eq_true hn
  clear h hn
  go_enter Tryz.func62, Tryz.ntmps62
  go_wp2_with fail
  refine bodyPost_ret (v := .tuple #[ZV false none 0 0, .int .i64 1]) (by rw [results_cell_tmp rfl]; go_simp) rfl ⟨rfl, ?_⟩
  exact below2 w _ _
set_option maxRecDepth 20000 in
set_option maxHeartbeats 4000000 in
theorem nshl_bad {p : Option Addr} {m c : Nat} {xs : List Nat} {w : World} (s : Bool) (h : At w p m c xs) (n : Int) (hf : formZ s xs = false) (hn : 0 ≤ n) :
    Calls Tryz.prog 62 #[ZV s p m c, .int .i64 n] w fun e w' => e = .returned (.tuple #[ZV false none 0 0, .int .i64 2]) ∧ Below w.heap.size w w' := by
  have H : Hid (At w p m c xs) := h
  have c0 : decide (n < 0) = false := decide_eq_false (by omega)
  have HF : Hid (formZ s xs = false) := hf
  clear h hn hf
  go_enter Tryz.func62, Tryz.ntmps62
  go_wp2_with fail
  obtain ⟨W0, hW0⟩ : ∃ W0, W0 = ((w.alloc (.cells #[.bool s, .slice p m c] 28)).alloc (.cells #[.bool false, .slice none 0 0] 28)) := ⟨_, rfl⟩
  have Xx : Hid (Box W0 (w.heap.size) (.bool s) (.slice p m c)) := by rw [hW0]; exact ⟨by go_simp, by go_simp, by go_simp, by go_simp⟩
  have Xr : Hid (Box W0 (w.heap.size + 1) (.bool false) (.slice none 0 0)) := by rw [hW0]; exact ⟨by go_simp, by go_simp, by go_simp, by go_simp⟩
  have hb0 : Below w.heap.size w W0 := by rw [hW0]; exact below2 w _ _
  rw [← hW0]
  clear hW0
  have hbw : Below w.heap.size w w := Below.refl _ _
  obtain ⟨gr, hgr⟩ : ∃ g, g = w.heap.size + 1 := ⟨_, rfl⟩
  have HGr : Hid (w.heap.size ≤ gr) := by rw [hgr]; show _ ≤ _; omega
  rw [← hgr] at Xr
  try rw [← hgr]
  obtain ⟨gx, hgx⟩ : ∃ g, g = w.heap.size := ⟨_, rfl⟩
  have HGx : Hid (w.heap.size ≤ gx) := by rw [hgx]; show _ ≤ _; omega
  rw [← hgx] at Xx
  try rw [← hgx]
  have HGD : Hid (gx ≠ gr ∧ gr ≠ gx) := by rw [hgx, hgr]; exact ⟨by omega, by omega⟩
  clear hgx hgr
  replace H : Hid _ := H.out.below hb0
  replace hbw := Below.on hbw hb0
  clear hb0
  clear c0
  refine (numform_f s H.out HF.out).mono ?_
  rintro e w1 ⟨rfl, hb1⟩
  replace Xx : Hid _ := Xx.out.below hb1
  replace Xr : Hid _ := Xr.out.below hb1
  replace H : Hid _ := H.out.below hb1
  replace hbw := Below.on hbw hb1
  clear hb1
  obtain ⟨cr0, cr1, fr0, fr1⟩ := Xr.out
  have hner := Xr.out.lt
  go_wp2_with fail
  refine bodyPost_ret (v := .tuple #[ZV false none 0 0, .int .i64 2]) (by rw [results_cell_tmp rfl]; go_simp) rfl ⟨rfl, ?_⟩
  exact bSet (bSet hbw _ _ _ HGr.out) _ _ _ HGr.out
set_option maxRecDepth 20000 in
set_option maxHeartbeats 4000000 in
theorem fshr_err {p : Option Addr} {m c : Nat} {s : Bool} {n : Int} {w : World} (er : Int) (hi : ∀ W, Below w.heap.size w W → Calls Tryz.prog 39 #[ZV s p m c, .int .i64 n] W fun e w' => e = .returned (.tuple #[FR false none 0 0 false 0, .int .i64 er]) ∧ Below W.heap.size W w') :
    Calls Tryz.prog 63 #[ZV s p m c, .int .i64 n] w fun e w' => ∃ v, e = .returned (.tuple #[v, .int .i64 er]) ∧ AnsZ w.heap.size w' v 0 ∧ Below w.heap.size w w' := by
  have HI : Hid (∀ W, Below w.heap.size w W → Calls Tryz.prog 39 #[ZV s p m c, .int .i64 n] W fun e w' => e = .returned (.tuple #[FR false none 0 0 false 0, .int .i64 er]) ∧ Below W.heap.size W w') := hi
  obtain ⟨z, hz⟩ : ∃ z, z = (0 : Int) := ⟨_, rfl⟩
  rw [← hz]
  have HZ : Hid (z = fl false 0 0) := hz
  clear hi hz
  go_enter Tryz.func63, Tryz.ntmps63
  go_wp2_with fail
  obtain ⟨W0, hW0⟩ : ∃ W0, W0 = ((w.alloc (.cells #[.bool s, .slice p m c] 28)).alloc (.cells #[.bool false, .slice none 0 0] 28)) := ⟨_, rfl⟩
  have Xx : Hid (Box W0 (w.heap.size) (.bool s) (.slice p m c)) := by rw [hW0]; exact ⟨by go_simp, by go_simp, by go_simp, by go_simp⟩
  have Xr : Hid (Box W0 (w.heap.size + 1) (.bool false) (.slice none 0 0)) := by rw [hW0]; exact ⟨by go_simp, by go_simp, by go_simp, by go_simp⟩
  have hb0 : Below w.heap.size w W0 := by rw [hW0]; exact below2 w _ _
  rw [← hW0]
  clear hW0
  have hbw : Below w.heap.size w w := Below.refl _ _
  obtain ⟨gr, hgr⟩ : ∃ g, g = w.heap.size + 1 := ⟨_, rfl⟩
  have HGr : Hid (w.heap.size ≤ gr) := by rw [hgr]; show _ ≤ _; omega
  rw [← hgr] at Xr
  try rw [← hgr]
  obtain ⟨gx, hgx⟩ : ∃ g, g = w.heap.size := ⟨_, rfl⟩
  have HGx : Hid (w.heap.size ≤ gx) := by rw [hgx]; show _ ≤ _; omega
  rw [← hgx] at Xx
  try rw [← hgx]
  have HGD : Hid (gx ≠ gr ∧ gr ≠ gx) := by rw [hgx, hgr]; exact ⟨by omega, by omega⟩
  clear hgx hgr
  replace hbw := Below.on hbw hb0
  clear hb0
  have HSZ : Hid (GeW W0.heap.size W0) := Nat.le_refl _
  have HRL : Hid (gr < W0.heap.size ∧ w.heap.size ≤ W0.heap.size) := ⟨Xr.out.lt, hbw.size⟩
  refine (HI.out W0 hbw).mono ?_
  rintro e w2 ⟨rfl, hb2⟩
  replace Xx : Hid _ := Xx.out.below hb2
  replace Xr : Hid _ := Xr.out.below hb2
  replace HSZ : Hid (GeW W0.heap.size w2) := HSZ.out.below hb2
  replace hbw := Below.on hbw hb2
  clear hb2
  have HF : Hid (FrIs W0.heap.size w2 false 0 0 none 0 [] false 0) := ⟨⟨rfl, Dig.nil _, .inl rfl⟩, Nf.nil _, by omega, rfl, .inr (.inl ⟨rfl, rfl⟩), small_lim (by decide)⟩
  obtain ⟨cr0, cr1, fr0, fr1⟩ := Xr.out
  have hner := Xr.out.lt
  go_wp2_with fail
  clear cr0 cr1 fr0 fr1 hner
  have Xf0 : Hid (B4q (w2.alloc (.cells #[.bool false, .slice none 0 0, .bool false, .int .i64 0] 59)) w2.heap.size (.bool false) (.slice none 0 0) (.bool false) (.int .i64 0)) := B4q.new w2 _ _ _ _ _
  have hbn : Below w2.heap.size w2 (w2.alloc (.cells #[.bool false, .slice none 0 0, .bool false, .int .i64 0] 59)) := below1 w2 _
  generalize w2.alloc (.cells #[.bool false, .slice none 0 0, .bool false, .int .i64 0] 59) = W3 at *
  have HGf : Hid (w.heap.size ≤ w2.heap.size) := hbw.size
  replace Xx : Hid _ := Xx.out.below hbn
  replace Xr : Hid _ := Xr.out.below hbn
  replace HSZ : Hid (GeW W0.heap.size W3) := HSZ.out.below hbn
  replace HF : Hid _ := HF.out.below hbn
  replace hbw := Below.on hbw hbn
  clear hbn
  generalize w2.heap.size = gf at *
  have Xf := Xf0
  clear Xf0
  have hBs : W0.heap.size ≤ W3.heap.size := HSZ.out
  refine (floor_any false false 0 HF.out hBs).mono ?_
  rintro e w4 ⟨v, rfl, hv, hb4⟩
  clear hBs
  rw [← HZ.out] at hv
  obtain ⟨p4, m4, z4, rfl, ho, hn, hm⟩ := hv
  replace Xx : Hid _ := Xx.out.below hb4
  replace Xr : Hid _ := Xr.out.below hb4
  replace Xf : Hid _ := Xf.out.below hb4
  replace HSZ : Hid (GeW W0.heap.size w4) := HSZ.out.below hb4
  replace HF : Hid _ := HF.out.below hb4
  replace hbw := Below.on hbw hb4
  clear hb4
  have HO4 : Hid (Own W0.heap.size w4 p4 m4 z4) := ho
  have HN4 : Hid (Nf B64 z4 z.natAbs ∧ m4 ≤ 8192) := ⟨hn, hm⟩
  clear ho hn hm
  obtain ⟨b9, hb9⟩ : ∃ b, b = decide (z < 0) := ⟨_, rfl⟩
  rw [← hb9]
  have HB9 : Hid (b9 = decide (z < 0)) := hb9
  clear hb9
  obtain ⟨cr0, cr1, fr0, fr1⟩ := Xr.out
  have hner := Xr.out.lt
  go_wp2_with fail
  refine bodyPost_ret (v := .tuple #[ZV b9 p4 m4 m4, .int .i64 er]) (by rw [results_cell_tmp rfl]; go_simp) rfl ⟨_, rfl, ⟨p4, m4, z4, by rw [HB9.out], ?_, HN4.out.1, HN4.out.2⟩, ?_⟩
  · exact own_set2 HO4.out HRL.out.1 HRL.out.2 _ _
  · exact bSet (bSet hbw _ _ _ HGr.out) _ _ _ HGr.out
set_option maxRecDepth 20000 in
set_option maxHeartbeats 4000000 in
theorem cshr_err {p : Option Addr} {m c : Nat} {s : Bool} {n : Int} {w : World} (er : Int) (hi : ∀ W, Below w.heap.size w W → Calls Tryz.prog 39 #[ZV s p m c, .int .i64 n] W fun e w' => e = .returned (.tuple #[FR false none 0 0 false 0, .int .i64 er]) ∧ Below W.heap.size W w') :
    Calls Tryz.prog 64 #[ZV s p m c, .int .i64 n] w fun e w' => ∃ v, e = .returned (.tuple #[v, .int .i64 er]) ∧ AnsZ w.heap.size w' v 0 ∧ Below w.heap.size w w' := by
  have HI : Hid (∀ W, Below w.heap.size w W → Calls Tryz.prog 39 #[ZV s p m c, .int .i64 n] W fun e w' => e = .returned (.tuple #[FR false none 0 0 false 0, .int .i64 er]) ∧ Below W.heap.size W w') := hi
  obtain ⟨z, hz⟩ : ∃ z, z = (0 : Int) := ⟨_, rfl⟩
  rw [← hz]
  have HZ : Hid (z = ce false 0 0) := hz
  clear hi hz
  go_enter Tryz.func64, Tryz.ntmps64
  go_wp2_with fail
  obtain ⟨W0, hW0⟩ : ∃ W0, W0 = ((w.alloc (.cells #[.bool s, .slice p m c] 28)).alloc (.cells #[.bool false, .slice none 0 0] 28)) := ⟨_, rfl⟩
  have Xx : Hid (Box W0 (w.heap.size) (.bool s) (.slice p m c)) := by rw [hW0]; exact ⟨by go_simp, by go_simp, by go_simp, by go_simp⟩
  have Xr : Hid (Box W0 (w.heap.size + 1) (.bool false) (.slice none 0 0)) := by rw [hW0]; exact ⟨by go_simp, by go_simp, by go_simp, by go_simp⟩
  have hb0 : Below w.heap.size w W0 := by rw [hW0]; exact below2 w _ _
  rw [← hW0]
  clear hW0
  have hbw : Below w.heap.size w w := Below.refl _ _
  obtain ⟨gr, hgr⟩ : ∃ g, g = w.heap.size + 1 := ⟨_, rfl⟩
  have HGr : Hid (w.heap.size ≤ gr) := by rw [hgr]; show _ ≤ _; omega
  rw [← hgr] at Xr
  try rw [← hgr]
  obtain ⟨gx, hgx⟩ : ∃ g, g = w.heap.size := ⟨_, rfl⟩
  have HGx : Hid (w.heap.size ≤ gx) := by rw [hgx]; show _ ≤ _; omega
  rw [← hgx] at Xx
  try rw [← hgx]
  have HGD : Hid (gx ≠ gr ∧ gr ≠ gx) := by rw [hgx, hgr]; exact ⟨by omega, by omega⟩
  clear hgx hgr
  replace hbw := Below.on hbw hb0
  clear hb0
  have HSZ : Hid (GeW W0.heap.size W0) := Nat.le_refl _
  have HRL : Hid (gr < W0.heap.size ∧ w.heap.size ≤ W0.heap.size) := ⟨Xr.out.lt, hbw.size⟩
  refine (HI.out W0 hbw).mono ?_
  rintro e w2 ⟨rfl, hb2⟩
  replace Xx : Hid _ := Xx.out.below hb2
  replace Xr : Hid _ := Xr.out.below hb2
  replace HSZ : Hid (GeW W0.heap.size w2) := HSZ.out.below hb2
  replace hbw := Below.on hbw hb2
  clear hb2
  have HF : Hid (FrIs W0.heap.size w2 false 0 0 none 0 [] false 0) := ⟨⟨rfl, Dig.nil _, .inl rfl⟩, Nf.nil _, by omega, rfl, .inr (.inl ⟨rfl, rfl⟩), small_lim (by decide)⟩
  obtain ⟨cr0, cr1, fr0, fr1⟩ := Xr.out
  have hner := Xr.out.lt
  go_wp2_with fail
  clear cr0 cr1 fr0 fr1 hner
  have Xf0 : Hid (B4q (w2.alloc (.cells #[.bool false, .slice none 0 0, .bool false, .int .i64 0] 59)) w2.heap.size (.bool false) (.slice none 0 0) (.bool false) (.int .i64 0)) := B4q.new w2 _ _ _ _ _
  have hbn : Below w2.heap.size w2 (w2.alloc (.cells #[.bool false, .slice none 0 0, .bool false, .int .i64 0] 59)) := below1 w2 _
  generalize w2.alloc (.cells #[.bool false, .slice none 0 0, .bool false, .int .i64 0] 59) = W3 at *
  have HGf : Hid (w.heap.size ≤ w2.heap.size) := hbw.size
  replace Xx : Hid _ := Xx.out.below hbn
  replace Xr : Hid _ := Xr.out.below hbn
  replace HSZ : Hid (GeW W0.heap.size W3) := HSZ.out.below hbn
  replace HF : Hid _ := HF.out.below hbn
  replace hbw := Below.on hbw hbn
  clear hbn
  generalize w2.heap.size = gf at *
  have Xf := Xf0
  clear Xf0
  have hBs : W0.heap.size ≤ W3.heap.size := HSZ.out
  refine (ceil_any false false 0 HF.out hBs).mono ?_
  rintro e w4 ⟨v, rfl, hv, hb4⟩
  clear hBs
  rw [← HZ.out] at hv
  obtain ⟨p4, m4, z4, rfl, ho, hn, hm⟩ := hv
  replace Xx : Hid _ := Xx.out.below hb4
  replace Xr : Hid _ := Xr.out.below hb4
  replace Xf : Hid _ := Xf.out.below hb4
  replace HSZ : Hid (GeW W0.heap.size w4) := HSZ.out.below hb4
  replace HF : Hid _ := HF.out.below hb4
  replace hbw := Below.on hbw hb4
  clear hb4
  have HO4 : Hid (Own W0.heap.size w4 p4 m4 z4) := ho
  have HN4 : Hid (Nf B64 z4 z.natAbs ∧ m4 ≤ 8192) := ⟨hn, hm⟩
  clear ho hn hm
  obtain ⟨b9, hb9⟩ : ∃ b, b = decide (z < 0) := ⟨_, rfl⟩
  rw [← hb9]
  have HB9 : Hid (b9 = decide (z < 0)) := hb9
  clear hb9
  obtain ⟨cr0, cr1, fr0, fr1⟩ := Xr.out
  have hner := Xr.out.lt
  go_wp2_with fail
  refine bodyPost_ret (v := .tuple #[ZV b9 p4 m4 m4, .int .i64 er]) (by rw [results_cell_tmp rfl]; go_simp) rfl ⟨_, rfl, ⟨p4, m4, z4, by rw [HB9.out], ?_, HN4.out.1, HN4.out.2⟩, ?_⟩
  · exact own_set2 HO4.out HRL.out.1 HRL.out.2 _ _
  · exact bSet (bSet hbw _ _ _ HGr.out) _ _ _ HGr.out
set_option maxRecDepth 20000 in
set_option maxHeartbeats 4000000 in
theorem rshr_err {p : Option Addr} {m c : Nat} {s : Bool} {n : Int} {w : World} (er : Int) (hi : ∀ W, Below w.heap.size w W → Calls Tryz.prog 39 #[ZV s p m c, .int .i64 n] W fun e w' => e = .returned (.tuple #[FR false none 0 0 false 0, .int .i64 er]) ∧ Below W.heap.size W w') :
    Calls Tryz.prog 18 #[ZV s p m c, .int .i64 n] w fun e w' => ∃ v, e = .returned (.tuple #[v, .int .i64 er]) ∧ AnsZ w.heap.size w' v 0 ∧ Below w.heap.size w w' := by
  have HI : Hid (∀ W, Below w.heap.size w W → Calls Tryz.prog 39 #[ZV s p m c, .int .i64 n] W fun e w' => e = .returned (.tuple #[FR false none 0 0 false 0, .int .i64 er]) ∧ Below W.heap.size W w') := hi
  obtain ⟨z, hz⟩ : ∃ z, z = (0 : Int) := ⟨_, rfl⟩
  rw [← hz]
  have HZ : Hid (z = ne false 0 0) := hz
  clear hi hz
  go_enter Tryz.func18, Tryz.ntmps18
  go_wp2_with fail
  obtain ⟨W0, hW0⟩ : ∃ W0, W0 = ((w.alloc (.cells #[.bool s, .slice p m c] 28)).alloc (.cells #[.bool false, .slice none 0 0] 28)) := ⟨_, rfl⟩
  have Xx : Hid (Box W0 (w.heap.size) (.bool s) (.slice p m c)) := by rw [hW0]; exact ⟨by go_simp, by go_simp, by go_simp, by go_simp⟩
  have Xr : Hid (Box W0 (w.heap.size + 1) (.bool false) (.slice none 0 0)) := by rw [hW0]; exact ⟨by go_simp, by go_simp, by go_simp, by go_simp⟩
  have hb0 : Below w.heap.size w W0 := by rw [hW0]; exact below2 w _ _
  rw [← hW0]
  clear hW0
  have hbw : Below w.heap.size w w := Below.refl _ _
  obtain ⟨gr, hgr⟩ : ∃ g, g = w.heap.size + 1 := ⟨_, rfl⟩
  have HGr : Hid (w.heap.size ≤ gr) := by rw [hgr]; show _ ≤ _; omega
  rw [← hgr] at Xr
  try rw [← hgr]
  obtain ⟨gx, hgx⟩ : ∃ g, g = w.heap.size := ⟨_, rfl⟩
  have HGx : Hid (w.heap.size ≤ gx) := by rw [hgx]; show _ ≤ _; omega
  rw [← hgx] at Xx
  try rw [← hgx]
  have HGD : Hid (gx ≠ gr ∧ gr ≠ gx) := by rw [hgx, hgr]; exact ⟨by omega, by omega⟩
  clear hgx hgr
  replace hbw := Below.on hbw hb0
  clear hb0
  have HSZ : Hid (GeW W0.heap.size W0) := Nat.le_refl _
  have HRL : Hid (gr < W0.heap.size ∧ w.heap.size ≤ W0.heap.size) := ⟨Xr.out.lt, hbw.size⟩
  refine (HI.out W0 hbw).mono ?_
  rintro e w2 ⟨rfl, hb2⟩
  replace Xx : Hid _ := Xx.out.below hb2
  replace Xr : Hid _ := Xr.out.below hb2
  replace HSZ : Hid (GeW W0.heap.size w2) := HSZ.out.below hb2
  replace hbw := Below.on hbw hb2
  clear hb2
  have HF : Hid (FrIs W0.heap.size w2 false 0 0 none 0 [] false 0) := ⟨⟨rfl, Dig.nil _, .inl rfl⟩, Nf.nil _, by omega, rfl, .inr (.inl ⟨rfl, rfl⟩), small_lim (by decide)⟩
  obtain ⟨cr0, cr1, fr0, fr1⟩ := Xr.out
  have hner := Xr.out.lt
  go_wp2_with fail
  clear cr0 cr1 fr0 fr1 hner
  have Xf0 : Hid (B4q (w2.alloc (.cells #[.bool false, .slice none 0 0, .bool false, .int .i64 0] 59)) w2.heap.size (.bool false) (.slice none 0 0) (.bool false) (.int .i64 0)) := B4q.new w2 _ _ _ _ _
  have hbn : Below w2.heap.size w2 (w2.alloc (.cells #[.bool false, .slice none 0 0, .bool false, .int .i64 0] 59)) := below1 w2 _
  generalize w2.alloc (.cells #[.bool false, .slice none 0 0, .bool false, .int .i64 0] 59) = W3 at *
  have HGf : Hid (w.heap.size ≤ w2.heap.size) := hbw.size
  replace Xx : Hid _ := Xx.out.below hbn
  replace Xr : Hid _ := Xr.out.below hbn
  replace HSZ : Hid (GeW W0.heap.size W3) := HSZ.out.below hbn
  replace HF : Hid _ := HF.out.below hbn
  replace hbw := Below.on hbw hbn
  clear hbn
  generalize w2.heap.size = gf at *
  have Xf := Xf0
  clear Xf0
  refine (near_zero W3).mono ?_
  rintro e w4 ⟨rfl, hb4⟩
  replace Xx : Hid _ := Xx.out.below hb4
  replace Xr : Hid _ := Xr.out.below hb4
  replace Xf : Hid _ := Xf.out.below hb4
  replace HSZ : Hid (GeW W0.heap.size w4) := HSZ.out.below hb4
  replace HF : Hid _ := HF.out.below hb4
  replace hbw := Below.on hbw hb4
  clear hb4
  obtain ⟨cr0, cr1, fr0, fr1⟩ := Xr.out
  have hner := Xr.out.lt
  go_wp2_with fail
  refine bodyPost_ret (v := .tuple #[ZV false none 0 0, .int .i64 er]) (by rw [results_cell_tmp rfl]; go_simp) rfl ⟨_, rfl, ?_, ?_⟩
  · rw [HZ.out]
    exact ansz_none _ _
  · exact bSet (bSet hbw _ _ _ HGr.out) _ _ _ HGr.out
end Go.Proofs.YtgodajcnhipleaaGreatDoor

namespace Go.Proofs.YtgodajcnhipleaaGreatDoor
open Go.RowKit Go.Shelf

end Go.Proofs.YtgodajcnhipleaaGreatDoor

namespace Go.Proofs.YtgodajcnhipleaaGreatDoor
open Go.RowKit Go.Shelf

theorem Own.newAt {B : Nat} {w : World} {p : Option Addr} {m : Nat} {zs : List Nat} (h : Own B w p m zs) (hm : m ≤ 8192) : NewAt B w p m m zs :=
  ⟨h.at_ hm, h.mem.imp id fun ⟨g, e, hg, _⟩ => ⟨g, e, hg⟩⟩
theorem NewAt.none_ (B : Nat) (w : World) : NewAt B w none 0 0 [] := ⟨At.empty _ none 0 (by decide), .inl rfl⟩
theorem AnsI.docZ {B : Nat} {w' : World} {e : Ending} {z : Int} (h : AnsI B w' e z) : ∃ s' p' m' c' us er, e = .returned (.tuple #[ZV s' p' m' c', .int .i64 er]) ∧ NewAt B w' p' m' c' us ∧ DocZ z s' us er := by
  rcases h with ⟨hl, p, m, zs, rfl, ho, hn, hm⟩ | ⟨hl, rfl⟩
  · exact ⟨_, p, m, m, zs, 0, rfl, ho.newAt hm, .inl ⟨hl, rfl, hn, rfl⟩⟩
  · exact ⟨false, none, 0, 0, [], 5, rfl, NewAt.none_ _ _, .inr ⟨hl, rfl, rfl, rfl⟩⟩
end Go.Proofs.YtgodajcnhipleaaGreatDoor

namespace Go.Proofs.YtgodajcnhipleaaGreatDoor
open Go.RowKit Go.Shelf

theorem B6q.lt {w : World} {g : Nat} {a b c d e f : Value} (h : B6q w g a b c d e f) : g < w.heap.size := World.block_lt_of_cell? w _ h.c0
def Off (p : Option Addr) (m g : Nat) : Prop := m = 0 ∨ ∃ g' off, p = some ⟨g', off, none⟩ ∧ g' ≠ g
theorem At.off_new {w : World} {p : Option Addr} {m c : Nat} {us : List Nat} (h : At w p m c us) : Off p m w.heap.size := by
  rcases Nat.eq_zero_or_pos m with e | e
  · exact .inl e
  · rcases h.cells with h0 | ⟨g, off, rfl, hc⟩
    · exact .inl h0
    · have := World.block_lt_of_cell? w _ (hc 0 e)
      exact .inr ⟨g, off, rfl, Nat.ne_of_lt this⟩
theorem NewAt.off {B : Nat} {w : World} {p : Option Addr} {m c : Nat} {us : List Nat} (h : NewAt B w p m c us) {g : Nat} (hg : g < B) : Off p m g :=
  h.2.imp id fun ⟨g', e, k⟩ => ⟨g', 0, e, by omega⟩
theorem At.setOff {w : World} {p : Option Addr} {m c : Nat} {us : List Nat} (h : At w p m c us) {g : Nat} (hf : Off p m g) (o : Nat) (v : Value) : At (w.setCell ⟨g, o, none⟩ v) p m c us := by
  rcases hf with h0 | ⟨g', off, rfl, hg⟩
  · subst h0
    obtain rfl : us = [] := List.eq_nil_of_length_eq_zero h.len
    exact At.empty _ _ _ h.big
  · exact h.setOther _ _ _ hg

end Go.Proofs.YtgodajcnhipleaaGreatDoor

namespace Go.Proofs.YtgodajcnhipleaaGreatDoor
open Go.RowKit Go.Shelf

def rShl (x : Int) (k : Nat) : Int := x * 2 ^ k
def rFs (x : Int) (k : Nat) : Int := fl (decide (x < 0)) x.natAbs (2 ^ k)
def rCs (x : Int) (k : Nat) : Int := ce (decide (x < 0)) x.natAbs (2 ^ k)
def rNs (x : Int) (k : Nat) : Int := ne (decide (x < 0)) x.natAbs (2 ^ k)
def rFd (x y : Int) : Int := fl (decide (x < 0) != decide (y < 0)) x.natAbs y.natAbs
def rNd (x y : Int) : Int := ne (decide (x < 0) != decide (y < 0)) x.natAbs y.natAbs
def rMo (x y : Int) : Int := mo (decide (x < 0)) (decide (y < 0)) x.natAbs y.natAbs
def ShiftZ (r : Int → Nat → Int) (sx : Bool) (xs : List Nat) (n : Int) (s : Bool) (us : List Nat) (er : Int) : Prop :=
  (n < 0 ∧ s = false ∧ us = [] ∧ er = 1) ∨ (0 ≤ n ∧ formZ sx xs = false ∧ s = false ∧ us = [] ∧ er = 2) ∨ (0 ≤ n ∧ formZ sx xs = true ∧ DocZ (r (iv sx (valB B64 xs)) n.toNat) s us er)
theorem ShiftZ.inj {r : Int → Nat → Int} {sx : Bool} {xs : List Nat} {n : Int} {s s' : Bool} {us us' : List Nat} {er er' : Int} (h : ShiftZ r sx xs n s us er) (k : ShiftZ r sx xs n s' us' er') : s = s' ∧ us = us' ∧ er = er' := by
  rcases h with ⟨h0, rfl, rfl, rfl⟩ | ⟨h0, h1, rfl, rfl, rfl⟩ | ⟨h0, h1, h2⟩ <;> rcases k with ⟨k0, rfl, rfl, rfl⟩ | ⟨k0, k1, rfl, rfl, rfl⟩ | ⟨k0, k1, k2⟩
  · exact ⟨rfl, rfl, rfl⟩
  · omega
  · omega
  · omega
  · exact ⟨rfl, rfl, rfl⟩
  · rw [h1] at k1; cases k1
  · omega
  · rw [h1] at k1; cases k1
  · exact h2.inj k2
def DivZ (r : Int → Int → Int) (sx : Bool) (xs : List Nat) (sy : Bool) (ys : List Nat) (s : Bool) (us : List Nat) (er : Int) : Prop :=
  ((formZ sx xs && formZ sy ys) = false ∧ s = false ∧ us = [] ∧ er = 2) ∨ ((formZ sx xs && formZ sy ys) = true ∧ iv sy (valB B64 ys) = 0 ∧ s = false ∧ us = [] ∧ er = 4) ∨ ((formZ sx xs && formZ sy ys) = true ∧ iv sy (valB B64 ys) ≠ 0 ∧ DocZ (r (iv sx (valB B64 xs)) (iv sy (valB B64 ys))) s us er)
theorem DivZ.inj {r : Int → Int → Int} {sx sy : Bool} {xs ys : List Nat} {s s' : Bool} {us us' : List Nat} {er er' : Int} (h : DivZ r sx xs sy ys s us er) (k : DivZ r sx xs sy ys s' us' er') : s = s' ∧ us = us' ∧ er = er' := by
  rcases h with ⟨h0, rfl, rfl, rfl⟩ | ⟨h0, h1, rfl, rfl, rfl⟩ | ⟨h0, h1, h2⟩ <;> rcases k with ⟨k0, rfl, rfl, rfl⟩ | ⟨k0, k1, rfl, rfl, rfl⟩ | ⟨k0, k1, k2⟩
  · exact ⟨rfl, rfl, rfl⟩
  · rw [h0] at k0; cases k0
  · rw [h0] at k0; cases k0
  · rw [h0] at k0; cases k0
  · exact ⟨rfl, rfl, rfl⟩
  · exact absurd h1 k1
  · rw [h0] at k0; cases k0
  · exact absurd k1 h1
  · exact h2.inj k2
theorem AnsZ.docZ {B : Nat} {w' : World} {v : Value} {z : Int} (h : AnsZ B w' v z) : ∃ s p m us, v = ZV s p m m ∧ NewAt B w' p m m us ∧ DocZ z s us 0 := by
  obtain ⟨p, m, zs, rfl, ho, hn, hm⟩ := h
  exact ⟨_, p, m, zs, rfl, ho.newAt hm, .inl ⟨hn.lim.1 (by rw [ho.len]; exact hm), rfl, hn, rfl⟩⟩
theorem AnsZ.none_ {B : Nat} {w' : World} {v : Value} (h : AnsZ B w' v 0) : ∃ p m, v = ZV false p m m ∧ NewAt B w' p m m [] := by
  obtain ⟨p, m, zs, rfl, ho, hn, hm⟩ := h
  obtain rfl : zs = [] := (hn.zero_iff B64_one).2 rfl
  exact ⟨p, m, rfl, ho.newAt hm⟩
theorem sg_iv {s : Bool} {a : Nat} (h : s = true → 0 < a) : decide (iv s a < 0) = s := by
  rw [iv_lt]
  cases s
  · rfl
  · rw [decide_eq_true (h rfl)]; rfl
theorem nshl4 {p : Option Addr} {m c : Nat} {xs : List Nat} {w : World} (s : Bool) (h : At w p m c xs) (n : Int) (hn1 : n ≤ 9223372036854775807) :
    Calls Tryz.prog 62 #[ZV s p m c, .int .i64 n] w fun e w' => ∃ s' p' m' c' us er, e = .returned (.tuple #[ZV s' p' m' c', .int .i64 er]) ∧ NewAt w.heap.size w' p' m' c' us ∧ ShiftZ rShl s xs n s' us er ∧ Below w.heap.size w w' := by
  by_cases hn : n < 0
  · exact (nshl_neg s h n hn).mono fun e w' ⟨he, hb⟩ => ⟨false, none, 0, 0, [], 1, he, NewAt.none_ _ _, .inl ⟨hn, rfl, rfl, rfl⟩, hb⟩
  · have hn0 : 0 ≤ n := by omega
    cases hf : formZ s xs
    · exact (nshl_bad s h n hf hn0).mono fun e w' ⟨he, hb⟩ => ⟨false, none, 0, 0, [], 2, he, NewAt.none_ _ _, .inr (.inl ⟨hn0, hf, rfl, rfl, rfl⟩), hb⟩
    · have hx := formZ_num h hf
      obtain ⟨k, rfl⟩ := Int.eq_ofNat_of_zero_le hn0
      refine (zshl (ZN.of hx.1 hx.2) k (by omega)).mono fun e w' ⟨ha, hb⟩ => ?_
      obtain ⟨s', p', m', c', us, er, he, hA, hD⟩ := ha.docZ
      exact ⟨s', p', m', c', us, er, he, hA, .inr (.inr ⟨hn0, hf, hD⟩), hb⟩
theorem nfshr4 {p : Option Addr} {m c : Nat} {xs : List Nat} {w : World} (s : Bool) (h : At w p m c xs) (n : Int) (hn1 : n ≤ 9223372036854775807) (hT : Tab w) :
    Calls Tryz.prog 63 #[ZV s p m c, .int .i64 n] w fun e w' => ∃ s' p' m' c' us er, e = .returned (.tuple #[ZV s' p' m' c', .int .i64 er]) ∧ NewAt w.heap.size w' p' m' c' us ∧ ShiftZ rFs s xs n s' us er ∧ Below w.heap.size w w' := by
  by_cases hn : n < 0
  · refine (fshr_err 1 (fun W _ => shifted_neg s p m c n hn W)).mono fun e w' ⟨v, he, hv, hb⟩ => ?_
    obtain ⟨p', m', rfl, hA⟩ := hv.none_
    exact ⟨false, p', m', m', [], 1, he, hA, .inl ⟨hn, rfl, rfl, rfl⟩, hb⟩
  · have hn0 : 0 ≤ n := by omega
    cases hf : formZ s xs
    · refine (fshr_err 2 (fun W hb => shifted_bad s (h.below hb) hf n hn0)).mono fun e w' ⟨v, he, hv, hb⟩ => ?_
      obtain ⟨p', m', rfl, hA⟩ := hv.none_
      exact ⟨false, p', m', m', [], 2, he, hA, .inr (.inl ⟨hn0, hf, rfl, rfl, rfl⟩), hb⟩
    · have hx := formZ_num h hf
      obtain ⟨k, rfl⟩ := Int.eq_ofNat_of_zero_le hn0
      refine (fshr_any s hx.1 hx.2 k (by omega) hT).mono fun e w' ⟨v, he, hv, hb⟩ => ?_
      obtain ⟨s', p', m', us, rfl, hA, hD⟩ := hv.docZ
      refine ⟨s', p', m', m', us, 0, he, hA, .inr (.inr ⟨hn0, hf, ?_⟩), hb⟩
      unfold rFs
      rw [sg_iv hx.2, iv_natAbs]
      exact hD
theorem ncshr4 {p : Option Addr} {m c : Nat} {xs : List Nat} {w : World} (s : Bool) (h : At w p m c xs) (n : Int) (hn1 : n ≤ 9223372036854775807) (hT : Tab w) :
    Calls Tryz.prog 64 #[ZV s p m c, .int .i64 n] w fun e w' => ∃ s' p' m' c' us er, e = .returned (.tuple #[ZV s' p' m' c', .int .i64 er]) ∧ NewAt w.heap.size w' p' m' c' us ∧ ShiftZ rCs s xs n s' us er ∧ Below w.heap.size w w' := by
  by_cases hn : n < 0
  · refine (cshr_err 1 (fun W _ => shifted_neg s p m c n hn W)).mono fun e w' ⟨v, he, hv, hb⟩ => ?_
    obtain ⟨p', m', rfl, hA⟩ := hv.none_
    exact ⟨false, p', m', m', [], 1, he, hA, .inl ⟨hn, rfl, rfl, rfl⟩, hb⟩
  · have hn0 : 0 ≤ n := by omega
    cases hf : formZ s xs
    · refine (cshr_err 2 (fun W hb => shifted_bad s (h.below hb) hf n hn0)).mono fun e w' ⟨v, he, hv, hb⟩ => ?_
      obtain ⟨p', m', rfl, hA⟩ := hv.none_
      exact ⟨false, p', m', m', [], 2, he, hA, .inr (.inl ⟨hn0, hf, rfl, rfl, rfl⟩), hb⟩
    · have hx := formZ_num h hf
      obtain ⟨k, rfl⟩ := Int.eq_ofNat_of_zero_le hn0
      refine (cshr_any s hx.1 hx.2 k (by omega) hT).mono fun e w' ⟨v, he, hv, hb⟩ => ?_
      obtain ⟨s', p', m', us, rfl, hA, hD⟩ := hv.docZ
      refine ⟨s', p', m', m', us, 0, he, hA, .inr (.inr ⟨hn0, hf, ?_⟩), hb⟩
      unfold rCs
      rw [sg_iv hx.2, iv_natAbs]
      exact hD
theorem nrshr4 {p : Option Addr} {m c : Nat} {xs : List Nat} {w : World} (s : Bool) (h : At w p m c xs) (n : Int) (hn1 : n ≤ 9223372036854775807) (hT : Tab w) :
    Calls Tryz.prog 18 #[ZV s p m c, .int .i64 n] w fun e w' => ∃ s' p' m' c' us er, e = .returned (.tuple #[ZV s' p' m' c', .int .i64 er]) ∧ NewAt w.heap.size w' p' m' c' us ∧ ShiftZ rNs s xs n s' us er ∧ Below w.heap.size w w' := by
  by_cases hn : n < 0
  · refine (rshr_err 1 (fun W _ => shifted_neg s p m c n hn W)).mono fun e w' ⟨v, he, hv, hb⟩ => ?_
    obtain ⟨p', m', rfl, hA⟩ := hv.none_
    exact ⟨false, p', m', m', [], 1, he, hA, .inl ⟨hn, rfl, rfl, rfl⟩, hb⟩
  · have hn0 : 0 ≤ n := by omega
    cases hf : formZ s xs
    · refine (rshr_err 2 (fun W hb => shifted_bad s (h.below hb) hf n hn0)).mono fun e w' ⟨v, he, hv, hb⟩ => ?_
      obtain ⟨p', m', rfl, hA⟩ := hv.none_
      exact ⟨false, p', m', m', [], 2, he, hA, .inr (.inl ⟨hn0, hf, rfl, rfl, rfl⟩), hb⟩
    · have hx := formZ_num h hf
      obtain ⟨k, rfl⟩ := Int.eq_ofNat_of_zero_le hn0
      refine (rshr_any s hx.1 hx.2 k (by omega) hT).mono fun e w' ⟨v, he, hv, hb⟩ => ?_
      obtain ⟨s', p', m', us, rfl, hA, hD⟩ := hv.docZ
      refine ⟨s', p', m', m', us, 0, he, hA, .inr (.inr ⟨hn0, hf, ?_⟩), hb⟩
      unfold rNs
      rw [sg_iv hx.2, iv_natAbs]
      exact hD
end Go.Proofs.YtgodajcnhipleaaGreatDoor

