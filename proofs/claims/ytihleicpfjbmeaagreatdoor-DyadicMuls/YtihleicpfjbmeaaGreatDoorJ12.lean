import Derived.Test.YtihleicpfjbmeaaGreatDoorJ11
import Derived.Deep.RegionWith
import Derived.Test.YtihleicpfjbmeaaGreatDoorJ9
import Derived.Laws.EntriesVeiled
import Derived.Test.YtihleicpfjbmeaaGreatDoorSmall
import Derived.Deep.LoopGhost
import Derived.Test.YtihleicpfjbmeaaGreatDoorJ8
import Derived.Test.YtihleicpfjbmeaaGreatDoorJ10
namespace Go.Proofs.YtihleicpfjbmeaaGreatDoor
open Go.RowKit Go.Shelf
set_option maxRecDepth 20000
set_option maxHeartbeats 0
theorem At32.dropq {w : World} {g off n c : Nat} {xs : List Nat} (h : At32 w (some ⟨g, off, none⟩) n c xs) (k : Nat) (hk : k < n) : At32 w (some ⟨g, off + k, none⟩) (n - k) (c - k) (xs.drop k) := by
  refine ⟨by rw [List.length_drop, h.len], by have := h.cap; omega, by have := h.big; unfold maxLen at *; omega, h.dig.drop k, .inr ⟨g, off + k, rfl, fun j hj => ?_⟩⟩
  rcases h.cells with h0 | ⟨g', off', he, hc⟩
  · omega
  · simp only [Option.some.injEq, Addr.mk.injEq, and_true] at he
    obtain ⟨rfl, rfl⟩ := he
    have := hc (k + j) (by omega)
    rw [Nat.add_assoc, this]
    congr 2
    simp [List.getD_eq_getElem?_getD, List.getElem?_drop]
theorem drop_div32q {xs : List Nat} {v k : Nat} (hx : Nf B32 xs v) (hk : k ≤ xs.length) : valB B32 (xs.drop k) = v / B32 ^ k := by
  have h1 := valB_split B32 xs k hk
  have h2 := valB_lt B32_pos (hx.dig.take k)
  rw [List.length_take, Nat.min_eq_left hk] at h2
  rw [← hx.val, h1, Nat.add_mul_div_left _ _ (Nat.pow_pos B32_pos), Nat.div_eq_of_lt h2, Nat.zero_add]

theorem rfshr_any {p : Option Addr} {n c : Nat} {xs : List Nat} {v : Nat} {w : World} (h : At32 w p n c xs) (hx : Nf B32 xs v) (hn : n ≤ 16384) (N : Nat) (hN : 1 ≤ N) (hN2 : N ≤ 9223372036854775807) :
    Calls Tryz.prog 68 #[.slice p n c, .int .i64 N] w fun e w' => ∃ p' m' zs, e = .returned (.slice p' m' m') ∧ At32 w' p' m' m' zs ∧ Nf B32 zs (v / 2 ^ N) ∧ m' ≤ n ∧ Below w.heap.size w w' := by
  have HX : Hid (Nf B32 xs v) := hx
  have hl := h.len
  have cap := h.cap
  have big := h.big
  unfold maxLen at big
  obtain ⟨D, hD⟩ : ∃ D, D = N / 32 := ⟨_, rfl⟩
  obtain ⟨R, hR⟩ : ∃ R, R = N % 32 := ⟨_, rfl⟩
  have d1 : (N : Int).tdiv 32 = (D : Int) := by rw [Int.tdiv_eq_ediv_of_nonneg (by omega)]; omega
  have d2 : (N : Int).tmod 32 = (R : Int) := by rw [Int.tmod_eq_emod_of_nonneg (by omega)]; omega
  have hNp : ¬ (N : Int) ≤ 0 := by omega
  have hN0 : ¬ N = 0 := by omega
  have hR32 : R < 32 := by omega
  have hDb : D ≤ 288230376151711743 := by omega
  have hwD : IntKind.i64.wrap (D : Int) = (D : Int) := by simp [IntKind.wrap, IntKind.signed, IntKind.bits]; omega
  have HD : Hid (2 ^ N = B32 ^ D * 2 ^ R) := by show _ = _; rw [show B32 = 2 ^ 32 from rfl, ← Nat.pow_mul, ← Nat.pow_add]; congr 1; omega
  have HLX : Hid (xs.length = n) := hl
  clear hx hD hR hl
  by_cases hc : n ≤ D
  · have hci : (n : Int) ≤ (D : Int) := by omega
    have hcb : decide (n ≤ D) = true := decide_eq_true hc
    have HZ : Hid (v / 2 ^ N = 0) := by
      show _ = _
      rw [HD.out]
      refine Nat.div_eq_of_lt ?_
      have h1 := nf32_lt HX.out (K := D) (by rw [HLX.out]; exact hc)
      exact Nat.lt_of_lt_of_le h1 (Nat.le_mul_of_pos_right _ (Nat.pow_pos (by decide)))
    clear h
    go_enter Tryz.func68, Tryz.ntmps68
    go_wp2_with fail
    refine (rword0 w).mono ?_
    rintro e w1 ⟨g, rfl, hb⟩
    go_wp2_with fail
    go_ret
    exact ⟨_, 0, [], rfl, At32.empty _ _ 0 (by decide), by rw [HZ.out]; exact nf32_nilq, by omega, hb⟩
  · have hci : ¬ (n : Int) ≤ (D : Int) := by omega
    have hcb : decide (n ≤ D) = false := decide_eq_false hc
    have hDn : D < n := by omega
    have hDc : D < c := by omega
    have hDc2 : D ≤ c := by omega
    have hcD : ¬ c = D := by omega
    have hDn2 : D ≤ n := by omega
    obtain ⟨g, off, rfl, hcs⟩ := h.cells.resolve_left (by omega)
    have A1 : Hid (At32 w (some ⟨g, off + D, none⟩) (n - D) (c - D) (xs.drop D)) := h.dropq D hDn
    obtain ⟨d, hd⟩ : ∃ d, d = 2 ^ R := ⟨_, rfl⟩
    have hd1 : 1 ≤ d := by rw [hd]; exact Nat.pow_pos (by decide)
    have hdB : d < B32 := by rw [hd, show B32 = 2 ^ 32 from rfl]; exact Nat.pow_lt_pow_right (by decide) hR32
    have hdw : IntKind.u32.wrap (d : Int) = (d : Int) := wrap32 d hdB
    have hdI : (2 : Int) ^ R = (d : Int) := by rw [hd]; norm_cast
    have HV : Hid (valB B32 (xs.drop D) / d = v / 2 ^ N) := by
      show _ = _
      rw [HD.out, hd, drop_div32q HX.out (by rw [HLX.out]; omega), Nat.div_div_eq_div_mul]
    have A1d : Hid (At32 w.drew (some ⟨g, off + D, none⟩) (n - D) (c - D) (xs.drop D)) := A1.out.drewN 1
    have hbd : Below w.heap.size w w.drew := bDrew (Below.refl _ _)
    have HDD : Hid (1 ≤ d ∧ d < B32) := ⟨hd1, hdB⟩
    clear h hcs A1 hd hd1 hdB
    go_enter Tryz.func68, Tryz.ntmps68
    go_wp2_with fail
    (go_region_with (go_at_call 111; refine (rdivsmall A1d.out (by omega) d HDD.out.1 HDD.out.2).mono ?_; rintro e w1 ⟨p1, m1, z1, r1, rfl, hA1, hN1, hm1, hb1⟩; have A2 : Hid (At32 w1 p1 m1 m1 z1) := hA1; have N2 : Hid (Nf B32 z1 (v / 2 ^ N)) := (by rw [HV.out] at hN1; exact hN1); have hbw : Below w.heap.size w w1 := Below.on hbd hb1; have hm1' : m1 ≤ n := (by omega); clear hA1 hN1 hb1))
    all_goals
      (go_wp2_with fail
       go_ret
       exact ⟨p1, m1, z1, rfl, A2.out, N2.out, hm1', hbw⟩)
theorem rshr_0 {p : Option Addr} {n c : Nat} {xs : List Nat} {v : Nat} {w : World} (h : At32 w p n c xs) (hx : Nf B32 xs v) (hn : n ≤ 16384) :
    Calls Tryz.prog 68 #[.slice p n c, .int .i64 0] w fun e w' => ∃ g, e = .returned (.slice (some ⟨g, 0, none⟩) n n) ∧ At32 w' (some ⟨g, 0, none⟩) n n xs ∧ Below w.heap.size w w' := by
  have H : Hid (At32 w p n c xs) := h
  have HX : Hid (Nf B32 xs v) := hx
  have HN : Hid (n ≤ 16384) := hn
  have HL : Hid (xs.length = n) := h.len
  clear h hx hn
  go_enter Tryz.func68, Tryz.ntmps68
  go_wp2_with fail
  refine (rnorm_any H.out (by have := HN.out; omega)).mono ?_
  rintro e w1 ⟨g, rfl, hg, hblk, hb⟩
  rw [trimL_of_Top HX.out.top] at hblk ⊢
  rw [HL.out]
  have HB : Hid (At32 w1 (some ⟨g, 0, none⟩) n n xs) := hblk.at_ HX.out.dig HL.out (by unfold maxLen; have := HN.out; omega)
  clear hblk hg
  go_wp2_with fail
  go_ret
  exact ⟨g, rfl, HB.out, hb⟩
theorem told5 {p : Option Addr} {m : Nat} {w : World} {z e : Int} (s : Bool) (h : ZR w s p m z) (hz : z % 2 = 1) (hm : m ≤ 8000) (he : -1048576 ≤ e ∧ e ≤ 1048576) :
    Calls Tryz.prog 42 #[.agg #[.bool s, .slice p m m], .int .i64 e] w fun en w' => ∃ g m' c', en = .returned (.tuple #[DV s (some ⟨g, 0, none⟩) m' c' e, .int .i64 0]) ∧ w.heap.size ≤ g ∧ DN w' s (some ⟨g, 0, none⟩) m' c' e z ∧ Below w.heap.size w w' := by
  obtain ⟨xs, hA, hN⟩ := h.ex
  have AX : Hid (At32 w p m m xs) := hA
  have NX : Hid (Nf B32 xs z.natAbs) := hN
  have HZ : Hid (z % 2 = 1 ∧ s = decide (z < 0) ∧ m ≤ 8000) := ⟨hz, h.sg, hm⟩
  have HE : Hid (-1048576 ≤ e ∧ e ≤ 1048576) := he
  have hm0 : ¬ m = 0 := fun e0 => by have := h.zero.1 e0; omega
  have hm1 : ((m : Int) == 0) = false := by simp; omega
  have g1 : ¬ 1048576 < e := by omega
  have g2 : ¬ e < -1099511627776 := by omega
  have g3 : ¬ e < -1048576 := by omega
  have g4 : ¬ (16384 : Int) < (m : Int) := by omega
  have g5 : wrap64 e = e := by simp only [wrap64]; omega
  clear h hz hm hA hN he
  go_enter Tryz.func42, Tryz.ntmps42
  go_wp2_with fail
  obtain ⟨W0, hW0⟩ : ∃ W0, W0 = ((w.alloc (.cells #[.bool s, .slice p m m] 69)).alloc (.cells #[.bool false, .slice none 0 0, .int .i64 0] 27)) := ⟨_, rfl⟩
  have Xm : Hid (Box W0 (w.heap.size) (.bool s) (.slice p m m)) := by rw [hW0]; exact ⟨by go_simp, by go_simp, by go_simp, by go_simp⟩
  have Xr : Hid (B3q W0 (w.heap.size + 1) (.bool false) (.slice none 0 0) (.int .i64 0)) := by rw [hW0]; exact ⟨by go_simp, by go_simp, by go_simp, by go_simp, by go_simp, by go_simp⟩
  have hb0 : Below w.heap.size w W0 := by rw [hW0]; exact below2 w _ _
  rw [← hW0]
  clear hW0
  have hbw : Below w.heap.size w w := Below.refl _ _
  obtain ⟨gr, hgr⟩ : ∃ g, g = w.heap.size + 1 := ⟨_, rfl⟩
  have HGr : Hid (w.heap.size ≤ gr) := by rw [hgr]; show _ ≤ _; omega
  rw [← hgr] at Xr
  try rw [← hgr]
  obtain ⟨gm, hgm⟩ : ∃ g, g = w.heap.size := ⟨_, rfl⟩
  have HGm : Hid (w.heap.size ≤ gm) := by rw [hgm]; show _ ≤ _; omega
  rw [← hgm] at Xm
  try rw [← hgm]
  have HGD : Hid (gm ≠ gr ∧ gr ≠ gm) := by rw [hgm, hgr]; exact ⟨by omega, by omega⟩
  clear hgm hgr
  replace hbw := Below.on hbw hb0
  clear hb0
  refine (rzeros_any (k := 0) (AX.out.below hbw) NX.out (by have := HZ.out; omega) ⟨by rw [Nat.pow_zero, Nat.mod_one], by rw [Nat.pow_zero, Nat.div_one]; have := HZ.out; omega⟩ (by have := HZ.out; omega)).mono ?_
  rintro e2 v1 ⟨rfl, hw⟩
  obtain rfl := hw.symm
  clear hw
  obtain ⟨cm0, cm1, fm0, fm1⟩ := Xm.out
  have hnem := Xm.out.lt
  go_wp2_with fail
  clear cm0 cm1 fm0 fm1 hnem
  refine (rshr_0 (AX.out.below hbw) NX.out (by have := HZ.out; omega)).mono ?_
  rintro e2 v3 ⟨g3, rfl, hA3, hb3⟩
  replace Xm : Hid _ := Xm.out.below hb3
  replace Xr : Hid _ := Xr.out.below hb3
  replace hbw := Below.on hbw hb3
  clear hb3
  have A3 : Hid (At32 v3 (some ⟨g3, 0, none⟩) m m xs) := hA3
  clear hA3
  obtain ⟨cm0, cm1, fm0, fm1⟩ := Xm.out
  have hnem := Xm.out.lt
  go_wp2_with fail
  clear cm0 cm1 fm0 fm1 hnem
  refine (rmk_any s A3.out NX.out (by have := HZ.out; omega)).mono ?_
  rintro e v5 ⟨v, rfl, hv, hb5⟩
  obtain ⟨s5, g5, m5, rfl, hg5, hz5, hl5⟩ := hv
  have HN5 : Hid (v3.heap.size ≤ g5) := hg5
  have HB5 : Hid (v3.heap.size ≤ v5.heap.size) := hb5.size
  replace Xm : Hid _ := Xm.out.below hb5
  replace Xr : Hid _ := Xr.out.below hb5
  replace A3 : Hid _ := A3.out.below hb5
  replace hbw := Below.on hbw hb5
  clear hb5
  have Z5 : Hid (ZR v5 s5 (some ⟨g5, 0, none⟩) m5 (iv s z.natAbs)) := hz5
  have HL5 : Hid (m5 ≤ m) := hl5
  clear hz5 hl5 hg5
  have hz5 := Z5.out.cast (show iv s z.natAbs = z from by rw [HZ.out.2.1]; exact iv_abs z)
  obtain rfl : s5 = s := by rw [hz5.sg, HZ.out.2.1]
  obtain ⟨zs, hA5, hN5⟩ := hz5.ex
  have h05 : s5 = true → 0 < m5 := fun h8 => Nat.pos_of_ne_zero fun e0 => by have := hz5.zero.1 e0; have := HZ.out.1; omega
  have HZ5 : Hid (At32 v5 (some ⟨g5, 0, none⟩) m5 m5 zs ∧ Nf B32 zs z.natAbs ∧ (s5 = true → 0 < m5) ∧ m5 ≤ m) := ⟨hA5, hN5, h05, HL5.out⟩
  clear hz5 hA5 hN5 h05 Z5
  go_wp2_with fail
  have HRL : Hid (gr < v5.heap.size ∧ w.heap.size ≤ v5.heap.size) := ⟨Xr.out.lt, hbw.size⟩
  refine (to04_any s5 HZ5.out.1 HZ5.out.2.1 (by have := HZ5.out; have := HZ.out; omega) HZ5.out.2.2.1).mono ?_
  rintro e2 v6 ⟨g6, k6, c6, us, rfl, hA6, hN6, hg6, hb6⟩
  replace Xm : Hid _ := Xm.out.below hb6
  replace Xr : Hid _ := Xr.out.below hb6
  replace A3 : Hid _ := A3.out.below hb6
  replace hbw := Below.on hbw hb6
  clear hb6
  have A6 : Hid (At v6 (some ⟨g6, 0, none⟩) k6 c6 us) := hA6
  have N6 : Hid (Nf B64 us z.natAbs ∧ gr < g6) := ⟨hN6, Nat.lt_of_lt_of_le HRL.out.1 hg6⟩
  clear hA6 hN6 hg6
  obtain ⟨cr0, cr1, cr2, fr0, fr1, fr2⟩ := Xr.out
  have hner : gr < v6.heap.size := World.block_lt_of_cell? v6 _ cr0
  go_wp2_with fail
  refine bodyPost_ret (v := .tuple #[DV s5 (some ⟨g6, 0, none⟩) k6 c6 e, .int .i64 0]) (by rw [results_cell_tmp rfl]; go_simp) rfl ⟨g6, k6, c6, rfl, Nat.le_trans HGr.out (Nat.le_of_lt N6.out.2), ⟨⟨⟨us, ?_, N6.out.1, ?_⟩, HZ.out.2.1⟩, .inr ⟨HZ.out.1, HE.out⟩⟩, ?_⟩
  · have := N6.out.2
    exact ((A6.out.setOther _ _ _ (by omega)).setOther _ _ _ (by omega)).setOther _ _ _ (by omega)
  · have h1 := (NX.out.len_le B32_one (k := m)).1 (by rw [AX.out.len]; exact Nat.le_refl _)
    have h2 := (N6.out.1.len_le B64_one (k := m)).2 (Nat.lt_of_lt_of_le h1 (Nat.pow_le_pow_left (by decide) m))
    rw [A6.out.len] at h2
    have := HZ.out
    omega
  · exact bSet (bSet (bSet hbw _ _ _ HGr.out) _ _ _ HGr.out) _ _ _ HGr.out
theorem rfrom5 {p : Option Addr} {n c : Nat} {xs : List Nat} {w : World} (s : Bool) (h : At w p n c xs) (hn : n ≤ 17592186044416) :
    Calls Tryz.prog 43 #[ZV s p n c] w fun e w' => ∃ s' p' m', e = .returned (.agg #[.bool s', .slice p' m' m']) ∧ ZR w' s' p' m' (iv s (valB B64 xs)) ∧ m' ≤ 2 * n ∧ Below w.heap.size w w' := by
  refine (from04 s h hn).mono ?_
  rintro e w1 ⟨p1, m1, z1, rfl, hA, hN, hl, hb⟩
  refine ⟨_, p1, m1, rfl, ⟨⟨z1, hA, by rw [iv_natAbs]; exact hN⟩, ?_⟩, hl, hb⟩
  rw [iv_lt]
  have : decide (0 < m1) = decide (0 < valB B64 xs) := by
    refine decide_eq_decide.2 ?_
    have h1 := hN.zero_iff B32_one
    have h2 := hA.len
    constructor
    · intro h0
      rcases Nat.eq_zero_or_pos (valB B64 xs) with e | e
      · have := h1.2 e; rw [this] at h2; simp at h2; omega
      · exact e
    · intro h0
      rcases Nat.eq_zero_or_pos m1 with e | e
      · have := h1.1 (List.eq_nil_of_length_eq_zero (by omega)); omega
      · exact e
  rw [this]
theorem DN.set {w : World} {s : Bool} {g m c : Nat} {e z : Int} (h : DN w s (some ⟨g, 0, none⟩) m c e z) (g2 o2 : Nat) (v : Value) (hne : g ≠ g2) : DN (w.setCell ⟨g2, o2, none⟩ v) s (some ⟨g, 0, none⟩) m c e z := by
  obtain ⟨xs, hX⟩ := h.zn.ex
  exact ⟨⟨⟨xs, hX.at_.setOther g2 o2 v hne, hX.nf, hX.le⟩, h.zn.sg⟩, h.fm⟩
theorem docof5 {w : World} (z : Int) (h0 : -9223372036854775808 ≤ z) (h1 : z ≤ 9223372036854775807) (hz : z % 2 = 1) :
    Calls Tryz.prog 20 #[.int .i64 z] w fun en w' => ∃ s' g m' c', en = .returned (DV s' (some ⟨g, 0, none⟩) m' c' 0) ∧ w.heap.size ≤ g ∧ DN w' s' (some ⟨g, 0, none⟩) m' c' 0 z ∧ Below w.heap.size w w' := by
  have HZ : Hid (-9223372036854775808 ≤ z ∧ z ≤ 9223372036854775807 ∧ z % 2 = 1) := ⟨h0, h1, hz⟩
  clear h0 h1 hz
  go_enter Tryz.func20, Tryz.ntmps20
  go_wp2_with fail
  obtain ⟨W0, hW0⟩ : ∃ W0, W0 = (w.alloc (.cells #[.bool false, .slice none 0 0, .int .i64 0] 27)) := ⟨_, rfl⟩
  have Xr : Hid (B3q W0 (w.heap.size) (.bool false) (.slice none 0 0) (.int .i64 0)) := by rw [hW0]; exact ⟨by go_simp, by go_simp, by go_simp, by go_simp, by go_simp, by go_simp⟩
  have hb0 : Below w.heap.size w W0 := by rw [hW0]; exact below1 w _
  rw [← hW0]
  clear hW0
  have hbw : Below w.heap.size w w := Below.refl _ _
  obtain ⟨gr, hgr⟩ : ∃ g, g = w.heap.size := ⟨_, rfl⟩
  have HGr : Hid (w.heap.size ≤ gr) := by rw [hgr]; show _ ≤ _; omega
  rw [← hgr] at Xr
  try rw [← hgr]
  clear hgr
  replace hbw := Below.on hbw hb0
  clear hb0
  refine (rof_any z _ HZ.out.1 HZ.out.2.1).mono ?_
  rintro e2 v1 ⟨g1, m1, zs, rfl, hA1, hN1, hl1, hb1⟩
  replace Xr : Hid _ := Xr.out.below hb1
  replace hbw := Below.on hbw hb1
  clear hb1
  have Z1 : Hid (ZR v1 (decide (z < 0)) (some ⟨g1, 0, none⟩) m1 z) := ⟨⟨zs, hA1, hN1⟩, rfl⟩
  have HL1 : Hid (m1 ≤ 3) := hl1
  clear hA1 hN1 hl1
  obtain ⟨s1, hs1⟩ : ∃ b, b = decide (z < 0) := ⟨_, rfl⟩
  rw [← hs1] at Z1 ⊢
  clear hs1
  go_wp2_with fail
  refine (told5 s1 Z1.out HZ.out.2.2 (by have := HL1.out; omega) (by omega)).mono ?_
  rintro e2 v2 ⟨g2, m2, c2, rfl, hg2, hd2, hb2⟩
  have HR2 : Hid (gr < g2 ∧ w.heap.size ≤ g2) := ⟨Nat.lt_of_lt_of_le Xr.out.lt hg2, Nat.le_trans hbw.size hg2⟩
  replace Xr : Hid _ := Xr.out.below hb2
  replace Z1 : Hid _ := Z1.out.below hb2
  replace hbw := Below.on hbw hb2
  clear hb2
  have D2 : Hid (DN v2 s1 (some ⟨g2, 0, none⟩) m2 c2 0 z) := hd2
  clear hd2 hg2
  obtain ⟨cr0, cr1, cr2, fr0, fr1, fr2⟩ := Xr.out
  have hner : gr < v2.heap.size := World.block_lt_of_cell? v2 _ cr0
  go_wp2_with fail
  refine bodyPost_ret (v := DV s1 (some ⟨g2, 0, none⟩) m2 c2 0) (by rw [results_cell1 rfl]; go_simp) rfl ⟨s1, g2, m2, c2, rfl, HR2.out.2, ?_, ?_⟩
  · have := HR2.out.1
    exact (((D2.out.set _ _ _ (by omega)).set _ _ _ (by omega)).set _ _ _ (by omega)).below (below1 _ _)
  · exact Below.on (bSet (bSet (bSet hbw _ _ _ HGr.out) _ _ _ HGr.out) _ _ _ HGr.out) (below1 _ _)
theorem nought5 {p : Option Addr} {m c : Nat} {w : World} {e : Int} {s : Bool} (hm : 0 < m) :
    Calls Tryz.prog 41 #[DV s p m c e] w fun en w' => en = .returned (.bool false) ∧ Below w.heap.size w w' := by
  have h1 : ((m : Int) == 0) = false := by simp; omega
  have h2 : ¬ m = 0 := by omega
  clear hm
  go_enter Tryz.func41, Tryz.ntmps41
  go_wp2_with fail
  go_ret
  exact ⟨rfl, below1 w _⟩
theorem docscale5 {p : Option Addr} {m c : Nat} {w : World} {z e n : Int} {s : Bool} (h : DN w s p m c e z) (hz : z % 2 = 1) (hm : m ≤ 4000) (hn : -2000 ≤ n ∧ n ≤ 2000) (he : -2000 ≤ e ∧ e ≤ 2000) :
    Calls Tryz.prog 19 #[DV s p m c e, .int .i64 n] w fun en w' => ∃ s' g m' c', en = .returned (.tuple #[DV s' (some ⟨g, 0, none⟩) m' c' (e + n), .int .i64 0]) ∧ w.heap.size ≤ g ∧ DN w' s' (some ⟨g, 0, none⟩) m' c' (e + n) z ∧ Below w.heap.size w w' := by
  have H : Hid (DN w s p m c e z) := h
  have HZ : Hid (z % 2 = 1 ∧ m ≤ 4000 ∧ -2000 ≤ n ∧ n ≤ 2000 ∧ -2000 ≤ e ∧ e ≤ 2000) := ⟨hz, hm, hn.1, hn.2, he.1, he.2⟩
  have g1 : ¬ 2097152 < n := by omega
  have g2 : ¬ n < -2097152 := by omega
  have g5 : wrap64 (e + n) = e + n := by simp only [wrap64]; omega
  have g6 : IntKind.i64.wrap (e + n) = e + n := by simp [IntKind.wrap, IntKind.signed, IntKind.bits]; omega
  clear h hz hm hn he
  go_enter Tryz.func19, Tryz.ntmps19
  go_wp2_with fail
  obtain ⟨W0, hW0⟩ : ∃ W0, W0 = ((w.alloc (.cells #[.bool s, .slice p m c, .int .i64 e] 27)).alloc (.cells #[.bool false, .slice none 0 0, .int .i64 0] 27)) := ⟨_, rfl⟩
  have Xd : Hid (B3q W0 (w.heap.size) (.bool s) (.slice p m c) (.int .i64 e)) := by rw [hW0]; exact ⟨by go_simp, by go_simp, by go_simp, by go_simp, by go_simp, by go_simp⟩
  have Xr : Hid (B3q W0 (w.heap.size + 1) (.bool false) (.slice none 0 0) (.int .i64 0)) := by rw [hW0]; exact ⟨by go_simp, by go_simp, by go_simp, by go_simp, by go_simp, by go_simp⟩
  have hb0 : Below w.heap.size w W0 := by rw [hW0]; exact below2 w _ _
  rw [← hW0]
  clear hW0
  have hbw : Below w.heap.size w w := Below.refl _ _
  obtain ⟨gr, hgr⟩ : ∃ g, g = w.heap.size + 1 := ⟨_, rfl⟩
  have HGr : Hid (w.heap.size ≤ gr) := by rw [hgr]; show _ ≤ _; omega
  rw [← hgr] at Xr
  try rw [← hgr]
  obtain ⟨gd, hgd⟩ : ∃ g, g = w.heap.size := ⟨_, rfl⟩
  have HGd : Hid (w.heap.size ≤ gd) := by rw [hgd]; show _ ≤ _; omega
  rw [← hgd] at Xd
  try rw [← hgd]
  have HGD : Hid (gd ≠ gr ∧ gr ≠ gd) := by rw [hgd, hgr]; exact ⟨by omega, by omega⟩
  clear hgd hgr
  replace hbw := Below.on hbw hb0
  clear hb0
  obtain ⟨xs, hX⟩ := (H.out.zn.below hbw).ex
  have HV : Hid (valB B64 xs = z.natAbs) := hX.nf.val
  have HMP : Hid (0 < m) := by
    rcases Nat.eq_zero_or_pos m with e0 | e0
    · subst e0
      have h8 := hX.nf.val
      rw [List.eq_nil_of_length_eq_zero hX.at_.len] at h8
      have h9 := HZ.out.1
      have : z.natAbs = 0 := h8.symm
      omega
    · exact e0
  have AX : Hid (At W0 p m c xs) := hX.at_
  refine (docformd s hX.at_).mono ?_
  rintro e2 v1 ⟨rfl, hb1⟩
  rw [show formD s xs e = true from dn_formD (H.out.below hbw) hX]
  clear hX
  replace Xd : Hid _ := Xd.out.below hb1
  replace Xr : Hid _ := Xr.out.below hb1
  replace AX : Hid _ := AX.out.below hb1
  replace hbw := Below.on hbw hb1
  clear hb1
  obtain ⟨cd0, cd1, cd2, fd0, fd1, fd2⟩ := Xd.out
  have hned : gd < v1.heap.size := World.block_lt_of_cell? v1 _ cd0
  go_wp2_with fail
  clear cd0 cd1 cd2 fd0 fd1 fd2 hned
  refine (nought5 HMP.out).mono ?_
  rintro e v2 ⟨rfl, hb2⟩
  replace Xd : Hid _ := Xd.out.below hb2
  replace Xr : Hid _ := Xr.out.below hb2
  replace AX : Hid _ := AX.out.below hb2
  replace hbw := Below.on hbw hb2
  clear hb2
  obtain ⟨cd0, cd1, cd2, fd0, fd1, fd2⟩ := Xd.out
  have hned : gd < v2.heap.size := World.block_lt_of_cell? v2 _ cd0
  go_wp2_with fail
  clear cd0 cd1 cd2 fd0 fd1 fd2 hned
  obtain ⟨W5, hW5⟩ : ∃ W1, W1 = v2.drew := ⟨_, rfl⟩
  have hbd : Below v2.heap.size v2 W5 := by rw [hW5]; exact bDrew1 (Below.refl _ _)
  replace Xd : Hid _ := Xd.out.below hbd
  replace Xr : Hid _ := Xr.out.below hbd
  replace AX : Hid _ := AX.out.below hbd
  replace hbw := Below.on hbw hbd
  clear hbd
  have HJ : Hid ((fun W' : World => W'.cell? ⟨gd, 0, none⟩ = some (.bool s) ∧ W'.cell? ⟨gd, 1, none⟩ = some (.slice p m c) ∧ W'.cell? ⟨gd, 2, none⟩ = some (.int .i64 e)) W5) := ⟨Xd.out.c0, Xd.out.c1, Xd.out.c2⟩
  refine wp_region_J (fun W' => W'.cell? ⟨gd, 0, none⟩ = some (.bool s) ∧ W'.cell? ⟨gd, 1, none⟩ = some (.slice p m c) ∧ W'.cell? ⟨gd, 2, none⟩ = some (.int .i64 e)) (by kernel_rfl) ?_
  rw [← hW5]
  clear hW5
  refine wpJ_tq 0 rfl HJ.out ?_
  refine wpJ_tq 1 rfl HJ.out ?_
  refine wpJ_tq 3 rfl HJ.out ?_
  refine wpJ_tq 4 rfl HJ.out ?_
  refine wpJ_tq 5 rfl HJ.out ?_
  refine wpJ_tq 6 rfl HJ.out ?_
  refine wpJ_on 2 rfl fun KJ hK => ?_
  go_simp
  refine (rfrom5 s AX.out (by have := HZ.out; omega)).mono ?_
  rintro e2 v3 ⟨s3, p3, m3, rfl, hz3, hl3, hb3⟩
  rw [HV.out, H.out.zn.iv] at hz3
  replace Xd : Hid _ := Xd.out.below hb3
  replace Xr : Hid _ := Xr.out.below hb3
  replace AX : Hid _ := AX.out.below hb3
  replace hbw := Below.on hbw hb3
  clear hb3
  have Z3 : Hid (ZR v3 s3 p3 m3 z) := hz3
  have HL3 : Hid (m3 ≤ 8000) := by have := HZ.out; show m3 ≤ _; omega
  clear hz3 hl3
  refine hK _ _ ⟨Xd.out.c0, Xd.out.c1, Xd.out.c2⟩ ?_
  clear hK
  refine wpJ_on 7 rfl fun KJ hK => ?_
  go_simp
  refine (told5 s3 Z3.out HZ.out.1 HL3.out (by have := HZ.out; omega)).mono ?_
  rintro e2 v4 ⟨g4, m4, c4, rfl, hg4, hd4, hb4⟩
  have HR4 : Hid (gr < g4 ∧ w.heap.size ≤ g4) := ⟨Nat.lt_of_lt_of_le Xr.out.lt hg4, Nat.le_trans hbw.size hg4⟩
  replace Xd : Hid _ := Xd.out.below hb4
  replace Xr : Hid _ := Xr.out.below hb4
  replace AX : Hid _ := AX.out.below hb4
  replace Z3 : Hid _ := Z3.out.below hb4
  replace hbw := Below.on hbw hb4
  clear hb4
  have D4 : Hid (DN v4 s3 (some ⟨g4, 0, none⟩) m4 c4 (e + n) z) := hd4
  clear hd4 hg4
  clear HJ
  have HJ : Hid ((fun W' : World => W'.cell? ⟨gd, 0, none⟩ = some (.bool s) ∧ W'.cell? ⟨gd, 1, none⟩ = some (.slice p m c) ∧ W'.cell? ⟨gd, 2, none⟩ = some (.int .i64 e)) v4) := ⟨Xd.out.c0, Xd.out.c1, Xd.out.c2⟩
  refine hK _ _ HJ.out ?_
  clear hK
  refine wpJ_tq 8 rfl HJ.out ?_
  refine wpJ_tq 9 rfl HJ.out ?_
  obtain ⟨cr0, cr1, cr2, fr0, fr1, fr2⟩ := Xr.out
  have hner : gr < v4.heap.size := World.block_lt_of_cell? v4 _ cr0
  obtain ⟨cd0, cd1, cd2, fd0, fd1, fd2⟩ := Xd.out
  have hned : gd < v4.heap.size := World.block_lt_of_cell? v4 _ cd0
  obtain ⟨hgd0, hgd1⟩ := HGD.out
  refine wpJ_on 10 rfl fun KJ hK => ?_
  go_simp
  have HJ2 : Hid ((fun W' : World => W'.cell? ⟨gd, 0, none⟩ = some (.bool s) ∧ W'.cell? ⟨gd, 1, none⟩ = some (.slice p m c) ∧ W'.cell? ⟨gd, 2, none⟩ = some (.int .i64 e)) (((v4.setCell ⟨gr, 0, none⟩ (.bool s3)).setCell ⟨gr, 1, none⟩ (.slice (some ⟨g4, 0, none⟩) m4 c4)).setCell ⟨gr, 2, none⟩ (.int .i64 (e + n)))) := ⟨by go_simp, by go_simp, by go_simp⟩
  refine hK _ _ HJ2.out ?_
  clear hK HJ
  have HJ := HJ2
  clear HJ2
  refine wpJ_tq 11 rfl HJ.out ?_
  refine wpJ_done (by kernel_rfl) ?_ _
  clear HJ
  go_wp2_with fail
  refine bodyPost_ret (v := .tuple #[DV s3 (some ⟨g4, 0, none⟩) m4 c4 (e + n), .int .i64 0]) (by rw [results_cell_tmp rfl]; go_simp) rfl ⟨s3, g4, m4, c4, rfl, HR4.out.2, ?_, ?_⟩
  · have := HR4.out.1
    exact ((D4.out.set _ _ _ (by omega)).set _ _ _ (by omega)).set _ _ _ (by omega)
  · exact bSet (bSet (bSet hbw _ _ _ HGr.out) _ _ _ HGr.out) _ _ _ HGr.out
theorem num5 {w : World} (z e : Int) (h0 : -1000 ≤ z ∧ z ≤ 1000) (hz : z % 2 = 1) (he : -1000 ≤ e ∧ e ≤ 1000) :
    Calls Tryz.prog 8 #[.int .i64 z, .int .i64 e] w fun en w' => ∃ s' g m' c', en = .returned (DV s' (some ⟨g, 0, none⟩) m' c' e) ∧ w.heap.size ≤ g ∧ DN w' s' (some ⟨g, 0, none⟩) m' c' e z ∧ Below w.heap.size w w' := by
  have HZ : Hid (-1000 ≤ z ∧ z ≤ 1000 ∧ z % 2 = 1 ∧ -1000 ≤ e ∧ e ≤ 1000) := ⟨h0.1, h0.2, hz, he.1, he.2⟩
  clear h0 hz he
  go_enter Tryz.func8, Tryz.ntmps8
  go_wp2_with fail
  obtain ⟨W0, hW0⟩ : ∃ W0, W0 = (w.alloc (.cells #[.bool false, .slice none 0 0, .int .i64 0] 27)) := ⟨_, rfl⟩
  have Xr : Hid (B3q W0 (w.heap.size) (.bool false) (.slice none 0 0) (.int .i64 0)) := by rw [hW0]; exact ⟨by go_simp, by go_simp, by go_simp, by go_simp, by go_simp, by go_simp⟩
  have hb0 : Below w.heap.size w W0 := by rw [hW0]; exact below1 w _
  rw [← hW0]
  clear hW0
  have hbw : Below w.heap.size w w := Below.refl _ _
  obtain ⟨gr, hgr⟩ : ∃ g, g = w.heap.size := ⟨_, rfl⟩
  have HGr : Hid (w.heap.size ≤ gr) := by rw [hgr]; show _ ≤ _; omega
  rw [← hgr] at Xr
  try rw [← hgr]
  clear hgr
  replace hbw := Below.on hbw hb0
  clear hb0
  refine (docof5 z (by have := HZ.out; omega) (by have := HZ.out; omega) HZ.out.2.2.1).mono ?_
  rintro e2 v1 ⟨s1, g1, m1, c1, rfl, hg1, hd1, hb1⟩
  replace Xr : Hid _ := Xr.out.below hb1
  replace hbw := Below.on hbw hb1
  clear hb1
  have D1 : Hid (DN v1 s1 (some ⟨g1, 0, none⟩) m1 c1 0 z) := hd1
  have hm1 : m1 ≤ 4000 := by
    obtain ⟨xs, hX⟩ := hd1.zn.ex
    have := (hX.nf.len_le B64_one (k := 1)).2 (by rw [Nat.pow_one, B64_eq]; have := HZ.out; omega)
    rw [hX.at_.len] at this
    omega
  have HM1 : Hid (m1 ≤ 4000) := hm1
  clear hd1 hg1 hm1
  go_wp2_with fail
  refine (docscale5 D1.out HZ.out.2.2.1 HM1.out (by have := HZ.out; omega) (by omega)).mono ?_
  rw [Int.zero_add]
  rintro e2 v2 ⟨s2, g2, m2, c2, rfl, hg2, hd2, hb2⟩
  have HR2 : Hid (gr < g2 ∧ w.heap.size ≤ g2) := ⟨Nat.lt_of_lt_of_le Xr.out.lt hg2, Nat.le_trans hbw.size hg2⟩
  replace Xr : Hid _ := Xr.out.below hb2
  replace D1 : Hid _ := D1.out.below hb2
  replace hbw := Below.on hbw hb2
  clear hb2
  have D2 : Hid (DN v2 s2 (some ⟨g2, 0, none⟩) m2 c2 e z) := hd2
  clear hd2 hg2
  obtain ⟨cr0, cr1, cr2, fr0, fr1, fr2⟩ := Xr.out
  have hner : gr < v2.heap.size := World.block_lt_of_cell? v2 _ cr0
  go_wp2_with fail
  refine bodyPost_ret (v := DV s2 (some ⟨g2, 0, none⟩) m2 c2 e) (by rw [results_cell1 rfl]; go_simp) rfl ⟨s2, g2, m2, c2, rfl, HR2.out.2, ?_, ?_⟩
  · have := HR2.out.1
    exact (((D2.out.set _ _ _ (by omega)).set _ _ _ (by omega)).set _ _ _ (by omega)).below (below1 _ _)
  · exact Below.on (bSet (bSet (bSet hbw _ _ _ HGr.out) _ _ _ HGr.out) _ _ _ HGr.out) (below1 _ _)
theorem moved_no (e n : Int) (w : World) (he : -1048576 ≤ e ∧ e ≤ 2097152) (hs : ¬ (-1048576 ≤ e + n ∧ e + n ≤ 1048576)) :
    Calls Tryz.prog 22 #[.int .i64 e, .int .i64 n] w fun en w' => en = .returned (.tuple #[.int .i64 0, .int .i64 5]) ∧ w' = w := by
  have f1 : wrap64 (-1048576 - e) = -1048576 - e := by simp only [wrap64]; omega
  have f2 : wrap64 (1048576 - e) = 1048576 - e := by simp only [wrap64]; omega
  by_cases f4 : n < -1048576 - e
  · clear he hs
    go_enter Tryz.func22, Tryz.ntmps22
    go_wp2_with fail
    go_ret2
    exact ⟨rfl, rfl⟩
  have f5 : 1048576 - e < n := by omega
  clear he hs
  go_enter Tryz.func22, Tryz.ntmps22
  go_wp2_with fail
  go_ret2
  exact ⟨rfl, rfl⟩
theorem makep_n {p : Option Addr} {m c : Nat} {w : World} {z e : Int} {s : Bool} (h : ZN w s p m c z) (he : -3145728 ≤ e ∧ e ≤ 3145728) (hT : Tab w) {k : Nat} (hz : z ≠ 0) (hk : TzO z.natAbs k) (hr : (-1048576 ≤ k + e ∧ k + e ≤ 1048576)) :
    Calls Tryz.prog 13 #[ZV s p m c, .int .i64 e] w fun en w' => MakeP w.heap.size w' en z e ∧ Below w.heap.size w w' := by
  have H : Hid (ZN w s p m c z) := h
  have HE : Hid (-3145728 ≤ e ∧ e ≤ 3145728) := he
  have TB : Hid (Tab w) := hT
  have HZ : Hid (z ≠ 0) := hz
  have HR : Hid ((-1048576 ≤ k + e ∧ k + e ≤ 1048576)) := hr
  have HK : Hid (TzO z.natAbs k) := hk
  clear h he hT hz hr
  go_enter Tryz.func13, Tryz.ntmps13
  go_wp2_with fail
  obtain ⟨W0, hW0⟩ : ∃ W0, W0 = ((w.alloc (.cells #[.bool s, .slice p m c] 25)).alloc (.cells #[.bool false, .slice none 0 0, .int .i64 0] 27)) := ⟨_, rfl⟩
  have Xm : Hid (Box W0 (w.heap.size) (.bool s) (.slice p m c)) := by rw [hW0]; exact ⟨by go_simp, by go_simp, by go_simp, by go_simp⟩
  have Xr : Hid (B3q W0 (w.heap.size + 1) (.bool false) (.slice none 0 0) (.int .i64 0)) := by rw [hW0]; exact ⟨by go_simp, by go_simp, by go_simp, by go_simp, by go_simp, by go_simp⟩
  have hb0 : Below w.heap.size w W0 := by rw [hW0]; exact below2 w _ _
  rw [← hW0]
  clear hW0
  have hbw : Below w.heap.size w w := Below.refl _ _
  obtain ⟨gr, hgr⟩ : ∃ g, g = w.heap.size + 1 := ⟨_, rfl⟩
  have HGr : Hid (w.heap.size ≤ gr) := by rw [hgr]; show _ ≤ _; omega
  rw [← hgr] at Xr
  try rw [← hgr]
  obtain ⟨gm, hgm⟩ : ∃ g, g = w.heap.size := ⟨_, rfl⟩
  have HGm : Hid (w.heap.size ≤ gm) := by rw [hgm]; show _ ≤ _; omega
  rw [← hgm] at Xm
  try rw [← hgm]
  have HGD : Hid (gm ≠ gr ∧ gr ≠ gm) := by rw [hgm, hgr]; exact ⟨by omega, by omega⟩
  clear hgm hgr
  replace hbw := Below.on hbw hb0
  clear hb0
  refine (zform (H.out.below hbw)).mono ?_
  rintro e v1 ⟨rfl, hb1⟩
  replace Xm : Hid _ := Xm.out.below hb1
  replace Xr : Hid _ := Xr.out.below hb1
  replace hbw := Below.on hbw hb1
  clear hb1
  obtain ⟨cm0, cm1, fm0, fm1⟩ := Xm.out
  have hnem := Xm.out.lt
  go_wp2_with fail
  clear cm0 cm1 fm0 fm1 hnem
  refine (zsign (H.out.below hbw)).mono ?_
  rintro e v2 ⟨rfl, hb2⟩
  obtain ⟨sg, hsg⟩ : ∃ sg, sg = sgnI (z) := ⟨_, rfl⟩
  rw [← hsg]
  have hs0 : (sg == 0) = false := by rw [hsg]; have := HZ.out; unfold sgnI; split <;> (try split) <;> simp <;> omega
  clear hsg
  replace Xm : Hid _ := Xm.out.below hb2
  replace Xr : Hid _ := Xr.out.below hb2
  replace hbw := Below.on hbw hb2
  clear hb2
  obtain ⟨cm0, cm1, fm0, fm1⟩ := Xm.out
  have hnem := Xm.out.lt
  go_wp2_with fail
  clear cm0 cm1 fm0 fm1 hnem
  have hkb : k ≤ 524288 := by
    have h1 := (lim_bits z.natAbs).1 H.out.lim
    rcases hk with ⟨h0, _⟩ | ⟨_, h2, h3⟩
    · exact absurd (Int.natAbs_eq_zero.1 h0) HZ.out
    · have h4 : 2 ^ k ≤ z.natAbs := by
        rcases Nat.lt_or_ge z.natAbs (2 ^ k) with h | h
        · rw [Nat.div_eq_of_lt h] at h3; omega
        · exact h
      have h5 := bitsN_lt z.natAbs
      have h6 := (Nat.pow_lt_pow_iff_right (by omega : 1 < 2)).1 (Nat.lt_of_le_of_lt h4 h5)
      omega
  have HKB : Hid (k ≤ 524288) := hkb
  clear hk hkb
  obtain ⟨xs, hX⟩ := (H.out.below hbw).ex
  refine (trail_any hX.at_ (by have := hX.le; omega) (k := k) (by rw [hX.nf.val]; exact HK.out) (TB.out.below hbw)).mono ?_
  rintro e2 v3 ⟨rfl, hw⟩
  obtain rfl := hw.symm
  clear hw hX
  go_wp2_with fail
  refine (moved_ok k e _ (by have := HKB.out; omega) HR.out).mono ?_
  rintro e2 v4 ⟨rfl, hw⟩
  obtain rfl := hw.symm
  clear hw
  obtain ⟨cm0, cm1, fm0, fm1⟩ := Xm.out
  have hnem := Xm.out.lt
  go_wp2_with fail
  clear cm0 cm1 fm0 fm1 hnem
  obtain ⟨o, ho9⟩ : ∃ o, o = fl (decide (z < 0)) z.natAbs (2 ^ k) := ⟨_, rfl⟩
  have HO9 : Hid (o % 2 = 1 ∧ o * ((2 ^ k : Nat) : Int) = z ∧ o.natAbs ≤ z.natAbs) := by rw [ho9]; exact tz_split HZ.out HK.out
  have HRL : Hid (gr < v2.heap.size ∧ w.heap.size ≤ v2.heap.size) := ⟨Xr.out.lt, hbw.size⟩
  obtain ⟨xs, hX⟩ := (H.out.below hbw).ex
  refine (fshr_any s hX H.out.pos k (by have := HKB.out; omega) (TB.out.below hbw)).mono ?_
  rintro e2 v5 ⟨v, rfl, hv, hb5⟩
  rw [H.out.sg, ← ho9] at hv
  obtain ⟨p5, m5, z5, rfl, ho5, hn5, hm5⟩ := hv
  clear hX ho9
  replace Xm : Hid _ := Xm.out.below hb5
  replace Xr : Hid _ := Xr.out.below hb5
  replace hbw := Below.on hbw hb5
  clear hb5
  have O5 : Hid (Own v2.heap.size v5 p5 m5 z5) := ho5
  have N5 : Hid (Nf B64 z5 o.natAbs ∧ m5 ≤ 8192) := ⟨hn5, hm5⟩
  clear ho5 hn5 hm5
  obtain ⟨so, hso⟩ : ∃ b, b = decide (o < 0) := ⟨_, rfl⟩
  rw [← hso]
  have HSO : Hid (so = decide (o < 0)) := hso
  clear hso
  obtain ⟨cr0, cr1, cr2, fr0, fr1, fr2⟩ := Xr.out
  have hner : gr < v5.heap.size := World.block_lt_of_cell? v5 _ cr0
  go_wp2_with fail
  refine bodyPost_ret (v := .tuple #[DV so p5 m5 m5 (k + e), .int .i64 0]) (by rw [results_cell_tmp rfl]; go_simp) rfl ⟨.inl ⟨_, o, k + e, rfl, ⟨p5, m5, z5, by rw [HSO.out], ?_, N5.out.1, N5.out.2⟩, .inr ⟨HO9.out.1, HR.out⟩, ?_⟩, ?_⟩
  · exact (own_set3 O5.out HRL.out.1 HRL.out.2 _ _ _).below (below1 _ _)
  · rw [dv_shift (e := (k : Int) + e) (f := e) (by omega) (by have := HE.out; omega), show ((k : Int) + e - e).toNat = k from by omega, HO9.out.2.1]
  · exact Below.on (bSet (bSet (bSet hbw _ _ _ HGr.out) _ _ _ HGr.out) _ _ _ HGr.out) (below1 _ _)
theorem makep_e {p : Option Addr} {m c : Nat} {w : World} {z e : Int} {s : Bool} (h : ZN w s p m c z) (he : -3145728 ≤ e ∧ e ≤ 3145728) (hT : Tab w) {k : Nat} (hz : z ≠ 0) (hk : TzO z.natAbs k) (hr : ¬ (-1048576 ≤ k + e ∧ k + e ≤ 1048576)) :
    Calls Tryz.prog 13 #[ZV s p m c, .int .i64 e] w fun en w' => MakeP w.heap.size w' en z e ∧ Below w.heap.size w w' := by
  have H : Hid (ZN w s p m c z) := h
  have HE : Hid (-3145728 ≤ e ∧ e ≤ 3145728) := he
  have TB : Hid (Tab w) := hT
  have HZ : Hid (z ≠ 0) := hz
  have HR : Hid (¬ (-1048576 ≤ k + e ∧ k + e ≤ 1048576)) := hr
  have HK : Hid (TzO z.natAbs k) := hk
  clear h he hT hz hr
  go_enter Tryz.func13, Tryz.ntmps13
  go_wp2_with fail
  obtain ⟨W0, hW0⟩ : ∃ W0, W0 = ((w.alloc (.cells #[.bool s, .slice p m c] 25)).alloc (.cells #[.bool false, .slice none 0 0, .int .i64 0] 27)) := ⟨_, rfl⟩
  have Xm : Hid (Box W0 (w.heap.size) (.bool s) (.slice p m c)) := by rw [hW0]; exact ⟨by go_simp, by go_simp, by go_simp, by go_simp⟩
  have Xr : Hid (B3q W0 (w.heap.size + 1) (.bool false) (.slice none 0 0) (.int .i64 0)) := by rw [hW0]; exact ⟨by go_simp, by go_simp, by go_simp, by go_simp, by go_simp, by go_simp⟩
  have hb0 : Below w.heap.size w W0 := by rw [hW0]; exact below2 w _ _
  rw [← hW0]
  clear hW0
  have hbw : Below w.heap.size w w := Below.refl _ _
  obtain ⟨gr, hgr⟩ : ∃ g, g = w.heap.size + 1 := ⟨_, rfl⟩
  have HGr : Hid (w.heap.size ≤ gr) := by rw [hgr]; show _ ≤ _; omega
  rw [← hgr] at Xr
  try rw [← hgr]
  obtain ⟨gm, hgm⟩ : ∃ g, g = w.heap.size := ⟨_, rfl⟩
  have HGm : Hid (w.heap.size ≤ gm) := by rw [hgm]; show _ ≤ _; omega
  rw [← hgm] at Xm
  try rw [← hgm]
  have HGD : Hid (gm ≠ gr ∧ gr ≠ gm) := by rw [hgm, hgr]; exact ⟨by omega, by omega⟩
  clear hgm hgr
  replace hbw := Below.on hbw hb0
  clear hb0
  refine (zform (H.out.below hbw)).mono ?_
  rintro e v1 ⟨rfl, hb1⟩
  replace Xm : Hid _ := Xm.out.below hb1
  replace Xr : Hid _ := Xr.out.below hb1
  replace hbw := Below.on hbw hb1
  clear hb1
  obtain ⟨cm0, cm1, fm0, fm1⟩ := Xm.out
  have hnem := Xm.out.lt
  go_wp2_with fail
  clear cm0 cm1 fm0 fm1 hnem
  refine (zsign (H.out.below hbw)).mono ?_
  rintro e v2 ⟨rfl, hb2⟩
  obtain ⟨sg, hsg⟩ : ∃ sg, sg = sgnI (z) := ⟨_, rfl⟩
  rw [← hsg]
  have hs0 : (sg == 0) = false := by rw [hsg]; have := HZ.out; unfold sgnI; split <;> (try split) <;> simp <;> omega
  clear hsg
  replace Xm : Hid _ := Xm.out.below hb2
  replace Xr : Hid _ := Xr.out.below hb2
  replace hbw := Below.on hbw hb2
  clear hb2
  obtain ⟨cm0, cm1, fm0, fm1⟩ := Xm.out
  have hnem := Xm.out.lt
  go_wp2_with fail
  clear cm0 cm1 fm0 fm1 hnem
  have hkb : k ≤ 524288 := by
    have h1 := (lim_bits z.natAbs).1 H.out.lim
    rcases hk with ⟨h0, _⟩ | ⟨_, h2, h3⟩
    · exact absurd (Int.natAbs_eq_zero.1 h0) HZ.out
    · have h4 : 2 ^ k ≤ z.natAbs := by
        rcases Nat.lt_or_ge z.natAbs (2 ^ k) with h | h
        · rw [Nat.div_eq_of_lt h] at h3; omega
        · exact h
      have h5 := bitsN_lt z.natAbs
      have h6 := (Nat.pow_lt_pow_iff_right (by omega : 1 < 2)).1 (Nat.lt_of_le_of_lt h4 h5)
      omega
  have HKB : Hid (k ≤ 524288) := hkb
  clear hk hkb
  obtain ⟨xs, hX⟩ := (H.out.below hbw).ex
  refine (trail_any hX.at_ (by have := hX.le; omega) (k := k) (by rw [hX.nf.val]; exact HK.out) (TB.out.below hbw)).mono ?_
  rintro e2 v3 ⟨rfl, hw⟩
  obtain rfl := hw.symm
  clear hw hX
  go_wp2_with fail
  refine (moved_no k e _ (by have := HKB.out; omega) HR.out).mono ?_
  rintro e2 v4 ⟨rfl, hw⟩
  obtain rfl := hw.symm
  clear hw
  obtain ⟨cr0, cr1, cr2, fr0, fr1, fr2⟩ := Xr.out
  have hner : gr < v2.heap.size := World.block_lt_of_cell? v2 _ cr0
  go_wp2_with fail
  refine bodyPost_ret (v := .tuple #[DV false none 0 0 0, .int .i64 5]) (by rw [results_cell_tmp rfl]; go_simp) rfl ⟨.inr ⟨rfl, make_no HZ.out HK.out (by have := HE.out; omega) HR.out⟩, ?_⟩
  first | exact hbw | exact bSet (bSet (bSet hbw _ _ _ HGr.out) _ _ _ HGr.out) _ _ _ HGr.out
theorem makep_z {p : Option Addr} {m c : Nat} {w : World} {z e : Int} {s : Bool} (h : ZN w s p m c z) (hz : z = 0) :
    Calls Tryz.prog 13 #[ZV s p m c, .int .i64 e] w fun en w' => MakeP w.heap.size w' en z e ∧ Below w.heap.size w w' := by
  have H : Hid (ZN w s p m c z) := h
  subst hz
  clear h
  go_enter Tryz.func13, Tryz.ntmps13
  go_wp2_with fail
  obtain ⟨W0, hW0⟩ : ∃ W0, W0 = ((w.alloc (.cells #[.bool s, .slice p m c] 25)).alloc (.cells #[.bool false, .slice none 0 0, .int .i64 0] 27)) := ⟨_, rfl⟩
  have Xm : Hid (Box W0 (w.heap.size) (.bool s) (.slice p m c)) := by rw [hW0]; exact ⟨by go_simp, by go_simp, by go_simp, by go_simp⟩
  have Xr : Hid (B3q W0 (w.heap.size + 1) (.bool false) (.slice none 0 0) (.int .i64 0)) := by rw [hW0]; exact ⟨by go_simp, by go_simp, by go_simp, by go_simp, by go_simp, by go_simp⟩
  have hb0 : Below w.heap.size w W0 := by rw [hW0]; exact below2 w _ _
  rw [← hW0]
  clear hW0
  have hbw : Below w.heap.size w w := Below.refl _ _
  obtain ⟨gr, hgr⟩ : ∃ g, g = w.heap.size + 1 := ⟨_, rfl⟩
  have HGr : Hid (w.heap.size ≤ gr) := by rw [hgr]; show _ ≤ _; omega
  rw [← hgr] at Xr
  try rw [← hgr]
  obtain ⟨gm, hgm⟩ : ∃ g, g = w.heap.size := ⟨_, rfl⟩
  have HGm : Hid (w.heap.size ≤ gm) := by rw [hgm]; show _ ≤ _; omega
  rw [← hgm] at Xm
  try rw [← hgm]
  have HGD : Hid (gm ≠ gr ∧ gr ≠ gm) := by rw [hgm, hgr]; exact ⟨by omega, by omega⟩
  clear hgm hgr
  replace hbw := Below.on hbw hb0
  clear hb0
  refine (zform (H.out.below hbw)).mono ?_
  rintro e v1 ⟨rfl, hb1⟩
  replace Xm : Hid _ := Xm.out.below hb1
  replace Xr : Hid _ := Xr.out.below hb1
  replace hbw := Below.on hbw hb1
  clear hb1
  obtain ⟨cm0, cm1, fm0, fm1⟩ := Xm.out
  have hnem := Xm.out.lt
  go_wp2_with fail
  clear cm0 cm1 fm0 fm1 hnem
  refine (zsign (H.out.below hbw)).mono ?_
  rintro e v2 ⟨rfl, hb2⟩
  rw [show sgnI 0 = 0 from rfl]
  replace Xm : Hid _ := Xm.out.below hb2
  replace Xr : Hid _ := Xr.out.below hb2
  replace hbw := Below.on hbw hb2
  clear hb2
  obtain ⟨cr0, cr1, cr2, fr0, fr1, fr2⟩ := Xr.out
  have hner : gr < v2.heap.size := World.block_lt_of_cell? v2 _ cr0
  go_wp2_with fail
  refine bodyPost_ret (v := .tuple #[DV false none 0 0 0, .int .i64 0]) (by rw [results_cell_tmp rfl]; go_simp) rfl ⟨.inl ⟨_, 0, 0, rfl, ⟨none, 0, [], rfl, ⟨rfl, Dig.nil _, .inl rfl⟩, Nf.nil _, by omega⟩, .inl ⟨rfl, rfl⟩, by rw [dv_zero, dv_zero]⟩, ?_⟩
  first | exact hbw | exact bSet (bSet (bSet hbw _ _ _ HGr.out) _ _ _ HGr.out) _ _ _ HGr.out
theorem makep {p : Option Addr} {m c : Nat} {w : World} {z e : Int} {s : Bool} (h : ZN w s p m c z) (he : -3145728 ≤ e ∧ e ≤ 3145728) (hT : Tab w) :
    Calls Tryz.prog 13 #[ZV s p m c, .int .i64 e] w fun en w' => MakeP w.heap.size w' en z e ∧ Below w.heap.size w w' := by
  by_cases hz : z = 0
  · exact makep_z h hz
  obtain ⟨k, hk⟩ := TzO.ex z.natAbs
  by_cases hr : -1048576 ≤ k + e ∧ k + e ≤ 1048576
  · exact makep_n h he hT hz hk hr
  · exact makep_e h he hT hz hk hr
def formZ (s : Bool) (xs : List Nat) : Bool := formB xs && !(s && decide (xs = []))
theorem formZ_num {w : World} {p : Option Addr} {m c : Nat} {xs : List Nat} {s : Bool} (h : At w p m c xs) (hf : formZ s xs = true) : Num w p m c xs (valB B64 xs) ∧ (s = true → 0 < valB B64 xs) := by
  unfold formZ at hf
  rw [Bool.and_eq_true] at hf
  obtain ⟨hN, hL⟩ := formB_nf hf.1 h.dig
  rw [h.len] at hL
  refine ⟨⟨h, hN, hL⟩, fun hs => ?_⟩
  have h2 := hf.2
  rw [hs] at h2
  simp at h2
  rcases Nat.eq_zero_or_pos (valB B64 xs) with e | e
  · exact absurd ((hN.zero_iff B64_one).2 e) h2
  · exact e
theorem numform_f {p : Option Addr} {n c : Nat} {xs : List Nat} {w : World} (s : Bool) (h : At w p n c xs) (hf : formZ s xs = false) :
    Calls Tryz.prog 29 #[ZV s p n c] w fun e w' => e = .returned (.bool false) ∧ Below w.heap.size w w' := by
  have H : Hid (At w p n c xs) := h
  cases hb : formB xs
  · clear h hf
    go_enter Tryz.func29, Tryz.ntmps29
    go_wp2_with fail
    refine (form_false (H.out.alloc _) hb).mono ?_
    rintro e w' ⟨rfl, hw⟩
    obtain rfl := hw.symm
    clear hw hb
    go_wp2_with fail
    go_ret
    exact ⟨rfl, below1 w _⟩
  · have hs : s = true ∧ xs = [] := by
      unfold formZ at hf
      rw [hb] at hf
      simpa using hf
    obtain ⟨rfl, rfl⟩ := hs
    obtain rfl : n = 0 := h.len.symm
    clear h hf
    go_enter Tryz.func29, Tryz.ntmps29
    go_wp2_with fail
    refine (form_true (H.out.alloc _) hb).mono ?_
    rintro e w' ⟨rfl, hw⟩
    obtain rfl := hw.symm
    clear hw hb
    go_wp2_with fail
    go_ret
    exact ⟨rfl, below1 w _⟩
theorem dform_f0 {p : Option Addr} {m c : Nat} {xs : List Nat} {w : World} {e : Int} (s : Bool) (h : At w p m c xs) (hf : formZ s xs = false) :
    Calls Tryz.prog 14 #[DV s p m c e] w fun en w' => en = .returned (.bool false) ∧ Below w.heap.size w w' := by
  have H : Hid (At w p m c xs) := h
  have HF : Hid (formZ s xs = false) := hf
  clear h hf
  go_enter Tryz.func14, Tryz.ntmps14
  go_wp2_with fail
  obtain ⟨W0, hW0⟩ : ∃ W0, W0 = (w.alloc (.cells #[.bool s, .slice p m c, .int .i64 e] 27)) := ⟨_, rfl⟩
  have Xd : Hid (B3q W0 (w.heap.size) (.bool s) (.slice p m c) (.int .i64 e)) := by rw [hW0]; exact ⟨by go_simp, by go_simp, by go_simp, by go_simp, by go_simp, by go_simp⟩
  have hb0 : Below w.heap.size w W0 := by rw [hW0]; exact below1 w _
  rw [← hW0]
  clear hW0
  have hbw : Below w.heap.size w w := Below.refl _ _
  obtain ⟨gd, hgd⟩ : ∃ g, g = w.heap.size := ⟨_, rfl⟩
  have HGd : Hid (w.heap.size ≤ gd) := by rw [hgd]; show _ ≤ _; omega
  rw [← hgd] at Xd
  try rw [← hgd]
  clear hgd
  replace hbw := Below.on hbw hb0
  clear hb0
  refine (numform_f s (H.out.below hbw) HF.out).mono ?_
  rintro e v1 ⟨rfl, hb1⟩
  replace Xd : Hid _ := Xd.out.below hb1
  replace hbw := Below.on hbw hb1
  clear hb1
  obtain ⟨cd0, cd1, cd2, fd0, fd1, fd2⟩ := Xd.out
  have hned : gd < v1.heap.size := World.block_lt_of_cell? v1 _ cd0
  go_wp2_with fail
  clear cd0 cd1 cd2 fd0 fd1 fd2 hned
  go_ret
  exact ⟨rfl, hbw⟩
theorem dform_fz {p : Option Addr} {m c : Nat} {w : World} {z e : Int} {s : Bool} (h : ZN w s p m c z) (hz : z = 0) (he : e ≠ 0) :
    Calls Tryz.prog 14 #[DV s p m c e] w fun en w' => en = .returned (.bool false) ∧ Below w.heap.size w w' := by
  subst hz
  have h1 : (e == 0) = false := by simp [he]
  clear he
  have H : Hid (ZN w s p m c 0) := h
  clear h
  go_enter Tryz.func14, Tryz.ntmps14
  go_wp2_with fail
  obtain ⟨W0, hW0⟩ : ∃ W0, W0 = (w.alloc (.cells #[.bool s, .slice p m c, .int .i64 e] 27)) := ⟨_, rfl⟩
  have Xd : Hid (B3q W0 (w.heap.size) (.bool s) (.slice p m c) (.int .i64 e)) := by rw [hW0]; exact ⟨by go_simp, by go_simp, by go_simp, by go_simp, by go_simp, by go_simp⟩
  have hb0 : Below w.heap.size w W0 := by rw [hW0]; exact below1 w _
  rw [← hW0]
  clear hW0
  have hbw : Below w.heap.size w w := Below.refl _ _
  obtain ⟨gd, hgd⟩ : ∃ g, g = w.heap.size := ⟨_, rfl⟩
  have HGd : Hid (w.heap.size ≤ gd) := by rw [hgd]; show _ ≤ _; omega
  rw [← hgd] at Xd
  try rw [← hgd]
  clear hgd
  replace hbw := Below.on hbw hb0
  clear hb0
  refine (zform (H.out.below hbw)).mono ?_
  rintro e v1 ⟨rfl, hb1⟩
  replace Xd : Hid _ := Xd.out.below hb1
  replace hbw := Below.on hbw hb1
  clear hb1
  obtain ⟨cd0, cd1, cd2, fd0, fd1, fd2⟩ := Xd.out
  have hned : gd < v1.heap.size := World.block_lt_of_cell? v1 _ cd0
  go_wp2_with fail
  clear cd0 cd1 cd2 fd0 fd1 fd2 hned
  refine (zsign (H.out.below hbw)).mono ?_
  rintro e v2 ⟨rfl, hb2⟩
  rw [show sgnI 0 = 0 from rfl]
  replace Xd : Hid _ := Xd.out.below hb2
  replace hbw := Below.on hbw hb2
  clear hb2
  obtain ⟨cd0, cd1, cd2, fd0, fd1, fd2⟩ := Xd.out
  have hned : gd < v2.heap.size := World.block_lt_of_cell? v2 _ cd0
  go_wp2_with fail
  clear cd0 cd1 cd2 fd0 fd1 fd2 hned
  go_ret
  exact ⟨rfl, hbw⟩
theorem dform_fe {p : Option Addr} {m c : Nat} {w : World} {z e : Int} {s : Bool} (h : ZN w s p m c z) (hz : z % 2 = 0 ∧ z ≠ 0) :
    Calls Tryz.prog 14 #[DV s p m c e] w fun en w' => en = .returned (.bool false) ∧ Below w.heap.size w w' := by
  have H : Hid (ZN w s p m c z) := h
  have HZ : Hid (z % 2 = 0 ∧ z ≠ 0) := hz
  clear hz
  clear h
  go_enter Tryz.func14, Tryz.ntmps14
  go_wp2_with fail
  obtain ⟨W0, hW0⟩ : ∃ W0, W0 = (w.alloc (.cells #[.bool s, .slice p m c, .int .i64 e] 27)) := ⟨_, rfl⟩
  have Xd : Hid (B3q W0 (w.heap.size) (.bool s) (.slice p m c) (.int .i64 e)) := by rw [hW0]; exact ⟨by go_simp, by go_simp, by go_simp, by go_simp, by go_simp, by go_simp⟩
  have hb0 : Below w.heap.size w W0 := by rw [hW0]; exact below1 w _
  rw [← hW0]
  clear hW0
  have hbw : Below w.heap.size w w := Below.refl _ _
  obtain ⟨gd, hgd⟩ : ∃ g, g = w.heap.size := ⟨_, rfl⟩
  have HGd : Hid (w.heap.size ≤ gd) := by rw [hgd]; show _ ≤ _; omega
  rw [← hgd] at Xd
  try rw [← hgd]
  clear hgd
  replace hbw := Below.on hbw hb0
  clear hb0
  refine (zform (H.out.below hbw)).mono ?_
  rintro e v1 ⟨rfl, hb1⟩
  replace Xd : Hid _ := Xd.out.below hb1
  replace hbw := Below.on hbw hb1
  clear hb1
  obtain ⟨cd0, cd1, cd2, fd0, fd1, fd2⟩ := Xd.out
  have hned : gd < v1.heap.size := World.block_lt_of_cell? v1 _ cd0
  go_wp2_with fail
  clear cd0 cd1 cd2 fd0 fd1 fd2 hned
  refine (zsign (H.out.below hbw)).mono ?_
  rintro e v2 ⟨rfl, hb2⟩
  obtain ⟨sg, hsg⟩ : ∃ sg, sg = sgnI (z) := ⟨_, rfl⟩
  rw [← hsg]
  have hs0 : (sg == 0) = false := by rw [hsg]; have := HZ.out; unfold sgnI; split <;> (try split) <;> simp <;> omega
  clear hsg
  replace Xd : Hid _ := Xd.out.below hb2
  replace hbw := Below.on hbw hb2
  clear hb2
  obtain ⟨cd0, cd1, cd2, fd0, fd1, fd2⟩ := Xd.out
  have hned : gd < v2.heap.size := World.block_lt_of_cell? v2 _ cd0
  go_wp2_with fail
  clear cd0 cd1 cd2 fd0 fd1 fd2 hned
  obtain ⟨xs, hX⟩ := (H.out.below hbw).ex
  refine (bit_int hX.at_ (by have := hX.le; omega) 0 (by decide)).mono ?_
  rintro e2 v3 ⟨rfl, hw⟩
  obtain rfl := hw.symm
  clear hw
  rw [show bitO (valB B64 xs) 0 = false from by unfold bitO; rw [if_neg (by omega), hX.nf.val]; simp; have := HZ.out; omega]
  clear hX
  obtain ⟨cd0, cd1, cd2, fd0, fd1, fd2⟩ := Xd.out
  have hned : gd < v2.heap.size := World.block_lt_of_cell? v2 _ cd0
  go_wp2_with fail
  clear cd0 cd1 cd2 fd0 fd1 fd2 hned
  go_ret
  exact ⟨rfl, hbw⟩
theorem dform_fl {p : Option Addr} {m c : Nat} {w : World} {z e : Int} {s : Bool} (h : ZN w s p m c z) (hz : z % 2 = 1) (he : e < -1048576) :
    Calls Tryz.prog 14 #[DV s p m c e] w fun en w' => en = .returned (.bool false) ∧ Below w.heap.size w w' := by
  have H : Hid (ZN w s p m c z) := h
  have HZ : Hid (z % 2 = 1) := hz
  have h1 : ¬ (-1048576 : Int) ≤ e := by omega
  clear hz
  clear h
  go_enter Tryz.func14, Tryz.ntmps14
  go_wp2_with fail
  obtain ⟨W0, hW0⟩ : ∃ W0, W0 = (w.alloc (.cells #[.bool s, .slice p m c, .int .i64 e] 27)) := ⟨_, rfl⟩
  have Xd : Hid (B3q W0 (w.heap.size) (.bool s) (.slice p m c) (.int .i64 e)) := by rw [hW0]; exact ⟨by go_simp, by go_simp, by go_simp, by go_simp, by go_simp, by go_simp⟩
  have hb0 : Below w.heap.size w W0 := by rw [hW0]; exact below1 w _
  rw [← hW0]
  clear hW0
  have hbw : Below w.heap.size w w := Below.refl _ _
  obtain ⟨gd, hgd⟩ : ∃ g, g = w.heap.size := ⟨_, rfl⟩
  have HGd : Hid (w.heap.size ≤ gd) := by rw [hgd]; show _ ≤ _; omega
  rw [← hgd] at Xd
  try rw [← hgd]
  clear hgd
  replace hbw := Below.on hbw hb0
  clear hb0
  refine (zform (H.out.below hbw)).mono ?_
  rintro e v1 ⟨rfl, hb1⟩
  replace Xd : Hid _ := Xd.out.below hb1
  replace hbw := Below.on hbw hb1
  clear hb1
  obtain ⟨cd0, cd1, cd2, fd0, fd1, fd2⟩ := Xd.out
  have hned : gd < v1.heap.size := World.block_lt_of_cell? v1 _ cd0
  go_wp2_with fail
  clear cd0 cd1 cd2 fd0 fd1 fd2 hned
  refine (zsign (H.out.below hbw)).mono ?_
  rintro e v2 ⟨rfl, hb2⟩
  obtain ⟨sg, hsg⟩ : ∃ sg, sg = sgnI (z) := ⟨_, rfl⟩
  rw [← hsg]
  have hs0 : (sg == 0) = false := by rw [hsg]; have := HZ.out; unfold sgnI; split <;> (try split) <;> simp <;> omega
  clear hsg
  replace Xd : Hid _ := Xd.out.below hb2
  replace hbw := Below.on hbw hb2
  clear hb2
  obtain ⟨cd0, cd1, cd2, fd0, fd1, fd2⟩ := Xd.out
  have hned : gd < v2.heap.size := World.block_lt_of_cell? v2 _ cd0
  go_wp2_with fail
  clear cd0 cd1 cd2 fd0 fd1 fd2 hned
  obtain ⟨xs, hX⟩ := (H.out.below hbw).ex
  refine (bit_int hX.at_ (by have := hX.le; omega) 0 (by decide)).mono ?_
  rintro e2 v3 ⟨rfl, hw⟩
  obtain rfl := hw.symm
  clear hw
  rw [show bitO (valB B64 xs) 0 = true from by unfold bitO; rw [if_neg (by omega), hX.nf.val]; simp; have := HZ.out; omega]
  clear hX
  obtain ⟨cd0, cd1, cd2, fd0, fd1, fd2⟩ := Xd.out
  have hned : gd < v2.heap.size := World.block_lt_of_cell? v2 _ cd0
  go_wp2_with fail
  clear cd0 cd1 cd2 fd0 fd1 fd2 hned
  go_ret
  exact ⟨rfl, hbw⟩
theorem dform_fh {p : Option Addr} {m c : Nat} {w : World} {z e : Int} {s : Bool} (h : ZN w s p m c z) (hz : z % 2 = 1) (he : 1048576 < e) :
    Calls Tryz.prog 14 #[DV s p m c e] w fun en w' => en = .returned (.bool false) ∧ Below w.heap.size w w' := by
  have H : Hid (ZN w s p m c z) := h
  have HZ : Hid (z % 2 = 1) := hz
  have h1 : (-1048576 : Int) ≤ e := by omega
  have h2 : ¬ e ≤ (1048576 : Int) := by omega
  have h3 : ¬ e < (-1048576 : Int) := by omega
  clear hz
  clear h
  go_enter Tryz.func14, Tryz.ntmps14
  go_wp2_with fail
  obtain ⟨W0, hW0⟩ : ∃ W0, W0 = (w.alloc (.cells #[.bool s, .slice p m c, .int .i64 e] 27)) := ⟨_, rfl⟩
  have Xd : Hid (B3q W0 (w.heap.size) (.bool s) (.slice p m c) (.int .i64 e)) := by rw [hW0]; exact ⟨by go_simp, by go_simp, by go_simp, by go_simp, by go_simp, by go_simp⟩
  have hb0 : Below w.heap.size w W0 := by rw [hW0]; exact below1 w _
  rw [← hW0]
  clear hW0
  have hbw : Below w.heap.size w w := Below.refl _ _
  obtain ⟨gd, hgd⟩ : ∃ g, g = w.heap.size := ⟨_, rfl⟩
  have HGd : Hid (w.heap.size ≤ gd) := by rw [hgd]; show _ ≤ _; omega
  rw [← hgd] at Xd
  try rw [← hgd]
  clear hgd
  replace hbw := Below.on hbw hb0
  clear hb0
  refine (zform (H.out.below hbw)).mono ?_
  rintro e v1 ⟨rfl, hb1⟩
  replace Xd : Hid _ := Xd.out.below hb1
  replace hbw := Below.on hbw hb1
  clear hb1
  obtain ⟨cd0, cd1, cd2, fd0, fd1, fd2⟩ := Xd.out
  have hned : gd < v1.heap.size := World.block_lt_of_cell? v1 _ cd0
  go_wp2_with fail
  clear cd0 cd1 cd2 fd0 fd1 fd2 hned
  refine (zsign (H.out.below hbw)).mono ?_
  rintro e v2 ⟨rfl, hb2⟩
  obtain ⟨sg, hsg⟩ : ∃ sg, sg = sgnI (z) := ⟨_, rfl⟩
  rw [← hsg]
  have hs0 : (sg == 0) = false := by rw [hsg]; have := HZ.out; unfold sgnI; split <;> (try split) <;> simp <;> omega
  clear hsg
  replace Xd : Hid _ := Xd.out.below hb2
  replace hbw := Below.on hbw hb2
  clear hb2
  obtain ⟨cd0, cd1, cd2, fd0, fd1, fd2⟩ := Xd.out
  have hned : gd < v2.heap.size := World.block_lt_of_cell? v2 _ cd0
  go_wp2_with fail
  clear cd0 cd1 cd2 fd0 fd1 fd2 hned
  obtain ⟨xs, hX⟩ := (H.out.below hbw).ex
  refine (bit_int hX.at_ (by have := hX.le; omega) 0 (by decide)).mono ?_
  rintro e2 v3 ⟨rfl, hw⟩
  obtain rfl := hw.symm
  clear hw
  rw [show bitO (valB B64 xs) 0 = true from by unfold bitO; rw [if_neg (by omega), hX.nf.val]; simp; have := HZ.out; omega]
  clear hX
  obtain ⟨cd0, cd1, cd2, fd0, fd1, fd2⟩ := Xd.out
  have hned : gd < v2.heap.size := World.block_lt_of_cell? v2 _ cd0
  go_wp2_with fail
  clear cd0 cd1 cd2 fd0 fd1 fd2 hned
  go_ret
  refine ⟨?_, hbw⟩
  show Ending.returned (.bool (decide (e ≤ 1048576))) = _
  rw [decide_eq_false (by omega)]
theorem dform_f {p : Option Addr} {m c : Nat} {xs : List Nat} {w : World} {e : Int} (s : Bool) (h : At w p m c xs) (hf : formD s xs e = false) :
    Calls Tryz.prog 14 #[DV s p m c e] w fun en w' => en = .returned (.bool false) ∧ Below w.heap.size w w' := by
  cases hz : formZ s xs
  · exact dform_f0 s h hz
  obtain ⟨hN, hs⟩ := formZ_num h hz
  have hZ : ZN w s p m c (iv s (valB B64 xs)) := ZN.of hN hs
  unfold formZ at hz
  rw [Bool.and_eq_true] at hz
  unfold formD at hf
  rw [hz.1, Bool.true_and] at hf
  have hv := val_mod2 xs
  by_cases h0 : xs.length = 0
  · have hx : xs = [] := List.length_eq_zero_iff.1 h0
    subst hx
    have hs2 : s = false := by
      have := hz.2
      cases s
      · rfl
      · simp at this
    subst hs2
    refine dform_fz hZ rfl ?_
    intro h9
    subst h9
    simp at hf
  · rw [if_neg h0] at hf
    have hne : valB B64 xs ≠ 0 := by
      intro h9
      have h8 := hN.zero
      have h7 := hN.at_.len
      rw [h9] at h8
      have := h8.2 rfl
      omega
    by_cases h5 : xs.getD 0 0 % 2 = 1
    · rw [decide_eq_true h5, Bool.and_true] at hf
      have ho : iv s (valB B64 xs) % 2 = 1 := by cases s <;> simp only [iv] <;> simp <;> omega
      rcases Int.lt_or_le e (-1048576) with h6 | h6
      · exact dform_fl hZ ho h6
      · rcases Int.lt_or_le 1048576 e with h7 | h7
        · exact dform_fh hZ ho h7
        · rw [decide_eq_true h6, decide_eq_true h7] at hf
          exact absurd hf (by decide)
    · refine dform_fe hZ ?_
      cases s <;> simp only [iv] <;> simp <;> omega
theorem nought_t {p : Option Addr} {c : Nat} {w : World} {e : Int} {s : Bool} :
    Calls Tryz.prog 41 #[DV s p 0 c e] w fun en w' => en = .returned (.bool true) ∧ Below w.heap.size w w' := by
  go_enter Tryz.func41, Tryz.ntmps41
  go_wp2_with fail
  go_ret
  exact ⟨rfl, below1 w _⟩
theorem nought {p : Option Addr} {m c : Nat} {w : World} {e : Int} {s : Bool} :
    Calls Tryz.prog 41 #[DV s p m c e] w fun en w' => en = .returned (.bool (decide (m = 0))) ∧ Below w.heap.size w w' := by
  rcases Nat.eq_zero_or_pos m with h | h
  · subst h; exact nought_t
  · rw [decide_eq_false (by omega)]; exact nought5 h
structure B10q (W : World) (g : Nat) (v0 v1 v2 v3 v4 v5 v6 v7 v8 v9 : Value) : Prop where
  c0 : W.cell? ⟨g, 0, none⟩ = some v0
  c1 : W.cell? ⟨g, 1, none⟩ = some v1
  c2 : W.cell? ⟨g, 2, none⟩ = some v2
  c3 : W.cell? ⟨g, 3, none⟩ = some v3
  c4 : W.cell? ⟨g, 4, none⟩ = some v4
  c5 : W.cell? ⟨g, 5, none⟩ = some v5
  c6 : W.cell? ⟨g, 6, none⟩ = some v6
  c7 : W.cell? ⟨g, 7, none⟩ = some v7
  c8 : W.cell? ⟨g, 8, none⟩ = some v8
  c9 : W.cell? ⟨g, 9, none⟩ = some v9
  f0 : W.frozen? ⟨g, 0, none⟩ = false
  f1 : W.frozen? ⟨g, 1, none⟩ = false
  f2 : W.frozen? ⟨g, 2, none⟩ = false
  f3 : W.frozen? ⟨g, 3, none⟩ = false
  f4 : W.frozen? ⟨g, 4, none⟩ = false
  f5 : W.frozen? ⟨g, 5, none⟩ = false
  f6 : W.frozen? ⟨g, 6, none⟩ = false
  f7 : W.frozen? ⟨g, 7, none⟩ = false
  f8 : W.frozen? ⟨g, 8, none⟩ = false
  f9 : W.frozen? ⟨g, 9, none⟩ = false
theorem B10q.lt {w : World} {g : Nat} {v0 v1 v2 v3 v4 v5 v6 v7 v8 v9 : Value} (h : B10q w g v0 v1 v2 v3 v4 v5 v6 v7 v8 v9) : g < w.heap.size := World.block_lt_of_cell? w _ h.c0
theorem B10q.below {W W' : World} {g : Nat} {v0 v1 v2 v3 v4 v5 v6 v7 v8 v9 : Value} (h : B10q W g v0 v1 v2 v3 v4 v5 v6 v7 v8 v9) (hb : Below W.heap.size W W') : B10q W' g v0 v1 v2 v3 v4 v5 v6 v7 v8 v9 := by
  have hl : g < W.heap.size := World.block_lt_of_cell? W _ h.c0
  exact ⟨(hb.cell (p := ⟨g, 0, none⟩) hl).trans h.c0, (hb.cell (p := ⟨g, 1, none⟩) hl).trans h.c1, (hb.cell (p := ⟨g, 2, none⟩) hl).trans h.c2, (hb.cell (p := ⟨g, 3, none⟩) hl).trans h.c3, (hb.cell (p := ⟨g, 4, none⟩) hl).trans h.c4, (hb.cell (p := ⟨g, 5, none⟩) hl).trans h.c5, (hb.cell (p := ⟨g, 6, none⟩) hl).trans h.c6, (hb.cell (p := ⟨g, 7, none⟩) hl).trans h.c7, (hb.cell (p := ⟨g, 8, none⟩) hl).trans h.c8, (hb.cell (p := ⟨g, 9, none⟩) hl).trans h.c9, (hb.frozen (p := ⟨g, 0, none⟩) hl).trans h.f0, (hb.frozen (p := ⟨g, 1, none⟩) hl).trans h.f1, (hb.frozen (p := ⟨g, 2, none⟩) hl).trans h.f2, (hb.frozen (p := ⟨g, 3, none⟩) hl).trans h.f3, (hb.frozen (p := ⟨g, 4, none⟩) hl).trans h.f4, (hb.frozen (p := ⟨g, 5, none⟩) hl).trans h.f5, (hb.frozen (p := ⟨g, 6, none⟩) hl).trans h.f6, (hb.frozen (p := ⟨g, 7, none⟩) hl).trans h.f7, (hb.frozen (p := ⟨g, 8, none⟩) hl).trans h.f8, (hb.frozen (p := ⟨g, 9, none⟩) hl).trans h.f9⟩
theorem B10q.new (w : World) (ty : TypeId) (v0 v1 v2 v3 v4 v5 v6 v7 v8 v9 : Value) : B10q (w.alloc (.cells #[v0, v1, v2, v3, v4, v5, v6, v7, v8, v9] ty)) w.heap.size v0 v1 v2 v3 v4 v5 v6 v7 v8 v9 := ⟨by go_simp, by go_simp, by go_simp, by go_simp, by go_simp, by go_simp, by go_simp, by go_simp, by go_simp, by go_simp, by go_simp, by go_simp, by go_simp, by go_simp, by go_simp, by go_simp, by go_simp, by go_simp, by go_simp, by go_simp⟩
theorem B10q.set10 {w : World} {r : Nat} {u0 u1 u2 u3 u4 u5 u6 u7 u8 u9 : Value} {v0 v1 v2 v3 v4 v5 v6 v7 v8 v9 : Value} (h : B10q w r u0 u1 u2 u3 u4 u5 u6 u7 u8 u9) : B10q ((((((((((w.setCell ⟨r, 0, none⟩ v0).setCell ⟨r, 1, none⟩ v1).setCell ⟨r, 2, none⟩ v2).setCell ⟨r, 3, none⟩ v3).setCell ⟨r, 4, none⟩ v4).setCell ⟨r, 5, none⟩ v5).setCell ⟨r, 6, none⟩ v6).setCell ⟨r, 7, none⟩ v7).setCell ⟨r, 8, none⟩ v8).setCell ⟨r, 9, none⟩ v9) r v0 v1 v2 v3 v4 v5 v6 v7 v8 v9 := by
  obtain ⟨c0, c1, c2, c3, c4, c5, c6, c7, c8, c9, f0, f1, f2, f3, f4, f5, f6, f7, f8, f9⟩ := h
  exact ⟨by go_simp, by go_simp, by go_simp, by go_simp, by go_simp, by go_simp, by go_simp, by go_simp, by go_simp, by go_simp, by go_simp, by go_simp, by go_simp, by go_simp, by go_simp, by go_simp, by go_simp, by go_simp, by go_simp, by go_simp⟩
theorem At.set10 {w : World} {g r n c : Nat} {xs : List Nat} {v0 v1 v2 v3 v4 v5 v6 v7 v8 v9 : Value} (h : At w (some ⟨g, 0, none⟩) n c xs) (hne : g ≠ r) : At ((((((((((w.setCell ⟨r, 0, none⟩ v0).setCell ⟨r, 1, none⟩ v1).setCell ⟨r, 2, none⟩ v2).setCell ⟨r, 3, none⟩ v3).setCell ⟨r, 4, none⟩ v4).setCell ⟨r, 5, none⟩ v5).setCell ⟨r, 6, none⟩ v6).setCell ⟨r, 7, none⟩ v7).setCell ⟨r, 8, none⟩ v8).setCell ⟨r, 9, none⟩ v9) (some ⟨g, 0, none⟩) n c xs := ((((((((((h.setOther _ _ _ hne).setOther _ _ _ hne).setOther _ _ _ hne).setOther _ _ _ hne).setOther _ _ _ hne).setOther _ _ _ hne).setOther _ _ _ hne).setOther _ _ _ hne).setOther _ _ _ hne).setOther _ _ _ hne)
theorem below_set10 {B r : Nat} {w w' : World} {v0 v1 v2 v3 v4 v5 v6 v7 v8 v9 : Value} (h : Below B w w') (hr : B ≤ r) : Below B w ((((((((((w'.setCell ⟨r, 0, none⟩ v0).setCell ⟨r, 1, none⟩ v1).setCell ⟨r, 2, none⟩ v2).setCell ⟨r, 3, none⟩ v3).setCell ⟨r, 4, none⟩ v4).setCell ⟨r, 5, none⟩ v5).setCell ⟨r, 6, none⟩ v6).setCell ⟨r, 7, none⟩ v7).setCell ⟨r, 8, none⟩ v8).setCell ⟨r, 9, none⟩ v9) := (bSet (bSet (bSet (bSet (bSet (bSet (bSet (bSet (bSet (bSet h _ _ _ hr) _ _ _ hr) _ _ _ hr) _ _ _ hr) _ _ _ hr) _ _ _ hr) _ _ _ hr) _ _ _ hr) _ _ _ hr) _ _ _ hr)
theorem loadVar_B10 {w : World} {g : Nat} {v0 v1 v2 v3 v4 v5 v6 v7 v8 v9 : Value} (h : B10q w g v0 v1 v2 v3 v4 v5 v6 v7 v8 v9) : (loadVar 52 ⟨g, 0, none⟩).run Tryz.prog w = .ok (.agg #[v0, v1, v2, v3, v4, v5, v6, v7, v8, v9]) w := by
  have hl : (loadCells ⟨g, 0, none⟩ 10).run Tryz.prog w = .ok #[v0, v1, v2, v3, v4, v5, v6, v7, v8, v9] w :=
    run_loadCells_list (P := Tryz.prog) w ⟨g, 0, none⟩ [v0, v1, v2, v3, v4, v5, v6, v7, v8, v9] (fun j v hv => by
      have hadd : (⟨g, 0, none⟩ : Addr).add j = ⟨g, j, none⟩ := by unfold Addr.add; split <;> simp_all
      rw [hadd]
      exact match j, hv with
      | 0, hv => by
        obtain rfl : v0 = v := by simpa using hv
        exact h.c0
      | 1, hv => by
        obtain rfl : v1 = v := by simpa using hv
        exact h.c1
      | 2, hv => by
        obtain rfl : v2 = v := by simpa using hv
        exact h.c2
      | 3, hv => by
        obtain rfl : v3 = v := by simpa using hv
        exact h.c3
      | 4, hv => by
        obtain rfl : v4 = v := by simpa using hv
        exact h.c4
      | 5, hv => by
        obtain rfl : v5 = v := by simpa using hv
        exact h.c5
      | 6, hv => by
        obtain rfl : v6 = v := by simpa using hv
        exact h.c6
      | 7, hv => by
        obtain rfl : v7 = v := by simpa using hv
        exact h.c7
      | 8, hv => by
        obtain rfl : v8 = v := by simpa using hv
        exact h.c8
      | 9, hv => by
        obtain rfl : v9 = v := by simpa using hv
        exact h.c9
      | k + 10, hv => by simp at hv)
  have hi : (Tryz.prog.info? 52).map (·.size) = some 10 := by kernel_rfl
  cases hq : Tryz.prog.info? 52 with
  | none => simp [hq] at hi
  | some i =>
    have hs : i.size = 10 := by simpa [hq] using hi
    have hagg : (isAgg 52).run Tryz.prog w = .ok true w := by
      unfold isAgg
      rw [Sem.run_bind, run_underlying Tryz.underlying52 w]
      rfl
    simp [loadVar, Sem.run_bind, hagg, sizeOf, typeInfo, hq, hs, hl]
theorem twinD {p : Option Addr} {m c : Nat} {xs : List Nat} {w : World} {e : Int} (s : Bool) (h : At w p m c xs) (hm : m ≤ 17592186044416) :
    Calls Tryz.prog 76 #[DV s p m c e] w fun en w' => ∃ g, en = .returned (DV s (some ⟨g, 0, none⟩) m m e) ∧ w.heap.size ≤ g ∧ At w' (some ⟨g, 0, none⟩) m m xs ∧ Below w.heap.size w w' := by
  have H : Hid (At w p m c xs) := h
  have HM : Hid (m ≤ 17592186044416) := hm
  clear h hm
  go_enter Tryz.func76, Tryz.ntmps76
  go_wp2_with fail
  obtain ⟨W0, hW0⟩ : ∃ W0, W0 = ((w.alloc (.cells #[.bool s, .slice p m c, .int .i64 e] 27)).alloc (.cells #[.bool false, .slice none 0 0, .int .i64 0] 27)) := ⟨_, rfl⟩
  have Xd : Hid (B3q W0 (w.heap.size) (.bool s) (.slice p m c) (.int .i64 e)) := by rw [hW0]; exact ⟨by go_simp, by go_simp, by go_simp, by go_simp, by go_simp, by go_simp⟩
  have Xr : Hid (B3q W0 (w.heap.size + 1) (.bool false) (.slice none 0 0) (.int .i64 0)) := by rw [hW0]; exact ⟨by go_simp, by go_simp, by go_simp, by go_simp, by go_simp, by go_simp⟩
  have hb0 : Below w.heap.size w W0 := by rw [hW0]; exact below2 w _ _
  rw [← hW0]
  clear hW0
  have hbw : Below w.heap.size w w := Below.refl _ _
  obtain ⟨gr, hgr⟩ : ∃ g, g = w.heap.size + 1 := ⟨_, rfl⟩
  have HGr : Hid (w.heap.size ≤ gr) := by rw [hgr]; show _ ≤ _; omega
  rw [← hgr] at Xr
  try rw [← hgr]
  obtain ⟨gd, hgd⟩ : ∃ g, g = w.heap.size := ⟨_, rfl⟩
  have HGd : Hid (w.heap.size ≤ gd) := by rw [hgd]; show _ ≤ _; omega
  rw [← hgd] at Xd
  try rw [← hgd]
  have HGD : Hid (gd ≠ gr ∧ gr ≠ gd) := by rw [hgd, hgr]; exact ⟨by omega, by omega⟩
  clear hgd hgr
  replace H : Hid _ := H.out.below hb0
  replace hbw := Below.on hbw hb0
  clear hb0
  obtain ⟨W1, hW1⟩ : ∃ W1, W1 = W0.drew := ⟨_, rfl⟩
  have hbd : Below W0.heap.size W0 W1 := by rw [hW1]; exact bDrew1 (Below.refl _ _)
  replace Xd : Hid _ := Xd.out.below hbd
  replace Xr : Hid _ := Xr.out.below hbd
  replace H : Hid _ := H.out.below hbd
  replace hbw := Below.on hbw hbd
  clear hbd
  have HJ : Hid ((fun W' : World => W'.cell? ⟨gd, 0, none⟩ = some (.bool s) ∧ W'.cell? ⟨gd, 1, none⟩ = some (.slice p m c) ∧ W'.cell? ⟨gd, 2, none⟩ = some (.int .i64 e)) W1) := ⟨Xd.out.c0, Xd.out.c1, Xd.out.c2⟩
  refine wp_region_J (fun W' => W'.cell? ⟨gd, 0, none⟩ = some (.bool s) ∧ W'.cell? ⟨gd, 1, none⟩ = some (.slice p m c) ∧ W'.cell? ⟨gd, 2, none⟩ = some (.int .i64 e)) (by kernel_rfl) ?_
  rw [← hW1]
  clear hW1
  refine wpJ_tq 0 rfl HJ.out ?_
  refine wpJ_tq 1 rfl HJ.out ?_
  refine wpJ_tq 2 rfl HJ.out ?_
  refine wpJ_tq 3 rfl HJ.out ?_
  refine wpJ_tq 4 rfl HJ.out ?_
  refine wpJ_tq 5 rfl HJ.out ?_
  refine wpJ_tq 8 rfl HJ.out ?_
  refine wpJ_tq 9 rfl HJ.out ?_
  refine wpJ_on 6 rfl fun KJ hK => ?_
  go_simp
  refine (twin_any H.out (by have := HM.out; omega)).mono ?_
  rintro e2 w2 ⟨g2, rfl, hg2, hblk2, hb2⟩
  have HRL : Hid (gr < g2 ∧ w.heap.size ≤ g2) := ⟨Nat.lt_of_lt_of_le Xr.out.lt hg2, Nat.le_trans hbw.size hg2⟩
  have hA2 := hblk2.at_ H.out.dig H.out.len (by have := HM.out; unfold maxLen; omega)
  replace Xd : Hid _ := Xd.out.below hb2
  replace Xr : Hid _ := Xr.out.below hb2
  replace H : Hid _ := H.out.below hb2
  replace hbw := Below.on hbw hb2
  clear hb2
  have A2 : Hid (At w2 (some ⟨g2, 0, none⟩) m m xs) := hA2
  clear hg2 hblk2 hA2
  clear HJ
  have HJ : Hid ((fun W' : World => W'.cell? ⟨gd, 0, none⟩ = some (.bool s) ∧ W'.cell? ⟨gd, 1, none⟩ = some (.slice p m c) ∧ W'.cell? ⟨gd, 2, none⟩ = some (.int .i64 e)) w2) := ⟨Xd.out.c0, Xd.out.c1, Xd.out.c2⟩
  refine hK _ _ HJ.out ?_
  clear hK
  refine wpJ_tq 7 rfl HJ.out ?_
  refine wpJ_tq 10 rfl HJ.out ?_
  obtain ⟨cr0, cr1, cr2, fr0, fr1, fr2⟩ := Xr.out
  have hner : gr < w2.heap.size := World.block_lt_of_cell? w2 _ cr0
  obtain ⟨cd0, cd1, cd2, fd0, fd1, fd2⟩ := Xd.out
  have hned : gd < w2.heap.size := World.block_lt_of_cell? w2 _ cd0
  obtain ⟨hgd0, hgd1⟩ := HGD.out
  refine wpJ_on 11 rfl fun KJ hK => ?_
  go_simp
  have HJ2 : Hid ((fun W' : World => W'.cell? ⟨gd, 0, none⟩ = some (.bool s) ∧ W'.cell? ⟨gd, 1, none⟩ = some (.slice p m c) ∧ W'.cell? ⟨gd, 2, none⟩ = some (.int .i64 e)) (((w2.setCell ⟨gr, 0, none⟩ (.bool s)).setCell ⟨gr, 1, none⟩ (.slice (some ⟨g2, 0, none⟩) m m)).setCell ⟨gr, 2, none⟩ (.int .i64 e))) := ⟨by go_simp, by go_simp, by go_simp⟩
  refine hK _ _ HJ2.out ?_
  clear hK HJ
  have HJ := HJ2
  clear HJ2
  refine wpJ_done (by kernel_rfl) ?_ _
  clear HJ
  go_wp2_with fail
  refine bodyPost_ret (v := DV s (some ⟨g2, 0, none⟩) m m e) (by rw [results_cell1 rfl]; go_simp) rfl ⟨g2, rfl, HRL.out.2, ?_, ?_⟩
  · have := HRL.out.1
    exact ((A2.out.setOther _ _ _ (by omega)).setOther _ _ _ (by omega)).setOther _ _ _ (by omega)
  · exact bSet (bSet (bSet hbw _ _ _ HGr.out) _ _ _ HGr.out) _ _ _ HGr.out
theorem told5e {p q : Option Addr} {m c n d : Nat} {w : World} {z e : Int} {s t : Bool} (er : Int) (h : DN w s p m c e z) (k : DN w t q n d e z) :
    Calls Tryz.prog 10 #[DV s p m c e, .int .i64 er, DV t q n d e, .int .i64 er] w fun en w' => en = .returned (.bool true) ∧ Below w.heap.size w w' := by
  have H : Hid (DN w s p m c e z) := h
  have K : Hid (DN w t q n d e z) := k
  have hee : (er == er) = true := by simp
  clear h k
  go_enter Tryz.func10, Tryz.ntmps10
  go_wp2_with fail
  obtain ⟨W0, hW0⟩ : ∃ W0, W0 = ((w.alloc (.cells #[.bool s, .slice p m c, .int .i64 e] 27)).alloc (.cells #[.bool t, .slice q n d, .int .i64 e] 27)) := ⟨_, rfl⟩
  have Xa : Hid (B3q W0 (w.heap.size) (.bool s) (.slice p m c) (.int .i64 e)) := by rw [hW0]; exact ⟨by go_simp, by go_simp, by go_simp, by go_simp, by go_simp, by go_simp⟩
  have Xb : Hid (B3q W0 (w.heap.size + 1) (.bool t) (.slice q n d) (.int .i64 e)) := by rw [hW0]; exact ⟨by go_simp, by go_simp, by go_simp, by go_simp, by go_simp, by go_simp⟩
  have hb0 : Below w.heap.size w W0 := by rw [hW0]; exact below2 w _ _
  rw [← hW0]
  clear hW0
  have hbw : Below w.heap.size w w := Below.refl _ _
  obtain ⟨gb, hgb⟩ : ∃ g, g = w.heap.size + 1 := ⟨_, rfl⟩
  have HGb : Hid (w.heap.size ≤ gb) := by rw [hgb]; show _ ≤ _; omega
  rw [← hgb] at Xb
  try rw [← hgb]
  obtain ⟨ga, hga⟩ : ∃ g, g = w.heap.size := ⟨_, rfl⟩
  have HGa : Hid (w.heap.size ≤ ga) := by rw [hga]; show _ ≤ _; omega
  rw [← hga] at Xa
  try rw [← hga]
  have HGD : Hid (ga ≠ gb ∧ gb ≠ ga) := by rw [hga, hgb]; exact ⟨by omega, by omega⟩
  clear hga hgb
  replace hbw := Below.on hbw hb0
  clear hb0
  refine (sameD_t (H.out.below hbw) (K.out.below hbw)).mono ?_
  rintro e v1 ⟨rfl, hb1⟩
  replace Xa : Hid _ := Xa.out.below hb1
  replace Xb : Hid _ := Xb.out.below hb1
  replace hbw := Below.on hbw hb1
  clear hb1
  go_wp2_with fail
  go_ret
  exact ⟨rfl, hbw⟩
theorem twinO {pa pb pm : Option Addr} {na ca nb cb nm cm : Nat} {xa xb xm : List Nat} {w : World} {kd ea eb nn : Int} (sa sb sm : Bool) (ha : At w pa na ca xa) (hb : At w pb nb cb xb) (hm : At w pm nm cm xm) (hn : na ≤ 17592186044416 ∧ nb ≤ 17592186044416 ∧ nm ≤ 17592186044416) :
    Calls Tryz.prog 47 #[(.agg #[.int .i64 kd, .bool sa, .slice pa na ca, .int .i64 ea, .bool sb, .slice pb nb cb, .int .i64 eb, .bool sm, .slice pm nm cm, .int .i64 nn])] w fun en w' => ∃ qa qb qm, en = .returned (.agg #[.int .i64 kd, .bool sa, .slice qa na na, .int .i64 ea, .bool sb, .slice qb nb nb, .int .i64 eb, .bool sm, .slice qm nm nm, .int .i64 nn]) ∧ At w' qa na na xa ∧ At w' qb nb nb xb ∧ At w' qm nm nm xm ∧ Below w.heap.size w w' := by
  have HA : Hid (At w pa na ca xa) := ha
  have HB : Hid (At w pb nb cb xb) := hb
  have HM : Hid (At w pm nm cm xm) := hm
  have HN : Hid (na ≤ 17592186044416 ∧ nb ≤ 17592186044416 ∧ nm ≤ 17592186044416) := hn
  clear ha hb hm hn
  go_enter Tryz.func47, Tryz.ntmps47
  go_wp2_with fail
  obtain ⟨W0, hW0⟩ : ∃ W0, W0 = ((w.alloc (.cells #[.int .i64 kd, .bool sa, .slice pa na ca, .int .i64 ea, .bool sb, .slice pb nb cb, .int .i64 eb, .bool sm, .slice pm nm cm, .int .i64 nn] 52)).alloc (.cells #[.int .i64 0, .bool false, .slice none 0 0, .int .i64 0, .bool false, .slice none 0 0, .int .i64 0, .bool false, .slice none 0 0, .int .i64 0] 52)) := ⟨_, rfl⟩
  have Xo : Hid (B10q W0 (w.heap.size) (.int .i64 kd) (.bool sa) (.slice pa na ca) (.int .i64 ea) (.bool sb) (.slice pb nb cb) (.int .i64 eb) (.bool sm) (.slice pm nm cm) (.int .i64 nn)) := by rw [hW0]; exact ⟨by go_simp, by go_simp, by go_simp, by go_simp, by go_simp, by go_simp, by go_simp, by go_simp, by go_simp, by go_simp, by go_simp, by go_simp, by go_simp, by go_simp, by go_simp, by go_simp, by go_simp, by go_simp, by go_simp, by go_simp⟩
  have Xr : Hid (B10q W0 (w.heap.size + 1) (.int .i64 0) (.bool false) (.slice none 0 0) (.int .i64 0) (.bool false) (.slice none 0 0) (.int .i64 0) (.bool false) (.slice none 0 0) (.int .i64 0)) := by rw [hW0]; exact ⟨by go_simp, by go_simp, by go_simp, by go_simp, by go_simp, by go_simp, by go_simp, by go_simp, by go_simp, by go_simp, by go_simp, by go_simp, by go_simp, by go_simp, by go_simp, by go_simp, by go_simp, by go_simp, by go_simp, by go_simp⟩
  have hb0 : Below w.heap.size w W0 := by rw [hW0]; exact below2 w _ _
  rw [← hW0]
  clear hW0
  have hbw : Below w.heap.size w w := Below.refl _ _
  obtain ⟨gr, hgr⟩ : ∃ g, g = w.heap.size + 1 := ⟨_, rfl⟩
  have HGr : Hid (w.heap.size ≤ gr) := by rw [hgr]; show _ ≤ _; omega
  rw [← hgr] at Xr
  try rw [← hgr]
  obtain ⟨go, hgo⟩ : ∃ g, g = w.heap.size := ⟨_, rfl⟩
  have HGo : Hid (w.heap.size ≤ go) := by rw [hgo]; show _ ≤ _; omega
  rw [← hgo] at Xo
  try rw [← hgo]
  have HGD : Hid (go ≠ gr ∧ gr ≠ go) := by rw [hgo, hgr]; exact ⟨by omega, by omega⟩
  clear hgo hgr
  replace hbw := Below.on hbw hb0
  clear hb0
  obtain ⟨co0, co1, co2, co3, co4, co5, co6, co7, co8, co9, fo0, fo1, fo2, fo3, fo4, fo5, fo6, fo7, fo8, fo9⟩ := Xo.out
  have hneo : go < W0.heap.size := World.block_lt_of_cell? W0 _ co0
  go_wp2_with fail
  clear co0 co1 co2 co3 co4 co5 co6 co7 co8 co9 fo0 fo1 fo2 fo3 fo4 fo5 fo6 fo7 fo8 fo9 hneo
  refine (twinD sa (HA.out.below hbw) HN.out.1).mono ?_
  rintro e2 v1 ⟨g1, rfl, hg1, hA1, hb1⟩
  have HD1 : Hid (go < g1 ∧ gr < g1) := ⟨Nat.lt_of_lt_of_le Xo.out.lt hg1, Nat.lt_of_lt_of_le Xr.out.lt hg1⟩
  replace Xo : Hid (B10q v1 go (.int .i64 kd) (.bool sa) (.slice pa na ca) (.int .i64 ea) (.bool sb) (.slice pb nb cb) (.int .i64 eb) (.bool sm) (.slice pm nm cm) (.int .i64 nn)) := Xo.out.below hb1
  replace Xr : Hid (B10q v1 gr (.int .i64 0) (.bool false) (.slice none 0 0) (.int .i64 0) (.bool false) (.slice none 0 0) (.int .i64 0) (.bool false) (.slice none 0 0) (.int .i64 0)) := Xr.out.below hb1
  replace hbw := Below.on hbw hb1
  clear hb1
  have T1 : Hid (At v1 (some ⟨g1, 0, none⟩) na na xa) := hA1
  clear hA1 hg1
  obtain ⟨hgd0, hgd1⟩ := HGD.out
  obtain ⟨co0, co1, co2, co3, co4, co5, co6, co7, co8, co9, fo0, fo1, fo2, fo3, fo4, fo5, fo6, fo7, fo8, fo9⟩ := Xo.out
  have hneo : go < v1.heap.size := World.block_lt_of_cell? v1 _ co0
  obtain ⟨cr0, cr1, cr2, cr3, cr4, cr5, cr6, cr7, cr8, cr9, fr0, fr1, fr2, fr3, fr4, fr5, fr6, fr7, fr8, fr9⟩ := Xr.out
  have hner : gr < v1.heap.size := World.block_lt_of_cell? v1 _ cr0
  go_wp2_with fail
  have Xo2 : Hid (B10q (((v1.setCell ⟨go, 1, none⟩ (.bool sa)).setCell ⟨go, 2, none⟩ (.slice (some ⟨g1, 0, none⟩) na na)).setCell ⟨go, 3, none⟩ (.int .i64 ea)) go (.int .i64 kd) (.bool sa) (.slice (some ⟨g1, 0, none⟩) na na) (.int .i64 ea) (.bool sb) (.slice pb nb cb) (.int .i64 eb) (.bool sm) (.slice pm nm cm) (.int .i64 nn)) := ⟨by go_simp, by go_simp, by go_simp, by go_simp, by go_simp, by go_simp, by go_simp, by go_simp, by go_simp, by go_simp, by go_simp, by go_simp, by go_simp, by go_simp, by go_simp, by go_simp, by go_simp, by go_simp, by go_simp, by go_simp⟩
  have Xr2 : Hid (B10q (((v1.setCell ⟨go, 1, none⟩ (.bool sa)).setCell ⟨go, 2, none⟩ (.slice (some ⟨g1, 0, none⟩) na na)).setCell ⟨go, 3, none⟩ (.int .i64 ea)) gr (.int .i64 0) (.bool false) (.slice none 0 0) (.int .i64 0) (.bool false) (.slice none 0 0) (.int .i64 0) (.bool false) (.slice none 0 0) (.int .i64 0)) := ⟨by go_simp, by go_simp, by go_simp, by go_simp, by go_simp, by go_simp, by go_simp, by go_simp, by go_simp, by go_simp, by go_simp, by go_simp, by go_simp, by go_simp, by go_simp, by go_simp, by go_simp, by go_simp, by go_simp, by go_simp⟩
  have T12 : Hid (At (((v1.setCell ⟨go, 1, none⟩ (.bool sa)).setCell ⟨go, 2, none⟩ (.slice (some ⟨g1, 0, none⟩) na na)).setCell ⟨go, 3, none⟩ (.int .i64 ea)) (some ⟨g1, 0, none⟩) na na xa) := (((T1.out.setOther _ _ _ (by have := HD1.out; omega)).setOther _ _ _ (by have := HD1.out; omega)).setOther _ _ _ (by have := HD1.out; omega))
  have hbw2 : Below w.heap.size w (((v1.setCell ⟨go, 1, none⟩ (.bool sa)).setCell ⟨go, 2, none⟩ (.slice (some ⟨g1, 0, none⟩) na na)).setCell ⟨go, 3, none⟩ (.int .i64 ea)) := bSet (bSet (bSet (hbw) _ _ _ HGo.out) _ _ _ HGo.out) _ _ _ HGo.out
  clear co0 co1 co2 co3 co4 co5 co6 co7 co8 co9 fo0 fo1 fo2 fo3 fo4 fo5 fo6 fo7 fo8 fo9 hneo
  clear cr0 cr1 cr2 cr3 cr4 cr5 cr6 cr7 cr8 cr9 fr0 fr1 fr2 fr3 fr4 fr5 fr6 fr7 fr8 fr9 hner
  clear hgd0 hgd1 Xo Xr hbw T1
  generalize (((v1.setCell ⟨go, 1, none⟩ (.bool sa)).setCell ⟨go, 2, none⟩ (.slice (some ⟨g1, 0, none⟩) na na)).setCell ⟨go, 3, none⟩ (.int .i64 ea)) = W2 at *
  have Xo := Xo2
  have Xr := Xr2
  have hbw := hbw2
  have T1 := T12
  clear Xo2 Xr2 hbw2 T12
  refine (twinD sb (HB.out.below hbw) HN.out.2.1).mono ?_
  rintro e2 v3 ⟨g3, rfl, hg3, hA3, hb3⟩
  have HD3 : Hid (go < g3 ∧ gr < g3) := ⟨Nat.lt_of_lt_of_le Xo.out.lt hg3, Nat.lt_of_lt_of_le Xr.out.lt hg3⟩
  replace Xo : Hid (B10q v3 go (.int .i64 kd) (.bool sa) (.slice (some ⟨g1, 0, none⟩) na na) (.int .i64 ea) (.bool sb) (.slice pb nb cb) (.int .i64 eb) (.bool sm) (.slice pm nm cm) (.int .i64 nn)) := Xo.out.below hb3
  replace Xr : Hid (B10q v3 gr (.int .i64 0) (.bool false) (.slice none 0 0) (.int .i64 0) (.bool false) (.slice none 0 0) (.int .i64 0) (.bool false) (.slice none 0 0) (.int .i64 0)) := Xr.out.below hb3
  replace T1 : Hid _ := T1.out.below hb3
  replace hbw := Below.on hbw hb3
  clear hb3
  have T3 : Hid (At v3 (some ⟨g3, 0, none⟩) nb nb xb) := hA3
  clear hA3 hg3
  obtain ⟨hgd0, hgd1⟩ := HGD.out
  obtain ⟨co0, co1, co2, co3, co4, co5, co6, co7, co8, co9, fo0, fo1, fo2, fo3, fo4, fo5, fo6, fo7, fo8, fo9⟩ := Xo.out
  have hneo : go < v3.heap.size := World.block_lt_of_cell? v3 _ co0
  obtain ⟨cr0, cr1, cr2, cr3, cr4, cr5, cr6, cr7, cr8, cr9, fr0, fr1, fr2, fr3, fr4, fr5, fr6, fr7, fr8, fr9⟩ := Xr.out
  have hner : gr < v3.heap.size := World.block_lt_of_cell? v3 _ cr0
  go_wp2_with fail
  have Xo2 : Hid (B10q (((v3.setCell ⟨go, 4, none⟩ (.bool sb)).setCell ⟨go, 5, none⟩ (.slice (some ⟨g3, 0, none⟩) nb nb)).setCell ⟨go, 6, none⟩ (.int .i64 eb)) go (.int .i64 kd) (.bool sa) (.slice (some ⟨g1, 0, none⟩) na na) (.int .i64 ea) (.bool sb) (.slice (some ⟨g3, 0, none⟩) nb nb) (.int .i64 eb) (.bool sm) (.slice pm nm cm) (.int .i64 nn)) := ⟨by go_simp, by go_simp, by go_simp, by go_simp, by go_simp, by go_simp, by go_simp, by go_simp, by go_simp, by go_simp, by go_simp, by go_simp, by go_simp, by go_simp, by go_simp, by go_simp, by go_simp, by go_simp, by go_simp, by go_simp⟩
  have Xr2 : Hid (B10q (((v3.setCell ⟨go, 4, none⟩ (.bool sb)).setCell ⟨go, 5, none⟩ (.slice (some ⟨g3, 0, none⟩) nb nb)).setCell ⟨go, 6, none⟩ (.int .i64 eb)) gr (.int .i64 0) (.bool false) (.slice none 0 0) (.int .i64 0) (.bool false) (.slice none 0 0) (.int .i64 0) (.bool false) (.slice none 0 0) (.int .i64 0)) := ⟨by go_simp, by go_simp, by go_simp, by go_simp, by go_simp, by go_simp, by go_simp, by go_simp, by go_simp, by go_simp, by go_simp, by go_simp, by go_simp, by go_simp, by go_simp, by go_simp, by go_simp, by go_simp, by go_simp, by go_simp⟩
  have T12 : Hid (At (((v3.setCell ⟨go, 4, none⟩ (.bool sb)).setCell ⟨go, 5, none⟩ (.slice (some ⟨g3, 0, none⟩) nb nb)).setCell ⟨go, 6, none⟩ (.int .i64 eb)) (some ⟨g1, 0, none⟩) na na xa) := (((T1.out.setOther _ _ _ (by have := HD1.out; omega)).setOther _ _ _ (by have := HD1.out; omega)).setOther _ _ _ (by have := HD1.out; omega))
  have T32 : Hid (At (((v3.setCell ⟨go, 4, none⟩ (.bool sb)).setCell ⟨go, 5, none⟩ (.slice (some ⟨g3, 0, none⟩) nb nb)).setCell ⟨go, 6, none⟩ (.int .i64 eb)) (some ⟨g3, 0, none⟩) nb nb xb) := (((T3.out.setOther _ _ _ (by have := HD3.out; omega)).setOther _ _ _ (by have := HD3.out; omega)).setOther _ _ _ (by have := HD3.out; omega))
  have hbw2 : Below w.heap.size w (((v3.setCell ⟨go, 4, none⟩ (.bool sb)).setCell ⟨go, 5, none⟩ (.slice (some ⟨g3, 0, none⟩) nb nb)).setCell ⟨go, 6, none⟩ (.int .i64 eb)) := bSet (bSet (bSet (hbw) _ _ _ HGo.out) _ _ _ HGo.out) _ _ _ HGo.out
  clear co0 co1 co2 co3 co4 co5 co6 co7 co8 co9 fo0 fo1 fo2 fo3 fo4 fo5 fo6 fo7 fo8 fo9 hneo
  clear cr0 cr1 cr2 cr3 cr4 cr5 cr6 cr7 cr8 cr9 fr0 fr1 fr2 fr3 fr4 fr5 fr6 fr7 fr8 fr9 hner
  clear hgd0 hgd1 Xo Xr hbw T1 T3
  generalize (((v3.setCell ⟨go, 4, none⟩ (.bool sb)).setCell ⟨go, 5, none⟩ (.slice (some ⟨g3, 0, none⟩) nb nb)).setCell ⟨go, 6, none⟩ (.int .i64 eb)) = W4 at *
  have Xo := Xo2
  have Xr := Xr2
  have hbw := hbw2
  have T1 := T12
  have T3 := T32
  clear Xo2 Xr2 hbw2 T12 T32
  refine (twinD sm (HM.out.below hbw) HN.out.2.2).mono ?_
  rintro e2 v5 ⟨g5, rfl, hg5, hA5, hb5⟩
  have HD5 : Hid (go < g5 ∧ gr < g5) := ⟨Nat.lt_of_lt_of_le Xo.out.lt hg5, Nat.lt_of_lt_of_le Xr.out.lt hg5⟩
  replace Xo : Hid (B10q v5 go (.int .i64 kd) (.bool sa) (.slice (some ⟨g1, 0, none⟩) na na) (.int .i64 ea) (.bool sb) (.slice (some ⟨g3, 0, none⟩) nb nb) (.int .i64 eb) (.bool sm) (.slice pm nm cm) (.int .i64 nn)) := Xo.out.below hb5
  replace Xr : Hid (B10q v5 gr (.int .i64 0) (.bool false) (.slice none 0 0) (.int .i64 0) (.bool false) (.slice none 0 0) (.int .i64 0) (.bool false) (.slice none 0 0) (.int .i64 0)) := Xr.out.below hb5
  replace T1 : Hid _ := T1.out.below hb5
  replace T3 : Hid _ := T3.out.below hb5
  replace hbw := Below.on hbw hb5
  clear hb5
  have T5 : Hid (At v5 (some ⟨g5, 0, none⟩) nm nm xm) := hA5
  clear hA5 hg5
  obtain ⟨hgd0, hgd1⟩ := HGD.out
  obtain ⟨co0, co1, co2, co3, co4, co5, co6, co7, co8, co9, fo0, fo1, fo2, fo3, fo4, fo5, fo6, fo7, fo8, fo9⟩ := Xo.out
  have hneo : go < v5.heap.size := World.block_lt_of_cell? v5 _ co0
  obtain ⟨cr0, cr1, cr2, cr3, cr4, cr5, cr6, cr7, cr8, cr9, fr0, fr1, fr2, fr3, fr4, fr5, fr6, fr7, fr8, fr9⟩ := Xr.out
  have hner : gr < v5.heap.size := World.block_lt_of_cell? v5 _ cr0
  go_wp2_with fail
  have Xr2 : Hid (B10q ((v5.setCell ⟨go, 7, none⟩ (.bool sm)).setCell ⟨go, 8, none⟩ (.slice (some ⟨g5, 0, none⟩) nm nm)) gr (.int .i64 0) (.bool false) (.slice none 0 0) (.int .i64 0) (.bool false) (.slice none 0 0) (.int .i64 0) (.bool false) (.slice none 0 0) (.int .i64 0)) := ⟨by go_simp, by go_simp, by go_simp, by go_simp, by go_simp, by go_simp, by go_simp, by go_simp, by go_simp, by go_simp, by go_simp, by go_simp, by go_simp, by go_simp, by go_simp, by go_simp, by go_simp, by go_simp, by go_simp, by go_simp⟩
  have T12 : Hid (At ((v5.setCell ⟨go, 7, none⟩ (.bool sm)).setCell ⟨go, 8, none⟩ (.slice (some ⟨g5, 0, none⟩) nm nm)) (some ⟨g1, 0, none⟩) na na xa) := ((T1.out.setOther _ _ _ (by have := HD1.out; omega)).setOther _ _ _ (by have := HD1.out; omega))
  have T32 : Hid (At ((v5.setCell ⟨go, 7, none⟩ (.bool sm)).setCell ⟨go, 8, none⟩ (.slice (some ⟨g5, 0, none⟩) nm nm)) (some ⟨g3, 0, none⟩) nb nb xb) := ((T3.out.setOther _ _ _ (by have := HD3.out; omega)).setOther _ _ _ (by have := HD3.out; omega))
  have T52 : Hid (At ((v5.setCell ⟨go, 7, none⟩ (.bool sm)).setCell ⟨go, 8, none⟩ (.slice (some ⟨g5, 0, none⟩) nm nm)) (some ⟨g5, 0, none⟩) nm nm xm) := ((T5.out.setOther _ _ _ (by have := HD5.out; omega)).setOther _ _ _ (by have := HD5.out; omega))
  have hbw2 : Below w.heap.size w ((v5.setCell ⟨go, 7, none⟩ (.bool sm)).setCell ⟨go, 8, none⟩ (.slice (some ⟨g5, 0, none⟩) nm nm)) := bSet (bSet hbw _ _ _ HGo.out) _ _ _ HGo.out
  clear co0 co1 co2 co3 co4 co5 co6 co7 co8 co9 fo0 fo1 fo2 fo3 fo4 fo5 fo6 fo7 fo8 fo9 hneo
  clear cr0 cr1 cr2 cr3 cr4 cr5 cr6 cr7 cr8 cr9 fr0 fr1 fr2 fr3 fr4 fr5 fr6 fr7 fr8 fr9 hner
  clear hgd0 hgd1 Xo Xr hbw T1 T3 T5
  generalize ((v5.setCell ⟨go, 7, none⟩ (.bool sm)).setCell ⟨go, 8, none⟩ (.slice (some ⟨g5, 0, none⟩) nm nm)) = W6 at *
  have Xr := Xr2
  have hbw := hbw2
  have T1 := T12
  have T3 := T32
  have T5 := T52
  clear Xr2 hbw2 T12 T32 T52
  obtain ⟨cr0, cr1, cr2, cr3, cr4, cr5, cr6, cr7, cr8, cr9, fr0, fr1, fr2, fr3, fr4, fr5, fr6, fr7, fr8, fr9⟩ := Xr.out
  have hner : gr < W6.heap.size := World.block_lt_of_cell? W6 _ cr0
  clear cr0 cr1 cr2 cr3 cr4 cr5 cr6 cr7 cr8 cr9 fr0 fr1 fr2 fr3 fr4 fr5 fr6 fr7 fr8 fr9 hner
  have Xr3 : Hid (B10q ((((((((((W6.setCell ⟨gr, 0, none⟩ (.int .i64 kd)).setCell ⟨gr, 1, none⟩ (.bool sa)).setCell ⟨gr, 2, none⟩ (.slice (some ⟨g1, 0, none⟩) na na)).setCell ⟨gr, 3, none⟩ (.int .i64 ea)).setCell ⟨gr, 4, none⟩ (.bool sb)).setCell ⟨gr, 5, none⟩ (.slice (some ⟨g3, 0, none⟩) nb nb)).setCell ⟨gr, 6, none⟩ (.int .i64 eb)).setCell ⟨gr, 7, none⟩ (.bool sm)).setCell ⟨gr, 8, none⟩ (.slice (some ⟨g5, 0, none⟩) nm nm)).setCell ⟨gr, 9, none⟩ (.int .i64 nn)) gr (.int .i64 kd) (.bool sa) (.slice (some ⟨g1, 0, none⟩) na na) (.int .i64 ea) (.bool sb) (.slice (some ⟨g3, 0, none⟩) nb nb) (.int .i64 eb) (.bool sm) (.slice (some ⟨g5, 0, none⟩) nm nm) (.int .i64 nn)) := Xr.out.set10
  have T13 : Hid (At ((((((((((W6.setCell ⟨gr, 0, none⟩ (.int .i64 kd)).setCell ⟨gr, 1, none⟩ (.bool sa)).setCell ⟨gr, 2, none⟩ (.slice (some ⟨g1, 0, none⟩) na na)).setCell ⟨gr, 3, none⟩ (.int .i64 ea)).setCell ⟨gr, 4, none⟩ (.bool sb)).setCell ⟨gr, 5, none⟩ (.slice (some ⟨g3, 0, none⟩) nb nb)).setCell ⟨gr, 6, none⟩ (.int .i64 eb)).setCell ⟨gr, 7, none⟩ (.bool sm)).setCell ⟨gr, 8, none⟩ (.slice (some ⟨g5, 0, none⟩) nm nm)).setCell ⟨gr, 9, none⟩ (.int .i64 nn)) (some ⟨g1, 0, none⟩) na na xa) := T1.out.set10 (by have := HD1.out; omega)
  have T33 : Hid (At ((((((((((W6.setCell ⟨gr, 0, none⟩ (.int .i64 kd)).setCell ⟨gr, 1, none⟩ (.bool sa)).setCell ⟨gr, 2, none⟩ (.slice (some ⟨g1, 0, none⟩) na na)).setCell ⟨gr, 3, none⟩ (.int .i64 ea)).setCell ⟨gr, 4, none⟩ (.bool sb)).setCell ⟨gr, 5, none⟩ (.slice (some ⟨g3, 0, none⟩) nb nb)).setCell ⟨gr, 6, none⟩ (.int .i64 eb)).setCell ⟨gr, 7, none⟩ (.bool sm)).setCell ⟨gr, 8, none⟩ (.slice (some ⟨g5, 0, none⟩) nm nm)).setCell ⟨gr, 9, none⟩ (.int .i64 nn)) (some ⟨g3, 0, none⟩) nb nb xb) := T3.out.set10 (by have := HD3.out; omega)
  have T53 : Hid (At ((((((((((W6.setCell ⟨gr, 0, none⟩ (.int .i64 kd)).setCell ⟨gr, 1, none⟩ (.bool sa)).setCell ⟨gr, 2, none⟩ (.slice (some ⟨g1, 0, none⟩) na na)).setCell ⟨gr, 3, none⟩ (.int .i64 ea)).setCell ⟨gr, 4, none⟩ (.bool sb)).setCell ⟨gr, 5, none⟩ (.slice (some ⟨g3, 0, none⟩) nb nb)).setCell ⟨gr, 6, none⟩ (.int .i64 eb)).setCell ⟨gr, 7, none⟩ (.bool sm)).setCell ⟨gr, 8, none⟩ (.slice (some ⟨g5, 0, none⟩) nm nm)).setCell ⟨gr, 9, none⟩ (.int .i64 nn)) (some ⟨g5, 0, none⟩) nm nm xm) := T5.out.set10 (by have := HD5.out; omega)
  have hbw3 : Below w.heap.size w ((((((((((W6.setCell ⟨gr, 0, none⟩ (.int .i64 kd)).setCell ⟨gr, 1, none⟩ (.bool sa)).setCell ⟨gr, 2, none⟩ (.slice (some ⟨g1, 0, none⟩) na na)).setCell ⟨gr, 3, none⟩ (.int .i64 ea)).setCell ⟨gr, 4, none⟩ (.bool sb)).setCell ⟨gr, 5, none⟩ (.slice (some ⟨g3, 0, none⟩) nb nb)).setCell ⟨gr, 6, none⟩ (.int .i64 eb)).setCell ⟨gr, 7, none⟩ (.bool sm)).setCell ⟨gr, 8, none⟩ (.slice (some ⟨g5, 0, none⟩) nm nm)).setCell ⟨gr, 9, none⟩ (.int .i64 nn)) := below_set10 hbw HGr.out
  clear Xr hbw T1 T3 T5
  generalize ((((((((((W6.setCell ⟨gr, 0, none⟩ (.int .i64 kd)).setCell ⟨gr, 1, none⟩ (.bool sa)).setCell ⟨gr, 2, none⟩ (.slice (some ⟨g1, 0, none⟩) na na)).setCell ⟨gr, 3, none⟩ (.int .i64 ea)).setCell ⟨gr, 4, none⟩ (.bool sb)).setCell ⟨gr, 5, none⟩ (.slice (some ⟨g3, 0, none⟩) nb nb)).setCell ⟨gr, 6, none⟩ (.int .i64 eb)).setCell ⟨gr, 7, none⟩ (.bool sm)).setCell ⟨gr, 8, none⟩ (.slice (some ⟨g5, 0, none⟩) nm nm)).setCell ⟨gr, 9, none⟩ (.int .i64 nn)) = W8 at *
  refine bodyPost_ret (v := .agg #[.int .i64 kd, .bool sa, .slice (some ⟨g1, 0, none⟩) na na, .int .i64 ea, .bool sb, .slice (some ⟨g3, 0, none⟩) nb nb, .int .i64 eb, .bool sm, .slice (some ⟨g5, 0, none⟩) nm nm, .int .i64 nn]) (by rw [results_cell1 rfl]; exact loadVar_B10 (Xr3.out.below (below1 W8 _))) rfl ⟨some ⟨g1, 0, none⟩, some ⟨g3, 0, none⟩, some ⟨g5, 0, none⟩, rfl, T13.out.below (below1 W8 _), T33.out.below (below1 W8 _), T53.out.below (below1 W8 _), Below.on hbw3 (below1 W8 _)⟩
def Play5 (k : Int) : Prop := ∀ (pa pb pm : Option Addr) (na ca nb cb nm cm : Nat) (xa xb xm : List Nat) (w : World) (ea eb nn : Int) (sa sb sm : Bool), At w pa na ca xa → At w pb nb cb xb → At w pm nm cm xm → (na ≤ 17592186044416 ∧ nb ≤ 17592186044416 ∧ nm ≤ 17592186044416 ∧ -9223372036854775808 ≤ nn ∧ nn ≤ 9223372036854775807) → Tab w →
    Calls Tryz.prog 25 #[.agg #[.int .i64 k, .bool sa, .slice pa na ca, .int .i64 ea, .bool sb, .slice pb nb cb, .int .i64 eb, .bool sm, .slice pm nm cm, .int .i64 nn]] w fun e w' => e = .returned (.bool true) ∧ Below w.heap.size w w'

theorem all5 {P : Option Addr} {N C : Nat} {its : List Op10} {w : World} {lo hi : Int} (h : Scr5 w P N C its) (hT : Tab w)
    (hp : ∀ k, lo ≤ k → k ≤ hi → Play5 k) :
    Calls Tryz.prog 11 #[.slice P N C, .int .i64 lo, .int .i64 hi] w fun e w' => e = .returned (.bool true) ∧ Below w.heap.size w w' := by
  have H : Hid (Scr5 w P N C its) := h
  have HP : Hid (∀ k, lo ≤ k → k ≤ hi → Play5 k) := hp
  have HT : Hid (Tab w) := hT
  have HLN : Hid (its.length = N) := h.len
  have cap := h.cap; have big := h.big
  unfold maxLen at big
  clear h hp hT
  go_enter Tryz.func11, Tryz.ntmps11
  go_wp2_with fail
  go_loopg [11] N (fun gg iv wr => ∃ k : Nat, k + gg = N ∧ iv = .int .i64 k ∧ Below w.heap.size w wr)
  case atStart => exact ⟨0, by omega, rfl, Below.refl _ _⟩
  case round =>
    obtain ⟨k, hkg, rfl, hbw⟩ := hrel
    cases gk with
    | zero =>
      obtain rfl : k = N := by omega
      have hnk : ¬ (k : Int) < (k : Int) := by omega
      go_wp2_with fail
      go_ret
      exact ⟨rfl, hbw⟩
    | succ gg =>
      have hki : k < its.length := by rw [HLN.out]; omega
      have HR := H.out.below hbw
      obtain ⟨g, off, rfl, hc⟩ := HR.cells.resolve_left (by omega)
      obtain ⟨e0, e1, e2, e3, e4, e5, e6, e7, e8, e9⟩ := hc k hki
      have HAT : Hid (At wr its[k].pa its[k].na its[k].ca its[k].xa ∧ At wr its[k].pb its[k].nb its[k].cb its[k].xb ∧ At wr its[k].pm its[k].nm its[k].cm its[k].xm ∧ its[k].na ≤ 17592186044416 ∧ its[k].nb ≤ 17592186044416 ∧ its[k].nm ≤ 17592186044416 ∧ -9223372036854775808 ≤ its[k].nn ∧ its[k].nn ≤ 9223372036854775807) := HR.ats its[k] (List.getElem_mem hki)
      have HBW : Hid (Below w.heap.size w wr) := hbw
      have hkk : (k : Int) < (N : Int) := by omega
      have hlt : g < wr.heap.size := World.block_lt_of_cell? wr _ e0
      clear hc HR hbw
      generalize its[k].k = kd at *
      generalize its[k].sa = sa at *
      generalize its[k].pa = pa at *
      generalize its[k].na = na at *
      generalize its[k].ca = ca at *
      generalize its[k].xa = xa at *
      generalize its[k].ea = ea at *
      generalize its[k].sb = sb at *
      generalize its[k].pb = pb at *
      generalize its[k].nb = nb at *
      generalize its[k].cb = cb at *
      generalize its[k].xb = xb at *
      generalize its[k].eb = eb at *
      generalize its[k].sm = sm at *
      generalize its[k].pm = pm at *
      generalize its[k].nm = nm at *
      generalize its[k].cm = cm at *
      generalize its[k].xm = xm at *
      generalize its[k].nn = nn at *
      have hb0 : Below wr.heap.size wr (wr.alloc (.cells #[.int .i64 kd, .bool sa, .slice pa na ca, .int .i64 ea, .bool sb, .slice pb nb cb, .int .i64 eb, .bool sm, .slice pm nm cm, .int .i64 nn] 52)) := below1 wr _
      have HAO : Hid (At (wr.alloc (.cells #[.int .i64 kd, .bool sa, .slice pa na ca, .int .i64 ea, .bool sb, .slice pb nb cb, .int .i64 eb, .bool sm, .slice pm nm cm, .int .i64 nn] 52)) pa na ca xa ∧ At (wr.alloc (.cells #[.int .i64 kd, .bool sa, .slice pa na ca, .int .i64 ea, .bool sb, .slice pb nb cb, .int .i64 eb, .bool sm, .slice pm nm cm, .int .i64 nn] 52)) pb nb cb xb ∧ At (wr.alloc (.cells #[.int .i64 kd, .bool sa, .slice pa na ca, .int .i64 ea, .bool sb, .slice pb nb cb, .int .i64 eb, .bool sm, .slice pm nm cm, .int .i64 nn] 52)) pm nm cm xm ∧ na ≤ 17592186044416 ∧ nb ≤ 17592186044416 ∧ nm ≤ 17592186044416 ∧ -9223372036854775808 ≤ nn ∧ nn ≤ 9223372036854775807) := ⟨HAT.out.1.below hb0, HAT.out.2.1.below hb0, HAT.out.2.2.1.below hb0, HAT.out.2.2.2⟩
      have HBO : Hid (Below w.heap.size w (wr.alloc (.cells #[.int .i64 kd, .bool sa, .slice pa na ca, .int .i64 ea, .bool sb, .slice pb nb cb, .int .i64 eb, .bool sm, .slice pm nm cm, .int .i64 nn] 52))) := Below.on HBW.out hb0
      clear hb0 HAT HBW
      by_cases hlo : lo ≤ kd
      · have hlo2 : ¬ kd < lo := by omega
        by_cases hhi : kd ≤ hi
        · have hhi2 : ¬ hi < kd := by omega
          have HPK : Hid (Play5 kd) := HP.out kd hlo hhi
          go_wp2_with fail
          refine (HPK.out pa pb pm na ca nb cb nm cm xa xb xm _ ea eb nn sa sb sm HAO.out.1 HAO.out.2.1 HAO.out.2.2.1 HAO.out.2.2.2 (HT.out.below HBO.out)).mono ?_
          rintro e wz ⟨rfl, hbq⟩
          have hbz := Below.on HBO.out hbq
          clear hbq e0 e1 e2 e3 e4 e5 e6 e7 e8 e9
          go_wp2_with fail
          go_roundg gg
          case measure => omega
          case rel => exact ⟨k + 1, by omega, by go_num, hbz⟩
        · have hhi2 : hi < kd := by omega
          go_wp2_with fail
          go_roundg gg
          case measure => omega
          case rel => exact ⟨k + 1, by omega, by go_num, HBO.out⟩
      · have hlo2 : kd < lo := by omega
        go_wp2_with fail
        go_roundg gg
        case measure => omega
        case rel => exact ⟨k + 1, by omega, by go_num, HBO.out⟩
theorem iv_mul2 (s t : Bool) (a b : Nat) : iv (!(s == t)) (a * b) = iv s a * iv t b := by cases s <;> cases t <;> simp [iv, Int.neg_mul, Int.mul_neg]
theorem rmul04 {p q : Option Addr} {m n : Nat} {w : World} {x y : Int} (s t : Bool) (h : ZR w s p m x) (k : ZR w t q n y) (hm : m ≤ 50000) (hn : n ≤ 50000) :
    Calls Tryz.prog 122 #[.agg #[.bool s, .slice p m m], .agg #[.bool t, .slice q n n]] w fun e w' => ∃ v, e = .returned v ∧ GotR w.heap.size w' v (x * y) (m + n) ∧ Below w.heap.size w w' := by
  have HA : Hid (ZR w s p m x) := h
  have HB : Hid (ZR w t q n y) := k
  have HM : Hid (m ≤ 50000 ∧ n ≤ 50000) := ⟨hm, hn⟩
  clear h k hm hn
  go_enter Tryz.func122, Tryz.ntmps122
  go_wp2_with fail
  obtain ⟨W0, hW0⟩ : ∃ W0, W0 = (((w.alloc (.cells #[.bool s, .slice p m m] 69)).alloc (.cells #[.bool t, .slice q n n] 69)).alloc (.cells #[.bool false, .slice none 0 0] 69)) := ⟨_, rfl⟩
  have Xa : Hid (Box W0 (w.heap.size) (.bool s) (.slice p m m)) := by rw [hW0]; exact ⟨by go_simp, by go_simp, by go_simp, by go_simp⟩
  have Xb : Hid (Box W0 (w.heap.size + 1) (.bool t) (.slice q n n)) := by rw [hW0]; exact ⟨by go_simp, by go_simp, by go_simp, by go_simp⟩
  have Xr : Hid (Box W0 (w.heap.size + 1 + 1) (.bool false) (.slice none 0 0)) := by rw [hW0]; exact ⟨by go_simp, by go_simp, by go_simp, by go_simp⟩
  have hb0 : Below w.heap.size w W0 := by rw [hW0]; exact below3 w _ _ _
  rw [← hW0]
  clear hW0
  have hbw : Below w.heap.size w w := Below.refl _ _
  obtain ⟨gr, hgr⟩ : ∃ g, g = w.heap.size + 1 + 1 := ⟨_, rfl⟩
  have HGr : Hid (w.heap.size ≤ gr) := by rw [hgr]; show _ ≤ _; omega
  rw [← hgr] at Xr
  try rw [← hgr]
  obtain ⟨gb, hgb⟩ : ∃ g, g = w.heap.size + 1 := ⟨_, rfl⟩
  have HGb : Hid (w.heap.size ≤ gb) := by rw [hgb]; show _ ≤ _; omega
  rw [← hgb] at Xb
  try rw [← hgb]
  obtain ⟨ga, hga⟩ : ∃ g, g = w.heap.size := ⟨_, rfl⟩
  have HGa : Hid (w.heap.size ≤ ga) := by rw [hga]; show _ ≤ _; omega
  rw [← hga] at Xa
  try rw [← hga]
  have HGD : Hid (ga ≠ gb ∧ ga ≠ gr ∧ gb ≠ ga ∧ gb ≠ gr ∧ gr ≠ ga ∧ gr ≠ gb) := by rw [hga, hgb, hgr]; exact ⟨by omega, by omega, by omega, by omega, by omega, by omega⟩
  clear hga hgb hgr
  replace HA : Hid _ := HA.out.below hb0
  replace HB : Hid _ := HB.out.below hb0
  replace hbw := Below.on hbw hb0
  clear hb0
  obtain ⟨xs, hAx, hNx⟩ := HA.out.ex
  obtain ⟨ys, hAy, hNy⟩ := HB.out.ex
  have HNX : Hid (Nf B32 xs x.natAbs ∧ Nf B32 ys y.natAbs) := ⟨hNx, hNy⟩
  have HZV : Hid (iv (!(s == t)) (x.natAbs * y.natAbs) = x * y) := by rw [← HA.out.iv, ← HB.out.iv, iv_natAbs, iv_natAbs]; exact iv_mul2 s t _ _
  clear hNx hNy
  have AX : Hid (At32 W0 p m m xs) := hAx
  have AY : Hid (At32 W0 q n n ys) := hAy
  clear hAx hAy
  obtain ⟨W1, hW1⟩ : ∃ W1, W1 = W0.drew := ⟨_, rfl⟩
  have hbd : Below W0.heap.size W0 W1 := by rw [hW1]; exact bDrew1 (Below.refl _ _)
  replace Xa : Hid _ := Xa.out.below hbd
  replace Xb : Hid _ := Xb.out.below hbd
  replace Xr : Hid _ := Xr.out.below hbd
  replace HA : Hid _ := HA.out.below hbd
  replace HB : Hid _ := HB.out.below hbd
  replace AX : Hid _ := AX.out.below hbd
  replace AY : Hid _ := AY.out.below hbd
  replace hbw := Below.on hbw hbd
  clear hbd
  have HJ : Hid ((fun W' : World => W'.cell? ⟨ga, 0, none⟩ = some (.bool s) ∧ W'.cell? ⟨ga, 1, none⟩ = some (.slice p m m) ∧ W'.cell? ⟨gb, 0, none⟩ = some (.bool t) ∧ W'.cell? ⟨gb, 1, none⟩ = some (.slice q n n)) W1) := ⟨Xa.out.c0, Xa.out.c1, Xb.out.c0, Xb.out.c1⟩
  refine wp_region_J (fun W' => W'.cell? ⟨ga, 0, none⟩ = some (.bool s) ∧ W'.cell? ⟨ga, 1, none⟩ = some (.slice p m m) ∧ W'.cell? ⟨gb, 0, none⟩ = some (.bool t) ∧ W'.cell? ⟨gb, 1, none⟩ = some (.slice q n n)) (by kernel_rfl) ?_
  rw [← hW1]
  clear hW1
  refine wpJ_tq 0 rfl HJ.out ?_
  refine wpJ_tq 1 rfl HJ.out ?_
  refine wpJ_tq 2 rfl HJ.out ?_
  refine wpJ_tq 3 rfl HJ.out ?_
  refine wpJ_tq 4 rfl HJ.out ?_
  refine wpJ_tq 5 rfl HJ.out ?_
  refine wpJ_tq 6 rfl HJ.out ?_
  refine wpJ_tq 7 rfl HJ.out ?_
  refine wpJ_tq 8 rfl HJ.out ?_
  refine wpJ_on 9 rfl fun KJ hK => ?_
  go_simp
  refine (rmul_any AX.out AY.out HNX.out.1 HNX.out.2 (by have := HM.out; omega) (by have := HM.out; omega)).mono ?_
  rintro e w2 ⟨p2, m2, z2, rfl, hA2, hN2, hl2, hb2⟩
  replace Xa : Hid _ := Xa.out.below hb2
  replace Xb : Hid _ := Xb.out.below hb2
  replace Xr : Hid _ := Xr.out.below hb2
  replace HA : Hid _ := HA.out.below hb2
  replace HB : Hid _ := HB.out.below hb2
  replace AX : Hid _ := AX.out.below hb2
  replace AY : Hid _ := AY.out.below hb2
  replace hbw := Below.on hbw hb2
  clear hb2
  have A2 : Hid (At32 w2 p2 m2 m2 z2) := hA2
  have N2 : Hid (Nf B32 z2 (x.natAbs * y.natAbs)) := hN2
  have HLL : Hid (m2 ≤ m + n) := hl2
  have HRL : Hid (gr < w2.heap.size) := Xr.out.lt
  have HBS : Hid (w.heap.size ≤ w2.heap.size) := hbw.size
  clear hA2 hN2 hl2
  refine hK _ _ ⟨Xa.out.c0, Xa.out.c1, Xb.out.c0, Xb.out.c1⟩ ?_
  clear hK
  refine wpJ_on 10 rfl fun KJ hK => ?_
  go_simp
  refine (rmk_any (!(s == t)) A2.out N2.out (by have := HLL.out; have := HM.out; omega)).mono ?_
  rintro e w3 ⟨v, rfl, hv, hb3⟩
  rw [HZV.out] at hv
  replace Xa : Hid _ := Xa.out.below hb3
  replace Xb : Hid _ := Xb.out.below hb3
  replace Xr : Hid _ := Xr.out.below hb3
  replace HA : Hid _ := HA.out.below hb3
  replace HB : Hid _ := HB.out.below hb3
  replace AX : Hid _ := AX.out.below hb3
  replace AY : Hid _ := AY.out.below hb3
  replace A2 : Hid _ := A2.out.below hb3
  replace hbw := Below.on hbw hb3
  clear hb3
  obtain ⟨s9, g9, m9, rfl, hg9, hz9, hl9⟩ := hv
  have ZA : Hid (ZR w3 s9 (some ⟨g9, 0, none⟩) m9 (x * y)) := hz9
  have HL : Hid (m9 ≤ m + n) := by have := hl9; have := HLL.out; show m9 ≤ _; omega
  have HGE : Hid (gr < g9) := Nat.lt_of_lt_of_le HRL.out hg9
  have HGB : Hid (w.heap.size ≤ g9) := Nat.le_trans HBS.out hg9
  clear hg9 hz9 hl9
  refine hK _ _ ⟨Xa.out.c0, Xa.out.c1, Xb.out.c0, Xb.out.c1⟩ ?_
  clear hK
  obtain ⟨cr0, cr1, fr0, fr1⟩ := Xr.out
  have hner := Xr.out.lt
  obtain ⟨ca0, ca1, fa0, fa1⟩ := Xa.out
  have hnea := Xa.out.lt
  obtain ⟨cb0, cb1, fb0, fb1⟩ := Xb.out
  have hneb := Xb.out.lt
  obtain ⟨hgd0, hgd1, hgd2, hgd3, hgd4, hgd5⟩ := HGD.out
  refine wpJ_on 11 rfl fun KJ hK => ?_
  go_simp
  have HJ2 : Hid ((fun W' : World => W'.cell? ⟨ga, 0, none⟩ = some (.bool s) ∧ W'.cell? ⟨ga, 1, none⟩ = some (.slice p m m) ∧ W'.cell? ⟨gb, 0, none⟩ = some (.bool t) ∧ W'.cell? ⟨gb, 1, none⟩ = some (.slice q n n)) ((w3.setCell ⟨gr, 0, none⟩ (.bool s9)).setCell ⟨gr, 1, none⟩ (.slice (some ⟨g9, 0, none⟩) m9 m9))) := ⟨by go_simp, by go_simp, by go_simp, by go_simp⟩
  refine hK _ _ HJ2.out ?_
  clear hK HJ
  have HJ := HJ2
  clear HJ2
  refine wpJ_done (by kernel_rfl) ?_ _
  clear HJ
  go_wp2_with fail
  refine bodyPost_ret (v := .agg #[.bool s9, .slice (some ⟨g9, 0, none⟩) m9 m9]) (by rw [results_cell1 rfl]; go_simp) rfl ⟨_, rfl, ⟨s9, g9, m9, rfl, HGB.out, ?_, HL.out⟩, ?_⟩
  · have := HGE.out
    exact (ZA.out.set _ _ _ (by omega)).set _ _ _ (by omega)
  · exact bSet (bSet hbw _ _ _ HGr.out) _ _ _ HGr.out
def NewAt (B : Nat) (w : World) (p : Option Addr) (m c : Nat) (us : List Nat) : Prop := At w p m c us ∧ (m = 0 ∨ ∃ g, p = some ⟨g, 0, none⟩ ∧ B ≤ g)
theorem NewAt.below {B : Nat} {w w' : World} {p : Option Addr} {m c : Nat} {us : List Nat} (h : NewAt B w p m c us) (hb : Below w.heap.size w w') : NewAt B w' p m c us := ⟨h.1.below hb, h.2⟩
theorem NewAt.mono {B B' : Nat} {w : World} {p : Option Addr} {m c : Nat} {us : List Nat} (h : NewAt B w p m c us) (hB : B' ≤ B) : NewAt B' w p m c us :=
  ⟨h.1, h.2.imp id (fun ⟨g, e, k⟩ => ⟨g, e, Nat.le_trans hB k⟩)⟩
theorem NewAt.set {B : Nat} {w : World} {p : Option Addr} {m c : Nat} {us : List Nat} (h : NewAt B w p m c us) {r : Nat} (hr : r < B) (o : Nat) (v : Value) : NewAt B (w.setCell ⟨r, o, none⟩ v) p m c us := by
  refine ⟨?_, h.2⟩
  rcases h.2 with h0 | ⟨g, rfl, hg⟩
  · subst h0
    obtain rfl : us = [] := List.eq_nil_of_length_eq_zero h.1.len
    exact At.empty _ _ _ h.1.big
  · exact h.1.setOther _ _ _ (by omega)
def DocZ (z : Int) (s : Bool) (us : List Nat) (er : Int) : Prop :=
  (z.natAbs < LIM ∧ s = decide (z < 0) ∧ Nf B64 us z.natAbs ∧ er = 0) ∨ (LIM ≤ z.natAbs ∧ s = false ∧ us = [] ∧ er = 5)
theorem DocZ.inj {z : Int} {s s' : Bool} {us us' : List Nat} {er er' : Int} (h : DocZ z s us er) (k : DocZ z s' us' er') : s = s' ∧ us = us' ∧ er = er' := by
  rcases h with ⟨h0, rfl, h1, rfl⟩ | ⟨h0, rfl, rfl, rfl⟩ <;> rcases k with ⟨k0, rfl, k1, rfl⟩ | ⟨k0, rfl, rfl, rfl⟩
  · exact ⟨rfl, h1.inj B64_one k1, rfl⟩
  · omega
  · omega
  · exact ⟨rfl, rfl, rfl⟩
theorem lim32 {zs : List Nat} {a : Nat} (h : Nf B32 zs a) : zs.length ≤ 16384 ↔ a < LIM := by
  rw [h.len_le B32_one]
  obtain ⟨K, hK⟩ : ∃ K, K = 8192 := ⟨_, rfl⟩
  rw [LIM_eq K hK, ← B32_two, show (16384 : Nat) = 2 * K by omega, Nat.pow_mul, Nat.pow_two]
end Go.Proofs.YtihleicpfjbmeaaGreatDoor
