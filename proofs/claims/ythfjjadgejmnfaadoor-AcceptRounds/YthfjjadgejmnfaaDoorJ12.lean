import Derived.Test.YthfjjadgejmnfaaDoorJ11
import Derived.Test.YthfjjadgejmnfaaDoorJ9
import Derived.Test.YthfjjadgejmnfaaDoorJ10
import Derived.Test.YthfjjadgejmnfaaDoorJ8
import Derived.Deep.LoopGhost
import Derived.Deep.RegionWith
import Derived.Test.YthfjjadgejmnfaaDoorVal
import Derived.Shelf.Spec.TrailingZeros
import Derived.Laws.ResultCell
import Derived.Deep.DeepCutAuto
namespace Go.Proofs.YthfjjadgejmnfaaDoor
open Go.RowKit Go.Shelf
set_option maxRecDepth 20000
set_option maxHeartbeats 0
theorem moved_no (e n : Int) (w : World) (he : -1048576 ≤ e ∧ e ≤ 2097152) (hs : ¬ (-1048576 ≤ e + n ∧ e + n ≤ 1048576)) :
    Calls Tryd.prog 28 #[.int .i64 e, .int .i64 n] w fun en w' => en = .returned (.tuple #[.int .i64 0, .int .i64 5]) ∧ w' = w := by
  have f1 : wrap64 (-1048576 - e) = -1048576 - e := by simp only [wrap64]; omega
  have f2 : wrap64 (1048576 - e) = 1048576 - e := by simp only [wrap64]; omega
  by_cases f4 : n < -1048576 - e
  · clear he hs
    go_enter Tryd.func28, Tryd.ntmps28
    go_wp2_with fail
    go_ret2
    exact ⟨rfl, rfl⟩
  have f5 : 1048576 - e < n := by omega
  clear he hs
  go_enter Tryd.func28, Tryd.ntmps28
  go_wp2_with fail
  go_ret2
  exact ⟨rfl, rfl⟩
theorem makep_n {p : Option Addr} {m c : Nat} {w : World} {z e : Int} {s : Bool} (h : ZN w s p m c z) (he : -3145728 ≤ e ∧ e ≤ 3145728) (hT : Tab w) {k : Nat} (hz : z ≠ 0) (hk : TzO z.natAbs k) (hr : (-1048576 ≤ k + e ∧ k + e ≤ 1048576)) :
    Calls Tryd.prog 18 #[ZV s p m c, .int .i64 e] w fun en w' => MakeP w.heap.size w' en z e ∧ Below w.heap.size w w' := by
  have H : Hid (ZN w s p m c z) := h
  have HE : Hid (-3145728 ≤ e ∧ e ≤ 3145728) := he
  have TB : Hid (Tab w) := hT
  have HZ : Hid (z ≠ 0) := hz
  have HR : Hid ((-1048576 ≤ k + e ∧ k + e ≤ 1048576)) := hr
  have HK : Hid (TzO z.natAbs k) := hk
  clear h he hT hz hr
  go_enter Tryd.func18, Tryd.ntmps18
  go_wp2_with fail
  obtain ⟨W0, hW0⟩ : ∃ W0, W0 = ((w.alloc (.cells #[.bool s, .slice p m c] 26)).alloc (.cells #[.bool false, .slice none 0 0, .int .i64 0] 28)) := ⟨_, rfl⟩
  have Xm : Hid (Box W0 (w.heap.size) (.bool s) (.slice p m c)) := by rw [hW0]; exact ⟨by go_simp, by go_simp, by go_simp, by go_simp⟩
  have Xr : Hid (B3q W0 (w.heap.size + 1) (.bool false) (.slice none 0 0) (.int .i64 0)) := by rw [hW0]; exact ⟨by go_simp, by go_simp, by go_simp, by go_simp, by go_simp, by go_simp⟩
  have hb0 : Below w.heap.size w W0 := by rw [hW0]; exact below2 w _ _
  rw [← hW0]
  clear hW0
  have hbw : Below w.heap.size w w := Below.refl _ _
  obtain ⟨gr, hgr⟩ : ∃ g, g = w.heap.size + 1 := ⟨_, rfl⟩
  have HGr : Hid (w.heap.size ≤ gr) := by rw [hgr]; show _ ≤ _; omega
  rw [← hgr] at Xr
  try rw [← hgr]
  obtain ⟨gm, hgm⟩ : ∃ g, g = w.heap.size := ⟨_, rfl⟩
  have HGm : Hid (w.heap.size ≤ gm) := by rw [hgm]; show _ ≤ _; omega
  rw [← hgm] at Xm
  try rw [← hgm]
  have HGD : Hid (gm ≠ gr ∧ gr ≠ gm) := by rw [hgm, hgr]; exact ⟨by omega, by omega⟩
  clear hgm hgr
  replace hbw := Below.on hbw hb0
  clear hb0
  refine (zform (H.out.below hbw)).mono ?_
  rintro e v1 ⟨rfl, hb1⟩
  replace Xm : Hid _ := Xm.out.below hb1
  replace Xr : Hid _ := Xr.out.below hb1
  replace hbw := Below.on hbw hb1
  clear hb1
  obtain ⟨cm0, cm1, fm0, fm1⟩ := Xm.out
  have hnem := Xm.out.lt
  go_wp2_with fail
  clear cm0 cm1 fm0 fm1 hnem
  refine (zsign (H.out.below hbw)).mono ?_
  rintro e v2 ⟨rfl, hb2⟩
  obtain ⟨sg, hsg⟩ : ∃ sg, sg = sgnI (z) := ⟨_, rfl⟩
  rw [← hsg]
  have hs0 : (sg == 0) = false := by rw [hsg]; have := HZ.out; unfold sgnI; split <;> (try split) <;> simp <;> omega
  clear hsg
  replace Xm : Hid _ := Xm.out.below hb2
  replace Xr : Hid _ := Xr.out.below hb2
  replace hbw := Below.on hbw hb2
  clear hb2
  obtain ⟨cm0, cm1, fm0, fm1⟩ := Xm.out
  have hnem := Xm.out.lt
  go_wp2_with fail
  clear cm0 cm1 fm0 fm1 hnem
  have hkb : k ≤ 524288 := by
    have h1 := (lim_bits z.natAbs).1 H.out.lim
    rcases hk with ⟨h0, _⟩ | ⟨_, h2, h3⟩
    · exact absurd (Int.natAbs_eq_zero.1 h0) HZ.out
    · have h4 : 2 ^ k ≤ z.natAbs := by
        rcases Nat.lt_or_ge z.natAbs (2 ^ k) with h | h
        · rw [Nat.div_eq_of_lt h] at h3; omega
        · exact h
      have h5 := bitsN_lt z.natAbs
      have h6 := (Nat.pow_lt_pow_iff_right (by omega : 1 < 2)).1 (Nat.lt_of_le_of_lt h4 h5)
      omega
  have HKB : Hid (k ≤ 524288) := hkb
  clear hk hkb
  obtain ⟨xs, hX⟩ := (H.out.below hbw).ex
  refine (trail_any hX.at_ (by have := hX.le; omega) (k := k) (by rw [hX.nf.val]; exact HK.out) (TB.out.below hbw)).mono ?_
  rintro e2 v3 ⟨rfl, hw⟩
  obtain rfl := hw.symm
  clear hw hX
  go_wp2_with fail
  refine (moved_ok k e _ (by have := HKB.out; omega) HR.out).mono ?_
  rintro e2 v4 ⟨rfl, hw⟩
  obtain rfl := hw.symm
  clear hw
  obtain ⟨cm0, cm1, fm0, fm1⟩ := Xm.out
  have hnem := Xm.out.lt
  go_wp2_with fail
  clear cm0 cm1 fm0 fm1 hnem
  obtain ⟨o, ho9⟩ : ∃ o, o = fl (decide (z < 0)) z.natAbs (2 ^ k) := ⟨_, rfl⟩
  have HO9 : Hid (o % 2 = 1 ∧ o * ((2 ^ k : Nat) : Int) = z ∧ o.natAbs ≤ z.natAbs) := by rw [ho9]; exact tz_split HZ.out HK.out
  have HRL : Hid (gr < v2.heap.size ∧ w.heap.size ≤ v2.heap.size) := ⟨Xr.out.lt, hbw.size⟩
  obtain ⟨xs, hX⟩ := (H.out.below hbw).ex
  refine (fshr_any s hX H.out.pos k (by have := HKB.out; omega) (TB.out.below hbw)).mono ?_
  rintro e2 v5 ⟨v, rfl, hv, hb5⟩
  rw [H.out.sg, ← ho9] at hv
  obtain ⟨p5, m5, z5, rfl, ho5, hn5, hm5⟩ := hv
  clear hX ho9
  replace Xm : Hid _ := Xm.out.below hb5
  replace Xr : Hid _ := Xr.out.below hb5
  replace hbw := Below.on hbw hb5
  clear hb5
  have O5 : Hid (Own v2.heap.size v5 p5 m5 z5) := ho5
  have N5 : Hid (Nf B64 z5 o.natAbs ∧ m5 ≤ 8192) := ⟨hn5, hm5⟩
  clear ho5 hn5 hm5
  obtain ⟨so, hso⟩ : ∃ b, b = decide (o < 0) := ⟨_, rfl⟩
  rw [← hso]
  have HSO : Hid (so = decide (o < 0)) := hso
  clear hso
  obtain ⟨cr0, cr1, cr2, fr0, fr1, fr2⟩ := Xr.out
  have hner : gr < v5.heap.size := World.block_lt_of_cell? v5 _ cr0
  go_wp2_with fail
  refine bodyPost_ret (v := .tuple #[DV so p5 m5 m5 (k + e), .int .i64 0]) (by rw [results_cell_tmp rfl]; go_simp) rfl ⟨.inl ⟨_, o, k + e, rfl, ⟨p5, m5, z5, by rw [HSO.out], ?_, N5.out.1, N5.out.2⟩, .inr ⟨HO9.out.1, HR.out⟩, ?_⟩, ?_⟩
  · exact (own_set3 O5.out HRL.out.1 HRL.out.2 _ _ _).below (below1 _ _)
  · rw [dv_shift (e := (k : Int) + e) (f := e) (by omega) (by have := HE.out; omega), show ((k : Int) + e - e).toNat = k from by omega, HO9.out.2.1]
  · exact Below.on (bSet (bSet (bSet hbw _ _ _ HGr.out) _ _ _ HGr.out) _ _ _ HGr.out) (below1 _ _)
theorem makep_e {p : Option Addr} {m c : Nat} {w : World} {z e : Int} {s : Bool} (h : ZN w s p m c z) (he : -3145728 ≤ e ∧ e ≤ 3145728) (hT : Tab w) {k : Nat} (hz : z ≠ 0) (hk : TzO z.natAbs k) (hr : ¬ (-1048576 ≤ k + e ∧ k + e ≤ 1048576)) :
    Calls Tryd.prog 18 #[ZV s p m c, .int .i64 e] w fun en w' => MakeP w.heap.size w' en z e ∧ Below w.heap.size w w' := by
  have H : Hid (ZN w s p m c z) := h
  have HE : Hid (-3145728 ≤ e ∧ e ≤ 3145728) := he
  have TB : Hid (Tab w) := hT
  have HZ : Hid (z ≠ 0) := hz
  have HR : Hid (¬ (-1048576 ≤ k + e ∧ k + e ≤ 1048576)) := hr
  have HK : Hid (TzO z.natAbs k) := hk
  clear h he hT hz hr
  go_enter Tryd.func18, Tryd.ntmps18
  go_wp2_with fail
  obtain ⟨W0, hW0⟩ : ∃ W0, W0 = ((w.alloc (.cells #[.bool s, .slice p m c] 26)).alloc (.cells #[.bool false, .slice none 0 0, .int .i64 0] 28)) := ⟨_, rfl⟩
  have Xm : Hid (Box W0 (w.heap.size) (.bool s) (.slice p m c)) := by rw [hW0]; exact ⟨by go_simp, by go_simp, by go_simp, by go_simp⟩
  have Xr : Hid (B3q W0 (w.heap.size + 1) (.bool false) (.slice none 0 0) (.int .i64 0)) := by rw [hW0]; exact ⟨by go_simp, by go_simp, by go_simp, by go_simp, by go_simp, by go_simp⟩
  have hb0 : Below w.heap.size w W0 := by rw [hW0]; exact below2 w _ _
  rw [← hW0]
  clear hW0
  have hbw : Below w.heap.size w w := Below.refl _ _
  obtain ⟨gr, hgr⟩ : ∃ g, g = w.heap.size + 1 := ⟨_, rfl⟩
  have HGr : Hid (w.heap.size ≤ gr) := by rw [hgr]; show _ ≤ _; omega
  rw [← hgr] at Xr
  try rw [← hgr]
  obtain ⟨gm, hgm⟩ : ∃ g, g = w.heap.size := ⟨_, rfl⟩
  have HGm : Hid (w.heap.size ≤ gm) := by rw [hgm]; show _ ≤ _; omega
  rw [← hgm] at Xm
  try rw [← hgm]
  have HGD : Hid (gm ≠ gr ∧ gr ≠ gm) := by rw [hgm, hgr]; exact ⟨by omega, by omega⟩
  clear hgm hgr
  replace hbw := Below.on hbw hb0
  clear hb0
  refine (zform (H.out.below hbw)).mono ?_
  rintro e v1 ⟨rfl, hb1⟩
  replace Xm : Hid _ := Xm.out.below hb1
  replace Xr : Hid _ := Xr.out.below hb1
  replace hbw := Below.on hbw hb1
  clear hb1
  obtain ⟨cm0, cm1, fm0, fm1⟩ := Xm.out
  have hnem := Xm.out.lt
  go_wp2_with fail
  clear cm0 cm1 fm0 fm1 hnem
  refine (zsign (H.out.below hbw)).mono ?_
  rintro e v2 ⟨rfl, hb2⟩
  obtain ⟨sg, hsg⟩ : ∃ sg, sg = sgnI (z) := ⟨_, rfl⟩
  rw [← hsg]
  have hs0 : (sg == 0) = false := by rw [hsg]; have := HZ.out; unfold sgnI; split <;> (try split) <;> simp <;> omega
  clear hsg
  replace Xm : Hid _ := Xm.out.below hb2
  replace Xr : Hid _ := Xr.out.below hb2
  replace hbw := Below.on hbw hb2
  clear hb2
  obtain ⟨cm0, cm1, fm0, fm1⟩ := Xm.out
  have hnem := Xm.out.lt
  go_wp2_with fail
  clear cm0 cm1 fm0 fm1 hnem
  have hkb : k ≤ 524288 := by
    have h1 := (lim_bits z.natAbs).1 H.out.lim
    rcases hk with ⟨h0, _⟩ | ⟨_, h2, h3⟩
    · exact absurd (Int.natAbs_eq_zero.1 h0) HZ.out
    · have h4 : 2 ^ k ≤ z.natAbs := by
        rcases Nat.lt_or_ge z.natAbs (2 ^ k) with h | h
        · rw [Nat.div_eq_of_lt h] at h3; omega
        · exact h
      have h5 := bitsN_lt z.natAbs
      have h6 := (Nat.pow_lt_pow_iff_right (by omega : 1 < 2)).1 (Nat.lt_of_le_of_lt h4 h5)
      omega
  have HKB : Hid (k ≤ 524288) := hkb
  clear hk hkb
  obtain ⟨xs, hX⟩ := (H.out.below hbw).ex
  refine (trail_any hX.at_ (by have := hX.le; omega) (k := k) (by rw [hX.nf.val]; exact HK.out) (TB.out.below hbw)).mono ?_
  rintro e2 v3 ⟨rfl, hw⟩
  obtain rfl := hw.symm
  clear hw hX
  go_wp2_with fail
  refine (moved_no k e _ (by have := HKB.out; omega) HR.out).mono ?_
  rintro e2 v4 ⟨rfl, hw⟩
  obtain rfl := hw.symm
  clear hw
  obtain ⟨cr0, cr1, cr2, fr0, fr1, fr2⟩ := Xr.out
  have hner : gr < v2.heap.size := World.block_lt_of_cell? v2 _ cr0
  go_wp2_with fail
  refine bodyPost_ret (v := .tuple #[DV false none 0 0 0, .int .i64 5]) (by rw [results_cell_tmp rfl]; go_simp) rfl ⟨.inr ⟨rfl, make_no HZ.out HK.out (by have := HE.out; omega) HR.out⟩, ?_⟩
  first | exact hbw | exact bSet (bSet (bSet hbw _ _ _ HGr.out) _ _ _ HGr.out) _ _ _ HGr.out
theorem makep_z {p : Option Addr} {m c : Nat} {w : World} {z e : Int} {s : Bool} (h : ZN w s p m c z) (hz : z = 0) :
    Calls Tryd.prog 18 #[ZV s p m c, .int .i64 e] w fun en w' => MakeP w.heap.size w' en z e ∧ Below w.heap.size w w' := by
  have H : Hid (ZN w s p m c z) := h
  subst hz
  clear h
  go_enter Tryd.func18, Tryd.ntmps18
  go_wp2_with fail
  obtain ⟨W0, hW0⟩ : ∃ W0, W0 = ((w.alloc (.cells #[.bool s, .slice p m c] 26)).alloc (.cells #[.bool false, .slice none 0 0, .int .i64 0] 28)) := ⟨_, rfl⟩
  have Xm : Hid (Box W0 (w.heap.size) (.bool s) (.slice p m c)) := by rw [hW0]; exact ⟨by go_simp, by go_simp, by go_simp, by go_simp⟩
  have Xr : Hid (B3q W0 (w.heap.size + 1) (.bool false) (.slice none 0 0) (.int .i64 0)) := by rw [hW0]; exact ⟨by go_simp, by go_simp, by go_simp, by go_simp, by go_simp, by go_simp⟩
  have hb0 : Below w.heap.size w W0 := by rw [hW0]; exact below2 w _ _
  rw [← hW0]
  clear hW0
  have hbw : Below w.heap.size w w := Below.refl _ _
  obtain ⟨gr, hgr⟩ : ∃ g, g = w.heap.size + 1 := ⟨_, rfl⟩
  have HGr : Hid (w.heap.size ≤ gr) := by rw [hgr]; show _ ≤ _; omega
  rw [← hgr] at Xr
  try rw [← hgr]
  obtain ⟨gm, hgm⟩ : ∃ g, g = w.heap.size := ⟨_, rfl⟩
  have HGm : Hid (w.heap.size ≤ gm) := by rw [hgm]; show _ ≤ _; omega
  rw [← hgm] at Xm
  try rw [← hgm]
  have HGD : Hid (gm ≠ gr ∧ gr ≠ gm) := by rw [hgm, hgr]; exact ⟨by omega, by omega⟩
  clear hgm hgr
  replace hbw := Below.on hbw hb0
  clear hb0
  refine (zform (H.out.below hbw)).mono ?_
  rintro e v1 ⟨rfl, hb1⟩
  replace Xm : Hid _ := Xm.out.below hb1
  replace Xr : Hid _ := Xr.out.below hb1
  replace hbw := Below.on hbw hb1
  clear hb1
  obtain ⟨cm0, cm1, fm0, fm1⟩ := Xm.out
  have hnem := Xm.out.lt
  go_wp2_with fail
  clear cm0 cm1 fm0 fm1 hnem
  refine (zsign (H.out.below hbw)).mono ?_
  rintro e v2 ⟨rfl, hb2⟩
  rw [show sgnI 0 = 0 from rfl]
  replace Xm : Hid _ := Xm.out.below hb2
  replace Xr : Hid _ := Xr.out.below hb2
  replace hbw := Below.on hbw hb2
  clear hb2
  obtain ⟨cr0, cr1, cr2, fr0, fr1, fr2⟩ := Xr.out
  have hner : gr < v2.heap.size := World.block_lt_of_cell? v2 _ cr0
  go_wp2_with fail
  refine bodyPost_ret (v := .tuple #[DV false none 0 0 0, .int .i64 0]) (by rw [results_cell_tmp rfl]; go_simp) rfl ⟨.inl ⟨_, 0, 0, rfl, ⟨none, 0, [], rfl, ⟨rfl, Dig.nil _, .inl rfl⟩, Nf.nil _, by omega⟩, .inl ⟨rfl, rfl⟩, by rw [dv_zero, dv_zero]⟩, ?_⟩
  first | exact hbw | exact bSet (bSet (bSet hbw _ _ _ HGr.out) _ _ _ HGr.out) _ _ _ HGr.out
theorem makep {p : Option Addr} {m c : Nat} {w : World} {z e : Int} {s : Bool} (h : ZN w s p m c z) (he : -3145728 ≤ e ∧ e ≤ 3145728) (hT : Tab w) :
    Calls Tryd.prog 18 #[ZV s p m c, .int .i64 e] w fun en w' => MakeP w.heap.size w' en z e ∧ Below w.heap.size w w' := by
  by_cases hz : z = 0
  · exact makep_z h hz
  obtain ⟨k, hk⟩ := TzO.ex z.natAbs
  by_cases hr : -1048576 ≤ k + e ∧ k + e ≤ 1048576
  · exact makep_n h he hT hz hk hr
  · exact makep_e h he hT hz hk hr
structure Pm (f p m l : Int) (S I H : Nat) : Prop where
  fm : Fm f p m l S I
  pt : ∀ (s : Nat) w, s < S → Calls Tryd.prog 35 #[WV p m l, U s] w fun e w' => e = .returned (.tuple #[U (s - (s / H - 1) * H), .int .i64 (l + ((s / H - 1 : Nat) : Int))]) ∧ Below w.heap.size w w'
  hp : 0 < H
  h2 : 2 * H ≤ I
  h9 : 2 * H ≤ 9007199254740992
  lo : -1074 ≤ l ∧ l ≤ -149
  st : ∀ s, s < I → s / H - 1 ≤ 2045
theorem pm_64 : Pm 64 64 53 (-1074) 9223372036854775808 9218868437227405312 4503599627370496 :=
  ⟨fm_64, fun s w hs => parts_64 s _ _ rfl rfl hs w, by decide, by decide, by decide, by decide, fun s hs => by omega⟩
theorem results_t4 {fn : Func} {a b c d : Tmp} (h : fn.results = #[.tmp a, .tmp b, .tmp c, .tmp d]) (tmps : Array Value) (P : Program) (w : World) :
    (results fn tmps).run P w = .ok (.tuple #[tmps.getD a undef, tmps.getD b undef, tmps.getD c undef, tmps.getD d undef]) w := by
  simp only [results, h]
  simp
theorem finite_ok {f p m l : Int} {S I H : Nat} (F : Pm f p m l S I H) (b : Nat) (hb : b < 2 * S) (hr : b % S < I) (w : World) :
    Calls Tryd.prog 34 #[.int .i64 f, U b] w fun en w' => en = .returned (.tuple #[PV p m l (decide (S ≤ b)) (b % S), .int .i64 0]) ∧ Below w.heap.size w w' := by
  have HF : Hid (Pm f p m l S I H) := F
  have HR : Hid (b < 2 * S ∧ b % S ≤ I ∧ decide (b % S = I) = false) := ⟨hb, by omega, decide_eq_false (by omega)⟩
  obtain ⟨z, hz⟩ : ∃ z, z = b % S := ⟨_, rfl⟩
  obtain ⟨s, hs⟩ : ∃ s, s = decide (S ≤ b) := ⟨_, rfl⟩
  rw [← hz, ← hs]
  have HZ : Hid (b % S = z ∧ decide (S ≤ b) = s) := ⟨hz.symm, hs.symm⟩
  clear F hb hr hz hs
  go_enter Tryd.func34, Tryd.ntmps34
  go_wp2_with fail
  obtain ⟨W0, hW0⟩ : ∃ W0, W0 = (w.alloc (.cells #[.int .i64 0, .int .i64 0, .int .i64 0, .bool false, .int .u64 0] 77)) := ⟨_, rfl⟩
  have Xr : Hid (B5q W0 (w.heap.size) (.int .i64 0) (.int .i64 0) (.int .i64 0) (.bool false) (.int .u64 0)) := by rw [hW0]; exact ⟨by go_simp, by go_simp, by go_simp, by go_simp, by go_simp, by go_simp, by go_simp, by go_simp, by go_simp, by go_simp⟩
  have hb0 : Below w.heap.size w W0 := by rw [hW0]; exact below1 w _
  rw [← hW0]
  clear hW0
  have hbw : Below w.heap.size w w := Below.refl _ _
  obtain ⟨gr, hgr⟩ : ∃ g, g = w.heap.size := ⟨_, rfl⟩
  have HGr : Hid (w.heap.size ≤ gr) := by rw [hgr]; show _ ≤ _; omega
  rw [← hgr] at Xr
  try rw [← hgr]
  clear hgr
  replace hbw := Below.on hbw hb0
  clear hb0
  refine (ranked_ok HF.out.fm b HR.out.1 HR.out.2.1 _).mono ?_
  rintro e v1 ⟨rfl, hb1⟩
  rw [HZ.out.1, HZ.out.2]
  replace Xr : Hid _ := Xr.out.below hb1
  replace hbw := Below.on hbw hb1
  clear hb1
  go_wp2_with fail
  have Xp0 : Hid (B5q (v1.alloc (.cells #[.int .i64 p, .int .i64 m, .int .i64 l, .bool s, U z] 77)) v1.heap.size (.int .i64 p) (.int .i64 m) (.int .i64 l) (.bool s) (U z)) := B5q.new v1 _ _ _ _ _ _
  have hbn : Below v1.heap.size v1 (v1.alloc (.cells #[.int .i64 p, .int .i64 m, .int .i64 l, .bool s, U z] 77)) := below1 v1 _
  generalize v1.alloc (.cells #[.int .i64 p, .int .i64 m, .int .i64 l, .bool s, U z] 77) = Wp at *
  have HGp : Hid (w.heap.size ≤ v1.heap.size) := hbw.size
  replace Xr : Hid _ := Xr.out.below hbn
  replace hbw := Below.on hbw hbn
  clear hbn
  generalize v1.heap.size = gp at *
  have Xp := Xp0
  clear Xp0
  refine (HF.out.fm.cls s z _).mono ?_
  rintro e2 v2 ⟨c, rfl, hc4, hc3, hb2⟩
  have hc0 : (c == 3) = false := by rw [hc3, ← HZ.out.1]; exact HR.out.2.2
  clear hc4 hc3
  replace Xr : Hid _ := Xr.out.below hb2
  replace Xp : Hid _ := Xp.out.below hb2
  replace hbw := Below.on hbw hb2
  clear hb2
  obtain ⟨cp0, cp1, cp2, cp3, cp4, fp0, fp1, fp2, fp3, fp4⟩ := Xp.out
  have hnep : gp < v2.heap.size := World.block_lt_of_cell? v2 _ cp0
  obtain ⟨cr0, cr1, cr2, cr3, cr4, fr0, fr1, fr2, fr3, fr4⟩ := Xr.out
  have hner : gr < v2.heap.size := World.block_lt_of_cell? v2 _ cr0
  go_wp2_with fail
  refine bodyPost_ret (v := .tuple #[PV p m l s z, .int .i64 0]) (by rw [results_cell_tmp rfl]; go_simp) rfl ⟨rfl, ?_⟩
  exact bSet (bSet (bSet (bSet (bSet hbw _ _ _ HGr.out) _ _ _ HGr.out) _ _ _ HGr.out) _ _ _ HGr.out) _ _ _ HGr.out
theorem split_ok {f p m l : Int} {S I H : Nat} (F : Pm f p m l S I H) (b : Nat) (hb : b < 2 * S) (hr : b % S < I) (w : World) :
    Calls Tryd.prog 17 #[.int .i64 f, U b] w fun en w' => en = .returned (.tuple #[.bool (decide (S ≤ b)), U (b % S - (b % S / H - 1) * H), .int .i64 (l + ((b % S / H - 1 : Nat) : Int)), .int .i64 0]) ∧ Below w.heap.size w w' := by
  have HF : Hid (Pm f p m l S I H) := F
  have hS : b % S < S := Nat.mod_lt _ (by have := F.fm.lt; omega)
  have HR : Hid (b < 2 * S ∧ b % S < I ∧ b % S < S) := ⟨hb, hr, hS⟩
  obtain ⟨z, hz⟩ : ∃ z, z = b % S := ⟨_, rfl⟩
  obtain ⟨s, hs⟩ : ∃ s, s = decide (S ≤ b) := ⟨_, rfl⟩
  rw [← hz, ← hs]
  have HZ : Hid (b % S = z ∧ decide (S ≤ b) = s) := ⟨hz.symm, hs.symm⟩
  clear F hb hr hz hs hS
  go_enter Tryd.func17, Tryd.ntmps17
  go_wp2_with fail
  have hbw : Below w.heap.size w w := Below.refl _ _
  refine (finite_ok HF.out b HR.out.1 HR.out.2.1 _).mono ?_
  rintro e v1 ⟨rfl, hb1⟩
  rw [HZ.out.1, HZ.out.2]
  replace hbw := Below.on hbw hb1
  clear hb1
  go_wp2_with fail
  have Xp0 : Hid (B5q (v1.alloc (.cells #[.int .i64 p, .int .i64 m, .int .i64 l, .bool s, U z] 77)) v1.heap.size (.int .i64 p) (.int .i64 m) (.int .i64 l) (.bool s) (U z)) := B5q.new v1 _ _ _ _ _ _
  have hbn : Below v1.heap.size v1 (v1.alloc (.cells #[.int .i64 p, .int .i64 m, .int .i64 l, .bool s, U z] 77)) := below1 v1 _
  generalize v1.alloc (.cells #[.int .i64 p, .int .i64 m, .int .i64 l, .bool s, U z] 77) = Wp at *
  have HGp : Hid (w.heap.size ≤ v1.heap.size) := hbw.size
  replace hbw := Below.on hbw hbn
  clear hbn
  generalize v1.heap.size = gp at *
  have Xp := Xp0
  clear Xp0
  refine (HF.out.pt z _ (by have := HR.out.2.2; rw [HZ.out.1] at this; exact this)).mono ?_
  rintro e v2 ⟨rfl, hb2⟩
  replace Xp : Hid _ := Xp.out.below hb2
  replace hbw := Below.on hbw hb2
  clear hb2
  obtain ⟨cp0, cp1, cp2, cp3, cp4, fp0, fp1, fp2, fp3, fp4⟩ := Xp.out
  have hnep : gp < v2.heap.size := World.block_lt_of_cell? v2 _ cp0
  go_wp2_with fail
  clear cp0 cp1 cp2 cp3 cp4 fp0 fp1 fp2 fp3 fp4 hnep
  refine bodyPost_ret (v := .tuple #[.bool s, U (z - (z / H - 1) * H), .int .i64 (l + ((z / H - 1 : Nat) : Int)), .int .i64 0]) (by rw [results_t4 rfl]; go_simp) rfl ⟨rfl, hbw⟩
theorem value_ok {f p m l : Int} {S I H : Nat} (F : Pm f p m l S I H) (b : Nat) (hb : b < 2 * S) (hr : b % S < I) (w : World) (hT : Tab w) :
    Calls Tryd.prog 7 #[.int .i64 f, U b] w fun en w' => MakeP w.heap.size w' en (if S ≤ b then -(((b % S - (b % S / H - 1) * H) : Nat) : Int) else (((b % S - (b % S / H - 1) * H) : Nat) : Int)) (l + ((b % S / H - 1 : Nat) : Int)) ∧ Below w.heap.size w w' := by
  have HF : Hid (Pm f p m l S I H) := F
  have TB : Hid (Tab w) := hT
  have HR : Hid (b < 2 * S ∧ b % S < I) := ⟨hb, hr⟩
  have hst := F.st _ hr
  have hlo := F.lo
  have h9 := F.h9
  have hp := F.hp
  obtain ⟨q, hq⟩ : ∃ q, q = b % S / H - 1 := ⟨_, rfl⟩
  have hmn : b % S - q * H < 2 * H := by
    have h1 := Nat.div_add_mod (b % S) H
    have h2 := Nat.mod_lt (b % S) hp
    rw [Nat.mul_comm] at h1
    by_cases h3 : b % S / H = 0
    · rw [h3] at h1; omega
    · rw [hq, Nat.sub_mul]; omega
  obtain ⟨mn, hmn2⟩ : ∃ mn, mn = b % S - q * H := ⟨_, rfl⟩
  obtain ⟨ex, hex⟩ : ∃ ex : Int, ex = l + (q : Int) := ⟨_, rfl⟩
  obtain ⟨s, hs⟩ : ∃ s, s = decide (S ≤ b) := ⟨_, rfl⟩
  have hsv : (if S ≤ b then -((mn : Nat) : Int) else ((mn : Nat) : Int)) = iv (s && decide (mn ≠ 0)) mn := by
    rw [hs]
    by_cases h1 : S ≤ b
    · rw [if_pos h1, decide_eq_true h1, Bool.true_and]
      by_cases h2 : mn = 0
      · rw [h2]; rfl
      · rw [decide_eq_true h2]; rfl
    · rw [if_neg h1, decide_eq_false h1, Bool.false_and]; rfl
  rw [← hq, ← hmn2, ← hex, hsv]
  obtain ⟨zv, hzv⟩ : ∃ zv, zv = iv (s && decide (mn ≠ 0)) mn := ⟨_, rfl⟩
  rw [← hzv]
  have HZV : Hid (zv = iv (s && decide (mn ≠ 0)) mn) := hzv
  rw [← hmn2] at hmn
  have HX : Hid (b % S - (b % S / H - 1) * H = mn ∧ (l + ((b % S / H - 1 : Nat) : Int)) = ex ∧ decide (S ≤ b) = s) := ⟨by rw [← hq]; exact hmn2.symm, by rw [← hq]; exact hex.symm, hs.symm⟩
  have HM : Hid (mn < B64 ∧ -3145728 ≤ ex ∧ ex ≤ 3145728) := ⟨by rw [B64_eq]; omega, by omega, by omega⟩
  clear F hb hr hT hst hlo h9 hp hmn hmn2 hex hs hsv hq hzv
  go_enter Tryd.func7, Tryd.ntmps7
  go_wp2_with fail
  obtain ⟨W0, hW0⟩ : ∃ W0, W0 = (w.alloc (.cells #[.bool false, .slice none 0 0, .int .i64 0] 28)) := ⟨_, rfl⟩
  have Xr : Hid (B3q W0 (w.heap.size) (.bool false) (.slice none 0 0) (.int .i64 0)) := by rw [hW0]; exact ⟨by go_simp, by go_simp, by go_simp, by go_simp, by go_simp, by go_simp⟩
  have hb0 : Below w.heap.size w W0 := by rw [hW0]; exact below1 w _
  rw [← hW0]
  clear hW0
  have hbw : Below w.heap.size w w := Below.refl _ _
  obtain ⟨gr, hgr⟩ : ∃ g, g = w.heap.size := ⟨_, rfl⟩
  have HGr : Hid (w.heap.size ≤ gr) := by rw [hgr]; show _ ≤ _; omega
  rw [← hgr] at Xr
  try rw [← hgr]
  clear hgr
  replace hbw := Below.on hbw hb0
  clear hb0
  refine (split_ok HF.out b HR.out.1 HR.out.2 _).mono ?_
  rintro e v1 ⟨rfl, hb1⟩
  rw [HX.out.1, HX.out.2.1, HX.out.2.2]
  replace Xr : Hid _ := Xr.out.below hb1
  replace hbw := Below.on hbw hb1
  clear hb1
  cases s
  · have HEQ : Hid (iv false mn = zv ∧ True) := ⟨HZV.out.symm, trivial⟩
    clear HZV
    go_wp2_with fail
    refine (word_any mn _ HM.out.1).mono ?_
    rintro e2 v2 ⟨p2, m2, z2, rfl, ho2, hn2, hm2, hb2⟩
    replace Xr : Hid _ := Xr.out.below hb2
    replace hbw := Below.on hbw hb2
    clear hb2
    have Z2 : Hid (ZN v2 false p2 m2 m2 zv) := (ZN.of (t := false) (Num.of ho2 hn2 (by omega)) (fun h => by cases h)).cast HEQ.out.1
    clear ho2 hn2 hm2
    go_wp2_with fail
    have HRL : Hid (gr < v2.heap.size ∧ w.heap.size ≤ v2.heap.size) := ⟨Xr.out.lt, hbw.size⟩
    refine (makep Z2.out HM.out.2 (TB.out.below hbw)).mono ?_
    rintro e2 v6 ⟨hv, hb6⟩
    obtain ⟨s6, p6, m6, eo, er, rfl, hmp⟩ := hv.open
    clear hv
    replace Xr : Hid _ := Xr.out.below hb6
    replace Z2 : Hid _ := Z2.out.below hb6
    replace hbw := Below.on hbw hb6
    clear hb6
    have M6 : Hid (MP v2.heap.size v6 s6 p6 m6 eo er (zv) (ex)) := hmp
    clear hmp
    obtain ⟨cr0, cr1, cr2, fr0, fr1, fr2⟩ := Xr.out
    have hner : gr < v6.heap.size := World.block_lt_of_cell? v6 _ cr0
    go_wp2_with fail
    refine bodyPost_ret (v := .tuple #[DV s6 p6 m6 m6 eo, .int .i64 er]) (by rw [results_cell_tmp rfl]; go_simp) rfl ⟨(M6.out.set HRL.out.1 HRL.out.2 _ _ _).close, ?_⟩
    exact bSet (bSet (bSet hbw _ _ _ HGr.out) _ _ _ HGr.out) _ _ _ HGr.out
  · by_cases hm0 : mn = 0
    · have d1 : ((mn : Int) == 0) = true := by simp [hm0]
      have d2 : ((mn : Int) != 0) = false := by simp [hm0]
      have HM0 : Hid (mn = 0) := hm0
      clear hm0
      have HEQ : Hid (iv false mn = zv ∧ True) := ⟨by rw [HZV.out, HM0.out]; rfl, trivial⟩
      clear HZV
      go_wp2_with fail
      refine (word_any mn _ HM.out.1).mono ?_
      rintro e2 v2 ⟨p2, m2, z2, rfl, ho2, hn2, hm2, hb2⟩
      replace Xr : Hid _ := Xr.out.below hb2
      replace hbw := Below.on hbw hb2
      clear hb2
      have Z2 : Hid (ZN v2 false p2 m2 m2 zv) := (ZN.of (t := false) (Num.of ho2 hn2 (by omega)) (fun h => by cases h)).cast HEQ.out.1
      clear ho2 hn2 hm2
      go_wp2_with fail
      have HRL : Hid (gr < v2.heap.size ∧ w.heap.size ≤ v2.heap.size) := ⟨Xr.out.lt, hbw.size⟩
      refine (makep Z2.out HM.out.2 (TB.out.below hbw)).mono ?_
      rintro e2 v6 ⟨hv, hb6⟩
      obtain ⟨s6, p6, m6, eo, er, rfl, hmp⟩ := hv.open
      clear hv
      replace Xr : Hid _ := Xr.out.below hb6
      replace Z2 : Hid _ := Z2.out.below hb6
      replace hbw := Below.on hbw hb6
      clear hb6
      have M6 : Hid (MP v2.heap.size v6 s6 p6 m6 eo er (zv) (ex)) := hmp
      clear hmp
      obtain ⟨cr0, cr1, cr2, fr0, fr1, fr2⟩ := Xr.out
      have hner : gr < v6.heap.size := World.block_lt_of_cell? v6 _ cr0
      go_wp2_with fail
      refine bodyPost_ret (v := .tuple #[DV s6 p6 m6 m6 eo, .int .i64 er]) (by rw [results_cell_tmp rfl]; go_simp) rfl ⟨(M6.out.set HRL.out.1 HRL.out.2 _ _ _).close, ?_⟩
      exact bSet (bSet (bSet hbw _ _ _ HGr.out) _ _ _ HGr.out) _ _ _ HGr.out
    · have HMN : Hid (mn ≠ 0) := hm0
      have d1 : ((mn : Int) == 0) = false := by simp [hm0]
      have d2 : ((mn : Int) != 0) = true := by simp [hm0]
      clear hm0
      have HEQ : Hid (iv true mn = zv ∧ 0 < mn) := ⟨by rw [HZV.out, decide_eq_true HMN.out]; rfl, by have := HMN.out; omega⟩
      clear HZV
      go_wp2_with fail
      refine (word_any mn _ HM.out.1).mono ?_
      rintro e2 v2 ⟨p2, m2, z2, rfl, ho2, hn2, hm2, hb2⟩
      replace Xr : Hid _ := Xr.out.below hb2
      replace hbw := Below.on hbw hb2
      clear hb2
      have Z2 : Hid (ZN v2 true p2 m2 m2 zv) := (ZN.of (t := true) (Num.of ho2 hn2 (by omega)) (fun _ => HEQ.out.2)).cast HEQ.out.1
      clear ho2 hn2 hm2
      go_wp2_with fail
      have HRL : Hid (gr < v2.heap.size ∧ w.heap.size ≤ v2.heap.size) := ⟨Xr.out.lt, hbw.size⟩
      refine (makep Z2.out HM.out.2 (TB.out.below hbw)).mono ?_
      rintro e2 v6 ⟨hv, hb6⟩
      obtain ⟨s6, p6, m6, eo, er, rfl, hmp⟩ := hv.open
      clear hv
      replace Xr : Hid _ := Xr.out.below hb6
      replace Z2 : Hid _ := Z2.out.below hb6
      replace hbw := Below.on hbw hb6
      clear hb6
      have M6 : Hid (MP v2.heap.size v6 s6 p6 m6 eo er (zv) (ex)) := hmp
      clear hmp
      obtain ⟨cr0, cr1, cr2, fr0, fr1, fr2⟩ := Xr.out
      have hner : gr < v6.heap.size := World.block_lt_of_cell? v6 _ cr0
      go_wp2_with fail
      refine bodyPost_ret (v := .tuple #[DV s6 p6 m6 m6 eo, .int .i64 er]) (by rw [results_cell_tmp rfl]; go_simp) rfl ⟨(M6.out.set HRL.out.1 HRL.out.2 _ _ _).close, ?_⟩
      exact bSet (bSet (bSet hbw _ _ _ HGr.out) _ _ _ HGr.out) _ _ _ HGr.out
theorem unitg_64 (top : Int) (h1 : -1000000000000 ≤ top) (h2 : top ≤ 5000) (w : World) : Calls Tryd.prog 46 #[WV 64 53 (-1074), .int .i64 top] w fun e w' => e = .returned (.int .i64 (max (top - 52) (-1074))) ∧ Below w.heap.size w w' := by
  obtain ⟨r0, hr0⟩ : ∃ r, r = top - 52 := ⟨_, rfl⟩
  obtain ⟨r, hr⟩ : ∃ r, r = max (top - 52) (-1074) := ⟨_, rfl⟩
  have e1 : IntKind.i64.wrap (top - 52) = r0 := by rw [hr0]; simp [IntKind.wrap, IntKind.signed, IntKind.bits]; omega
  have e2 : max r0 (-1074) = r := by omega
  rw [← hr]
  clear hr hr0 h1 h2
  go_enter Tryd.func46, Tryd.ntmps46
  go_wp2_with fail
  have X0 : B3 (w.alloc (.cells #[.int .i64 64, .int .i64 53, .int .i64 (-1074)] 58)) w.heap.size (.int .i64 64) (.int .i64 53) (.int .i64 (-1074)) := B3.new ..
  have hb0 : Below w.heap.size w (w.alloc (.cells #[.int .i64 64, .int .i64 53, .int .i64 (-1074)] 58)) := bwAlloc w _
  generalize w.alloc (.cells #[.int .i64 64, .int .i64 53, .int .i64 (-1074)] 58) = W at *
  obtain ⟨g, hg⟩ : ∃ g, g = w.heap.size := ⟨_, rfl⟩
  rw [← hg] at X0 ⊢
  clear hg
  have XB : Hid (B3 W.drew g (.int .i64 64) (.int .i64 53) (.int .i64 (-1074))) := X0.drew
  have HBW : Hid (Below w.heap.size w W.drew) := bwDrew hb0
  have XW : Hid (B3 W g (.int .i64 64) (.int .i64 53) (.int .i64 (-1074))) := X0
  have HB0 : Hid (Below w.heap.size w W) := hb0
  clear X0 hb0
  refine wp_region_J (fun W' => B3 W' g (.int .i64 64) (.int .i64 53) (.int .i64 (-1074))) (by kernel_rfl) ?_
  refine wpJ_take (i := 0) (v := ?v14x0) rfl (by kernel_rfl) (by kernel_rfl) (by kernel_rfl) (fun _ _ _ h => h) (by rfl) ?hy14x0 XB.out ?rest14x0
  case hy14x0 => (intro W' hJ; obtain ⟨c0, c1, c2, c3, c4, c5⟩ := hJ; go_simp; first | done | with_reducible rfl)
  refine wpJ_take (i := 1) (v := ?v15x1) rfl (by kernel_rfl) (by kernel_rfl) (by kernel_rfl) (fun _ _ _ h => h) (by rfl) ?hy15x1 XB.out ?rest15x1
  case hy15x1 => (intro W' hJ; obtain ⟨c0, c1, c2, c3, c4, c5⟩ := hJ; go_simp; first | done | with_reducible rfl)
  refine wpJ_take (i := 4) (v := ?v16x4) rfl (by kernel_rfl) (by kernel_rfl) (by kernel_rfl) (fun _ _ _ h => h) (by rfl) ?hy16x4 XB.out ?rest16x4
  case hy16x4 => (intro W' hJ; obtain ⟨c0, c1, c2, c3, c4, c5⟩ := hJ; go_simp; first | done | with_reducible rfl)
  refine wpJ_take (i := 5) (v := ?v17x5) rfl (by kernel_rfl) (by kernel_rfl) (by kernel_rfl) (fun _ _ _ h => h) (by rfl) ?hy17x5 XB.out ?rest17x5
  case hy17x5 => (intro W' hJ; obtain ⟨c0, c1, c2, c3, c4, c5⟩ := hJ; go_simp; first | done | with_reducible rfl)
  refine wpJ_on 2 rfl fun K hK => ?_
  go_simp
  refine (stored_64 _).mono ?_
  rintro e w2 ⟨rfl, hb2⟩
  have Xw2 : Hid (B3 w2 g (.int .i64 64) (.int .i64 53) (.int .i64 (-1074))) := XB.out.below hb2
  have HBw2 : Hid (Below w.heap.size w w2) := bwOn HBW.out hb2
  clear hb2
  refine hK _ _ Xw2.out ?_
  clear hK
  refine wpJ_take (i := 3) (v := ?v18x3) rfl (by kernel_rfl) (by kernel_rfl) (by kernel_rfl) (fun _ _ _ h => h) (by rfl) ?hy18x3 Xw2.out ?rest18x3
  case hy18x3 => (intro W' hJ; obtain ⟨c0, c1, c2, c3, c4, c5⟩ := hJ; go_simp; first | done | with_reducible rfl)
  refine wpJ_take (i := 6) (v := ?v19x6) rfl (by kernel_rfl) (by kernel_rfl) (by kernel_rfl) (fun _ _ _ h => h) (by rfl) ?hy19x6 Xw2.out ?rest19x6
  case hy19x6 => (intro W' hJ; obtain ⟨c0, c1, c2, c3, c4, c5⟩ := hJ; go_simp; first | done | with_reducible rfl)
  refine wpJ_take (i := 7) (v := ?v20x7) rfl (by kernel_rfl) (by kernel_rfl) (by kernel_rfl) (fun _ _ _ h => h) (by rfl) ?hy20x7 Xw2.out ?rest20x7
  case hy20x7 => (intro W' hJ; obtain ⟨c0, c1, c2, c3, c4, c5⟩ := hJ; go_simp; first | done | with_reducible rfl)
  refine wpJ_done (by kernel_rfl) ?_ _
  clear XB HBW XW HB0
  go_wp2_with fail
  go_ret
  exact ⟨rfl, HBw2.out⟩
def Says (fn : FuncId) (x y : Value) (v u : Value) : Prop := ∀ w, Calls Tryd.prog fn #[x, y] w fun e w' => e = .returned (.tuple #[v, u]) ∧ Below w.heap.size w w'
variable {f p m l P E G : Int} {S I Q : Nat}
theorem Says.cast {fn : FuncId} {x y v u : Value} {v' : Value} (h : Says fn x y v u) (e : v = v') : Says fn x y v' u := e ▸ h
structure RSubR (w : World) (g N : Nat) (xs ys : List Nat) (i ow : Nat) (ss : List Nat) (wr : World) : Prop where
  bel : Below g w wr
  own : wr.ownsRow g 147 1 (.slice (some ⟨g, 0, none⟩) i N) i (cellsV ss)
  len : ss.length = i
  dig : Dig B32 ss
  car : ow ≤ 1
  sum : valB B32 ss + valB B32 (ys.take i) = valB B32 (xs.take i) + B32 ^ i * ow
theorem RSubR.at_ {w : World} {g N : Nat} {xs ys : List Nat} {i cy : Nat} {ss : List Nat} {wr : World} (h : RSubR w g N xs ys i cy ss wr) : At32 wr (some ⟨g, 0, none⟩) i N ss := by
  rcases h.own.2 with ⟨h', _⟩ | ⟨g', cap', cur, h', hbase, hgc, hcap', hmx, hsz, htake⟩
  · simp at h'
  · simp only [Value.slice.injEq, Option.some.injEq, Addr.mk.injEq, and_true, true_and] at h'
    obtain ⟨rfl, rfl⟩ := h'
    refine ⟨h.len, hcap', hmx, h.dig, .inr ⟨g, 0, rfl, fun jj hj => ?_⟩⟩
    rw [Nat.zero_add, cell_of_row wr g jj _ _ _ hgc]
    have e1 := cellsV_get ss jj (by rw [h.len]; exact hj)
    rw [← htake, Nat.mul_one, List.getElem?_take, if_pos hj] at e1
    rw [← Array.getElem?_toList]; exact e1
structure ZR (w : World) (s : Bool) (p : Option Addr) (m : Nat) (z : Int) : Prop where
  ex : ∃ zs, At32 w p m m zs ∧ Nf B32 zs z.natAbs
  sg : s = decide (z < 0)
theorem ZR.below {w w' : World} {s : Bool} {p : Option Addr} {m : Nat} {z : Int} (h : ZR w s p m z) (hb : Below w.heap.size w w') : ZR w' s p m z := by
  obtain ⟨zs, hA, hN⟩ := h.ex
  exact ⟨⟨zs, hA.below hb, hN⟩, h.sg⟩
theorem ZR.cast {w : World} {s : Bool} {p : Option Addr} {m : Nat} {z z' : Int} (h : ZR w s p m z) (e : z = z') : ZR w s p m z' := e ▸ h
theorem ZR.zero {w : World} {s : Bool} {p : Option Addr} {m : Nat} {z : Int} (h : ZR w s p m z) : m = 0 ↔ z = 0 := by
  obtain ⟨zs, hA, hN⟩ := h.ex
  have h1 := hN.zero_iff B32_one
  have h2 := hA.len
  constructor
  · intro e
    have := h1.1 (List.eq_nil_of_length_eq_zero (by omega))
    omega
  · intro e
    have := h1.2 (by omega)
    rw [← h2, this]; rfl
theorem ZR.iv {w : World} {s : Bool} {p : Option Addr} {m : Nat} {z : Int} (h : ZR w s p m z) : Go.Proofs.YthfjjadgejmnfaaDoor.iv s z.natAbs = z := by rw [h.sg]; exact iv_abs z
theorem ZR.set {w : World} {s : Bool} {g m : Nat} {z : Int} (h : ZR w s (some ⟨g, 0, none⟩) m z) (g2 o2 : Nat) (v : Value) (hne : g ≠ g2) : ZR (w.setCell ⟨g2, o2, none⟩ v) s (some ⟨g, 0, none⟩) m z := by
  obtain ⟨zs, hA, hN⟩ := h.ex
  exact ⟨⟨zs, hA.setOther g2 o2 v hne, hN⟩, h.sg⟩
theorem DN.set {w : World} {s : Bool} {g m c : Nat} {e z : Int} (h : DN w s (some ⟨g, 0, none⟩) m c e z) (g2 o2 : Nat) (v : Value) (hne : g ≠ g2) : DN (w.setCell ⟨g2, o2, none⟩ v) s (some ⟨g, 0, none⟩) m c e z := by
  obtain ⟨xs, hX⟩ := h.zn.ex
  exact ⟨⟨⟨xs, hX.at_.setOther g2 o2 v hne, hX.nf, hX.le⟩, h.zn.sg⟩, h.fm⟩
theorem isnan_i (x : Int) (w : World) : Calls Tryd.prog 97 #[.int .i64 x] w fun en w' => en = .returned (.bool false) ∧ w' = w := by
  have hb : (x == x) = true := by simp
  have hc : (x != x) = false := by simp
  go_enter Tryd.func97, Tryd.ntmps97
  go_wp2_with fail
  go_ret
  exact ⟨rfl, rfl⟩
theorem sgn3 (x : Int) : (x < 0 ∧ sgnI x = -1) ∨ (x = 0 ∧ sgnI x = 0) ∨ (0 < x ∧ sgnI x = 1) := by
  unfold sgnI
  rcases Int.lt_trichotomy x 0 with h | h | h
  · exact .inl ⟨h, if_pos h⟩
  · exact .inr (.inl ⟨h, by rw [if_neg (by omega), if_pos h]⟩)
  · exact .inr (.inr ⟨h, by rw [if_neg (by omega), if_neg (by omega)]⟩)
theorem cmp_l {a b : Int} (h : a < b) : cmpI a b = -1 := if_pos h
theorem cmp_e {a b : Int} (h : a = b) : cmpI a b = 0 := by unfold cmpI; rw [if_neg (by omega), if_pos h]
theorem cmp_g {a b : Int} (h : b < a) : cmpI a b = 1 := by unfold cmpI; rw [if_neg (by omega), if_neg (by omega)]
theorem dv3 (z e : Int) : (z < 0 ∧ dv z e < 0) ∨ (z = 0 ∧ dv z e = 0) ∨ (0 < z ∧ 0 < dv z e) := by
  have h1 : (0 : Int) < ((2 ^ (e + 4194304).toNat : Nat) : Int) := by have := Nat.pow_pos (n := (e + 4194304).toNat) (show 0 < 2 by omega); omega
  rcases Int.lt_trichotomy z 0 with h | h | h
  · exact .inl ⟨h, Int.mul_neg_of_neg_of_pos h h1⟩
  · exact .inr (.inl ⟨h, by rw [h, dv_zero]⟩)
  · exact .inr (.inr ⟨h, Int.mul_pos h h1⟩)
theorem cmp_sgn {x y e f : Int} (h : sgnI x ≠ sgnI y ∨ sgnI x = 0) : cmpI (sgnI x) (sgnI y) = cmpI (dv x e) (dv y f) := by
  have hx := dv3 x e
  have hy := dv3 y f
  generalize dv x e = X at *
  generalize dv y f = Y at *
  rcases sgn3 x with ⟨h1, ex⟩ | ⟨h1, ex⟩ | ⟨h1, ex⟩ <;> rcases sgn3 y with ⟨h2, ey⟩ | ⟨h2, ey⟩ | ⟨h2, ey⟩ <;> rw [ex, ey] at h ⊢ <;>
    first
    | exact (cmp_l (by omega)).trans (cmp_l (by omega)).symm
    | exact (cmp_e (by omega)).trans (cmp_e (by omega)).symm
    | exact (cmp_g (by omega)).trans (cmp_g (by omega)).symm
    | (exfalso; omega)
def topI (z e : Int) : Int := e + bitsN z.natAbs - 1
theorem top_lt {x y e f : Int} (hx : 0 ≤ x) (hy : 0 < y) (he : -4194304 ≤ e) (hf : -4194304 ≤ f) (h : topI x e < topI y f) : dv x e < dv y f := by
  have h1 := bitsN_lt x.natAbs
  have h2 := bitsN_le y.natAbs (by omega)
  have h3 := bitsN_pos (a := y.natAbs) (by omega)
  unfold topI at h
  have h4 : x.natAbs * 2 ^ (e + 4194304).toNat < 2 ^ (bitsN x.natAbs + (e + 4194304).toNat) := by
    rw [Nat.pow_add]
    exact Nat.mul_lt_mul_of_pos_right h1 (Nat.pow_pos (by omega))
  have h5 : 2 ^ (bitsN y.natAbs - 1 + (f + 4194304).toNat) ≤ y.natAbs * 2 ^ (f + 4194304).toNat := by
    rw [Nat.pow_add]
    exact Nat.mul_le_mul_right _ h2
  have h6 : 2 ^ (bitsN x.natAbs + (e + 4194304).toNat) ≤ 2 ^ (bitsN y.natAbs - 1 + (f + 4194304).toNat) := Nat.pow_le_pow_right (by omega) (by omega)
  have h7 : x.natAbs * 2 ^ (e + 4194304).toNat < y.natAbs * 2 ^ (f + 4194304).toNat := by omega
  unfold dv
  have h8 : ((x.natAbs * 2 ^ (e + 4194304).toNat : Nat) : Int) = x * ((2 ^ (e + 4194304).toNat : Nat) : Int) := by rw [Int.natCast_mul, Int.natAbs_of_nonneg hx]
  have h9 : ((y.natAbs * 2 ^ (f + 4194304).toNat : Nat) : Int) = y * ((2 ^ (f + 4194304).toNat : Nat) : Int) := by rw [Int.natCast_mul, Int.natAbs_of_nonneg (by omega)]
  rw [← h8, ← h9]
  omega
theorem topI_neg (z e : Int) : topI (-z) e = topI z e := by unfold topI; rw [Int.natAbs_neg]
theorem cmp_top {x y e f : Int} (hx : x ≠ 0) (hs : sgnI x = sgnI y) (he : -4194304 ≤ e) (hf : -4194304 ≤ f) (h : topI x e ≠ topI y f) : sgnI x * cmpI (topI x e) (topI y f) = cmpI (dv x e) (dv y f) := by
  unfold sgnI at hs ⊢
  rcases Int.lt_or_lt_of_ne hx with h1 | h1
  · have h2 : y < 0 := by
      rw [if_pos h1] at hs
      rcases Int.lt_trichotomy y 0 with h2 | h2 | h2
      · exact h2
      · rw [if_neg (by omega), if_pos h2] at hs; omega
      · rw [if_neg (by omega), if_neg (by omega)] at hs; omega
    rw [if_pos h1]
    rcases Int.lt_or_lt_of_ne h with h3 | h3
    · have := top_lt (x := -x) (y := -y) (by omega) (by omega) he hf (by rw [topI_neg, topI_neg]; exact h3)
      rw [dv_neg, dv_neg] at this
      unfold cmpI
      rw [if_pos h3, if_neg (by omega), if_neg (by omega)]
      rfl
    · have := top_lt (x := -y) (y := -x) (by omega) (by omega) hf he (by rw [topI_neg, topI_neg]; exact h3)
      rw [dv_neg, dv_neg] at this
      unfold cmpI
      rw [if_neg (show ¬ topI x e < topI y f by omega), if_neg h, if_pos (show dv x e < dv y f by omega)]
      rfl
  · have h2 : 0 < y := by
      rw [if_neg (by omega), if_neg (by omega)] at hs
      rcases Int.lt_trichotomy y 0 with h2 | h2 | h2
      · rw [if_pos h2] at hs; omega
      · rw [if_neg (by omega), if_pos h2] at hs; omega
      · exact h2
    rw [if_neg (by omega), if_neg (by omega), Int.one_mul]
    rcases Int.lt_or_lt_of_ne h with h3 | h3
    · have := top_lt (by omega) h2 he hf h3
      unfold cmpI
      rw [if_pos h3, if_pos this]
    · have := top_lt (by omega) h1 hf he h3
      unfold cmpI
      rw [if_neg (show ¬ topI x e < topI y f by omega), if_neg h, if_neg (show ¬ dv x e < dv y f by omega), if_neg (by omega)]
theorem cmp_same {x y e f g : Int} (h1 : g ≤ e) (h2 : g ≤ f) (hg : -4194304 ≤ g) : cmpI (x * 2 ^ (e - g).toNat) (y * 2 ^ (f - g).toNat) = cmpI (dv x e) (dv y f) := by
  rw [dv_shift h1 hg, dv_shift h2 hg, pow_cast, pow_cast]
  generalize x * ((2 ^ (e - g).toNat : Nat) : Int) = X
  generalize y * ((2 ^ (f - g).toNat : Nat) : Int) = Y
  have h3 : (0 : Int) < ((2 ^ (g + 4194304).toNat : Nat) : Int) := by have := Nat.pow_pos (n := (g + 4194304).toNat) (show 0 < 2 by omega); omega
  unfold cmpI dv
  generalize ((2 ^ (g + 4194304).toNat : Nat) : Int) = T at *
  rcases Int.lt_trichotomy X Y with h | h | h
  · rw [if_pos h, if_pos (Int.mul_lt_mul_of_pos_right h h3)]
  · subst h
    rw [if_neg (by omega), if_pos rfl, if_neg (by omega), if_pos rfl]
  · have := Int.mul_lt_mul_of_pos_right h h3
    rw [if_neg (by omega), if_neg (by omega), if_neg (by omega), if_neg (by omega)]
theorem ccmp_l (a b : Int) (w : World) (h1 : a < b) : Calls Tryd.prog 81 #[.int .i64 a, .int .i64 b] w fun en w' => en = .returned (.int .i64 (-1)) ∧ Below w.heap.size w w' := by
  go_enter Tryd.func81, Tryd.ntmps81
  go_wp2_with fail
  refine (isnan_i a w).mono ?_
  rintro e2 v1 ⟨rfl, hw⟩
  obtain rfl := hw.symm
  clear hw
  go_wp2_with fail
  refine (isnan_i b w).mono ?_
  rintro e2 v1 ⟨rfl, hw⟩
  obtain rfl := hw.symm
  clear hw
  go_wp2_with fail
  go_ret
  exact ⟨rfl, Below.refl _ _⟩
theorem ccmp_g (a b : Int) (w : World) (h2 : b < a) : Calls Tryd.prog 81 #[.int .i64 a, .int .i64 b] w fun en w' => en = .returned (.int .i64 (1)) ∧ Below w.heap.size w w' := by
  have h1 : ¬ a < b := by omega
  go_enter Tryd.func81, Tryd.ntmps81
  go_wp2_with fail
  refine (isnan_i a w).mono ?_
  rintro e2 v1 ⟨rfl, hw⟩
  obtain rfl := hw.symm
  clear hw
  go_wp2_with fail
  refine (isnan_i b w).mono ?_
  rintro e2 v1 ⟨rfl, hw⟩
  obtain rfl := hw.symm
  clear hw
  go_wp2_with fail
  go_ret
  exact ⟨rfl, Below.refl _ _⟩
theorem ccmp_e (a b : Int) (w : World) (h1 : ¬ a < b) (h2 : ¬ b < a) : Calls Tryd.prog 81 #[.int .i64 a, .int .i64 b] w fun en w' => en = .returned (.int .i64 (0)) ∧ Below w.heap.size w w' := by
  go_enter Tryd.func81, Tryd.ntmps81
  go_wp2_with fail
  refine (isnan_i a w).mono ?_
  rintro e2 v1 ⟨rfl, hw⟩
  obtain rfl := hw.symm
  clear hw
  go_wp2_with fail
  refine (isnan_i b w).mono ?_
  rintro e2 v1 ⟨rfl, hw⟩
  obtain rfl := hw.symm
  clear hw
  go_wp2_with fail
  go_ret
  exact ⟨rfl, Below.refl _ _⟩
theorem ccmp (a b : Int) (w : World) : Calls Tryd.prog 81 #[.int .i64 a, .int .i64 b] w fun en w' => en = .returned (.int .i64 (cmpI a b)) ∧ Below w.heap.size w w' := by
  unfold cmpI
  rcases Int.lt_trichotomy a b with h | h | h
  · rw [if_pos h]; exact ccmp_l a b w h
  · rw [if_neg (by omega), if_pos h]; exact ccmp_e a b w (by omega) (by omega)
  · rw [if_neg (by omega), if_neg (by omega)]; exact ccmp_g a b w h
theorem dtop {p : Option Addr} {m c : Nat} {w : World} {z e : Int} {s : Bool} (h : ZN w s p m c z) (he : -1048576 ≤ e ∧ e ≤ 1048576) :
    Calls Tryd.prog 82 #[DV s p m c e] w fun en w' => en = .returned (.int .i64 (topI z e)) ∧ Below w.heap.size w w' := by
  have H : Hid (ZN w s p m c z) := h
  have hb := (lim_bits z.natAbs).1 h.lim
  have f1 : wrap64 (e + bitsN z.natAbs) = e + bitsN z.natAbs := by simp only [wrap64]; omega
  have f2 : wrap64 (e + bitsN z.natAbs - 1) = topI z e := by unfold topI; simp only [wrap64]; omega
  have f3 : IntKind.i64.wrap (e + bitsN z.natAbs) = e + bitsN z.natAbs := by simp [IntKind.wrap, IntKind.signed, IntKind.bits]; omega
  have f4 : IntKind.i64.wrap (e + bitsN z.natAbs - 1) = topI z e := by unfold topI; simp [IntKind.wrap, IntKind.signed, IntKind.bits]; omega
  clear h he hb
  go_enter Tryd.func82, Tryd.ntmps82
  go_wp2_with fail
  obtain ⟨W0, hW0⟩ : ∃ W0, W0 = (w.alloc (.cells #[.bool s, .slice p m c, .int .i64 e] 28)) := ⟨_, rfl⟩
  have Xd : Hid (B3q W0 (w.heap.size) (.bool s) (.slice p m c) (.int .i64 e)) := by rw [hW0]; exact ⟨by go_simp, by go_simp, by go_simp, by go_simp, by go_simp, by go_simp⟩
  have hb0 : Below w.heap.size w W0 := by rw [hW0]; exact below1 w _
  rw [← hW0]
  clear hW0
  have hbw : Below w.heap.size w w := Below.refl _ _
  obtain ⟨gd, hgd⟩ : ∃ g, g = w.heap.size := ⟨_, rfl⟩
  have HGd : Hid (w.heap.size ≤ gd) := by rw [hgd]; show _ ≤ _; omega
  rw [← hgd] at Xd
  try rw [← hgd]
  clear hgd
  replace hbw := Below.on hbw hb0
  clear hb0
  obtain ⟨W1, hW1⟩ : ∃ W1, W1 = W0.drew := ⟨_, rfl⟩
  have hbd : Below W0.heap.size W0 W1 := by rw [hW1]; exact bDrew1 (Below.refl _ _)
  replace Xd : Hid _ := Xd.out.below hbd
  replace hbw := Below.on hbw hbd
  clear hbd
  have HJ : Hid ((fun W' : World => W'.cell? ⟨gd, 1, none⟩ = some (.slice p m c) ∧ W'.cell? ⟨gd, 2, none⟩ = some (.int .i64 e)) W1) := ⟨Xd.out.c1, Xd.out.c2⟩
  refine wp_region_J (fun W' => W'.cell? ⟨gd, 1, none⟩ = some (.slice p m c) ∧ W'.cell? ⟨gd, 2, none⟩ = some (.int .i64 e)) (by kernel_rfl) ?_
  rw [← hW1]
  clear hW1
  refine wpJ_tq 0 rfl HJ.out ?_
  refine wpJ_tq 1 rfl HJ.out ?_
  refine wpJ_tq 2 rfl HJ.out ?_
  refine wpJ_tq 3 rfl HJ.out ?_
  refine wpJ_tq 4 rfl HJ.out ?_
  refine wpJ_on 5 rfl fun KJ hK => ?_
  go_simp
  obtain ⟨xs, hX⟩ := (H.out.below hbw).ex
  refine (bits_any hX.at_ (by have := hX.le; omega)).mono ?_
  rintro e2 v3 ⟨rfl, hw⟩
  obtain rfl := hw.symm
  clear hw
  rw [hX.nf.val]
  clear hX
  clear HJ
  have HJ : Hid ((fun W' : World => W'.cell? ⟨gd, 1, none⟩ = some (.slice p m c) ∧ W'.cell? ⟨gd, 2, none⟩ = some (.int .i64 e)) W1) := ⟨Xd.out.c1, Xd.out.c2⟩
  refine hK _ _ HJ.out ?_
  clear hK
  refine wpJ_tq 6 rfl HJ.out ?_
  refine wpJ_tq 7 rfl HJ.out ?_
  refine wpJ_tq 8 rfl HJ.out ?_
  refine wpJ_done (by kernel_rfl) ?_ _
  clear HJ
  go_wp2_with fail
  go_ret
  exact ⟨rfl, hbw⟩
theorem dcmp_d {p q : Option Addr} {m c n d : Nat} {w : World} {x y e f : Int} {s t : Bool} (h : DN w s p m c e x) (k : DN w t q n d f y) (hs : sgnI x ≠ sgnI y) :
    Calls Tryd.prog 59 #[DV s p m c e, DV t q n d f] w fun en w' => en = .returned (.tuple #[.int .i64 (cmpI (dv x e) (dv y f)), .int .i64 0]) ∧ Below w.heap.size w w' := by
  have H : Hid (DN w s p m c e x) := h
  have K : Hid (DN w t q n d f y) := k
  obtain ⟨r, hr⟩ : ∃ r, r = cmpI (dv x e) (dv y f) := ⟨_, rfl⟩
  rw [← hr]
  rw [← cmp_sgn (.inl hs)] at hr
  obtain ⟨sx, hsx⟩ : ∃ b, b = sgnI x := ⟨_, rfl⟩
  obtain ⟨sy, hsy⟩ : ∃ b, b = sgnI y := ⟨_, rfl⟩
  rw [← hsx, ← hsy] at hr hs
  have hd1 : (sx == sy) = false := by simp [hs]
  have hd2 : (sx != sy) = true := by simp [hs]
  have HX : Hid (sgnI x = sx ∧ sgnI y = sy ∧ cmpI sx sy = r) := ⟨hsx.symm, hsy.symm, hr.symm⟩
  clear h k hs hsx hsy hr
  go_enter Tryd.func59, Tryd.ntmps59
  go_wp2_with fail
  obtain ⟨W0, hW0⟩ : ∃ W0, W0 = ((w.alloc (.cells #[.bool s, .slice p m c, .int .i64 e] 28)).alloc (.cells #[.bool t, .slice q n d, .int .i64 f] 28)) := ⟨_, rfl⟩
  have Xa : Hid (B3q W0 (w.heap.size) (.bool s) (.slice p m c) (.int .i64 e)) := by rw [hW0]; exact ⟨by go_simp, by go_simp, by go_simp, by go_simp, by go_simp, by go_simp⟩
  have Xb : Hid (B3q W0 (w.heap.size + 1) (.bool t) (.slice q n d) (.int .i64 f)) := by rw [hW0]; exact ⟨by go_simp, by go_simp, by go_simp, by go_simp, by go_simp, by go_simp⟩
  have hb0 : Below w.heap.size w W0 := by rw [hW0]; exact below2 w _ _
  rw [← hW0]
  clear hW0
  have hbw : Below w.heap.size w w := Below.refl _ _
  obtain ⟨gb, hgb⟩ : ∃ g, g = w.heap.size + 1 := ⟨_, rfl⟩
  have HGb : Hid (w.heap.size ≤ gb) := by rw [hgb]; show _ ≤ _; omega
  rw [← hgb] at Xb
  try rw [← hgb]
  obtain ⟨ga, hga⟩ : ∃ g, g = w.heap.size := ⟨_, rfl⟩
  have HGa : Hid (w.heap.size ≤ ga) := by rw [hga]; show _ ≤ _; omega
  rw [← hga] at Xa
  try rw [← hga]
  have HGD : Hid (ga ≠ gb ∧ gb ≠ ga) := by rw [hga, hgb]; exact ⟨by omega, by omega⟩
  clear hga hgb
  replace hbw := Below.on hbw hb0
  clear hb0
  refine (dform_t (H.out.below hbw)).mono ?_
  rintro e v1 ⟨rfl, hb1⟩
  replace Xa : Hid _ := Xa.out.below hb1
  replace Xb : Hid _ := Xb.out.below hb1
  replace hbw := Below.on hbw hb1
  clear hb1
  obtain ⟨cb0, cb1, cb2, fb0, fb1, fb2⟩ := Xb.out
  have hneb : gb < v1.heap.size := World.block_lt_of_cell? v1 _ cb0
  go_wp2_with fail
  clear cb0 cb1 cb2 fb0 fb1 fb2 hneb
  refine (dform_t (K.out.below hbw)).mono ?_
  rintro e v2 ⟨rfl, hb2⟩
  replace Xa : Hid _ := Xa.out.below hb2
  replace Xb : Hid _ := Xb.out.below hb2
  replace hbw := Below.on hbw hb2
  clear hb2
  obtain ⟨ca0, ca1, ca2, fa0, fa1, fa2⟩ := Xa.out
  have hnea : ga < v2.heap.size := World.block_lt_of_cell? v2 _ ca0
  obtain ⟨cb0, cb1, cb2, fb0, fb1, fb2⟩ := Xb.out
  have hneb : gb < v2.heap.size := World.block_lt_of_cell? v2 _ cb0
  go_wp2_with fail
  clear ca0 ca1 ca2 fa0 fa1 fa2 hnea
  clear cb0 cb1 cb2 fb0 fb1 fb2 hneb
  refine (zsign (H.out.zn.below hbw)).mono ?_
  rintro e v3 ⟨rfl, hb3⟩
  rw [HX.out.1]
  replace Xa : Hid _ := Xa.out.below hb3
  replace Xb : Hid _ := Xb.out.below hb3
  replace hbw := Below.on hbw hb3
  clear hb3
  obtain ⟨cb0, cb1, cb2, fb0, fb1, fb2⟩ := Xb.out
  have hneb : gb < v3.heap.size := World.block_lt_of_cell? v3 _ cb0
  go_wp2_with fail
  clear cb0 cb1 cb2 fb0 fb1 fb2 hneb
  refine (zsign (K.out.zn.below hbw)).mono ?_
  rintro e v4 ⟨rfl, hb4⟩
  rw [HX.out.2.1]
  replace Xa : Hid _ := Xa.out.below hb4
  replace Xb : Hid _ := Xb.out.below hb4
  replace hbw := Below.on hbw hb4
  clear hb4
  obtain ⟨ca0, ca1, ca2, fa0, fa1, fa2⟩ := Xa.out
  have hnea : ga < v4.heap.size := World.block_lt_of_cell? v4 _ ca0
  obtain ⟨cb0, cb1, cb2, fb0, fb1, fb2⟩ := Xb.out
  have hneb : gb < v4.heap.size := World.block_lt_of_cell? v4 _ cb0
  go_wp2_with fail
  clear ca0 ca1 ca2 fa0 fa1 fa2 hnea
  clear cb0 cb1 cb2 fb0 fb1 fb2 hneb
  refine (ccmp _ _ _).mono ?_
  rintro e v5 ⟨rfl, hb5⟩
  rw [HX.out.2.2]
  replace Xa : Hid _ := Xa.out.below hb5
  replace Xb : Hid _ := Xb.out.below hb5
  replace hbw := Below.on hbw hb5
  clear hb5
  go_wp2_with fail
  go_ret2
  exact ⟨rfl, hbw⟩
theorem dcmp_z {p q : Option Addr} {m c n d : Nat} {w : World} {x y e f : Int} {s t : Bool} (h : DN w s p m c e x) (k : DN w t q n d f y) (hs : sgnI x = sgnI y) (hx : x = 0) :
    Calls Tryd.prog 59 #[DV s p m c e, DV t q n d f] w fun en w' => en = .returned (.tuple #[.int .i64 (cmpI (dv x e) (dv y f)), .int .i64 0]) ∧ Below w.heap.size w w' := by
  have H : Hid (DN w s p m c e x) := h
  have K : Hid (DN w t q n d f y) := k
  obtain ⟨r, hr⟩ : ∃ r, r = cmpI (dv x e) (dv y f) := ⟨_, rfl⟩
  rw [← hr]
  rw [← cmp_sgn (.inr (by rw [hx]; rfl))] at hr
  have HX : Hid (sgnI x = 0 ∧ sgnI y = 0 ∧ cmpI 0 0 = r) := by
    have h0 : sgnI x = 0 := by rw [hx]; rfl
    rw [h0] at hs hr
    exact ⟨h0, hs.symm, by rw [hr, ← hs]⟩
  clear h k hs hx hr
  go_enter Tryd.func59, Tryd.ntmps59
  go_wp2_with fail
  obtain ⟨W0, hW0⟩ : ∃ W0, W0 = ((w.alloc (.cells #[.bool s, .slice p m c, .int .i64 e] 28)).alloc (.cells #[.bool t, .slice q n d, .int .i64 f] 28)) := ⟨_, rfl⟩
  have Xa : Hid (B3q W0 (w.heap.size) (.bool s) (.slice p m c) (.int .i64 e)) := by rw [hW0]; exact ⟨by go_simp, by go_simp, by go_simp, by go_simp, by go_simp, by go_simp⟩
  have Xb : Hid (B3q W0 (w.heap.size + 1) (.bool t) (.slice q n d) (.int .i64 f)) := by rw [hW0]; exact ⟨by go_simp, by go_simp, by go_simp, by go_simp, by go_simp, by go_simp⟩
  have hb0 : Below w.heap.size w W0 := by rw [hW0]; exact below2 w _ _
  rw [← hW0]
  clear hW0
  have hbw : Below w.heap.size w w := Below.refl _ _
  obtain ⟨gb, hgb⟩ : ∃ g, g = w.heap.size + 1 := ⟨_, rfl⟩
  have HGb : Hid (w.heap.size ≤ gb) := by rw [hgb]; show _ ≤ _; omega
  rw [← hgb] at Xb
  try rw [← hgb]
  obtain ⟨ga, hga⟩ : ∃ g, g = w.heap.size := ⟨_, rfl⟩
  have HGa : Hid (w.heap.size ≤ ga) := by rw [hga]; show _ ≤ _; omega
  rw [← hga] at Xa
  try rw [← hga]
  have HGD : Hid (ga ≠ gb ∧ gb ≠ ga) := by rw [hga, hgb]; exact ⟨by omega, by omega⟩
  clear hga hgb
  replace hbw := Below.on hbw hb0
  clear hb0
  refine (dform_t (H.out.below hbw)).mono ?_
  rintro e v1 ⟨rfl, hb1⟩
  replace Xa : Hid _ := Xa.out.below hb1
  replace Xb : Hid _ := Xb.out.below hb1
  replace hbw := Below.on hbw hb1
  clear hb1
  obtain ⟨cb0, cb1, cb2, fb0, fb1, fb2⟩ := Xb.out
  have hneb : gb < v1.heap.size := World.block_lt_of_cell? v1 _ cb0
  go_wp2_with fail
  clear cb0 cb1 cb2 fb0 fb1 fb2 hneb
  refine (dform_t (K.out.below hbw)).mono ?_
  rintro e v2 ⟨rfl, hb2⟩
  replace Xa : Hid _ := Xa.out.below hb2
  replace Xb : Hid _ := Xb.out.below hb2
  replace hbw := Below.on hbw hb2
  clear hb2
  obtain ⟨ca0, ca1, ca2, fa0, fa1, fa2⟩ := Xa.out
  have hnea : ga < v2.heap.size := World.block_lt_of_cell? v2 _ ca0
  obtain ⟨cb0, cb1, cb2, fb0, fb1, fb2⟩ := Xb.out
  have hneb : gb < v2.heap.size := World.block_lt_of_cell? v2 _ cb0
  go_wp2_with fail
  clear ca0 ca1 ca2 fa0 fa1 fa2 hnea
  clear cb0 cb1 cb2 fb0 fb1 fb2 hneb
  refine (zsign (H.out.zn.below hbw)).mono ?_
  rintro e v3 ⟨rfl, hb3⟩
  rw [HX.out.1]
  replace Xa : Hid _ := Xa.out.below hb3
  replace Xb : Hid _ := Xb.out.below hb3
  replace hbw := Below.on hbw hb3
  clear hb3
  obtain ⟨cb0, cb1, cb2, fb0, fb1, fb2⟩ := Xb.out
  have hneb : gb < v3.heap.size := World.block_lt_of_cell? v3 _ cb0
  go_wp2_with fail
  clear cb0 cb1 cb2 fb0 fb1 fb2 hneb
  refine (zsign (K.out.zn.below hbw)).mono ?_
  rintro e v4 ⟨rfl, hb4⟩
  rw [HX.out.2.1]
  replace Xa : Hid _ := Xa.out.below hb4
  replace Xb : Hid _ := Xb.out.below hb4
  replace hbw := Below.on hbw hb4
  clear hb4
  obtain ⟨ca0, ca1, ca2, fa0, fa1, fa2⟩ := Xa.out
  have hnea : ga < v4.heap.size := World.block_lt_of_cell? v4 _ ca0
  obtain ⟨cb0, cb1, cb2, fb0, fb1, fb2⟩ := Xb.out
  have hneb : gb < v4.heap.size := World.block_lt_of_cell? v4 _ cb0
  go_wp2_with fail
  clear ca0 ca1 ca2 fa0 fa1 fa2 hnea
  clear cb0 cb1 cb2 fb0 fb1 fb2 hneb
  refine (ccmp _ _ _).mono ?_
  rintro e v5 ⟨rfl, hb5⟩
  rw [HX.out.2.2]
  replace Xa : Hid _ := Xa.out.below hb5
  replace Xb : Hid _ := Xb.out.below hb5
  replace hbw := Below.on hbw hb5
  clear hb5
  go_wp2_with fail
  go_ret2
  exact ⟨rfl, hbw⟩
theorem dcmp_t {p q : Option Addr} {m c n d : Nat} {w : World} {x y e f : Int} {s t : Bool} (h : DN w s p m c e x) (k : DN w t q n d f y) (hs : sgnI x = sgnI y) (hx : x ≠ 0) (ht : topI x e ≠ topI y f) :
    Calls Tryd.prog 59 #[DV s p m c e, DV t q n d f] w fun en w' => en = .returned (.tuple #[.int .i64 (cmpI (dv x e) (dv y f)), .int .i64 0]) ∧ Below w.heap.size w w' := by
  have H : Hid (DN w s p m c e x) := h
  have K : Hid (DN w t q n d f y) := k
  have hy : y ≠ 0 := by
    intro h0
    rw [h0] at hs
    unfold sgnI at hs
    rw [if_neg (show ¬ (0 : Int) < 0 by omega), if_pos rfl] at hs
    rcases Int.lt_or_lt_of_ne hx with h1 | h1
    · rw [if_pos h1] at hs; omega
    · rw [if_neg (by omega), if_neg (by omega)] at hs; omega
  have hE : -1048576 ≤ e ∧ e ≤ 1048576 ∧ -1048576 ≤ f ∧ f ≤ 1048576 := by
    rcases h.fm with ⟨h1, _⟩ | ⟨_, h1, h2⟩
    · exact absurd h1 hx
    · rcases k.fm with ⟨k1, _⟩ | ⟨_, k1, k2⟩
      · exact absurd k1 hy
      · exact ⟨h1, h2, k1, k2⟩
  have HE : Hid (-1048576 ≤ e ∧ e ≤ 1048576 ∧ -1048576 ≤ f ∧ f ≤ 1048576) := hE
  have hbx := (lim_bits x.natAbs).1 h.zn.lim
  have hby := (lim_bits y.natAbs).1 k.zn.lim
  obtain ⟨r, hr⟩ : ∃ r, r = cmpI (dv x e) (dv y f) := ⟨_, rfl⟩
  rw [← hr]
  obtain ⟨sx, hsx⟩ : ∃ b, b = sgnI x := ⟨_, rfl⟩
  have hv1 : sx = 1 ∨ sx = -1 := by
    rw [hsx]
    unfold sgnI
    rcases Int.lt_or_lt_of_ne hx with h1 | h1
    · rw [if_pos h1]; exact .inr rfl
    · rw [if_neg (by omega), if_neg (by omega)]; exact .inl rfl
  have hd0 : (sx == 0) = false := by rcases hv1 with h1 | h1 <;> rw [h1] <;> rfl
  have hd1 : (sx == sx) = true := by simp
  have hd2 : (sx != sx) = false := by simp
  rw [← cmp_top hx hs (by omega) (by omega) ht, ← hsx] at hr
  have HX : Hid (sgnI x = sx ∧ sgnI y = sx ∧ sx * cmpI (topI x e) (topI y f) = r ∧ (sx = 1 ∨ sx = -1)) := ⟨hsx.symm, by rw [← hs, hsx], hr.symm, hv1⟩
  obtain ⟨tx, htx⟩ : ∃ b, b = topI x e := ⟨_, rfl⟩
  obtain ⟨ty, hty⟩ : ∃ b, b = topI y f := ⟨_, rfl⟩
  rw [← htx, ← hty] at HX ht
  have hd3 : (tx == ty) = false := by simp [ht]
  have hd4 : (tx != ty) = true := by simp [ht]
  have HTX : Hid (topI x e = tx ∧ topI y f = ty) := ⟨htx.symm, hty.symm⟩
  have f1 : wrap64 (sx * cmpI tx ty) = r := by
    have h1 := HX.out.2.2.1
    rw [h1]
    have h2 : r = -1 ∨ r = 0 ∨ r = 1 := by
      rw [← h1]
      unfold cmpI
      rcases HX.out.2.2.2 with h3 | h3 <;> rw [h3] <;> split <;> (try split) <;> omega
    simp only [wrap64]; omega
  clear h k hs hx hy hE hsx hv1 hr ht htx hty hbx hby
  go_enter Tryd.func59, Tryd.ntmps59
  go_wp2_with fail
  obtain ⟨W0, hW0⟩ : ∃ W0, W0 = ((w.alloc (.cells #[.bool s, .slice p m c, .int .i64 e] 28)).alloc (.cells #[.bool t, .slice q n d, .int .i64 f] 28)) := ⟨_, rfl⟩
  have Xa : Hid (B3q W0 (w.heap.size) (.bool s) (.slice p m c) (.int .i64 e)) := by rw [hW0]; exact ⟨by go_simp, by go_simp, by go_simp, by go_simp, by go_simp, by go_simp⟩
  have Xb : Hid (B3q W0 (w.heap.size + 1) (.bool t) (.slice q n d) (.int .i64 f)) := by rw [hW0]; exact ⟨by go_simp, by go_simp, by go_simp, by go_simp, by go_simp, by go_simp⟩
  have hb0 : Below w.heap.size w W0 := by rw [hW0]; exact below2 w _ _
  rw [← hW0]
  clear hW0
  have hbw : Below w.heap.size w w := Below.refl _ _
  obtain ⟨gb, hgb⟩ : ∃ g, g = w.heap.size + 1 := ⟨_, rfl⟩
  have HGb : Hid (w.heap.size ≤ gb) := by rw [hgb]; show _ ≤ _; omega
  rw [← hgb] at Xb
  try rw [← hgb]
  obtain ⟨ga, hga⟩ : ∃ g, g = w.heap.size := ⟨_, rfl⟩
  have HGa : Hid (w.heap.size ≤ ga) := by rw [hga]; show _ ≤ _; omega
  rw [← hga] at Xa
  try rw [← hga]
  have HGD : Hid (ga ≠ gb ∧ gb ≠ ga) := by rw [hga, hgb]; exact ⟨by omega, by omega⟩
  clear hga hgb
  replace hbw := Below.on hbw hb0
  clear hb0
  refine (dform_t (H.out.below hbw)).mono ?_
  rintro e v1 ⟨rfl, hb1⟩
  replace Xa : Hid _ := Xa.out.below hb1
  replace Xb : Hid _ := Xb.out.below hb1
  replace hbw := Below.on hbw hb1
  clear hb1
  obtain ⟨cb0, cb1, cb2, fb0, fb1, fb2⟩ := Xb.out
  have hneb : gb < v1.heap.size := World.block_lt_of_cell? v1 _ cb0
  go_wp2_with fail
  clear cb0 cb1 cb2 fb0 fb1 fb2 hneb
  refine (dform_t (K.out.below hbw)).mono ?_
  rintro e v2 ⟨rfl, hb2⟩
  replace Xa : Hid _ := Xa.out.below hb2
  replace Xb : Hid _ := Xb.out.below hb2
  replace hbw := Below.on hbw hb2
  clear hb2
  obtain ⟨ca0, ca1, ca2, fa0, fa1, fa2⟩ := Xa.out
  have hnea : ga < v2.heap.size := World.block_lt_of_cell? v2 _ ca0
  obtain ⟨cb0, cb1, cb2, fb0, fb1, fb2⟩ := Xb.out
  have hneb : gb < v2.heap.size := World.block_lt_of_cell? v2 _ cb0
  go_wp2_with fail
  clear ca0 ca1 ca2 fa0 fa1 fa2 hnea
  clear cb0 cb1 cb2 fb0 fb1 fb2 hneb
  refine (zsign (H.out.zn.below hbw)).mono ?_
  rintro e v3 ⟨rfl, hb3⟩
  rw [HX.out.1]
  replace Xa : Hid _ := Xa.out.below hb3
  replace Xb : Hid _ := Xb.out.below hb3
  replace hbw := Below.on hbw hb3
  clear hb3
  obtain ⟨cb0, cb1, cb2, fb0, fb1, fb2⟩ := Xb.out
  have hneb : gb < v3.heap.size := World.block_lt_of_cell? v3 _ cb0
  go_wp2_with fail
  clear cb0 cb1 cb2 fb0 fb1 fb2 hneb
  refine (zsign (K.out.zn.below hbw)).mono ?_
  rintro e v4 ⟨rfl, hb4⟩
  rw [HX.out.2.1]
  replace Xa : Hid _ := Xa.out.below hb4
  replace Xb : Hid _ := Xb.out.below hb4
  replace hbw := Below.on hbw hb4
  clear hb4
  obtain ⟨ca0, ca1, ca2, fa0, fa1, fa2⟩ := Xa.out
  have hnea : ga < v4.heap.size := World.block_lt_of_cell? v4 _ ca0
  obtain ⟨cb0, cb1, cb2, fb0, fb1, fb2⟩ := Xb.out
  have hneb : gb < v4.heap.size := World.block_lt_of_cell? v4 _ cb0
  go_wp2_with fail
  clear ca0 ca1 ca2 fa0 fa1 fa2 hnea
  clear cb0 cb1 cb2 fb0 fb1 fb2 hneb
  obtain ⟨W1, hW1⟩ : ∃ W1, W1 = v4.drew := ⟨_, rfl⟩
  have hbd : Below v4.heap.size v4 W1 := by rw [hW1]; exact bDrew1 (Below.refl _ _)
  replace Xa : Hid _ := Xa.out.below hbd
  replace Xb : Hid _ := Xb.out.below hbd
  replace hbw := Below.on hbw hbd
  clear hbd
  have HJ : Hid ((fun W' : World => W'.cell? ⟨ga, 0, none⟩ = some (.bool s) ∧ W'.cell? ⟨ga, 1, none⟩ = some (.slice p m c) ∧ W'.cell? ⟨ga, 2, none⟩ = some (.int .i64 e) ∧ W'.cell? ⟨gb, 0, none⟩ = some (.bool t) ∧ W'.cell? ⟨gb, 1, none⟩ = some (.slice q n d) ∧ W'.cell? ⟨gb, 2, none⟩ = some (.int .i64 f)) W1) := ⟨Xa.out.c0, Xa.out.c1, Xa.out.c2, Xb.out.c0, Xb.out.c1, Xb.out.c2⟩
  refine wp_region_J (fun W' => W'.cell? ⟨ga, 0, none⟩ = some (.bool s) ∧ W'.cell? ⟨ga, 1, none⟩ = some (.slice p m c) ∧ W'.cell? ⟨ga, 2, none⟩ = some (.int .i64 e) ∧ W'.cell? ⟨gb, 0, none⟩ = some (.bool t) ∧ W'.cell? ⟨gb, 1, none⟩ = some (.slice q n d) ∧ W'.cell? ⟨gb, 2, none⟩ = some (.int .i64 f)) (by kernel_rfl) ?_
  rw [← hW1]
  clear hW1
  refine wpJ_tq 0 rfl HJ.out ?_
  refine wpJ_tq 2 rfl HJ.out ?_
  refine wpJ_on 1 rfl fun KJ hK => ?_
  go_simp
  refine (dtop (e := e) (H.out.zn.below hbw) (by have := HE.out; omega)).mono ?_
  rintro e v5 ⟨rfl, hb5⟩
  rw [HTX.out.1]
  replace Xa : Hid _ := Xa.out.below hb5
  replace Xb : Hid _ := Xb.out.below hb5
  replace hbw := Below.on hbw hb5
  clear hb5
  refine hK _ _ ⟨Xa.out.c0, Xa.out.c1, Xa.out.c2, Xb.out.c0, Xb.out.c1, Xb.out.c2⟩ ?_
  clear hK
  refine wpJ_on 3 rfl fun KJ hK => ?_
  go_simp
  refine (dtop (e := f) (K.out.zn.below hbw) (by have := HE.out; omega)).mono ?_
  rintro e v6 ⟨rfl, hb6⟩
  rw [HTX.out.2]
  replace Xa : Hid _ := Xa.out.below hb6
  replace Xb : Hid _ := Xb.out.below hb6
  replace hbw := Below.on hbw hb6
  clear hb6
  clear HJ
  have HJ : Hid ((fun W' : World => W'.cell? ⟨ga, 0, none⟩ = some (.bool s) ∧ W'.cell? ⟨ga, 1, none⟩ = some (.slice p m c) ∧ W'.cell? ⟨ga, 2, none⟩ = some (.int .i64 e) ∧ W'.cell? ⟨gb, 0, none⟩ = some (.bool t) ∧ W'.cell? ⟨gb, 1, none⟩ = some (.slice q n d) ∧ W'.cell? ⟨gb, 2, none⟩ = some (.int .i64 f)) v6) := ⟨Xa.out.c0, Xa.out.c1, Xa.out.c2, Xb.out.c0, Xb.out.c1, Xb.out.c2⟩
  refine hK _ _ HJ.out ?_
  clear hK
  refine wpJ_tq 4 rfl HJ.out ?_
  refine wpJ_tq 5 rfl HJ.out ?_
  refine wpJ_done (by kernel_rfl) ?_ _
  clear HJ
  obtain ⟨ca0, ca1, ca2, fa0, fa1, fa2⟩ := Xa.out
  have hnea : ga < v6.heap.size := World.block_lt_of_cell? v6 _ ca0
  obtain ⟨cb0, cb1, cb2, fb0, fb1, fb2⟩ := Xb.out
  have hneb : gb < v6.heap.size := World.block_lt_of_cell? v6 _ cb0
  go_wp2_with fail
  clear ca0 ca1 ca2 fa0 fa1 fa2 hnea
  clear cb0 cb1 cb2 fb0 fb1 fb2 hneb
  refine (ccmp _ _ _).mono ?_
  rintro e v7 ⟨rfl, hb7⟩
  replace Xa : Hid _ := Xa.out.below hb7
  replace Xb : Hid _ := Xb.out.below hb7
  replace hbw := Below.on hbw hb7
  clear hb7
  have F1 : Hid (wrap64 (sx * cmpI tx ty) = r) := f1
  clear f1
  go_wp2_with fail
  go_ret2
  refine ⟨?_, hbw⟩
  show Ending.returned (.tuple #[.int .i64 (wrap64 (sx * cmpI tx ty)), .int .i64 0]) = _
  rw [F1.out]
theorem dcmp_a {p q : Option Addr} {m c n d : Nat} {w : World} {x y e f : Int} {s t : Bool} (h : DN w s p m c e x) (k : DN w t q n d f y) (hs : sgnI x = sgnI y) (hx : x ≠ 0) (ht : topI x e = topI y f) :
    Calls Tryd.prog 59 #[DV s p m c e, DV t q n d f] w fun en w' => en = .returned (.tuple #[.int .i64 (cmpI (dv x e) (dv y f)), .int .i64 0]) ∧ Below w.heap.size w w' := by
  have H : Hid (DN w s p m c e x) := h
  have K : Hid (DN w t q n d f y) := k
  have hy : y ≠ 0 := by
    intro h0
    rw [h0] at hs
    unfold sgnI at hs
    rw [if_neg (show ¬ (0 : Int) < 0 by omega), if_pos rfl] at hs
    rcases Int.lt_or_lt_of_ne hx with h1 | h1
    · rw [if_pos h1] at hs; omega
    · rw [if_neg (by omega), if_neg (by omega)] at hs; omega
  have hE : -1048576 ≤ e ∧ e ≤ 1048576 ∧ -1048576 ≤ f ∧ f ≤ 1048576 := by
    rcases h.fm with ⟨h1, _⟩ | ⟨_, h1, h2⟩
    · exact absurd h1 hx
    · rcases k.fm with ⟨k1, _⟩ | ⟨_, k1, k2⟩
      · exact absurd k1 hy
      · exact ⟨h1, h2, k1, k2⟩
  have HE : Hid (-1048576 ≤ e ∧ e ≤ 1048576 ∧ -1048576 ≤ f ∧ f ≤ 1048576) := hE
  have hbx := (lim_bits x.natAbs).1 h.zn.lim
  have hby := (lim_bits y.natAbs).1 k.zn.lim
  obtain ⟨r, hr⟩ : ∃ r, r = cmpI (dv x e) (dv y f) := ⟨_, rfl⟩
  rw [← hr]
  obtain ⟨sx, hsx⟩ : ∃ b, b = sgnI x := ⟨_, rfl⟩
  have hv1 : sx = 1 ∨ sx = -1 := by
    rw [hsx]
    unfold sgnI
    rcases Int.lt_or_lt_of_ne hx with h1 | h1
    · rw [if_pos h1]; exact .inr rfl
    · rw [if_neg (by omega), if_neg (by omega)]; exact .inl rfl
  have hd0 : (sx == 0) = false := by rcases hv1 with h1 | h1 <;> rw [h1] <;> rfl
  have hd1 : (sx == sx) = true := by simp
  have hd2 : (sx != sx) = false := by simp
  obtain ⟨g, hg⟩ : ∃ g, g = min e f := ⟨_, rfl⟩
  rw [← cmp_same (g := g) (by omega) (by omega) (by omega)] at hr
  have HX : Hid (sgnI x = sx ∧ sgnI y = sx ∧ cmpI (x * 2 ^ (e - g).toNat) (y * 2 ^ (f - g).toNat) = r) := ⟨hsx.symm, by rw [← hs, hsx], hr.symm⟩
  obtain ⟨tx, htx⟩ : ∃ b, b = topI x e := ⟨_, rfl⟩
  have HTX : Hid (topI x e = tx ∧ topI y f = tx) := ⟨htx.symm, by rw [← ht, htx]⟩
  have hd3 : (tx == tx) = true := by simp
  have hd4 : (tx != tx) = false := by simp
  have HG : Hid (g = min e f) := hg
  have hb : ∀ (u v : Int) (k2 : Nat), u ≠ 0 → bitsN u.natAbs + k2 ≤ 524288 → (u * 2 ^ k2).natAbs < LIM := by
    intro u v k2 h0 h1
    rw [Int.natAbs_mul, pow_cast, Int.natAbs_natCast, lim_bits, Nat.mul_comm, bitsN_shl _ _ (by omega)]
    omega
  have HB : Hid ((x * 2 ^ (e - g).toNat).natAbs < LIM ∧ (y * 2 ^ (f - g).toNat).natAbs < LIM) := by
    unfold topI at ht
    exact ⟨hb x x _ hx (by omega), hb y y _ hy (by omega)⟩
  clear h k hs hx hy hE hsx hv1 hr ht htx hbx hby hg hb
  go_enter Tryd.func59, Tryd.ntmps59
  go_wp2_with fail
  obtain ⟨W0, hW0⟩ : ∃ W0, W0 = ((w.alloc (.cells #[.bool s, .slice p m c, .int .i64 e] 28)).alloc (.cells #[.bool t, .slice q n d, .int .i64 f] 28)) := ⟨_, rfl⟩
  have Xa : Hid (B3q W0 (w.heap.size) (.bool s) (.slice p m c) (.int .i64 e)) := by rw [hW0]; exact ⟨by go_simp, by go_simp, by go_simp, by go_simp, by go_simp, by go_simp⟩
  have Xb : Hid (B3q W0 (w.heap.size + 1) (.bool t) (.slice q n d) (.int .i64 f)) := by rw [hW0]; exact ⟨by go_simp, by go_simp, by go_simp, by go_simp, by go_simp, by go_simp⟩
  have hb0 : Below w.heap.size w W0 := by rw [hW0]; exact below2 w _ _
  rw [← hW0]
  clear hW0
  have hbw : Below w.heap.size w w := Below.refl _ _
  obtain ⟨gb, hgb⟩ : ∃ g, g = w.heap.size + 1 := ⟨_, rfl⟩
  have HGb : Hid (w.heap.size ≤ gb) := by rw [hgb]; show _ ≤ _; omega
  rw [← hgb] at Xb
  try rw [← hgb]
  obtain ⟨ga, hga⟩ : ∃ g, g = w.heap.size := ⟨_, rfl⟩
  have HGa : Hid (w.heap.size ≤ ga) := by rw [hga]; show _ ≤ _; omega
  rw [← hga] at Xa
  try rw [← hga]
  have HGD : Hid (ga ≠ gb ∧ gb ≠ ga) := by rw [hga, hgb]; exact ⟨by omega, by omega⟩
  clear hga hgb
  replace hbw := Below.on hbw hb0
  clear hb0
  refine (dform_t (H.out.below hbw)).mono ?_
  rintro e v1 ⟨rfl, hb1⟩
  replace Xa : Hid _ := Xa.out.below hb1
  replace Xb : Hid _ := Xb.out.below hb1
  replace hbw := Below.on hbw hb1
  clear hb1
  obtain ⟨cb0, cb1, cb2, fb0, fb1, fb2⟩ := Xb.out
  have hneb : gb < v1.heap.size := World.block_lt_of_cell? v1 _ cb0
  go_wp2_with fail
  clear cb0 cb1 cb2 fb0 fb1 fb2 hneb
  refine (dform_t (K.out.below hbw)).mono ?_
  rintro e v2 ⟨rfl, hb2⟩
  replace Xa : Hid _ := Xa.out.below hb2
  replace Xb : Hid _ := Xb.out.below hb2
  replace hbw := Below.on hbw hb2
  clear hb2
  obtain ⟨ca0, ca1, ca2, fa0, fa1, fa2⟩ := Xa.out
  have hnea : ga < v2.heap.size := World.block_lt_of_cell? v2 _ ca0
  obtain ⟨cb0, cb1, cb2, fb0, fb1, fb2⟩ := Xb.out
  have hneb : gb < v2.heap.size := World.block_lt_of_cell? v2 _ cb0
  go_wp2_with fail
  clear ca0 ca1 ca2 fa0 fa1 fa2 hnea
  clear cb0 cb1 cb2 fb0 fb1 fb2 hneb
  refine (zsign (H.out.zn.below hbw)).mono ?_
  rintro e v3 ⟨rfl, hb3⟩
  rw [HX.out.1]
  replace Xa : Hid _ := Xa.out.below hb3
  replace Xb : Hid _ := Xb.out.below hb3
  replace hbw := Below.on hbw hb3
  clear hb3
  obtain ⟨cb0, cb1, cb2, fb0, fb1, fb2⟩ := Xb.out
  have hneb : gb < v3.heap.size := World.block_lt_of_cell? v3 _ cb0
  go_wp2_with fail
  clear cb0 cb1 cb2 fb0 fb1 fb2 hneb
  refine (zsign (K.out.zn.below hbw)).mono ?_
  rintro e v4 ⟨rfl, hb4⟩
  rw [HX.out.2.1]
  replace Xa : Hid _ := Xa.out.below hb4
  replace Xb : Hid _ := Xb.out.below hb4
  replace hbw := Below.on hbw hb4
  clear hb4
  obtain ⟨ca0, ca1, ca2, fa0, fa1, fa2⟩ := Xa.out
  have hnea : ga < v4.heap.size := World.block_lt_of_cell? v4 _ ca0
  obtain ⟨cb0, cb1, cb2, fb0, fb1, fb2⟩ := Xb.out
  have hneb : gb < v4.heap.size := World.block_lt_of_cell? v4 _ cb0
  go_wp2_with fail
  clear ca0 ca1 ca2 fa0 fa1 fa2 hnea
  clear cb0 cb1 cb2 fb0 fb1 fb2 hneb
  obtain ⟨W1, hW1⟩ : ∃ W1, W1 = v4.drew := ⟨_, rfl⟩
  have hbd : Below v4.heap.size v4 W1 := by rw [hW1]; exact bDrew1 (Below.refl _ _)
  replace Xa : Hid _ := Xa.out.below hbd
  replace Xb : Hid _ := Xb.out.below hbd
  replace hbw := Below.on hbw hbd
  clear hbd
  have HJ : Hid ((fun W' : World => W'.cell? ⟨ga, 0, none⟩ = some (.bool s) ∧ W'.cell? ⟨ga, 1, none⟩ = some (.slice p m c) ∧ W'.cell? ⟨ga, 2, none⟩ = some (.int .i64 e) ∧ W'.cell? ⟨gb, 0, none⟩ = some (.bool t) ∧ W'.cell? ⟨gb, 1, none⟩ = some (.slice q n d) ∧ W'.cell? ⟨gb, 2, none⟩ = some (.int .i64 f)) W1) := ⟨Xa.out.c0, Xa.out.c1, Xa.out.c2, Xb.out.c0, Xb.out.c1, Xb.out.c2⟩
  refine wp_region_J (fun W' => W'.cell? ⟨ga, 0, none⟩ = some (.bool s) ∧ W'.cell? ⟨ga, 1, none⟩ = some (.slice p m c) ∧ W'.cell? ⟨ga, 2, none⟩ = some (.int .i64 e) ∧ W'.cell? ⟨gb, 0, none⟩ = some (.bool t) ∧ W'.cell? ⟨gb, 1, none⟩ = some (.slice q n d) ∧ W'.cell? ⟨gb, 2, none⟩ = some (.int .i64 f)) (by kernel_rfl) ?_
  rw [← hW1]
  clear hW1
  refine wpJ_tq 0 rfl HJ.out ?_
  refine wpJ_tq 2 rfl HJ.out ?_
  refine wpJ_on 1 rfl fun KJ hK => ?_
  go_simp
  refine (dtop (e := e) (H.out.zn.below hbw) (by have := HE.out; omega)).mono ?_
  rintro e v5 ⟨rfl, hb5⟩
  rw [HTX.out.1]
  replace Xa : Hid _ := Xa.out.below hb5
  replace Xb : Hid _ := Xb.out.below hb5
  replace hbw := Below.on hbw hb5
  clear hb5
  refine hK _ _ ⟨Xa.out.c0, Xa.out.c1, Xa.out.c2, Xb.out.c0, Xb.out.c1, Xb.out.c2⟩ ?_
  clear hK
  refine wpJ_on 3 rfl fun KJ hK => ?_
  go_simp
  refine (dtop (e := f) (K.out.zn.below hbw) (by have := HE.out; omega)).mono ?_
  rintro e v6 ⟨rfl, hb6⟩
  rw [HTX.out.2]
  replace Xa : Hid _ := Xa.out.below hb6
  replace Xb : Hid _ := Xb.out.below hb6
  replace hbw := Below.on hbw hb6
  clear hb6
  clear HJ
  have HJ : Hid ((fun W' : World => W'.cell? ⟨ga, 0, none⟩ = some (.bool s) ∧ W'.cell? ⟨ga, 1, none⟩ = some (.slice p m c) ∧ W'.cell? ⟨ga, 2, none⟩ = some (.int .i64 e) ∧ W'.cell? ⟨gb, 0, none⟩ = some (.bool t) ∧ W'.cell? ⟨gb, 1, none⟩ = some (.slice q n d) ∧ W'.cell? ⟨gb, 2, none⟩ = some (.int .i64 f)) v6) := ⟨Xa.out.c0, Xa.out.c1, Xa.out.c2, Xb.out.c0, Xb.out.c1, Xb.out.c2⟩
  refine hK _ _ HJ.out ?_
  clear hK
  refine wpJ_tq 4 rfl HJ.out ?_
  refine wpJ_tq 5 rfl HJ.out ?_
  refine wpJ_done (by kernel_rfl) ?_ _
  clear HJ
  obtain ⟨ca0, ca1, ca2, fa0, fa1, fa2⟩ := Xa.out
  have hnea : ga < v6.heap.size := World.block_lt_of_cell? v6 _ ca0
  obtain ⟨cb0, cb1, cb2, fb0, fb1, fb2⟩ := Xb.out
  have hneb : gb < v6.heap.size := World.block_lt_of_cell? v6 _ cb0
  go_wp2_with fail
  clear ca0 ca1 ca2 fa0 fa1 fa2 hnea
  clear cb0 cb1 cb2 fb0 fb1 fb2 hneb
  refine (daligned (H.out.zn.below hbw) (K.out.zn.below hbw) HG.out HE.out HB.out.1 HB.out.2).mono ?_
  rintro e2 v8 ⟨s5, p5, m5, s6, p6, m6, rfl, hz5, hz6, hb5⟩
  replace Xa : Hid _ := Xa.out.below hb5
  replace Xb : Hid _ := Xb.out.below hb5
  replace hbw := Below.on hbw hb5
  clear hb5
  have Z5 : Hid (ZN v8 s5 p5 m5 m5 (x * 2 ^ (e - g).toNat)) := hz5
  have Z6 : Hid (ZN v8 s6 p6 m6 m6 (y * 2 ^ (f - g).toNat)) := hz6
  clear hz5 hz6
  go_wp2_with fail
  rw [show v8.heap.size + 1 = (v8.alloc (.cells #[.bool s5, .slice p5 m5 m5] 26)).heap.size from by simp]
  have Xx0 : Hid (Box (v8.alloc (.cells #[.bool s5, .slice p5 m5 m5] 26)) v8.heap.size (.bool s5) (.slice p5 m5 m5)) := Box.new v8 _ _ _
  have hbn : Below v8.heap.size v8 (v8.alloc (.cells #[.bool s5, .slice p5 m5 m5] 26)) := below1 v8 _
  generalize v8.alloc (.cells #[.bool s5, .slice p5 m5 m5] 26) = Wx at *
  have HGx : Hid (w.heap.size ≤ v8.heap.size) := hbw.size
  replace Xa : Hid _ := Xa.out.below hbn
  replace Xb : Hid _ := Xb.out.below hbn
  replace Z5 : Hid _ := Z5.out.below hbn
  replace Z6 : Hid _ := Z6.out.below hbn
  replace hbw := Below.on hbw hbn
  clear hbn
  generalize v8.heap.size = gx at *
  have Xx := Xx0
  clear Xx0
  have Xy0 : Hid (Box (Wx.alloc (.cells #[.bool s6, .slice p6 m6 m6] 26)) Wx.heap.size (.bool s6) (.slice p6 m6 m6)) := Box.new Wx _ _ _
  have hbn : Below Wx.heap.size Wx (Wx.alloc (.cells #[.bool s6, .slice p6 m6 m6] 26)) := below1 Wx _
  generalize Wx.alloc (.cells #[.bool s6, .slice p6 m6 m6] 26) = Wy at *
  have HGy : Hid (w.heap.size ≤ Wx.heap.size) := hbw.size
  replace Xa : Hid _ := Xa.out.below hbn
  replace Xb : Hid _ := Xb.out.below hbn
  replace Xx : Hid _ := Xx.out.below hbn
  replace Z5 : Hid _ := Z5.out.below hbn
  replace Z6 : Hid _ := Z6.out.below hbn
  replace hbw := Below.on hbw hbn
  clear hbn
  generalize Wx.heap.size = gy at *
  have Xy := Xy0
  clear Xy0
  refine (zcmp Z5.out Z6.out).mono ?_
  rintro e v9 ⟨rfl, hb9⟩
  rw [HX.out.2.2]
  replace Xa : Hid _ := Xa.out.below hb9
  replace Xb : Hid _ := Xb.out.below hb9
  replace Xx : Hid _ := Xx.out.below hb9
  replace Xy : Hid _ := Xy.out.below hb9
  replace Z5 : Hid _ := Z5.out.below hb9
  replace Z6 : Hid _ := Z6.out.below hb9
  replace hbw := Below.on hbw hb9
  clear hb9
  go_wp2_with fail
  go_ret2
  exact ⟨rfl, hbw⟩
theorem dcmp {p q : Option Addr} {m c n d : Nat} {w : World} {x y e f : Int} {s t : Bool} (h : DN w s p m c e x) (k : DN w t q n d f y) :
    Calls Tryd.prog 59 #[DV s p m c e, DV t q n d f] w fun en w' => en = .returned (.tuple #[.int .i64 (cmpI (dv x e) (dv y f)), .int .i64 0]) ∧ Below w.heap.size w w' := by
  by_cases hs : sgnI x = sgnI y
  · by_cases hx : x = 0
    · exact dcmp_z h k hs hx
    · by_cases ht : topI x e = topI y f
      · exact dcmp_a h k hs hx ht
      · exact dcmp_t h k hs hx ht
  · exact dcmp_d h k hs
end Go.Proofs.YthfjjadgejmnfaaDoor
namespace Go.Proofs.YthfjjadgejmnfaaDoor
open Go.RowKit
set_option maxRecDepth 20000
set_option maxHeartbeats 0
def vs (H s : Nat) : Nat := (s - (s / H - 1) * H) * 2 ^ (s / H - 1)
theorem vs_zero (H : Nat) : vs H 0 = 0 := by unfold vs; simp
theorem vs_succ {H : Nat} (hH : 0 < H) (s : Nat) : vs H s < vs H (s + 1) := by
  have h1 := Nat.div_add_mod s H
  have h2 := Nat.mod_lt s hH
  have h3 := Nat.div_add_mod (s + 1) H
  have h4 := Nat.mod_lt (s + 1) hH
  have h5 : s / H ≤ (s + 1) / H := Nat.div_le_div_right (by omega)
  have h6 : (s + 1) / H ≤ s / H + 1 := by
    have : (s + 1) / H ≤ (s + H) / H := Nat.div_le_div_right (by omega)
    rw [Nat.add_div_right _ hH] at this
    exact this
  unfold vs
  by_cases h7 : (s + 1) / H = s / H
  · rw [h7]
    have hq : (s / H - 1) * H ≤ s := by
      rw [Nat.sub_mul, Nat.mul_comm]; omega
    have hp : 0 < 2 ^ (s / H - 1) := Nat.pow_pos (by omega)
    exact Nat.mul_lt_mul_of_pos_right (by omega) hp
  · have h8 : (s + 1) / H = s / H + 1 := by omega
    rw [h8, Nat.add_sub_cancel]
    rw [h8, Nat.mul_add, Nat.mul_one] at h3
    obtain ⟨k, hk⟩ : ∃ k, k = s / H := ⟨_, rfl⟩
    rw [← hk] at h1 h3 ⊢
    obtain ⟨y, hy⟩ : ∃ y, y = H * k := ⟨_, rfl⟩
    rw [← hy] at h1 h3
    rw [Nat.mul_comm k H, ← hy]
    by_cases h9 : k = 0
    · subst h9
      have : y = 0 := by rw [hy]; simp
      simp
      omega
    · obtain ⟨j, rfl⟩ : ∃ j, k = j + 1 := ⟨k - 1, by omega⟩
      rw [Nat.add_sub_cancel, Nat.pow_succ]
      have hj : j * H + H = y := by rw [hy, Nat.mul_comm H, Nat.add_mul, Nat.one_mul]
      have hp : 0 < 2 ^ j := Nat.pow_pos (by omega)
      have e1 : s + 1 - y = H := by omega
      rw [e1, Nat.mul_comm (2 ^ j) 2, ← Nat.mul_assoc]
      exact Nat.mul_lt_mul_of_pos_right (by omega) hp
theorem vs_mono {H : Nat} (hH : 0 < H) {s t : Nat} (h : s < t) : vs H s < vs H t := by
  induction t with
  | zero => omega
  | succ t ih =>
    rcases Nat.lt_or_ge s t with h1 | h1
    · exact Nat.lt_trans (ih h1) (vs_succ hH t)
    · rw [show s = t by omega]; exact vs_succ hH t
def gR (H : Nat) (r : Int) : Int := if r < 0 then -(vs H r.natAbs : Int) else (vs H r.natAbs : Int)
def rkS (S b : Nat) : Int := if S ≤ b then -((b % S : Nat) : Int) else ((b % S : Nat) : Int)
def svS (S H b : Nat) : Int := gR H (rkS S b)
theorem svS_eq (S H b : Nat) : svS S H b = if S ≤ b then -(vs H (b % S) : Int) else (vs H (b % S) : Int) := by
  have hz := vs_zero H
  unfold svS gR rkS
  by_cases h : S ≤ b
  · rw [if_pos h, if_pos h]
    by_cases h0 : b % S = 0
    · rw [h0, hz]; simp [hz]
    · rw [if_pos (by omega), Int.natAbs_neg, Int.natAbs_natCast]
  · rw [if_neg h, if_neg h, if_neg (by omega), Int.natAbs_natCast]
end Go.Proofs.YthfjjadgejmnfaaDoor
namespace Go.Proofs.YthfjjadgejmnfaaDoor
open Go.RowKit Go.Shelf
set_option maxRecDepth 20000
set_option maxHeartbeats 0
structure VF (S H : Nat) (l : Int) (b : Nat) (zo eo : Int) : Prop where
  fm : DFm zo eo
  v : dv zo eo = dv (svS S H b) l
theorem vf_ex {f p m l : Int} {S I H : Nat} (F : Pm f p m l S I H) {b : Nat} (hr : b % S < I) : ∃ zo eo, VF S H l b zo eo ∧ dv zo eo = dv (if S ≤ b then -(((b % S - (b % S / H - 1) * H : Nat)) : Int) else ((b % S - (b % S / H - 1) * H : Nat) : Int)) (l + ((b % S / H - 1 : Nat) : Int)) := by
  have hst := F.st _ hr
  have hlo := F.lo
  have h9 := F.h9
  have hp := F.hp
  have e1 : dv (if S ≤ b then -(((b % S - (b % S / H - 1) * H : Nat)) : Int) else ((b % S - (b % S / H - 1) * H : Nat) : Int)) (l + ((b % S / H - 1 : Nat) : Int)) = dv (svS S H b) l := by
    rw [dv_up _ (by omega), svS_eq]
    unfold vs
    by_cases h : S ≤ b
    · rw [if_pos h, if_pos h, Int.neg_mul, ← Int.natCast_mul]
    · rw [if_neg h, if_neg h, ← Int.natCast_mul]
  have hmn : b % S - (b % S / H - 1) * H < 2 * H := by
    have h1 := Nat.div_add_mod (b % S) H
    have h2 := Nat.mod_lt (b % S) hp
    rw [Nat.mul_comm] at h1
    by_cases h3 : b % S / H = 0
    · rw [h3] at h1 ⊢; omega
    · rw [Nat.sub_mul]; omega
  obtain ⟨mn, hmn2⟩ : ∃ mn, mn = b % S - (b % S / H - 1) * H := ⟨_, rfl⟩
  rw [← hmn2] at hmn e1 ⊢
  rw [e1]
  obtain ⟨z, hz⟩ : ∃ z : Int, z = (if S ≤ b then -(mn : Int) else (mn : Int)) := ⟨_, rfl⟩
  have hzn : z.natAbs = mn := by rw [hz]; split <;> omega
  rw [← hz] at e1
  by_cases h0 : z = 0
  · exact ⟨0, 0, ⟨.inl ⟨rfl, rfl⟩, by rw [← e1, h0, dv_zero, dv_zero]⟩, by rw [← e1, h0, dv_zero, dv_zero]⟩
  · have h53 : z.natAbs ≤ 2 ^ 53 := by
      have h54 : (2 : Nat) ^ 53 = 9007199254740992 := by decide
      rw [hzn, h54]
      omega
    obtain ⟨zo, eo, g1, g2, _⟩ := form_ex (L := 53) (e := l + ((b % S / H - 1 : Nat) : Int)) h0 (by omega) h53 (by omega)
    exact ⟨zo, eo, ⟨g1, by rw [g2, e1]⟩, by rw [g2, e1]⟩
theorem value_v {f p m l : Int} {S I H : Nat} (F : Pm f p m l S I H) {b : Nat} (hb : b < 2 * S) (hr : b % S < I) {zo eo : Int} (hv : VF S H l b zo eo) (w : World) (hT : Tab w) :
    Calls Tryd.prog 7 #[.int .i64 f, U b] w fun en w' => ∃ v, en = .returned (.tuple #[v, .int .i64 0]) ∧ AnsD w.heap.size w' v zo eo ∧ Below w.heap.size w w' := by
  obtain ⟨z1, e1, v1, v2⟩ := vf_ex F hr
  refine (value_ok F b hb hr w hT).mono fun en w' ⟨h1, h2⟩ => ?_
  obtain ⟨v, h3, h4⟩ := h1.form hv.fm (by rw [hv.v, ← v2, v1.v])
  exact ⟨v, h3, h4, h2⟩
def qTzIs (v k : Nat) : Prop := v % 2 ^ k = 0 ∧ v / 2 ^ k % 2 = 1
theorem qTzIs.inj {v k l : Nat} (h : qTzIs v k) (h' : qTzIs v l) : k = l := by
  have aux : ∀ {a b : Nat}, qTzIs v a → qTzIs v b → ¬ a < b := by
    intro a b ha hb hab
    obtain ⟨d, hd⟩ : ∃ d, b = a + (d + 1) := ⟨b - a - 1, by omega⟩
    have h1 := Nat.dvd_of_mod_eq_zero hb.1
    obtain ⟨q, hq⟩ := h1
    have h2 := ha.2
    rw [hq, hd, Nat.pow_add, Nat.mul_assoc, Nat.mul_div_cancel_left _ (Nat.pow_pos (by decide)), Nat.pow_succ, Nat.mul_comm (2 ^ d) 2, Nat.mul_assoc, Nat.mul_mod_right] at h2
    exact absurd h2 (by decide)
  rcases Nat.lt_trichotomy k l with e | e | e
  · exact absurd e (aux h h')
  · exact e
  · exact absurd e (aux h' h)
def qTab (w : World) : Prop := TabAt 1 Lib.deBruijn64tab w
theorem qTab.below {w w' : World} (h : qTab w) (hb : Below w.heap.size w w') : qTab w' := by
  intro j hj
  have h1 := h j hj
  have hl : 1 < w.heap.size := World.block_lt_of_cell? w _ h1
  exact (hb.cell (p := ⟨1, j, none⟩) hl).trans h1
def wV (z : Nat) : Nat :=
  if z = 0 then 0 else
  (872 + (z / 8388608 - 1) + bl_bitsN (z - (z / 8388608 - 1) * 8388608)) * 4503599627370496 + (z - (z / 8388608 - 1) * 8388608) * 2 ^ (53 - bl_bitsN (z - (z / 8388608 - 1) * 8388608))
structure Jm (f p m l : Int) (S I H sd : Nat) (Be : Int) : Prop where
  pm : Pm f p m l S I H
  be : ∀ w, Calls Tryd.prog 43 #[WV p m l] w fun e w' => e = .returned (.int .i64 Be) ∧ Below w.heap.size w w'
  un : ∀ (top : Int) w, -1000000000000 ≤ top → top ≤ 5000 → Calls Tryd.prog 46 #[WV p m l, .int .i64 top] w fun e w' => e = .returned (.int .i64 (max (top - sd) l)) ∧ Below w.heap.size w w'
  sz : ∀ (man q : Nat) (u : Int) w, u = l + q → q < 2046 → (q : Int) < Be - l - sd → man ≤ 2 * H → Calls Tryd.prog 47 #[WV p m l, U man, .int .i64 u] w fun e w' => e = .returned (U (q * H + man)) ∧ Below w.heap.size w w'
  hs : H = 2 ^ sd
  sl : 1 ≤ sd ∧ sd ≤ 52
  bq : ∀ s, s < I → ((s / H - 1 : Nat) : Int) ≤ Be - l - sd - 1
  bu : Be ≤ 1024 ∧ 0 < Be
theorem jm_64 : Jm 64 64 53 (-1074) 9223372036854775808 9218868437227405312 4503599627370496 52 1024 :=
  ⟨pm_64, beyond_64, fun top w h1 h2 => unitg_64 top h1 h2 w, fun man q u w h1 _ _ h2 => size_64 man q u (by omega) (by omega) h2 w, by decide, by decide, fun s hs => by omega, by decide⟩
structure B5 (W : World) (g : Nat) (v0 v1 v2 v3 v4 : Value) : Prop where
  c0 : W.cell? ⟨g, 0, none⟩ = some v0
  c1 : W.cell? ⟨g, 1, none⟩ = some v1
  c2 : W.cell? ⟨g, 2, none⟩ = some v2
  c3 : W.cell? ⟨g, 3, none⟩ = some v3
  c4 : W.cell? ⟨g, 4, none⟩ = some v4
  f0 : W.frozen? ⟨g, 0, none⟩ = false
  f1 : W.frozen? ⟨g, 1, none⟩ = false
  f2 : W.frozen? ⟨g, 2, none⟩ = false
  f3 : W.frozen? ⟨g, 3, none⟩ = false
  f4 : W.frozen? ⟨g, 4, none⟩ = false
theorem B5.below {W W' : World} {g : Nat} {v0 v1 v2 v3 v4 : Value} (h : B5 W g v0 v1 v2 v3 v4) (hb : Below W.heap.size W W') : B5 W' g v0 v1 v2 v3 v4 := by
  have hl : g < W.heap.size := World.block_lt_of_cell? W _ h.c0
  exact ⟨(hb.cell (p := ⟨g, 0, none⟩) hl).trans h.c0, (hb.cell (p := ⟨g, 1, none⟩) hl).trans h.c1, (hb.cell (p := ⟨g, 2, none⟩) hl).trans h.c2, (hb.cell (p := ⟨g, 3, none⟩) hl).trans h.c3, (hb.cell (p := ⟨g, 4, none⟩) hl).trans h.c4,
    (hb.frozen (p := ⟨g, 0, none⟩) hl).trans h.f0, (hb.frozen (p := ⟨g, 1, none⟩) hl).trans h.f1, (hb.frozen (p := ⟨g, 2, none⟩) hl).trans h.f2, (hb.frozen (p := ⟨g, 3, none⟩) hl).trans h.f3, (hb.frozen (p := ⟨g, 4, none⟩) hl).trans h.f4⟩
theorem B5.new (w : World) (ty : TypeId) (v0 v1 v2 v3 v4 : Value) : B5 (w.alloc (.cells #[v0, v1, v2, v3, v4] ty)) w.heap.size v0 v1 v2 v3 v4 :=
  ⟨by go_simp, by go_simp, by go_simp, by go_simp, by go_simp, by go_simp, by go_simp, by go_simp, by go_simp, by go_simp⟩
theorem DocIs.inj {v : Nat} {us us' : List Nat} {f f' : Int} (h : DocIs v us f) (k : DocIs v us' f') : us = us' ∧ f = f' := by
  rcases h with ⟨h1, h2, rfl⟩ | ⟨h1, rfl, rfl⟩ <;> rcases k with ⟨k1, k2, rfl⟩ | ⟨k1, rfl, rfl⟩
  · exact ⟨h2.inj B64_one k2, rfl⟩
  · omega
  · omega
  · exact ⟨rfl, rfl⟩
theorem DocIs.er {v : Nat} {us : List Nat} {f : Int} (h : DocIs v us f) : f = 0 ∨ f = 5 := by
  rcases h with ⟨_, _, rfl⟩ | ⟨_, _, rfl⟩ <;> simp
structure Op7 where
  k : Int
  f : Int
  b : Nat
  neg : Bool
  n : Int
structure Scr7 (w : World) (P : Option Addr) (N C : Nat) (its : List Op7) : Prop where
  len : its.length = N
  cap : N ≤ C
  big : C ≤ maxLen
  ats : ∀ t ∈ its, t.b < B64 ∧ -9223372036854775808 ≤ t.n ∧ t.n ≤ 9223372036854775807
  cells : N = 0 ∨ ∃ g off, P = some ⟨g, off, none⟩ ∧ ∀ i (h : i < its.length), w.cell? ⟨g, off + i * 5, none⟩ = some (.int .i64 its[i].k) ∧ w.cell? ⟨g, off + i * 5 + 1, none⟩ = some (.int .i64 its[i].f) ∧
    w.cell? ⟨g, off + i * 5 + 2, none⟩ = some (U its[i].b) ∧ w.cell? ⟨g, off + i * 5 + 3, none⟩ = some (.bool its[i].neg) ∧ w.cell? ⟨g, off + i * 5 + 4, none⟩ = some (.int .i64 its[i].n)
theorem Scr7.below {w w' : World} {P : Option Addr} {N C : Nat} {its : List Op7} (h : Scr7 w P N C its) (hb : Below w.heap.size w w') : Scr7 w' P N C its := by
  refine ⟨h.len, h.cap, h.big, h.ats, ?_⟩
  rcases h.cells with h0 | ⟨g, off, hP, hc⟩
  · exact .inl h0
  · refine .inr ⟨g, off, hP, fun i hi => ?_⟩
    obtain ⟨h0, h1, h2, h3, h4⟩ := hc i hi
    have hl : g < w.heap.size := World.block_lt_of_cell? w _ h0
    exact ⟨(hb.cell (p := ⟨g, off + i * 5, none⟩) hl).trans h0, (hb.cell (p := ⟨g, off + i * 5 + 1, none⟩) hl).trans h1, (hb.cell (p := ⟨g, off + i * 5 + 2, none⟩) hl).trans h2,
      (hb.cell (p := ⟨g, off + i * 5 + 3, none⟩) hl).trans h3, (hb.cell (p := ⟨g, off + i * 5 + 4, none⟩) hl).trans h4⟩
structure Kds (w : World) (g : Nat) (ks : List Int) : Prop where
  c : ∀ j (h : j < ks.length), w.cell? ⟨g, j, none⟩ = some (.int .i64 ks[j])
  lt : g < w.heap.size
theorem Kds.below {w w' : World} {g : Nat} {ks : List Int} (h : Kds w g ks) (hb : Below w.heap.size w w') : Kds w' g ks :=
  ⟨fun j hj => (hb.cell (p := ⟨g, j, none⟩) h.lt).trans (h.c j hj), Nat.lt_of_lt_of_le h.lt hb.size⟩
theorem blb_le {m k : Nat} (h : m < 2 ^ k) : bl_bitsN m ≤ k := by
  by_cases h0 : m = 0
  · rw [h0, bl_bitsN_zero]; omega
  have h1 := bl_bitsN_le m h0
  have := (Nat.pow_lt_pow_iff_right (by omega : 1 < 2)).1 (Nat.lt_of_le_of_lt h1 h)
  omega
theorem blb_pos {m : Nat} (h : m ≠ 0) : 0 < bl_bitsN m := by unfold bl_bitsN; rw [if_neg h]; omega
theorem wV_parts {z : Nat} (hz : z < 2139095040) (h0 : z ≠ 0) : ∃ q m L, q = z / 8388608 - 1 ∧ m = z - q * 8388608 ∧ L = bl_bitsN m ∧ 1 ≤ L ∧ L ≤ 24 ∧ q ≤ 253 ∧ wV z = (872 + q + L) * 4503599627370496 + m * 2 ^ (53 - L) ∧ 4503599627370496 ≤ m * 2 ^ (53 - L) ∧ m * 2 ^ (53 - L) < 2 * 4503599627370496 := by
  obtain ⟨q, hq⟩ : ∃ q, q = z / 8388608 - 1 := ⟨_, rfl⟩
  obtain ⟨m, hm⟩ : ∃ m, m = z - q * 8388608 := ⟨_, rfl⟩
  obtain ⟨L, hL⟩ : ∃ L, L = bl_bitsN m := ⟨_, rfl⟩
  have hm0 : m ≠ 0 := by omega
  have hm1 : m < 16777216 := by omega
  have l1 := blb_pos hm0
  have l2 := blb_le (m := m) (k := 24) (by omega)
  have b1 := bl_bitsN_lt m
  have b2 := bl_bitsN_le m hm0
  rw [← hL] at l1 l2 b1 b2
  have e1 : (2 : Nat) ^ 52 = 4503599627370496 := by decide
  have h1 : 2 ^ (L - 1) * 2 ^ (53 - L) ≤ m * 2 ^ (53 - L) := Nat.mul_le_mul_right _ b2
  have h2 : m * 2 ^ (53 - L) < 2 ^ L * 2 ^ (53 - L) := Nat.mul_lt_mul_of_pos_right b1 (Nat.pow_pos (by omega))
  rw [← Nat.pow_add, show L - 1 + (53 - L) = 52 from by omega, e1] at h1
  rw [← Nat.pow_add, show L + (53 - L) = 52 + 1 from by omega, Nat.pow_succ, e1] at h2
  refine ⟨q, m, L, hq, hm, hL, l1, l2, by omega, ?_, h1, by omega⟩
  unfold wV
  rw [if_neg h0, ← hq, ← hm, ← hL]
theorem wV_vs {z K : Nat} (hz : z < 2139095040) (hK : K = 925) : vs 4503599627370496 (wV z) = vs 8388608 z * 2 ^ K := by
  by_cases h0 : z = 0
  · subst h0
    unfold wV
    rw [if_pos rfl, vs_zero, vs_zero, Nat.zero_mul]
  obtain ⟨q, m, L, hq, hm, _, l1, l2, l3, hw, h1, h2⟩ := wV_parts hz h0
  have hd : wV z / 4503599627370496 - 1 = 872 + q + L := by
    rw [hw]
    generalize m * 2 ^ (53 - L) = M at *
    omega
  have e1 : vs 8388608 z = m * 2 ^ q := by unfold vs; rw [← hq, ← hm]
  have e2 : wV z - (872 + q + L) * 4503599627370496 = m * 2 ^ (53 - L) := by
    rw [hw]
    generalize m * 2 ^ (53 - L) = M at *
    omega
  rw [e1]
  unfold vs
  rw [hd, e2, Nat.mul_assoc, Nat.mul_assoc, ← Nat.pow_add, ← Nat.pow_add, show 53 - L + (872 + q + L) = q + K from by omega]
theorem wV_lt {y z : Nat} (hy : y < 2139095040) (hz : z < 2139095040) (h : y < z) : wV y < wV z := by
  rcases Nat.lt_or_ge (wV y) (wV z) with h1 | h1
  · exact h1
  · have h2 := vs_mono (H := 8388608) (by decide) h
    have h3 : vs 4503599627370496 (wV z) ≤ vs 4503599627370496 (wV y) := by
      rcases Nat.lt_or_eq_of_le h1 with h4 | h4
      · exact Nat.le_of_lt (vs_mono (by decide) h4)
      · rw [h4]; exact Nat.le_refl _
    obtain ⟨K, hK⟩ : ∃ K, K = 925 := ⟨_, rfl⟩
    rw [wV_vs hy hK, wV_vs hz hK] at h3
    have h5 := Nat.le_of_mul_le_mul_right h3 (Nat.pow_pos (by omega))
    omega
theorem wV_cls {z : Nat} (hz : z < 2139095040) : wV z < 9218868437227405312 ∧ (z = 0 → wV z = 0) ∧ (z ≠ 0 → 4503599627370496 ≤ wV z) := by
  by_cases h0 : z = 0
  · subst h0
    have : wV 0 = 0 := by unfold wV; rw [if_pos rfl]
    rw [this]
    exact ⟨by decide, fun _ => rfl, fun h => absurd rfl h⟩
  obtain ⟨q, m, L, hq, hm, _, l1, l2, l3, hw, h1, h2⟩ := wV_parts hz h0
  rw [hw]
  generalize m * 2 ^ (53 - L) = M at *
  exact ⟨by omega, fun h => absurd h h0, fun _ => by omega⟩
structure WF (a x : Nat) : Prop where
  lt : x < 2 * 9223372036854775808
  nan : 2139095040 < a % 2147483648 → 9218868437227405312 < x % 9223372036854775808
  inf : a % 2147483648 = 2139095040 → x % 9223372036854775808 = 9218868437227405312
  fin : a % 2147483648 < 2139095040 → x % 9223372036854775808 = wV (a % 2147483648) ∧ (9223372036854775808 ≤ x ↔ 2147483648 ≤ a)
theorem cls_four {H I s : Nat} (hH : H ≤ I) : (clsN H I s == 4) = decide (I < s) := by
  by_cases h : I < s
  · rw [cls_nan hH h, decide_eq_true h]; rfl
  · rw [decide_eq_false h]; simp [cls_ne (Nat.le_of_not_lt h)]
theorem WF.cls {a x : Nat} (h : WF a x) : (clsN 8388608 2139095040 (a % 2147483648) == 4) = (clsN 4503599627370496 9218868437227405312 (x % 9223372036854775808) == 4) ∧ (clsN 8388608 2139095040 (a % 2147483648) == 3) = (clsN 4503599627370496 9218868437227405312 (x % 9223372036854775808) == 3) := by
  rw [cls_four (by decide), cls_four (by decide), cls_inf (by decide) (by decide), cls_inf (by decide) (by decide)]
  have h1 := h.nan
  have h2 := h.inf
  have h3 := h.fin
  rcases Nat.lt_trichotomy (a % 2147483648) 2139095040 with k | k | k
  · have k1 := (wV_cls k).1
    rw [← (h3 k).1] at k1
    refine ⟨decide_eq_decide.2 ⟨?_, ?_⟩, decide_eq_decide.2 ⟨?_, ?_⟩⟩ <;> omega
  · have := h2 k
    refine ⟨decide_eq_decide.2 ⟨?_, ?_⟩, decide_eq_decide.2 ⟨?_, ?_⟩⟩ <;> omega
  · have := h1 k
    refine ⟨decide_eq_decide.2 ⟨?_, ?_⟩, decide_eq_decide.2 ⟨?_, ?_⟩⟩ <;> omega
theorem WF.val {zo eo : Int} {a' x' : Nat} (h : WF a' x') (hf : a' % 2147483648 < 2139095040) (hv : VF 2147483648 8388608 (-149) a' zo eo) : VF 9223372036854775808 4503599627370496 (-1074) x' zo eo := by
  obtain ⟨h1, h2⟩ := h.fin hf
  refine ⟨hv.fm, ?_⟩
  obtain ⟨K, hK⟩ : ∃ K, K = 925 := ⟨_, rfl⟩
  have h3 := wV_vs hf hK
  rw [hv.v, show (-149 : Int) = -1074 + (K : Int) from by omega, dv_up K (by decide), svS_eq, svS_eq, h1, h3]
  by_cases h4 : 2147483648 ≤ a'
  · rw [if_pos h4, if_pos (h2.2 h4), Int.neg_mul, ← Int.natCast_mul]
  · rw [if_neg h4, if_neg (fun k => h4 (h2.1 k)), ← Int.natCast_mul]
theorem WF.rank {a x b y : Nat} (h : WF a x) (k : WF b y) (ha : a % 2147483648 < 2139095040) (hb : b % 2147483648 < 2139095040) : rkS 2147483648 a < rkS 2147483648 b ↔ rkS 9223372036854775808 x < rkS 9223372036854775808 y := by
  obtain ⟨h1, h2⟩ := h.fin ha
  obtain ⟨k1, k2⟩ := k.fin hb
  have a0 := (wV_cls ha).2
  have b0 := (wV_cls hb).2
  have l1 : a % 2147483648 < b % 2147483648 → wV (a % 2147483648) < wV (b % 2147483648) := wV_lt ha hb
  have l2 : b % 2147483648 < a % 2147483648 → wV (b % 2147483648) < wV (a % 2147483648) := wV_lt hb ha
  have l3 : a % 2147483648 = b % 2147483648 → wV (a % 2147483648) = wV (b % 2147483648) := fun e => by rw [e]
  unfold rkS
  rw [h1, k1]
  generalize a % 2147483648 = A at *
  generalize b % 2147483648 = B at *
  generalize wV A = WA at *
  generalize wV B = WB at *
  by_cases c1 : 2147483648 ≤ a <;> by_cases c2 : 2147483648 ≤ b
  · rw [if_pos c1, if_pos c2, if_pos (h2.2 c1), if_pos (k2.2 c2)]; omega
  · rw [if_pos c1, if_neg c2, if_pos (h2.2 c1), if_neg (fun e => c2 (k2.1 e))]; omega
  · rw [if_neg c1, if_pos c2, if_neg (fun e => c1 (h2.1 e)), if_pos (k2.2 c2)]; omega
  · rw [if_neg c1, if_neg c2, if_neg (fun e => c1 (h2.1 e)), if_neg (fun e => c2 (k2.1 e))]; omega
theorem vs_next {H : Nat} (hH : 0 < H) (s : Nat) : vs H (s + 1) = vs H s + 2 ^ (s / H - 1) := by
  have h1 := Nat.div_add_mod s H
  have h2 := Nat.mod_lt s hH
  have h3 := Nat.div_add_mod (s + 1) H
  have h4 := Nat.mod_lt (s + 1) hH
  have h5 : s / H ≤ (s + 1) / H := Nat.div_le_div_right (by omega)
  have h6 : (s + 1) / H ≤ s / H + 1 := by
    have : (s + 1) / H ≤ (s + H) / H := Nat.div_le_div_right (by omega)
    rw [Nat.add_div_right _ hH] at this
    exact this
  unfold vs
  by_cases h7 : (s + 1) / H = s / H
  · rw [h7]
    have hq : (s / H - 1) * H ≤ s := by
      rw [Nat.sub_mul, Nat.mul_comm]; omega
    rw [show s + 1 - (s / H - 1) * H = s - (s / H - 1) * H + 1 from by omega, Nat.add_mul, Nat.one_mul]
  · have h8 : (s + 1) / H = s / H + 1 := by omega
    rw [h8, Nat.add_sub_cancel]
    rw [h8, Nat.mul_add, Nat.mul_one] at h3
    obtain ⟨k, hk⟩ : ∃ k, k = s / H := ⟨_, rfl⟩
    rw [← hk] at h1 h3 ⊢
    obtain ⟨y, hy⟩ : ∃ y, y = H * k := ⟨_, rfl⟩
    rw [← hy] at h1 h3
    rw [Nat.mul_comm k H, ← hy]
    by_cases h9 : k = 0
    · subst h9
      have : y = 0 := by rw [hy]; simp
      simp
      omega
    · obtain ⟨j, rfl⟩ : ∃ j, k = j + 1 := ⟨k - 1, by omega⟩
      rw [Nat.add_sub_cancel, Nat.pow_succ]
      have hj : j * H + H = y := by rw [hy, Nat.mul_comm H, Nat.add_mul, Nat.one_mul]
      have e1 : s + 1 - y = H := by omega
      have e2 : s - j * H = 2 * H - 1 := by omega
      rw [e1, e2, Nat.mul_comm (2 ^ j) 2, ← Nat.mul_assoc, Nat.sub_mul, Nat.one_mul, Nat.mul_comm H 2]
      have : 1 * 2 ^ j ≤ 2 * H * 2 ^ j := Nat.mul_le_mul_right _ (by omega)
      omega
theorem dv_lt {x y : Int} (e : Int) (h : x < y) : dv x e < dv y e := by
  have h1 : (0 : Int) < ((2 ^ (e + 4194304).toNat : Nat) : Int) := by have := Nat.pow_pos (n := (e + 4194304).toNat) (show 0 < 2 by omega); omega
  exact Int.mul_lt_mul_of_pos_right h h1
def neN (a d : Nat) : Nat := a / d + (neUp a d).toNat
theorem neN_mul (a d c : Nat) (hc : 0 < c) : neN (a * c) (d * c) = neN a d := by
  have h1 : a * c / (d * c) = a / d := Nat.mul_div_mul_right _ _ hc
  have h2 : a * c % (d * c) = a % d * c := Nat.mul_mod_mul_right _ _ _
  have h3 : decide (d * c < 2 * (a % d * c)) = decide (d < 2 * (a % d)) := by
    rw [← Nat.mul_assoc]
    exact decide_eq_decide.2 (Nat.mul_lt_mul_right hc)
  have h4 : decide (2 * (a % d * c) = d * c) = decide (2 * (a % d) = d) := by
    rw [← Nat.mul_assoc]
    exact decide_eq_decide.2 (Nat.mul_right_cancel_iff hc)
  unfold neN neUp
  rw [h1, h2, h3, h4]
theorem neN_ex (a d : Nat) (hd : 0 < d) : neN (a * d) d = a := by
  unfold neN neUp
  rw [Nat.mul_div_cancel _ hd, Nat.mul_mod_left]
  have h1 : decide (d < 2 * 0) = false := decide_eq_false (by omega)
  have h2 : decide (2 * 0 = d) = false := decide_eq_false (by omega)
  rw [h1, h2]
  rfl
def hv (H z : Nat) : Nat := 2 * vs H z + 2 ^ (z / H - 1)
theorem hv_gt (H z : Nat) : 2 * vs H z < hv H z := by
  unfold hv
  have : 0 < 2 ^ (z / H - 1) := Nat.pow_pos (by omega)
  omega
theorem hv_lt {H : Nat} (hH : 0 < H) (z : Nat) : hv H z < 2 * vs H (z + 1) := by
  have : 0 < 2 ^ (z / H - 1) := Nat.pow_pos (by omega)
  rw [vs_next hH]
  unfold hv
  omega
theorem vs_le {H : Nat} (hH : 0 < H) {s t : Nat} (h : s ≤ t) : vs H s ≤ vs H t := by
  rcases Nat.lt_or_eq_of_le h with h1 | h1
  · exact Nat.le_of_lt (vs_mono hH h1)
  · rw [h1]; exact Nat.le_refl _
theorem hv_mono {H : Nat} (hH : 0 < H) {s t : Nat} (h : s < t) : hv H s < hv H t := by
  have h1 := hv_lt hH s
  have h2 := vs_le hH (show s + 1 ≤ t from h)
  have h3 := hv_gt H t
  omega
structure RNz (H : Nat) (l : Int) (I : Nat) (A : Int) (Z : Nat) : Prop where
  le : Z ≤ I
  lo : ∀ z, z < I → A < dv (hv H z : Int) (l - 1) → Z ≤ z
  hi : ∀ z, z < I → dv (hv H z : Int) (l - 1) < A → z < Z
  eq : ∀ z, z < I → A = dv (hv H z : Int) (l - 1) → (Z = z ∨ Z = z + 1) ∧ Z % 2 = 0
theorem RNz.mono {H : Nat} {l : Int} {I : Nat} {A B : Int} {Z Y : Nat} (h : RNz H l I A Z) (k : RNz H l I B Y) (hAB : A ≤ B) : Z ≤ Y := by
  refine Nat.le_of_not_lt fun hlt => ?_
  have hY : Y < I := Nat.lt_of_lt_of_le hlt h.le
  have hz : ∀ x : Int, x = dv (hv H Y : Int) (l - 1) → False := fun x hx => by
    rcases Int.lt_trichotomy B x with h1 | h1 | h1
    · have := h.lo Y hY (by omega); omega
    · have h2 := k.eq Y hY (by omega)
      rcases Int.lt_or_eq_of_le hAB with h3 | h3
      · have := h.lo Y hY (by omega); omega
      · have h4 := h.eq Y hY (by omega)
        omega
    · have := k.hi Y hY (by omega); omega
  exact hz _ rfl
theorem RNz.uniq {H : Nat} {l : Int} {I : Nat} {A : Int} {Z Y : Nat} (h : RNz H l I A Z) (k : RNz H l I A Y) : Z = Y :=
  Nat.le_antisymm (h.mono k (Int.le_refl _)) (k.mono h (Int.le_refl _))
def rnz (l : Int) (sd : Nat) (Be : Int) (I m : Nat) (e : Int) : Nat :=
  if Be ≤ e + bitsN m - 1 then I
  else ((max (e + bitsN m - 1 - sd) l - l).toNat) * 2 ^ sd +
    (if e < max (e + bitsN m - 1 - sd) l then neN m (2 ^ (max (e + bitsN m - 1 - sd) l - e).toNat) else m * 2 ^ (e - max (e + bitsN m - 1 - sd) l).toNat)
theorem dv_lt_iff {x y : Int} (e : Int) : dv x e < dv y e ↔ x < y := by
  refine ⟨fun h => ?_, dv_lt e⟩
  rcases Int.lt_or_le x y with h1 | h1
  · exact h1
  · have := dv_le e h1; omega
theorem nat_pow_split {a b c : Nat} (h : a + b = c) : 2 ^ a * 2 ^ b = 2 ^ c := by rw [← Nat.pow_add, h]
theorem rnz_ok {l : Int} {sd : Nat} {Be : Int} {I m : Nat} {e : Int} (hI : (I : Int) = (Be - l - sd + 1) * ((2 ^ sd : Nat) : Int)) (hsd : 1 ≤ sd) (hBe : 0 < Be - l - sd) (hl : -4194303 ≤ l) (hm : m ≠ 0) (he : -4194304 ≤ e) :
    RNz (2 ^ sd) l I (dv m e) (rnz l sd Be I m e) := by
  obtain ⟨H, hH⟩ : ∃ H, H = 2 ^ sd := ⟨_, rfl⟩
  have hHp : 0 < H := by rw [hH]; exact Nat.pow_pos (by omega)
  have hH2 : H % 2 = 0 := by
    obtain ⟨k, rfl⟩ : ∃ k, sd = k + 1 := ⟨sd - 1, by omega⟩
    rw [hH, Nat.pow_succ]; omega
  obtain ⟨t, ht⟩ : ∃ t : Int, t = min e (l - 1) := ⟨_, rfl⟩
  have hB1 := bitsN_lt m
  have hB2 := bitsN_le m hm
  have hB0 : 1 ≤ bitsN m := by unfold bitsN; rw [if_neg hm]; omega
  obtain ⟨L, hL⟩ : ∃ L, L = bitsN m := ⟨_, rfl⟩
  obtain ⟨A, hA⟩ : ∃ A, A = m * 2 ^ (e - t).toNat := ⟨_, rfl⟩
  obtain ⟨K, hK⟩ : ∃ K, K = 2 ^ (l - 1 - t).toNat := ⟨_, rfl⟩
  have hKp : 0 < K := by rw [hK]; exact Nat.pow_pos (by omega)
  have eA : dv m e = dv (A : Int) t := by
    have := dv_shift (z := (m : Int)) (e := e) (f := t) (by omega) (by omega)
    rw [this, hA, Int.natCast_mul]
  have eM : ∀ z : Nat, dv (hv H z : Int) (l - 1) = dv ((hv H z * K : Nat) : Int) t := fun z => by
    have := dv_shift (z := (hv H z : Int)) (e := l - 1) (f := t) (by omega) (by omega)
    rw [this, hK, Int.natCast_mul]
  have key : ∀ Z : Nat, Z ≤ I → (∀ z, z < I → (A < hv H z * K → Z ≤ z) ∧ (hv H z * K < A → z < Z) ∧ (A = hv H z * K → (Z = z ∨ Z = z + 1) ∧ Z % 2 = 0)) → RNz H l I (dv m e) Z := fun Z h1 h2 =>
    ⟨h1, fun z hz h => (h2 z hz).1 (by rw [eA, eM, dv_lt_iff] at h; omega), fun z hz h => (h2 z hz).2.1 (by rw [eA, eM, dv_lt_iff] at h; omega), fun z hz h => (h2 z hz).2.2 (by
      rw [eA, eM] at h
      rcases Nat.lt_trichotomy A (hv H z * K) with h3 | h3 | h3
      · have := dv_lt t (Int.ofNat_lt.2 h3); omega
      · exact h3
      · have := dv_lt t (Int.ofNat_lt.2 h3); omega)⟩
  obtain ⟨N, hN⟩ : ∃ N : Nat, (N : Int) = Be - l - sd := ⟨(Be - l - sd).toNat, by omega⟩
  have hIN : I = (N + 1) * H := by
    rw [← hN, ← hH] at hI
    exact Int.ofNat.inj (by rw [Int.ofNat_eq_natCast, hI, Int.ofNat_eq_natCast, Int.natCast_mul]; rfl)
  rw [← hH]
  unfold rnz
  rw [← hL, ← hH]
  rw [← hL] at hB1 hB2 hB0
  by_cases htop : Be ≤ e + L - 1
  · rw [if_pos htop]
    refine key I (Nat.le_refl _) fun z hz => ?_
    have h1 : hv H z * K < A := by
      have h2 := hv_lt hHp z
      have h3 := vs_le hHp (show z + 1 ≤ I from hz)
      have h4 : vs H I = H * 2 ^ N := by
        unfold vs
        rw [hIN, Nat.mul_div_cancel _ hHp, Nat.add_sub_cancel, Nat.add_mul, Nat.one_mul, Nat.add_sub_cancel_left]
      have h5 : hv H z < 2 * (H * 2 ^ N) := by omega
      have h6 : hv H z * K < 2 * (H * 2 ^ N) * K := Nat.mul_lt_mul_of_pos_right h5 hKp
      have h7 : 2 * (H * 2 ^ N) * K = 2 ^ (Be - t).toNat := by
        rw [hH, hK, nat_pow_split (rfl : sd + N = sd + N), ← Nat.pow_succ', nat_pow_split rfl]
        congr 1
        omega
      have h8 : 2 ^ (Be - t).toNat ≤ A := by
        rw [hA]
        have h9 : 2 ^ (L - 1) * 2 ^ (e - t).toNat ≤ m * 2 ^ (e - t).toNat := Nat.mul_le_mul_right _ hB2
        rw [nat_pow_split rfl] at h9
        exact Nat.le_trans (Nat.pow_le_pow_right (by omega) (by omega)) h9
      omega
    exact ⟨fun h => by omega, fun _ => hz, fun h => by omega⟩
  · rw [if_neg htop]
    obtain ⟨u, hu⟩ : ∃ u : Int, u = max (e + L - 1 - sd) l := ⟨_, rfl⟩
    rw [← hu]
    obtain ⟨q, hq⟩ : ∃ q, q = (u - l).toNat := ⟨_, rfl⟩
    rw [← hq]
    obtain ⟨D, hD⟩ : ∃ D, D = 2 ^ (u - t).toNat := ⟨_, rfl⟩
    have hDp : 0 < D := by rw [hD]; exact Nat.pow_pos (by omega)
    have hDK : D = 2 * (2 ^ q * K) := by
      rw [hD, hK, nat_pow_split rfl, ← Nat.pow_succ']
      congr 1
      omega
    have hz0 : (if e < u then neN m (2 ^ (u - e).toNat) else m * 2 ^ (e - u).toNat) = neN A D := by
      by_cases heu : e < u
      · rw [if_pos heu, hA, hD, ← neN_mul m (2 ^ (u - e).toNat) (2 ^ (e - t).toNat) (Nat.pow_pos (by omega)), nat_pow_split (a := (u - e).toNat) rfl]
        congr 2
        omega
      · rw [if_neg heu, ← neN_ex (m * 2 ^ (e - u).toNat) D hDp, hA, hD, Nat.mul_assoc, nat_pow_split (a := (e - u).toNat) rfl]
        congr 3
        omega
    rw [hz0]
    obtain ⟨y, hy⟩ : ∃ y, y = A / D := ⟨_, rfl⟩
    obtain ⟨r, hr⟩ : ∃ r, r = A % D := ⟨_, rfl⟩
    have hAyr : D * y + r = A := by rw [hy, hr]; exact Nat.div_add_mod A D
    have hrD : r < D := by rw [hr]; exact Nat.mod_lt _ hDp
    have hAlt : A < 2 * H * D := by
      have h1 : A < 2 ^ L * 2 ^ (e - t).toNat := by rw [hA]; exact Nat.mul_lt_mul_of_pos_right hB1 (Nat.pow_pos (by omega))
      rw [nat_pow_split rfl] at h1
      refine Nat.lt_of_lt_of_le h1 ?_
      rw [hH, hD, ← Nat.pow_succ', nat_pow_split rfl]
      exact Nat.pow_le_pow_right (by omega) (by omega)
    have hy2 : y < 2 * H := by rw [hy]; exact Nat.div_lt_of_lt_mul (by rw [Nat.mul_comm]; exact hAlt)
    have hyH : q ≠ 0 → H ≤ y := by
      intro hq0
      rw [hy]
      refine (Nat.le_div_iff_mul_le hDp).2 ?_
      have h9 : 2 ^ (L - 1) * 2 ^ (e - t).toNat ≤ A := by rw [hA]; exact Nat.mul_le_mul_right _ hB2
      rw [nat_pow_split rfl] at h9
      refine Nat.le_trans ?_ h9
      rw [hH, hD, nat_pow_split rfl]
      exact Nat.pow_le_pow_right (by omega) (by omega)
    obtain ⟨zf, hzf⟩ : ∃ zf, zf = q * H + y := ⟨_, rfl⟩
    have hzq : zf / H - 1 = q := by
      have h1 : zf / H = q + y / H := by rw [hzf, Nat.mul_comm, Nat.mul_add_div hHp]
      rw [h1]
      have h3 : y / H < 2 := Nat.div_lt_of_lt_mul (by omega)
      by_cases hq0 : q = 0
      · omega
      · have h2 : 1 ≤ y / H := (Nat.le_div_iff_mul_le hHp).2 (by have := hyH hq0; omega)
        omega
    have hvz : vs H zf = y * 2 ^ q := by unfold vs; rw [hzq, hzf, Nat.add_sub_cancel_left]
    have hvn : vs H (zf + 1) = (y + 1) * 2 ^ q := by rw [vs_next hHp, hvz, hzq, Nat.add_mul, Nat.one_mul]
    have hqN : q < N := by omega
    have hzI : zf < I := by
      have h1 : (q + 2) * H ≤ (N + 1) * H := Nat.mul_le_mul_right _ (by omega)
      rw [Nat.add_mul] at h1
      omega
    have hDy : 2 * (y * 2 ^ q) * K = D * y := by
      rw [hDK, Nat.mul_comm y, Nat.mul_assoc, Nat.mul_assoc, Nat.mul_assoc, Nat.mul_assoc, Nat.mul_comm y K]
    have hDy1 : 2 * ((y + 1) * 2 ^ q) * K = D * y + D := by
      rw [hDK, Nat.mul_comm (y + 1), Nat.mul_assoc, Nat.mul_assoc, Nat.mul_comm (y + 1) K, ← Nat.mul_succ, Nat.mul_assoc, Nat.mul_assoc]
    have hmid : 2 * (hv H zf * K) = 2 * (D * y) + D := by
      have h1 : hv H zf = 2 * (y * 2 ^ q) + 2 ^ q := by unfold hv; rw [hvz, hzq]
      rw [h1, Nat.add_mul, hDy, Nat.mul_add, ← hDK]
    have hne : neN A D = y + (decide (D < 2 * r) || (decide (2 * r = D) && decide (y % 2 = 1))).toNat := by
      unfold neN neUp
      rw [← hy, ← hr]
    rw [hne]
    obtain ⟨b, hb⟩ : ∃ b, b = (decide (D < 2 * r) || (decide (2 * r = D) && decide (y % 2 = 1))).toNat := ⟨_, rfl⟩
    rw [← hb]
    have hb1 : b ≤ 1 := by rw [hb]; exact Bool.toNat_le _
    have hbl : 2 * r < D → b = 0 := fun h => by
      rw [hb, decide_eq_false (show ¬ D < 2 * r by omega), decide_eq_false (show ¬ 2 * r = D by omega)]; rfl
    have hbg : D < 2 * r → b = 1 := fun h => by rw [hb, decide_eq_true h]; rfl
    have hbe : 2 * r = D → b = y % 2 := fun h => by
      rw [hb, decide_eq_false (show ¬ D < 2 * r by omega), decide_eq_true h]
      rcases Nat.mod_two_eq_zero_or_one y with h1 | h1 <;> rw [h1] <;> rfl
    have hpar : (q * H + (y + b)) % 2 = (y + b) % 2 := by
      have : q * H % 2 = 0 := by rw [Nat.mul_mod, hH2]; simp
      omega
    refine key _ (by omega) fun z hz => ?_
    rcases Nat.lt_trichotomy z zf with h1 | h1 | h1
    · have h2 := hv_lt hHp z
      have h3 := vs_le hHp (show z + 1 ≤ zf from h1)
      have h4 : hv H z < 2 * (y * 2 ^ q) := by rw [← hvz]; omega
      have h5 : hv H z * K < 2 * (y * 2 ^ q) * K := Nat.mul_lt_mul_of_pos_right h4 hKp
      exact ⟨fun h => by omega, fun _ => by omega, fun h => by omega⟩
    · subst h1
      exact ⟨fun h => by have := hbl (by omega); omega, fun h => by have := hbg (by omega); omega, fun h => by have := hbe (by omega); omega⟩
    · have h2 := hv_gt H z
      have h3 := vs_le hHp (show zf + 1 ≤ z from h1)
      have h4 : 2 * ((y + 1) * 2 ^ q) < hv H z := by rw [← hvn]; omega
      have h5 : 2 * ((y + 1) * 2 ^ q) * K < hv H z * K := Nat.mul_lt_mul_of_pos_right h4 hKp
      exact ⟨fun _ => by omega, fun h => by omega, fun h => by omega⟩
theorem RNz.exact {H : Nat} {l : Int} {I Z : Nat} (hH : 0 < H) (hl : -4194303 ≤ l) (hZ : Z ≤ I) : RNz H l I (dv (vs H Z) l) Z := by
  have e1 : dv (vs H Z : Int) l = dv ((2 * vs H Z : Nat) : Int) (l - 1) := by
    have := dv_up (x := (vs H Z : Int)) (e := l - 1) 1 (by omega)
    rw [show l - 1 + ((1 : Nat) : Int) = l from by omega] at this
    rw [this, Nat.mul_comm, Int.natCast_mul]
  have low : ∀ z, z < Z → dv (hv H z : Int) (l - 1) < dv (vs H Z) l := fun z hz => by
    rw [e1]
    have h1 := hv_lt hH z
    have h2 := vs_le hH (show z + 1 ≤ Z from hz)
    exact dv_lt _ (by omega)
  have high : ∀ z, Z ≤ z → dv (vs H Z) l < dv (hv H z : Int) (l - 1) := fun z hz => by
    rw [e1]
    have h1 := hv_gt H z
    have h2 := vs_le hH hz
    exact dv_lt _ (by omega)
  refine ⟨hZ, fun z _ h => ?_, fun z _ h => ?_, fun z _ h => ?_⟩
  · refine Nat.le_of_not_lt fun h2 => ?_
    have := low z h2; omega
  · refine Nat.lt_of_not_le fun h2 => ?_
    have := high z h2; omega
  · rcases Nat.lt_or_ge z Z with h2 | h2
    · have := low z h2; omega
    · have := high z h2; omega
end Go.Proofs.YthfjjadgejmnfaaDoor
