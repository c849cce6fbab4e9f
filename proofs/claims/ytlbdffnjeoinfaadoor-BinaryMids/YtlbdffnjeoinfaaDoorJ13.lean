import Derived.Test.YtlbdffnjeoinfaaDoorJ11
import Derived.Test.YtlbdffnjeoinfaaDoorJ12
import Derived.Deep.LoopGhost
import Derived.Test.YtlbdffnjeoinfaaDoorJ10
namespace Go.Proofs.YtlbdffnjeoinfaaDoor
open Go.RowKit Go.Shelf
set_option maxRecDepth 20000
set_option maxHeartbeats 0
theorem mid_e {f : Int} {b : Nat} {er : Int} (hB : ∀ w, Calls Tryd.prog 11 #[.int .i64 f, U b] w fun e w' => e = .returned (.tuple #[PV 0 0 0 false 0, .int .i64 er]) ∧ Below w.heap.size w w') (he : er ≠ 0) (w : World) :
    Calls Tryd.prog 4 #[.int .i64 f, U b] w fun en w' => en = .returned (.tuple #[DV false none 0 0 0, .int .i64 er]) ∧ Below w.heap.size w w' := by
  have HB : Hid (∀ w, Calls Tryd.prog 11 #[.int .i64 f, U b] w fun e w' => e = .returned (.tuple #[PV 0 0 0 false 0, .int .i64 er]) ∧ Below w.heap.size w w') := hB
  have HE : Hid (er ≠ 0) := he
  have e1 : (er == 0) = false := by simp [he]
  have e2 : (er != 0) = true := by simp [he]
  clear hB he
  go_enter Tryd.func4, Tryd.ntmps4
  go_wp2_with fail
  obtain ⟨W0, hW0⟩ : ∃ W0, W0 = (w.alloc (.cells #[.bool false, .slice none 0 0, .int .i64 0] 27)) := ⟨_, rfl⟩
  have Xr : Hid (B3q W0 (w.heap.size) (.bool false) (.slice none 0 0) (.int .i64 0)) := by rw [hW0]; exact ⟨by go_simp, by go_simp, by go_simp, by go_simp, by go_simp, by go_simp⟩
  have hb0 : Below w.heap.size w W0 := by rw [hW0]; exact below1 w _
  rw [← hW0]
  clear hW0
  have hbw : Below w.heap.size w w := Below.refl _ _
  obtain ⟨gr, hgr⟩ : ∃ g, g = w.heap.size := ⟨_, rfl⟩
  have HGr : Hid (w.heap.size ≤ gr) := by rw [hgr]; show _ ≤ _; omega
  rw [← hgr] at Xr
  try rw [← hgr]
  clear hgr
  replace hbw := Below.on hbw hb0
  clear hb0
  refine (split_e HB.out HE.out _).mono ?_
  rintro e v1 ⟨rfl, hb1⟩
  replace Xr : Hid _ := Xr.out.below hb1
  replace hbw := Below.on hbw hb1
  clear hb1
  obtain ⟨cr0, cr1, cr2, fr0, fr1, fr2⟩ := Xr.out
  have hner : gr < v1.heap.size := World.block_lt_of_cell? v1 _ cr0
  go_wp2_with fail
  refine bodyPost_ret (v := .tuple #[DV false none 0 0 0, .int .i64 er]) (by rw [results_cell_tmp rfl]; go_simp) rfl ⟨rfl, ?_⟩
  first | exact hbw | exact bSet (bSet (bSet hbw _ _ _ HGr.out) _ _ _ HGr.out) _ _ _ HGr.out
theorem rmid_e {f : Int} {b : Nat} {er : Int} (hB : ∀ w, Calls Tryd.prog 42 #[.int .i64 f, U b] w fun e w' => e = .returned (.int .i64 er) ∧ Below w.heap.size w w') (he : er ≠ 0) (w : World) :
    Calls Tryd.prog 24 #[.int .i64 f, U b] w fun en w' => en = .returned (.tuple #[DV false none 0 0 0, .int .i64 er]) ∧ Below w.heap.size w w' := by
  have HB : Hid (∀ w, Calls Tryd.prog 42 #[.int .i64 f, U b] w fun e w' => e = .returned (.int .i64 er) ∧ Below w.heap.size w w') := hB
  have HE : Hid (er ≠ 0) := he
  have e1 : (er == 0) = false := by simp [he]
  have e2 : (er != 0) = true := by simp [he]
  clear hB he
  go_enter Tryd.func24, Tryd.ntmps24
  go_wp2_with fail
  obtain ⟨W0, hW0⟩ : ∃ W0, W0 = (w.alloc (.cells #[.bool false, .slice none 0 0, .int .i64 0] 27)) := ⟨_, rfl⟩
  have Xr : Hid (B3q W0 (w.heap.size) (.bool false) (.slice none 0 0) (.int .i64 0)) := by rw [hW0]; exact ⟨by go_simp, by go_simp, by go_simp, by go_simp, by go_simp, by go_simp⟩
  have hb0 : Below w.heap.size w W0 := by rw [hW0]; exact below1 w _
  rw [← hW0]
  clear hW0
  have hbw : Below w.heap.size w w := Below.refl _ _
  obtain ⟨gr, hgr⟩ : ∃ g, g = w.heap.size := ⟨_, rfl⟩
  have HGr : Hid (w.heap.size ≤ gr) := by rw [hgr]; show _ ≤ _; omega
  rw [← hgr] at Xr
  try rw [← hgr]
  clear hgr
  replace hbw := Below.on hbw hb0
  clear hb0
  refine (HB.out _).mono ?_
  rintro e v1 ⟨rfl, hb1⟩
  replace Xr : Hid _ := Xr.out.below hb1
  replace hbw := Below.on hbw hb1
  clear hb1
  obtain ⟨cr0, cr1, cr2, fr0, fr1, fr2⟩ := Xr.out
  have hner : gr < v1.heap.size := World.block_lt_of_cell? v1 _ cr0
  go_wp2_with fail
  refine bodyPost_ret (v := .tuple #[DV false none 0 0 0, .int .i64 er]) (by rw [results_cell_tmp rfl]; go_simp) rfl ⟨rfl, ?_⟩
  first | exact hbw | exact bSet (bSet (bSet hbw _ _ _ HGr.out) _ _ _ HGr.out) _ _ _ HGr.out
theorem zr_blk8 {w : World} {s : Bool} {g m : Nat} {z : Int} (h : ZR w s (some ⟨g, 0, none⟩) m z) : m = 0 ∨ g < w.heap.size := by
  obtain ⟨zs, hA, _⟩ := h.ex
  rcases hA.cells with h0 | ⟨g9, off, hp, hc⟩
  · exact .inl h0
  · by_cases h0 : m = 0
    · exact .inl h0
    · have h1 := World.block_lt_of_cell? w _ (hc 0 (by omega))
      injection hp with hp
      injection hp with hp1 hp2
      subst hp1
      exact .inr h1
theorem zr_set8 {w : World} {s : Bool} {g m : Nat} {z : Int} (h : ZR w s (some ⟨g, 0, none⟩) m z) (g2 o2 : Nat) (v : Value) (hne : m = 0 ∨ g ≠ g2) : ZR (w.setCell ⟨g2, o2, none⟩ v) s (some ⟨g, 0, none⟩) m z := by
  rcases hne with h0 | h0
  · obtain ⟨zs, hA, hN⟩ := h.ex
    exact ⟨⟨zs, ⟨hA.len, hA.cap, hA.big, hA.dig, .inl h0⟩, hN⟩, h.sg⟩
  · exact h.set g2 o2 v h0
theorem mid_sum {H : Nat} (hH : 0 < H) (s : Nat) : vs H s + vs H (s + 1) = (2 * (s - (s / H - 1) * H) + 1) * 2 ^ (s / H - 1) := by
  rw [vs_next hH]
  unfold vs
  rw [Nat.add_mul, Nat.one_mul, Nat.mul_assoc]
  omega
theorem mid_zo {sg : Bool} {M q : Nat} (hM : M % 2 = 1) : iv sg (M * 2 ^ q) ≠ 0 ∧ TzIs (iv sg (M * 2 ^ q)).natAbs q ∧ ((iv sg M).natAbs = (iv sg (M * 2 ^ q)).natAbs / 2 ^ q ∧ iv sg M % 2 = 1 ∧ decide (iv sg M < 0) = decide (iv sg (M * 2 ^ q) < 0) ∧ iv (decide (iv sg (M * 2 ^ q) < 0)) ((iv sg (M * 2 ^ q)).natAbs / 2 ^ q) = iv sg M) ∧ decide (iv sg (M * 2 ^ q) < 0) = sg := by
  have hq : 0 < 2 ^ q := Nat.pow_pos (by omega)
  have h1 : 0 < M * 2 ^ q := Nat.mul_pos (by omega) hq
  have h2 : ∀ a : Nat, (iv sg a).natAbs = a := fun a => by cases sg <;> simp [iv]
  have h3 : ∀ a : Nat, 0 < a → decide (iv sg a < 0) = sg := fun a ha => by rw [iv_lt, decide_eq_true ha, Bool.and_true]
  have h4 : M * 2 ^ q / 2 ^ q = M := Nat.mul_div_cancel _ hq
  refine ⟨fun e0 => ?_, ?_, ⟨?_, ?_, ?_, ?_⟩, h3 _ h1⟩
  · have := h2 (M * 2 ^ q)
    rw [e0] at this
    have h5 : Int.natAbs 0 = 0 := rfl
    omega
  · rw [h2]
    exact ⟨Nat.mul_mod_left _ _, by rw [h4]; exact hM⟩
  · rw [h2, h2, h4]
  · cases sg
    · rw [iv_f]; omega
    · rw [iv_t]; omega
  · rw [h3 _ h1, h3 _ (by omega)]
  · rw [h3 _ h1, h2, h4]
theorem rmid_o {f P E G : Int} {S I Q H : Nat} (R : Rf f S P E G I Q) (wh : ∀ (b : Nat) w, Calls Tryd.prog 45 #[FV S P E G I Q, U b] w fun en w' => ∃ v, en = .returned v ∧ GotR w.heap.size w' v (svS S H b) 2200 ∧ Below w.heap.size w w') (b : Nat) (hb : b < 2 * S) (hr : b % S < I) (hc : I < S ∧ S ≤ 9223372036854775808 ∧ 0 < H ∧ -1074 ≤ E ∧ E ≤ -149) (hq : b % S / H - 1 ≤ 2045) (w : World) :
    Calls Tryd.prog 24 #[.int .i64 f, U b] w fun en w' => ∃ g m' c', en = .returned (.tuple #[DV (decide (S ≤ b)) (some ⟨g, 0, none⟩) m' c' (E - 1 + ((b % S / H - 1 : Nat) : Int)), .int .i64 0]) ∧ DN w' (decide (S ≤ b)) (some ⟨g, 0, none⟩) m' c' (E - 1 + ((b % S / H - 1 : Nat) : Int)) (iv (decide (S ≤ b)) (2 * (b % S - (b % S / H - 1) * H) + 1)) ∧ Below w.heap.size w w' := by
  obtain ⟨s, hs⟩ : ∃ s, s = b % S := ⟨_, rfl⟩
  obtain ⟨sg, hsg⟩ : ∃ sg, sg = decide (S ≤ b) := ⟨_, rfl⟩
  obtain ⟨q, hqq⟩ : ∃ q, q = s / H - 1 := ⟨_, rfl⟩
  obtain ⟨M, hM⟩ : ∃ M, M = 2 * (s - q * H) + 1 := ⟨_, rfl⟩
  rw [← hs] at hr hq ⊢
  rw [← hqq] at hq ⊢
  rw [← hM, ← hsg]
  have HC : Hid (Rf f S P E G I Q ∧ b < 2 * S ∧ s < I ∧ (I < S ∧ S ≤ 9223372036854775808 ∧ 0 < H ∧ -1074 ≤ E ∧ E ≤ -149) ∧ q ≤ 2045 ∧ b % S = s ∧ decide (S ≤ b) = sg) := ⟨R, hb, hr, hc, hq, hs.symm, hsg.symm⟩
  have HW : Hid (∀ (b : Nat) w, Calls Tryd.prog 45 #[FV S P E G I Q, U b] w fun en w' => ∃ v, en = .returned v ∧ GotR w.heap.size w' v (svS S H b) 2200 ∧ Below w.heap.size w w') := wh
  have HM : Hid (vs H s + vs H (s + 1) = M * 2 ^ q ∧ M % 2 = 1) := ⟨by rw [hM, hqq]; exact mid_sum hc.2.2.1 s, by omega⟩
  have k1 : IntKind.u64.wrap ((s : Int) + 1) = ((s + 1 : Nat) : Int) := by rw [IntKind.wrap_u64]; omega
  have k2 : wrap64 (E - 1) = E - 1 := by simp only [wrap64]; omega
  have k3 : IntKind.i64.wrap (E - 1) = E - 1 := by simp [IntKind.wrap, IntKind.signed, IntKind.bits]; omega
  clear R wh hb hr hc hq hs hsg hqq hM
  go_enter Tryd.func24, Tryd.ntmps24
  go_wp2_with fail
  obtain ⟨W0, hW0⟩ : ∃ W0, W0 = (w.alloc (.cells #[.bool false, .slice none 0 0, .int .i64 0] 27)) := ⟨_, rfl⟩
  have Xr : Hid (B3q W0 (w.heap.size) (.bool false) (.slice none 0 0) (.int .i64 0)) := by rw [hW0]; exact ⟨by go_simp, by go_simp, by go_simp, by go_simp, by go_simp, by go_simp⟩
  have hb0 : Below w.heap.size w W0 := by rw [hW0]; exact below1 w _
  rw [← hW0]
  clear hW0
  have hbw : Below w.heap.size w w := Below.refl _ _
  obtain ⟨gr, hgr⟩ : ∃ g, g = w.heap.size := ⟨_, rfl⟩
  have HGr : Hid (w.heap.size ≤ gr) := by rw [hgr]; show _ ≤ _; omega
  rw [← hgr] at Xr
  try rw [← hgr]
  clear hgr
  replace hbw := Below.on hbw hb0
  clear hb0
  refine (rfin_o HC.out.1 b HC.out.2.1 (by rw [HC.out.2.2.2.2.2.1]; exact HC.out.2.2.1) (by have := HC.out.2.2.2.1; omega) HC.out.2.2.2.1.2.1 _).mono ?_
  rintro e v1 ⟨rfl, hb1⟩
  replace Xr : Hid _ := Xr.out.below hb1
  replace hbw := Below.on hbw hb1
  clear hb1
  go_wp2_with fail
  refine (HC.out.1.of _).mono ?_
  rintro e v2 ⟨rfl, hb2⟩
  replace Xr : Hid _ := Xr.out.below hb2
  replace hbw := Below.on hbw hb2
  clear hb2
  go_wp2_with fail
  have HKR0' : Hid (gr < v2.heap.size) := Xr.out.lt
  have Xk0 : Hid (B6q (v2.alloc (.cells #[U S, .int .i64 P, .int .i64 E, .int .i64 G, U I, U Q] 84)) v2.heap.size (U S) (.int .i64 P) (.int .i64 E) (.int .i64 G) (U I) (U Q)) := B6q.new v2 _ _ _ _ _ _ _
  have hbn : Below v2.heap.size v2 (v2.alloc (.cells #[U S, .int .i64 P, .int .i64 E, .int .i64 G, U I, U Q] 84)) := below1 v2 _
  generalize v2.alloc (.cells #[U S, .int .i64 P, .int .i64 E, .int .i64 G, U I, U Q] 84) = Wk at *
  have HGk : Hid (w.heap.size ≤ v2.heap.size) := hbw.size
  replace Xr : Hid _ := Xr.out.below hbn
  replace hbw := Below.on hbw hbn
  clear hbn
  generalize v2.heap.size = gk at *
  have Xk := Xk0
  clear Xk0
  have HKR0 : Hid (gk ≠ gr) := Nat.ne_of_gt HKR0'.out
  refine (cut_any (by have := HC.out.2.2.2.1; omega) HC.out.2.2.2.1.2.1 b _).mono ?_
  rintro e v3 ⟨rfl, hb3⟩
  rw [HC.out.2.2.2.2.2.1, HC.out.2.2.2.2.2.2]
  replace Xr : Hid _ := Xr.out.below hb3
  replace Xk : Hid _ := Xk.out.below hb3
  replace hbw := Below.on hbw hb3
  clear hb3
  obtain ⟨ck0, ck1, ck2, ck3, ck4, ck5, fk0, fk1, fk2, fk3, fk4, fk5⟩ := Xk.out
  have hnek : gk < v3.heap.size := World.block_lt_of_cell? v3 _ ck0
  go_wp2_with fail
  clear ck0 ck1 ck2 ck3 ck4 ck5 fk0 fk1 fk2 fk3 fk4 fk5 hnek
  have HV1 : Hid (svS S H s = (vs H s : Int) ∧ svS S H (s + 1) = (vs H (s + 1) : Int)) := by have h := HC.out; constructor <;> (rw [svS_eq, if_neg (by omega), Nat.mod_eq_of_lt (by omega)])
  have HKR : Hid (gk ≠ gr) := HKR0.out
  obtain ⟨W5, hW5⟩ : ∃ W1, W1 = v3.drew := ⟨_, rfl⟩
  have hbd : Below v3.heap.size v3 W5 := by rw [hW5]; exact bDrew1 (Below.refl _ _)
  replace Xr : Hid _ := Xr.out.below hbd
  replace Xk : Hid _ := Xk.out.below hbd
  replace hbw := Below.on hbw hbd
  clear hbd
  have HJ : Hid ((fun W' : World => W'.cell? ⟨gk, 0, none⟩ = some (U S) ∧ W'.cell? ⟨gk, 1, none⟩ = some (.int .i64 P) ∧ W'.cell? ⟨gk, 2, none⟩ = some (.int .i64 E) ∧ W'.cell? ⟨gk, 3, none⟩ = some (.int .i64 G) ∧ W'.cell? ⟨gk, 4, none⟩ = some (U I) ∧ W'.cell? ⟨gk, 5, none⟩ = some (U Q)) W5) := ⟨Xk.out.c0, Xk.out.c1, Xk.out.c2, Xk.out.c3, Xk.out.c4, Xk.out.c5⟩
  refine wp_region_J (fun W' => W'.cell? ⟨gk, 0, none⟩ = some (U S) ∧ W'.cell? ⟨gk, 1, none⟩ = some (.int .i64 P) ∧ W'.cell? ⟨gk, 2, none⟩ = some (.int .i64 E) ∧ W'.cell? ⟨gk, 3, none⟩ = some (.int .i64 G) ∧ W'.cell? ⟨gk, 4, none⟩ = some (U I) ∧ W'.cell? ⟨gk, 5, none⟩ = some (U Q)) (by kernel_rfl) ?_
  rw [← hW5]
  clear hW5
  refine wpJ_tq 0 rfl HJ.out ?_
  refine wpJ_tq 1 rfl HJ.out ?_
  refine wpJ_tq 3 rfl HJ.out ?_
  refine wpJ_tq 4 rfl HJ.out ?_
  refine wpJ_tq 5 rfl HJ.out ?_
  go_simp
  refine wpJ_nodes5 fun WP hWP L0 a0 hL ha => ?_
  have N2_6_7_8 : ∀ (t1 : Bool) (k1_ : Nat) (n1 : Nat) (t2 : Bool) (k2_ : Nat) (n2 : Nat) (t3 : Bool) (k3_ : Nat) (n3 : Nat) (gm : Nat) (W' : World), (B6q W' gk (U S) (.int .i64 P) (.int .i64 E) (.int .i64 G) (U I) (U Q)) ∧ (B3q W' gr (.bool false) (.slice none 0 0) (.int .i64 0)) ∧ (Below w.heap.size w W') ∧ (ZR W' t1 (some ⟨k1_, 0, none⟩) n1 (vs H s : Int)) ∧ (n1 ≤ 2200) ∧ (ZR W' t2 (some ⟨k2_, 0, none⟩) n2 (vs H (s + 1) : Int)) ∧ (n2 ≤ 2200) ∧ (ZR W' t3 (some ⟨k3_, 0, none⟩) n3 ((vs H s : Int) + (vs H (s + 1) : Int))) ∧ (n3 ≤ 2300) ∧ (Box W' gm (.bool false) (.slice none 0 0)) ∧ (w.heap.size ≤ gm) ∧ (gk ≠ gm ∧ gr ≠ gm) ∧ (n3 = 0 ∨ k3_ ≠ gm) → WP 1 ((((L0.setIfInBounds 2 true).setIfInBounds 6 true).setIfInBounds 7 true).setIfInBounds 8 true) ((((a0.put (some 32) (.agg #[.bool t1, .slice (some ⟨k1_, 0, none⟩) n1 n1])).put (some 36) (.agg #[.bool t2, .slice (some ⟨k2_, 0, none⟩) n2 n2])).put (some 37) (.agg #[.bool t3, .slice (some ⟨k3_, 0, none⟩) n3 n3])).put (some 11) (.pointer (some ⟨gm, 0, none⟩))) W' := by
    rintro t1 k1_ n1 t2 k2_ n2 t3 k3_ n3 gm W' ⟨xk, xr, hbw, z1, l1, z2, l2, z3, l3, xm, hm, nm, o3⟩
    subst hWP hL ha
    have Hxk := Hid.mk5 xk
    have Hxr := Hid.mk5 xr
    have Hz1 := Hid.mk5 z1
    have Hl1 := Hid.mk5 l1
    have Hz2 := Hid.mk5 z2
    have Hl2 := Hid.mk5 l2
    have Hz3 := Hid.mk5 z3
    have Hl3 := Hid.mk5 l3
    have Hxm := Hid.mk5 xm
    have Hhm := Hid.mk5 hm
    have Hnm := Hid.mk5 nm
    have Ho3 := Hid.mk5 o3
    clear xk xr z1 l1 z2 l2 z3 l3 xm hm nm o3
    go_simp
    have Xk := Hxk
    have Xr := Hxr
    have Xm := Hxm
    clear Hxk Hxr Hxm
    obtain ⟨q1, q2⟩ := Hnm.out
    have q1' := Ne.symm q1
    have q2' := Ne.symm q2
    have HJ : Hid ((fun W' : World => W'.cell? ⟨gk, 0, none⟩ = some (U S) ∧ W'.cell? ⟨gk, 1, none⟩ = some (.int .i64 P) ∧ W'.cell? ⟨gk, 2, none⟩ = some (.int .i64 E) ∧ W'.cell? ⟨gk, 3, none⟩ = some (.int .i64 G) ∧ W'.cell? ⟨gk, 4, none⟩ = some (U I) ∧ W'.cell? ⟨gk, 5, none⟩ = some (U Q)) W') := ⟨Xk.out.c0, Xk.out.c1, Xk.out.c2, Xk.out.c3, Xk.out.c4, Xk.out.c5⟩
    obtain ⟨ck0, ck1, ck2, ck3, ck4, ck5, fk0, fk1, fk2, fk3, fk4, fk5⟩ := Xk.out
    have hnek : gk < W'.heap.size := World.block_lt_of_cell? W' _ ck0
    obtain ⟨cr0, cr1, cr2, fr0, fr1, fr2⟩ := Xr.out
    have hner : gr < W'.heap.size := World.block_lt_of_cell? W' _ cr0
    obtain ⟨cm0, cm1, fm0, fm1⟩ := Xm.out
    have hnem := Xm.out.lt
    refine wpJ_on 9 rfl fun KJ hK => ?_
    go_simp
    have Yk : Hid (B6q ((W'.setCell ⟨gm, 0, none⟩ (.bool t3)).setCell ⟨gm, 1, none⟩ (.slice (some ⟨k3_, 0, none⟩) n3 n3)) gk (U S) (.int .i64 P) (.int .i64 E) (.int .i64 G) (U I) (U Q)) := ⟨by go_simp, by go_simp, by go_simp, by go_simp, by go_simp, by go_simp, by go_simp, by go_simp, by go_simp, by go_simp, by go_simp, by go_simp⟩
    have Yr : Hid (B3q ((W'.setCell ⟨gm, 0, none⟩ (.bool t3)).setCell ⟨gm, 1, none⟩ (.slice (some ⟨k3_, 0, none⟩) n3 n3)) gr (.bool false) (.slice none 0 0) (.int .i64 0)) := ⟨by go_simp, by go_simp, by go_simp, by go_simp, by go_simp, by go_simp⟩
    have Ym : Hid (Box ((W'.setCell ⟨gm, 0, none⟩ (.bool t3)).setCell ⟨gm, 1, none⟩ (.slice (some ⟨k3_, 0, none⟩) n3 n3)) gm (.bool t3) (.slice (some ⟨k3_, 0, none⟩) n3 n3)) := ⟨by go_simp, by go_simp, by go_simp, by go_simp⟩
    have HJ2 : Hid ((fun W' : World => W'.cell? ⟨gk, 0, none⟩ = some (U S) ∧ W'.cell? ⟨gk, 1, none⟩ = some (.int .i64 P) ∧ W'.cell? ⟨gk, 2, none⟩ = some (.int .i64 E) ∧ W'.cell? ⟨gk, 3, none⟩ = some (.int .i64 G) ∧ W'.cell? ⟨gk, 4, none⟩ = some (U I) ∧ W'.cell? ⟨gk, 5, none⟩ = some (U Q)) ((W'.setCell ⟨gm, 0, none⟩ (.bool t3)).setCell ⟨gm, 1, none⟩ (.slice (some ⟨k3_, 0, none⟩) n3 n3))) := ⟨Yk.out.c0, Yk.out.c1, Yk.out.c2, Yk.out.c3, Yk.out.c4, Yk.out.c5⟩
    have Hy3 : Hid (ZR ((W'.setCell ⟨gm, 0, none⟩ (.bool t3)).setCell ⟨gm, 1, none⟩ (.slice (some ⟨k3_, 0, none⟩) n3 n3)) t3 (some ⟨k3_, 0, none⟩) n3 ((vs H s : Int) + (vs H (s + 1) : Int))) := zr_set8 (zr_set8 Hz3.out _ _ _ Ho3.out) _ _ _ Ho3.out
    have hbw2 : Below w.heap.size w ((W'.setCell ⟨gm, 0, none⟩ (.bool t3)).setCell ⟨gm, 1, none⟩ (.slice (some ⟨k3_, 0, none⟩) n3 n3)) := bSet (bSet hbw _ _ _ Hhm.out) _ _ _ Hhm.out
    refine hK _ _ HJ2.out ?_
    clear hK HJ
    have HJ := HJ2
    clear HJ2
    clear ck0 ck1 ck2 ck3 ck4 ck5 fk0 fk1 fk2 fk3 fk4 fk5 hnek
    clear cr0 cr1 cr2 fr0 fr1 fr2 hner
    clear cm0 cm1 fm0 fm1 hnem
    clear Hz1 Hz2 Hz3 hbw Xk Xr Xm
    have Xk := Yk
    have Xr := Yr
    have Xm := Ym
    have Z3 := Hy3
    have hbw := hbw2
    clear Hy3 hbw2 Yk Yr Ym
    generalize ((W'.setCell ⟨gm, 0, none⟩ (.bool t3)).setCell ⟨gm, 1, none⟩ (.slice (some ⟨k3_, 0, none⟩) n3 n3)) = V9 at *
    refine wpJ_done (by kernel_rfl) ?_ _
    clear HJ
    obtain ⟨ck0, ck1, ck2, ck3, ck4, ck5, fk0, fk1, fk2, fk3, fk4, fk5⟩ := Xk.out
    have hnek : gk < V9.heap.size := World.block_lt_of_cell? V9 _ ck0
    obtain ⟨cm0, cm1, fm0, fm1⟩ := Xm.out
    have hnem := Xm.out.lt
    go_wp2_with fail
    clear ck0 ck1 ck2 ck3 ck4 ck5 fk0 fk1 fk2 fk3 fk4 fk5 hnek
    clear cm0 cm1 fm0 fm1 hnem
    obtain ⟨W6, hW6⟩ : ∃ W1, W1 = V9.drew := ⟨_, rfl⟩
    have hbd : Below V9.heap.size V9 W6 := by rw [hW6]; exact bDrew1 (Below.refl _ _)
    replace Xr : Hid _ := Xr.out.below hbd
    replace Xk : Hid _ := Xk.out.below hbd
    replace Xm : Hid _ := Xm.out.below hbd
    replace Z3 : Hid _ := Z3.out.below hbd
    replace hbw := Below.on hbw hbd
    clear hbd
    have HJ : Hid ((fun W' : World => W'.cell? ⟨gk, 2, none⟩ = some (.int .i64 E) ∧ W'.cell? ⟨gm, 0, none⟩ = some (.bool t3) ∧ W'.cell? ⟨gm, 1, none⟩ = some (.slice (some ⟨k3_, 0, none⟩) n3 n3)) W6) := ⟨Xk.out.c2, Xm.out.c0, Xm.out.c1⟩
    refine wp_region_J (fun W' => W'.cell? ⟨gk, 2, none⟩ = some (.int .i64 E) ∧ W'.cell? ⟨gm, 0, none⟩ = some (.bool t3) ∧ W'.cell? ⟨gm, 1, none⟩ = some (.slice (some ⟨k3_, 0, none⟩) n3 n3)) (by kernel_rfl) ?_
    rw [← hW6]
    clear hW6
    refine wpJ_tq 0 rfl HJ.out ?_
    refine wpJ_tq 1 rfl HJ.out ?_
    refine wpJ_tq 2 rfl HJ.out ?_
    refine wpJ_tq 4 rfl HJ.out ?_
    refine wpJ_tq 5 rfl HJ.out ?_
    go_simp
    refine wpJ_tq 6 rfl HJ.out ?_
    refine wpJ_on 3 rfl fun KJ hK => ?_
    go_simp
    obtain ⟨zs, hA, hN⟩ := Z3.out.ex
    rw [show ((vs H s : Int) + (vs H (s + 1) : Int)).natAbs = M * 2 ^ q from by rw [← HM.out.1]; omega] at hN
    have HNR : Hid (gr < W6.heap.size) := Xr.out.lt
    refine (rmk_any sg hA hN (by have := Hl3.out; omega)).mono ?_
    rintro e9 v4 ⟨v, rfl, ⟨t4, g4, n4, rfl, _, hz4, hl4⟩, hb4⟩
    clear hA hN
    replace Xr : Hid _ := Xr.out.below hb4
    replace Xk : Hid _ := Xk.out.below hb4
    replace Xm : Hid _ := Xm.out.below hb4
    replace Z3 : Hid _ := Z3.out.below hb4
    replace hbw := Below.on hbw hb4
    clear hb4
    have Z4 : Hid (ZR v4 t4 (some ⟨g4, 0, none⟩) n4 (iv sg (M * 2 ^ q))) := hz4
    have HL4 : Hid (n4 ≤ 16384) := by have := Hl3.out; show _ ≤ _; omega
    clear hz4 hl4
    refine hK _ _ ⟨Xk.out.c2, Xm.out.c0, Xm.out.c1⟩ ?_
    clear hK
    refine wpJ_on 7 rfl fun KJ hK => ?_
    go_simp
    obtain ⟨y1, y2, y3, y4⟩ := mid_zo (sg := sg) (q := q) HM.out.2
    have HT4 : Hid (t4 = sg) := Z4.out.sg.trans y4
    have HRB : Hid (gr < v4.heap.size ∧ w.heap.size ≤ v4.heap.size) := ⟨Xr.out.lt, hbw.size⟩
    refine (rdyad_n t4 Z4.out y1 y2 y3 HL4.out (by have := HC.out; omega) (by have := HC.out; omega)).mono ?_
    rintro e9 v5 ⟨g5, m5, c5, rfl, hg5, hd5, hb5⟩
    clear y1 y2 y3 y4
    rw [HT4.out] at hd5 ⊢
    have HR5 : Hid (gr < g5) := Nat.lt_of_lt_of_le HRB.out.1 hg5
    replace Xr : Hid _ := Xr.out.below hb5
    replace Xk : Hid _ := Xk.out.below hb5
    replace Xm : Hid _ := Xm.out.below hb5
    replace Z3 : Hid _ := Z3.out.below hb5
    replace Z4 : Hid _ := Z4.out.below hb5
    replace hbw := Below.on hbw hb5
    clear hb5
    have D5 : Hid (DN v5 sg (some ⟨g5, 0, none⟩) m5 c5 (E - 1 + (q : Int)) (iv sg M)) := hd5
    clear hd5 hg5
    refine hK _ _ ⟨Xk.out.c2, Xm.out.c0, Xm.out.c1⟩ ?_
    clear hK
    have z1 : gk ≠ gr := HKR.out
    have z2 := Ne.symm z1
    obtain ⟨cr0, cr1, cr2, fr0, fr1, fr2⟩ := Xr.out
    have hner : gr < v5.heap.size := World.block_lt_of_cell? v5 _ cr0
    obtain ⟨ck0, ck1, ck2, ck3, ck4, ck5, fk0, fk1, fk2, fk3, fk4, fk5⟩ := Xk.out
    have hnek : gk < v5.heap.size := World.block_lt_of_cell? v5 _ ck0
    obtain ⟨cm0, cm1, fm0, fm1⟩ := Xm.out
    have hnem := Xm.out.lt
    refine wpJ_on 8 rfl fun KJ hK => ?_
    go_simp
    have HJ2 : Hid ((fun W' : World => W'.cell? ⟨gk, 2, none⟩ = some (.int .i64 E) ∧ W'.cell? ⟨gm, 0, none⟩ = some (.bool t3) ∧ W'.cell? ⟨gm, 1, none⟩ = some (.slice (some ⟨k3_, 0, none⟩) n3 n3)) (((v5.setCell ⟨gr, 0, none⟩ (.bool sg)).setCell ⟨gr, 1, none⟩ (.slice (some ⟨g5, 0, none⟩) m5 c5)).setCell ⟨gr, 2, none⟩ (.int .i64 (E - 1 + (q : Int))))) := ⟨by go_simp, by go_simp, by go_simp⟩
    refine hK _ _ HJ2.out ?_
    clear hK HJ
    have HJ := HJ2
    clear HJ2
    refine wpJ_tq 9 rfl HJ.out ?_
    refine wpJ_done (by kernel_rfl) ?_ _
    clear HJ
    go_wp2_with fail
    refine bodyPost_ret (v := .tuple #[DV sg (some ⟨g5, 0, none⟩) m5 c5 (E - 1 + (q : Int)), .int .i64 0]) (by rw [results_cell_tmp rfl]; go_simp) rfl ⟨g5, m5, c5, rfl, ?_, ?_⟩
    · have := HR5.out
      exact ((D5.out.set _ _ _ (by omega)).set _ _ _ (by omega)).set _ _ _ (by omega)
    · exact bSet (bSet (bSet hbw _ _ _ HGr.out) _ _ _ HGr.out) _ _ _ HGr.out
  have N2_6_7 : ∀ (t1 : Bool) (k1_ : Nat) (n1 : Nat) (t2 : Bool) (k2_ : Nat) (n2 : Nat) (t3 : Bool) (k3_ : Nat) (n3 : Nat) (W' : World), (B6q W' gk (U S) (.int .i64 P) (.int .i64 E) (.int .i64 G) (U I) (U Q)) ∧ (B3q W' gr (.bool false) (.slice none 0 0) (.int .i64 0)) ∧ (Below w.heap.size w W') ∧ (ZR W' t1 (some ⟨k1_, 0, none⟩) n1 (vs H s : Int)) ∧ (n1 ≤ 2200) ∧ (ZR W' t2 (some ⟨k2_, 0, none⟩) n2 (vs H (s + 1) : Int)) ∧ (n2 ≤ 2200) ∧ (ZR W' t3 (some ⟨k3_, 0, none⟩) n3 ((vs H s : Int) + (vs H (s + 1) : Int))) ∧ (n3 ≤ 2300) → WP 2 (((L0.setIfInBounds 2 true).setIfInBounds 6 true).setIfInBounds 7 true) (((a0.put (some 32) (.agg #[.bool t1, .slice (some ⟨k1_, 0, none⟩) n1 n1])).put (some 36) (.agg #[.bool t2, .slice (some ⟨k2_, 0, none⟩) n2 n2])).put (some 37) (.agg #[.bool t3, .slice (some ⟨k3_, 0, none⟩) n3 n3])) W' := by
    rintro t1 k1_ n1 t2 k2_ n2 t3 k3_ n3 W' ⟨xk, xr, hbw, z1, l1, z2, l2, z3, l3⟩
    subst hWP hL ha
    have Hxk := Hid.mk5 xk
    have Hxr := Hid.mk5 xr
    have Hz1 := Hid.mk5 z1
    have Hl1 := Hid.mk5 l1
    have Hz2 := Hid.mk5 z2
    have Hl2 := Hid.mk5 l2
    have Hz3 := Hid.mk5 z3
    have Hl3 := Hid.mk5 l3
    clear xk xr z1 l1 z2 l2 z3 l3
    go_simp
    refine wpJ_on 8 rfl fun KJ hK => ?_
    go_simp
    have hb := below1 W' (.cells #[.bool false, .slice none 0 0] 94)
    refine hK _ _ ⟨(Hxk.out.below hb).c0, (Hxk.out.below hb).c1, (Hxk.out.below hb).c2, (Hxk.out.below hb).c3, (Hxk.out.below hb).c4, (Hxk.out.below hb).c5⟩ ?_
    exact wpJ_same5 (by kernel_rfl) (by kernel_rfl) (N2_6_7_8 t1 k1_ n1 t2 k2_ n2 t3 k3_ n3 W'.heap.size _ ⟨(Hxk.out.below hb), (Hxr.out.below hb), (Below.on hbw hb), (Hz1.out.below hb), Hl1.out, (Hz2.out.below hb), Hl2.out, (Hz3.out.below hb), Hl3.out, (Box.new W' _ _ _), hbw.size, ⟨Nat.ne_of_lt (World.block_lt_of_cell? W' _ Hxk.out.c0), Nat.ne_of_lt Hxr.out.lt⟩, ((zr_blk8 Hz3.out).imp id Nat.ne_of_lt)⟩)
  have N2_6_8 : ∀ (t1 : Bool) (k1_ : Nat) (n1 : Nat) (t2 : Bool) (k2_ : Nat) (n2 : Nat) (gm : Nat) (W' : World), (B6q W' gk (U S) (.int .i64 P) (.int .i64 E) (.int .i64 G) (U I) (U Q)) ∧ (B3q W' gr (.bool false) (.slice none 0 0) (.int .i64 0)) ∧ (Below w.heap.size w W') ∧ (ZR W' t1 (some ⟨k1_, 0, none⟩) n1 (vs H s : Int)) ∧ (n1 ≤ 2200) ∧ (ZR W' t2 (some ⟨k2_, 0, none⟩) n2 (vs H (s + 1) : Int)) ∧ (n2 ≤ 2200) ∧ (Box W' gm (.bool false) (.slice none 0 0)) ∧ (w.heap.size ≤ gm) ∧ (gk ≠ gm ∧ gr ≠ gm) → WP 2 (((L0.setIfInBounds 2 true).setIfInBounds 6 true).setIfInBounds 8 true) (((a0.put (some 32) (.agg #[.bool t1, .slice (some ⟨k1_, 0, none⟩) n1 n1])).put (some 36) (.agg #[.bool t2, .slice (some ⟨k2_, 0, none⟩) n2 n2])).put (some 11) (.pointer (some ⟨gm, 0, none⟩))) W' := by
    rintro t1 k1_ n1 t2 k2_ n2 gm W' ⟨xk, xr, hbw, z1, l1, z2, l2, xm, hm, nm⟩
    subst hWP hL ha
    have Hxk := Hid.mk5 xk
    have Hxr := Hid.mk5 xr
    have Hz1 := Hid.mk5 z1
    have Hl1 := Hid.mk5 l1
    have Hz2 := Hid.mk5 z2
    have Hl2 := Hid.mk5 l2
    have Hxm := Hid.mk5 xm
    have Hhm := Hid.mk5 hm
    have Hnm := Hid.mk5 nm
    clear xk xr z1 l1 z2 l2 xm hm nm
    go_simp
    refine wpJ_on 7 rfl fun KJ hK => ?_
    go_simp
    refine (radd04 t1 t2 Hz1.out Hz2.out (by have := Hl1.out; omega) (by have := Hl2.out; omega)).mono ?_
    rintro e9 W2 ⟨v, rfl, ⟨t3, k3_, n3, rfl, hg, hz, hl⟩, hb⟩
    have hl9 : n3 ≤ 2300 := by have := Hl1.out; have := Hl2.out; omega
    refine hK _ _ ⟨(Hxk.out.below hb).c0, (Hxk.out.below hb).c1, (Hxk.out.below hb).c2, (Hxk.out.below hb).c3, (Hxk.out.below hb).c4, (Hxk.out.below hb).c5⟩ ?_
    exact wpJ_same5 (by kernel_rfl) (by kernel_rfl) (N2_6_7_8 t1 k1_ n1 t2 k2_ n2 t3 k3_ n3 gm W2 ⟨(Hxk.out.below hb), (Hxr.out.below hb), (Below.on hbw hb), (Hz1.out.below hb), Hl1.out, (Hz2.out.below hb), Hl2.out, hz, hl9, (Hxm.out.below hb), Hhm.out, Hnm.out, (.inr (Nat.ne_of_gt (Nat.lt_of_lt_of_le Hxm.out.lt hg)))⟩)
  have N2_6 : ∀ (t1 : Bool) (k1_ : Nat) (n1 : Nat) (t2 : Bool) (k2_ : Nat) (n2 : Nat) (W' : World), (B6q W' gk (U S) (.int .i64 P) (.int .i64 E) (.int .i64 G) (U I) (U Q)) ∧ (B3q W' gr (.bool false) (.slice none 0 0) (.int .i64 0)) ∧ (Below w.heap.size w W') ∧ (ZR W' t1 (some ⟨k1_, 0, none⟩) n1 (vs H s : Int)) ∧ (n1 ≤ 2200) ∧ (ZR W' t2 (some ⟨k2_, 0, none⟩) n2 (vs H (s + 1) : Int)) ∧ (n2 ≤ 2200) → WP 3 ((L0.setIfInBounds 2 true).setIfInBounds 6 true) ((a0.put (some 32) (.agg #[.bool t1, .slice (some ⟨k1_, 0, none⟩) n1 n1])).put (some 36) (.agg #[.bool t2, .slice (some ⟨k2_, 0, none⟩) n2 n2])) W' := by
    rintro t1 k1_ n1 t2 k2_ n2 W' ⟨xk, xr, hbw, z1, l1, z2, l2⟩
    subst hWP hL ha
    have Hxk := Hid.mk5 xk
    have Hxr := Hid.mk5 xr
    have Hz1 := Hid.mk5 z1
    have Hl1 := Hid.mk5 l1
    have Hz2 := Hid.mk5 z2
    have Hl2 := Hid.mk5 l2
    clear xk xr z1 l1 z2 l2
    go_simp
    refine wpJ_two (i := 7) (k := 8) (by kernel_rfl) rfl rfl (by kernel_rfl) (by kernel_rfl) (fun KJ hK => ?_) (fun KJ hK => ?_)
    · go_simp
      refine (radd04 t1 t2 Hz1.out Hz2.out (by have := Hl1.out; omega) (by have := Hl2.out; omega)).mono ?_
      rintro e9 W2 ⟨v, rfl, ⟨t3, k3_, n3, rfl, hg, hz, hl⟩, hb⟩
      have hl9 : n3 ≤ 2300 := by have := Hl1.out; have := Hl2.out; omega
      refine hK _ _ ⟨(Hxk.out.below hb).c0, (Hxk.out.below hb).c1, (Hxk.out.below hb).c2, (Hxk.out.below hb).c3, (Hxk.out.below hb).c4, (Hxk.out.below hb).c5⟩ ?_
      exact wpJ_same5 (by kernel_rfl) (by kernel_rfl) (N2_6_7 t1 k1_ n1 t2 k2_ n2 t3 k3_ n3 W2 ⟨(Hxk.out.below hb), (Hxr.out.below hb), (Below.on hbw hb), (Hz1.out.below hb), Hl1.out, (Hz2.out.below hb), Hl2.out, hz, hl9⟩)
    · go_simp
      have hb := below1 W' (.cells #[.bool false, .slice none 0 0] 94)
      refine hK _ _ ⟨(Hxk.out.below hb).c0, (Hxk.out.below hb).c1, (Hxk.out.below hb).c2, (Hxk.out.below hb).c3, (Hxk.out.below hb).c4, (Hxk.out.below hb).c5⟩ ?_
      exact wpJ_same5 (by kernel_rfl) (by kernel_rfl) (N2_6_8 t1 k1_ n1 t2 k2_ n2 W'.heap.size _ ⟨(Hxk.out.below hb), (Hxr.out.below hb), (Below.on hbw hb), (Hz1.out.below hb), Hl1.out, (Hz2.out.below hb), Hl2.out, (Box.new W' _ _ _), hbw.size, ⟨Nat.ne_of_lt (World.block_lt_of_cell? W' _ Hxk.out.c0), Nat.ne_of_lt Hxr.out.lt⟩⟩)
  have N2_8 : ∀ (t1 : Bool) (k1_ : Nat) (n1 : Nat) (gm : Nat) (W' : World), (B6q W' gk (U S) (.int .i64 P) (.int .i64 E) (.int .i64 G) (U I) (U Q)) ∧ (B3q W' gr (.bool false) (.slice none 0 0) (.int .i64 0)) ∧ (Below w.heap.size w W') ∧ (ZR W' t1 (some ⟨k1_, 0, none⟩) n1 (vs H s : Int)) ∧ (n1 ≤ 2200) ∧ (Box W' gm (.bool false) (.slice none 0 0)) ∧ (w.heap.size ≤ gm) ∧ (gk ≠ gm ∧ gr ≠ gm) → WP 3 ((L0.setIfInBounds 2 true).setIfInBounds 8 true) ((a0.put (some 32) (.agg #[.bool t1, .slice (some ⟨k1_, 0, none⟩) n1 n1])).put (some 11) (.pointer (some ⟨gm, 0, none⟩))) W' := by
    rintro t1 k1_ n1 gm W' ⟨xk, xr, hbw, z1, l1, xm, hm, nm⟩
    subst hWP hL ha
    have Hxk := Hid.mk5 xk
    have Hxr := Hid.mk5 xr
    have Hz1 := Hid.mk5 z1
    have Hl1 := Hid.mk5 l1
    have Hxm := Hid.mk5 xm
    have Hhm := Hid.mk5 hm
    have Hnm := Hid.mk5 nm
    clear xk xr z1 l1 xm hm nm
    go_simp
    refine wpJ_on 6 rfl fun KJ hK => ?_
    go_simp
    refine (HW.out (s + 1) W').mono ?_
    rintro e9 W2 ⟨v, rfl, ⟨t2, k2_, n2, rfl, hg, hz, hl⟩, hb⟩
    rw [HV1.out.2] at hz
    refine hK _ _ ⟨(Hxk.out.below hb).c0, (Hxk.out.below hb).c1, (Hxk.out.below hb).c2, (Hxk.out.below hb).c3, (Hxk.out.below hb).c4, (Hxk.out.below hb).c5⟩ ?_
    exact wpJ_same5 (by kernel_rfl) (by kernel_rfl) (N2_6_8 t1 k1_ n1 t2 k2_ n2 gm W2 ⟨(Hxk.out.below hb), (Hxr.out.below hb), (Below.on hbw hb), (Hz1.out.below hb), Hl1.out, hz, hl, (Hxm.out.below hb), Hhm.out, Hnm.out⟩)
  have N2 : ∀ (t1 : Bool) (k1_ : Nat) (n1 : Nat) (W' : World), (B6q W' gk (U S) (.int .i64 P) (.int .i64 E) (.int .i64 G) (U I) (U Q)) ∧ (B3q W' gr (.bool false) (.slice none 0 0) (.int .i64 0)) ∧ (Below w.heap.size w W') ∧ (ZR W' t1 (some ⟨k1_, 0, none⟩) n1 (vs H s : Int)) ∧ (n1 ≤ 2200) → WP 4 (L0.setIfInBounds 2 true) (a0.put (some 32) (.agg #[.bool t1, .slice (some ⟨k1_, 0, none⟩) n1 n1])) W' := by
    rintro t1 k1_ n1 W' ⟨xk, xr, hbw, z1, l1⟩
    subst hWP hL ha
    have Hxk := Hid.mk5 xk
    have Hxr := Hid.mk5 xr
    have Hz1 := Hid.mk5 z1
    have Hl1 := Hid.mk5 l1
    clear xk xr z1 l1
    go_simp
    refine wpJ_two (i := 6) (k := 8) (by kernel_rfl) rfl rfl (by kernel_rfl) (by kernel_rfl) (fun KJ hK => ?_) (fun KJ hK => ?_)
    · go_simp
      refine (HW.out (s + 1) W').mono ?_
      rintro e9 W2 ⟨v, rfl, ⟨t2, k2_, n2, rfl, hg, hz, hl⟩, hb⟩
      rw [HV1.out.2] at hz
      refine hK _ _ ⟨(Hxk.out.below hb).c0, (Hxk.out.below hb).c1, (Hxk.out.below hb).c2, (Hxk.out.below hb).c3, (Hxk.out.below hb).c4, (Hxk.out.below hb).c5⟩ ?_
      exact wpJ_same5 (by kernel_rfl) (by kernel_rfl) (N2_6 t1 k1_ n1 t2 k2_ n2 W2 ⟨(Hxk.out.below hb), (Hxr.out.below hb), (Below.on hbw hb), (Hz1.out.below hb), Hl1.out, hz, hl⟩)
    · go_simp
      have hb := below1 W' (.cells #[.bool false, .slice none 0 0] 94)
      refine hK _ _ ⟨(Hxk.out.below hb).c0, (Hxk.out.below hb).c1, (Hxk.out.below hb).c2, (Hxk.out.below hb).c3, (Hxk.out.below hb).c4, (Hxk.out.below hb).c5⟩ ?_
      exact wpJ_same5 (by kernel_rfl) (by kernel_rfl) (N2_8 t1 k1_ n1 W'.heap.size _ ⟨(Hxk.out.below hb), (Hxr.out.below hb), (Below.on hbw hb), (Hz1.out.below hb), Hl1.out, (Box.new W' _ _ _), hbw.size, ⟨Nat.ne_of_lt (World.block_lt_of_cell? W' _ Hxk.out.c0), Nat.ne_of_lt Hxr.out.lt⟩⟩)
  have N8 : ∀ (gm : Nat) (W' : World), (B6q W' gk (U S) (.int .i64 P) (.int .i64 E) (.int .i64 G) (U I) (U Q)) ∧ (B3q W' gr (.bool false) (.slice none 0 0) (.int .i64 0)) ∧ (Below w.heap.size w W') ∧ (Box W' gm (.bool false) (.slice none 0 0)) ∧ (w.heap.size ≤ gm) ∧ (gk ≠ gm ∧ gr ≠ gm) → WP 4 (L0.setIfInBounds 8 true) (a0.put (some 11) (.pointer (some ⟨gm, 0, none⟩))) W' := by
    rintro gm W' ⟨xk, xr, hbw, xm, hm, nm⟩
    subst hWP hL ha
    have Hxk := Hid.mk5 xk
    have Hxr := Hid.mk5 xr
    have Hxm := Hid.mk5 xm
    have Hhm := Hid.mk5 hm
    have Hnm := Hid.mk5 nm
    clear xk xr xm hm nm
    go_simp
    refine wpJ_on 2 rfl fun KJ hK => ?_
    go_simp
    refine (HW.out (s) W').mono ?_
    rintro e9 W2 ⟨v, rfl, ⟨t1, k1_, n1, rfl, hg, hz, hl⟩, hb⟩
    rw [HV1.out.1] at hz
    refine hK _ _ ⟨(Hxk.out.below hb).c0, (Hxk.out.below hb).c1, (Hxk.out.below hb).c2, (Hxk.out.below hb).c3, (Hxk.out.below hb).c4, (Hxk.out.below hb).c5⟩ ?_
    exact wpJ_same5 (by kernel_rfl) (by kernel_rfl) (N2_8 t1 k1_ n1 gm W2 ⟨(Hxk.out.below hb), (Hxr.out.below hb), (Below.on hbw hb), hz, hl, (Hxm.out.below hb), Hhm.out, Hnm.out⟩)
  have N_ : ∀ (W' : World), (B6q W' gk (U S) (.int .i64 P) (.int .i64 E) (.int .i64 G) (U I) (U Q)) ∧ (B3q W' gr (.bool false) (.slice none 0 0) (.int .i64 0)) ∧ (Below w.heap.size w W') → WP 5 L0 a0 W' := by
    rintro  W' ⟨xk, xr, hbw⟩
    subst hWP hL ha
    have Hxk := Hid.mk5 xk
    have Hxr := Hid.mk5 xr
    clear xk xr
    go_simp
    refine wpJ_two (i := 2) (k := 8) (by kernel_rfl) rfl rfl (by kernel_rfl) (by kernel_rfl) (fun KJ hK => ?_) (fun KJ hK => ?_)
    · go_simp
      refine (HW.out (s) W').mono ?_
      rintro e9 W2 ⟨v, rfl, ⟨t1, k1_, n1, rfl, hg, hz, hl⟩, hb⟩
      rw [HV1.out.1] at hz
      refine hK _ _ ⟨(Hxk.out.below hb).c0, (Hxk.out.below hb).c1, (Hxk.out.below hb).c2, (Hxk.out.below hb).c3, (Hxk.out.below hb).c4, (Hxk.out.below hb).c5⟩ ?_
      exact wpJ_same5 (by kernel_rfl) (by kernel_rfl) (N2 t1 k1_ n1 W2 ⟨(Hxk.out.below hb), (Hxr.out.below hb), (Below.on hbw hb), hz, hl⟩)
    · go_simp
      have hb := below1 W' (.cells #[.bool false, .slice none 0 0] 94)
      refine hK _ _ ⟨(Hxk.out.below hb).c0, (Hxk.out.below hb).c1, (Hxk.out.below hb).c2, (Hxk.out.below hb).c3, (Hxk.out.below hb).c4, (Hxk.out.below hb).c5⟩ ?_
      exact wpJ_same5 (by kernel_rfl) (by kernel_rfl) (N8 W'.heap.size _ ⟨(Hxk.out.below hb), (Hxr.out.below hb), (Below.on hbw hb), (Box.new W' _ _ _), hbw.size, ⟨Nat.ne_of_lt (World.block_lt_of_cell? W' _ Hxk.out.c0), Nat.ne_of_lt Hxr.out.lt⟩⟩)
  exact N_ W5 ⟨Xk.out, Xr.out, hbw⟩
theorem all7T {P : Option Addr} {N C : Nat} {its : List Op7} {w : World} {gq K : Nat} {ks : List Int} (h : Scr7 w P N C its) (hk : Kds w gq ks) (hK : ks.length = K) (hK9 : K ≤ 100) (hT : Tab w)
    (hp : ∀ k ∈ ks, ∀ (f : Int) (b : Nat) (neg : Bool) (n : Int) (w : World), Tab w → b < B64 → -9223372036854775808 ≤ n → n ≤ 9223372036854775807 → Calls Tryd.prog 10 #[OV k f b neg n] w fun e w' => e = .returned (.bool true) ∧ Below w.heap.size w w') :
    Calls Tryd.prog 6 #[.slice P N C, .slice (some ⟨gq, 0, none⟩) K K] w fun e w' => e = .returned (.bool true) ∧ Below w.heap.size w w' := by
  have H : Hid (Scr7 w P N C its) := h
  have HK : Hid (Kds w gq ks) := hk
  have HKL : Hid (ks.length = K) := hK
  have HT : Hid (Tab w) := hT
  have HP : Hid (∀ k ∈ ks, ∀ (f : Int) (b : Nat) (neg : Bool) (n : Int) (w : World), Tab w → b < B64 → -9223372036854775808 ≤ n → n ≤ 9223372036854775807 → Calls Tryd.prog 10 #[OV k f b neg n] w fun e w' => e = .returned (.bool true) ∧ Below w.heap.size w w') := hp
  have HLN : Hid (its.length = N) := h.len
  have cap := h.cap; have big := h.big
  unfold maxLen at big
  clear h hk hK hp hT
  go_enter Tryd.func6, Tryd.ntmps6
  go_wp2_with fail
  go_loopg [11] N (fun gg iv wr => ∃ k : Nat, k + gg = N ∧ iv = .int .i64 k ∧ Below w.heap.size w wr)
  case atStart => exact ⟨0, by omega, rfl, Below.refl _ _⟩
  case round =>
    obtain ⟨k, hkg, rfl, hbw⟩ := hrel
    cases gk with
    | zero =>
      obtain rfl : k = N := by omega
      have hnk : ¬ (k : Int) < (k : Int) := by omega
      go_wp2_with fail
      go_ret
      exact ⟨rfl, hbw⟩
    | succ gg =>
      have hki : k < its.length := by rw [HLN.out]; omega
      have HR := H.out.below hbw
      have HKR : Hid (Kds wr gq ks) := HK.out.below hbw
      obtain ⟨g, off, rfl, hc⟩ := HR.cells.resolve_left (by omega)
      obtain ⟨e0, e1, e2, e3, e4⟩ := hc k hki
      obtain ⟨hb9, hn1, hn2⟩ := HR.ats its[k] (List.getElem_mem hki)
      have HB9 : Hid (its[k].b < B64) := hb9
      have HN1 : Hid (-9223372036854775808 ≤ its[k].n) := hn1
      have HN2 : Hid (its[k].n ≤ 9223372036854775807) := hn2
      have HBW : Hid (Below w.heap.size w wr) := hbw
      have hkk : (k : Int) < (N : Int) := by omega
      have hlt : g < wr.heap.size := World.block_lt_of_cell? wr _ e0
      clear hc HR hb9 hn1 hn2 hbw
      generalize its[k].k = kd at *
      generalize its[k].f = f at *
      generalize its[k].b = b at *
      generalize its[k].neg = neg at *
      generalize its[k].n = n at *
      go_wp2_with fail
      clear e0 e1 e2 e3 e4 hlt
      have Y := B5q.new wr 42 (.int .i64 kd) (.int .i64 f) (U b) (.bool neg) (.int .i64 n)
      have hb0 := bwAlloc wr (.cells #[.int .i64 kd, .int .i64 f, U b, .bool neg, .int .i64 n] 42)
      generalize wr.alloc (.cells #[.int .i64 kd, .int .i64 f, U b, .bool neg, .int .i64 n] 42) = Wo at *
      obtain ⟨go, hgo⟩ : ∃ go, go = wr.heap.size := ⟨_, rfl⟩
      rw [← hgo] at Y ⊢
      clear hgo
      have HY : Hid (B5q Wo go (.int .i64 kd) (.int .i64 f) (U b) (.bool neg) (.int .i64 n)) := Y
      have HKO : Hid (Kds Wo gq ks) := HKR.out.below hb0
      have HBO : Hid (Below w.heap.size w Wo) := bwOn HBW.out hb0
      clear Y hb0 HKR HBW
      go_loopg [17] K (fun gk iv wr => ∃ j : Nat, j + gk = K ∧ iv = .int .i64 j ∧ Below Wo.heap.size Wo wr)
      case atStart => exact ⟨0, by omega, rfl, Below.refl _ _⟩
      case round =>
        obtain ⟨j, hjg, rfl, hbz⟩ := hrel
        cases gk with
        | zero =>
          obtain rfl : j = K := by omega
          have hnj : ¬ (j : Int) < (j : Int) := by omega
          have hbw2 := bwOn HBO.out hbz
          clear hbz
          go_wp2_with fail
          go_roundg gg
          case measure => omega
          case rel => exact ⟨k + 1, by omega, by go_num, hbw2⟩
        | succ g2 =>
          have hjl : j < ks.length := by rw [HKL.out]; omega
          have hjj : (j : Int) < (K : Int) := by omega
          have hkc := (HKO.out.below hbz).c j hjl
          have HPK : Hid (ks[j] ∈ ks) := List.getElem_mem hjl
          obtain ⟨y0, y1, y2, y3, y4, y5, y6, y7, y8, y9⟩ := HY.out.below hbz
          have HBZ : Hid (Below Wo.heap.size Wo wr) := hbz
          have HTR : Hid (Tab wr) := HT.out.below (bwOn HBO.out hbz)
          generalize ks[j] = kv at *
          have hwj : IntKind.i64.wrap (j : Int) = (j : Int) := by simp [IntKind.wrap, IntKind.signed, IntKind.bits]; omega
          clear hjl hbz
          by_cases hkv : kd = kv
          · subst hkv
            have hkb : (kd == kd) = true := by simp
            go_wp2_with fail
            refine (HP.out kd HPK.out f b neg n _ HTR.out HB9.out HN1.out HN2.out).mono ?_
            rintro e wz ⟨rfl, hbq⟩
            have hbz2 := bwOn HBZ.out hbq
            clear hbq hkc y0 y1 y2 y3 y4 y5 y6 y7 y8 y9
            go_wp2_with fail
            go_roundg g2
            case measure => omega
            case rel => exact ⟨j + 1, by omega, by go_num, hbz2⟩
          · have hkb : (kd == kv) = false := by simp [hkv]
            go_wp2_with fail
            go_roundg g2
            case measure => omega
            case rel => exact ⟨j + 1, by omega, by go_num, HBZ.out⟩
def MidB (f : Int) (b : Nat) : Prop := ∃ er z e : Int, (∀ w, Tab w → Calls Tryd.prog 4 #[.int .i64 f, U b] w fun en w' => ∃ s p m c, en = .returned (.tuple #[DV s p m c e, .int .i64 er]) ∧ DN w' s p m c e z ∧ Below w.heap.size w w') ∧ (∀ w, Calls Tryd.prog 24 #[.int .i64 f, U b] w fun en w' => ∃ s p m c, en = .returned (.tuple #[DV s p m c e, .int .i64 er]) ∧ DN w' s p m c e z ∧ Below w.heap.size w w')
theorem dn_z0 (w : World) : DN w false none 0 0 0 0 := ⟨⟨⟨[], ⟨At.empty w none 0 (Nat.zero_le _), Nf.nil _, by omega⟩⟩, rfl⟩, .inl ⟨rfl, rfl⟩⟩
theorem mid_err {f er : Int} {b : Nat} (he : er ≠ 0) (h1 : ∀ w, Calls Tryd.prog 11 #[.int .i64 f, U b] w fun e w' => e = .returned (.tuple #[PV 0 0 0 false 0, .int .i64 er]) ∧ Below w.heap.size w w') (h2 : ∀ w, Calls Tryd.prog 42 #[.int .i64 f, U b] w fun e w' => e = .returned (.int .i64 er) ∧ Below w.heap.size w w') : MidB f b :=
  ⟨er, 0, 0, fun w _ => (mid_e h1 he w).mono fun _ w' ⟨h3, h4⟩ => ⟨_, _, _, _, h3, dn_z0 w', h4⟩, fun w => (rmid_e h2 he w).mono fun _ w' ⟨h3, h4⟩ => ⟨_, _, _, _, h3, dn_z0 w', h4⟩⟩
theorem mid_fmt {f p m l P G : Int} {S I Q H : Nat} (F : Pm f p m l S I H) (R : Rf f S P l G I Q) (wh : ∀ (b : Nat) w, Calls Tryd.prog 45 #[FV S P l G I Q, U b] w fun en w' => ∃ v, en = .returned v ∧ GotR w.heap.size w' v (svS S H b) 2200 ∧ Below w.heap.size w w') (hc : I < S ∧ S ≤ 9223372036854775808) {b : Nat} (hb9 : b < B64) : MidB f b := by
  by_cases h1 : b < 2 * S
  · by_cases h2 : b % S < I
    · have hp := F.hp
      have hlo := F.lo
      have hst := F.st _ h2
      refine ⟨0, iv (decide (S ≤ b)) (2 * (b % S - (b % S / H - 1) * H) + 1), l - 1 + ((b % S / H - 1 : Nat) : Int), fun w hT => ?_, fun w => ?_⟩
      · refine (mid_ok F b _ _ h1 h2 rfl rfl w hT).mono fun en w' ⟨h3, h4⟩ => ?_
        have hodd : iv (decide (S ≤ b)) (2 * (b % S - (b % S / H - 1) * H) + 1) % 2 = 1 := by
          cases decide (S ≤ b)
          · rw [iv_f]; omega
          · rw [iv_t]; omega
        have hf : DFm (iv (decide (S ≤ b)) (2 * (b % S - (b % S / H - 1) * H) + 1)) (l - 1 + ((b % S / H - 1 : Nat) : Int)) := .inr ⟨hodd, by omega, by omega⟩
        obtain ⟨v, h5, h6⟩ := h3.form hf (by rw [show l - 1 + ((b % S / H - 1 : Nat) : Int) = l + ((b % S / H - 1 : Nat) : Int) - 1 from by omega])
        obtain ⟨s, p, m, rfl, h7⟩ := h6.dn hf
        exact ⟨s, p, m, m, h5, h7, h4⟩
      · refine (rmid_o R wh b h1 h2 ⟨hc.1, hc.2, hp, hlo.1, hlo.2⟩ hst w).mono ?_
        rintro en w' ⟨g, m', c', rfl, h3, h4⟩
        exact ⟨_, _, _, _, rfl, h3, h4⟩
    · have h3 : I ≤ b % S := by omega
      refine mid_err (er := 6) (by decide) (fun w => ?_) (fun w => rfin_i R b h1 h3 (by omega) hc.2 w)
      rcases Nat.eq_or_lt_of_le h3 with h4 | h4
      · exact finite_i F b h1 h4.symm w
      · exact finite_e (fun w => ranked_nan F.fm b h1 h4 w) (by decide) w
  · exact mid_err (er := 2) (by decide) (fun w => finite_e (fun w => ranked_bad (fun w => F.fm.big b w hb9 (by omega)) (by decide) w) (by decide) w) (fun w => rfin_b R b hb9 (by omega) w)
theorem mid_all (f : Int) {b : Nat} (hb9 : b < B64) : MidB f b := by
  by_cases h1 : f = 32
  · subst h1; exact mid_fmt pm_32 rf_32 (fun b w => rwhole_32 w) (by decide) hb9
  by_cases h2 : f = 64
  · subst h2; exact mid_fmt pm_64 rf_64 (fun b w => rwhole_64 w) (by decide) hb9
  · exact mid_err (er := 1) (by decide) (fun w => finite_e (fun w => ranked_bad (fun w => patternOf_x f h1 h2 b w) (by decide) w) (by decide) w) (fun w => rfin_x f h1 h2 b w)
theorem bplays_8 {f : Int} {b : Nat} {neg : Bool} {n : Int} (hb9 : b < B64) (w : World) (hT : Tab w) :
    Calls Tryd.prog 10 #[OV 8 f b neg n] w fun en w' => en = .returned (.bool true) ∧ Below w.heap.size w w' := by
  obtain ⟨er, z, e, h1, h2⟩ := mid_all f hb9
  have H1 : Hid (∀ w, Tab w → Calls Tryd.prog 4 #[.int .i64 f, U b] w fun en w' => ∃ s p m c, en = .returned (.tuple #[DV s p m c e, .int .i64 er]) ∧ DN w' s p m c e z ∧ Below w.heap.size w w') := h1
  have H2 : Hid (∀ w, Calls Tryd.prog 24 #[.int .i64 f, U b] w fun en w' => ∃ s p m c, en = .returned (.tuple #[DV s p m c e, .int .i64 er]) ∧ DN w' s p m c e z ∧ Below w.heap.size w w') := h2
  have TB : Hid (Tab w) := hT
  have he : (er == er) = true := by simp
  clear h1 h2 hb9 hT
  go_enter Tryd.func10, Tryd.ntmps10
  go_wp2_with fail
  obtain ⟨W0, hW0⟩ : ∃ W0, W0 = (w.alloc (.cells #[.int .i64 8, .int .i64 f, U b, .bool neg, .int .i64 n] 42)) := ⟨_, rfl⟩
  have Xo : Hid (B5q W0 (w.heap.size) (.int .i64 8) (.int .i64 f) (U b) (.bool neg) (.int .i64 n)) := by rw [hW0]; exact ⟨by go_simp, by go_simp, by go_simp, by go_simp, by go_simp, by go_simp, by go_simp, by go_simp, by go_simp, by go_simp⟩
  have hb0 : Below w.heap.size w W0 := by rw [hW0]; exact below1 w _
  rw [← hW0]
  clear hW0
  have hbw : Below w.heap.size w w := Below.refl _ _
  obtain ⟨go, hgo⟩ : ∃ g, g = w.heap.size := ⟨_, rfl⟩
  have HGo : Hid (w.heap.size ≤ go) := by rw [hgo]; show _ ≤ _; omega
  rw [← hgo] at Xo
  try rw [← hgo]
  clear hgo
  replace hbw := Below.on hbw hb0
  clear hb0
  obtain ⟨co0, co1, co2, co3, co4, fo0, fo1, fo2, fo3, fo4⟩ := Xo.out
  have hneo : go < W0.heap.size := World.block_lt_of_cell? W0 _ co0
  go_wp2_with fail
  clear co0 co1 co2 co3 co4 fo0 fo1 fo2 fo3 fo4 hneo
  refine (H1.out _ (TB.out.below hbw)).mono ?_
  rintro e2 v1 ⟨s1, p1, m1, c1, rfl, hd1, hb1⟩
  replace Xo : Hid _ := Xo.out.below hb1
  replace hbw := Below.on hbw hb1
  clear hb1
  have D1 : Hid (DN v1 s1 p1 m1 c1 e z) := hd1
  clear hd1
  obtain ⟨co0, co1, co2, co3, co4, fo0, fo1, fo2, fo3, fo4⟩ := Xo.out
  have hneo : go < v1.heap.size := World.block_lt_of_cell? v1 _ co0
  go_wp2_with fail
  clear co0 co1 co2 co3 co4 fo0 fo1 fo2 fo3 fo4 hneo
  have Xv0 : Hid (B3q (v1.alloc (.cells #[.bool s1, .slice p1 m1 c1, .int .i64 e] 27)) v1.heap.size (.bool s1) (.slice p1 m1 c1) (.int .i64 e)) := B3q.new v1 _ _ _ _
  have hbn : Below v1.heap.size v1 (v1.alloc (.cells #[.bool s1, .slice p1 m1 c1, .int .i64 e] 27)) := below1 v1 _
  generalize v1.alloc (.cells #[.bool s1, .slice p1 m1 c1, .int .i64 e] 27) = Wv at *
  have HGv : Hid (w.heap.size ≤ v1.heap.size) := hbw.size
  replace Xo : Hid _ := Xo.out.below hbn
  replace D1 : Hid _ := D1.out.below hbn
  replace hbw := Below.on hbw hbn
  clear hbn
  generalize v1.heap.size = gv at *
  have Xv := Xv0
  clear Xv0
  refine (H2.out _).mono ?_
  rintro e2 v2 ⟨s2, p2, m2, c2, rfl, hd2, hb2⟩
  replace Xo : Hid _ := Xo.out.below hb2
  replace Xv : Hid _ := Xv.out.below hb2
  replace D1 : Hid _ := D1.out.below hb2
  replace hbw := Below.on hbw hb2
  clear hb2
  have D2 : Hid (DN v2 s2 p2 m2 c2 e z) := hd2
  clear hd2
  obtain ⟨cv0, cv1, cv2, fv0, fv1, fv2⟩ := Xv.out
  have hnev : gv < v2.heap.size := World.block_lt_of_cell? v2 _ cv0
  go_wp2_with fail
  clear cv0 cv1 cv2 fv0 fv1 fv2 hnev
  have Xu0 : Hid (B3q (v2.alloc (.cells #[.bool s2, .slice p2 m2 c2, .int .i64 e] 27)) v2.heap.size (.bool s2) (.slice p2 m2 c2) (.int .i64 e)) := B3q.new v2 _ _ _ _
  have hbn : Below v2.heap.size v2 (v2.alloc (.cells #[.bool s2, .slice p2 m2 c2, .int .i64 e] 27)) := below1 v2 _
  generalize v2.alloc (.cells #[.bool s2, .slice p2 m2 c2, .int .i64 e] 27) = Wu at *
  have HGu : Hid (w.heap.size ≤ v2.heap.size) := hbw.size
  replace Xo : Hid _ := Xo.out.below hbn
  replace Xv : Hid _ := Xv.out.below hbn
  replace D1 : Hid _ := D1.out.below hbn
  replace D2 : Hid _ := D2.out.below hbn
  replace hbw := Below.on hbw hbn
  clear hbn
  generalize v2.heap.size = gu at *
  have Xu := Xu0
  clear Xu0
  refine (same7 D1.out D2.out).mono ?_
  rintro e v3 ⟨rfl, hb3⟩
  replace Xo : Hid _ := Xo.out.below hb3
  replace Xv : Hid _ := Xv.out.below hb3
  replace Xu : Hid _ := Xu.out.below hb3
  replace D1 : Hid _ := D1.out.below hb3
  replace D2 : Hid _ := D2.out.below hb3
  replace hbw := Below.on hbw hb3
  clear hb3
  go_wp2_with fail
  go_ret
  exact ⟨rfl, hbw⟩
theorem at_1 (w : World) (ty : TypeId) : At (w.alloc (.cells #[.int .u64 1] ty)) (some ⟨w.heap.size, 0, none⟩) 1 1 [1] := by
  refine ⟨rfl, Nat.le_refl _, by unfold maxLen; omega, Dig.cons (by decide) (Dig.nil _), .inr ⟨w.heap.size, 0, rfl, fun j hj => ?_⟩⟩
  obtain rfl : j = 0 := by omega
  go_simp
theorem dn_one {w : World} {s : Bool} {p : Option Addr} {m c : Nat} {e : Int} (h : DN w s p m c e (-1)) : s = true ∧ At w p m c [1] := by
  obtain ⟨xs, hX⟩ := h.zn.ex
  have h1 : Nf B64 [1] 1 := ⟨Dig.cons (by decide) (Dig.nil _), by intro x hx; simp at hx; omega, by simp [valB]⟩
  have h2 : xs = [1] := hX.nf.inj B64_one h1
  rw [h2] at hX
  exact ⟨h.zn.sg, hX.at_⟩
theorem binaryMids_walk {P : Option Addr} {N C : Nat} {its : List Op7} {w : World} (h : Scr7 w P N C its) (hT : Tab w) :
    Calls Tryd.prog 3 #[.slice P N C] w fun en w' => en = .returned (.bool true) ∧ Below w.heap.size w w' := by
  have H : Hid (Scr7 w P N C its) := h
  have TB : Hid (Tab w) := hT
  clear h hT
  go_enter Tryd.func3, Tryd.ntmps3
  go_wp2_with fail
  have hbw : Below w.heap.size w w := Below.refl _ _
  refine (mid_ok pm_64 9223372036854775808 1 (-1075) (by decide) (by decide) (by decide) (by decide) _ TB.out).mono ?_
  rintro e2 v1 ⟨hm, hb1⟩
  have hf : DFm (-1) (-1075) := .inr ⟨by decide, by decide, by decide⟩
  obtain ⟨v, rfl, hv⟩ := hm.form hf rfl
  obtain ⟨s1, p1, m1, rfl, hd1⟩ := hv.dn hf
  obtain ⟨rfl, ha1⟩ := dn_one hd1
  clear hm hv hf hd1
  replace hbw := Below.on hbw hb1
  clear hb1
  have A1 : Hid (At v1 p1 m1 m1 [1]) := ha1
  clear ha1
  go_wp2_with fail
  rw [show v1.heap.size + 1 = (v1.alloc (.cells #[.bool true, .slice p1 m1 m1, .int .i64 (-1075)] 27)).heap.size from by simp]
  have hbv := below1 v1 (.cells #[.bool true, .slice p1 m1 m1, .int .i64 (-1075)] 27)
  generalize v1.alloc (.cells #[.bool true, .slice p1 m1 m1, .int .i64 (-1075)] 27) = Wv at *
  replace A1 : Hid _ := A1.out.below hbv
  replace hbw := Below.on hbw hbv
  clear hbv
  have ha := at_1 Wv 32
  have hbn := below1 Wv (.cells #[.int .u64 1] 32)
  generalize Wv.alloc (.cells #[.int .u64 1] 32) = Wl at *
  generalize (some ⟨Wv.heap.size, 0, none⟩ : Option Addr) = pl at *
  replace A1 : Hid _ := A1.out.below hbn
  replace hbw := Below.on hbw hbn
  clear hbn
  have A2 : Hid (At Wl pl 1 1 [1]) := ha
  clear ha
  refine (same_t A1.out A2.out).mono ?_
  rintro e v3 ⟨rfl, hb3⟩
  replace A1 : Hid _ := A1.out.below hb3
  replace A2 : Hid _ := A2.out.below hb3
  replace hbw := Below.on hbw hb3
  clear hb3
  clear A1
  clear A2
  go_wp2_with fail
  have hbk := below1 v3 (.cells #[.int .i64 8] 3)
  have hk : Kds (v3.alloc (.cells #[.int .i64 8] 3)) v3.heap.size [8] := by
    refine ⟨fun j hj => ?_, by simp⟩
    match j, hj with
    | 0, _ => go_simp
  refine (all7T (H.out.below (Below.on hbw hbk)) hk rfl (by decide) (TB.out.below (Below.on hbw hbk)) ?_).mono ?_
  · intro k hk f b neg n w hT hb _ _
    simp only [List.mem_cons, List.not_mem_nil, or_false] at hk
    subst hk
    exact bplays_8 hb w hT
  rintro e w9 ⟨rfl, hb9⟩
  have hbz := Below.on (Below.on hbw hbk) hb9
  clear hk hbk hb9
  go_wp2_with fail
  go_ret
  exact ⟨rfl, hbz⟩
end Go.Proofs.YtlbdffnjeoinfaaDoor
