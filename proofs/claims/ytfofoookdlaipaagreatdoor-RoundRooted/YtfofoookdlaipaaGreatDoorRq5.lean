import Derived.Test.YtfofoookdlaipaaGreatDoorRq3
namespace Go.Proofs.YtfofoookdlaipaaGreatDoor
open Go.RowKit Go.Shelf

theorem and_one_i64 (z : Int) : bits BinOp.and IntKind.i64 z 1 = z % 2 := by
  have h1 : (BitVec.ofInt 64 1).toNat = 2 ^ 1 - 1 := by decide
  have key : (BitVec.ofInt 64 z &&& BitVec.ofInt 64 1).toNat = (z % ((2 ^ 64 : Nat) : Int)).toNat % 2 ^ 1 := by
    rw [BitVec.toNat_and, BitVec.toNat_ofInt, h1, Nat.and_two_pow_sub_one_eq_mod]
  show IntKind.i64.wrap ((BitVec.ofInt 64 z &&& BitVec.ofInt 64 1).toNat : Nat) = _
  rw [key]
  simp only [IntKind.wrap, IntKind.signed, IntKind.bits]
  simp
  omega
theorem root_big {x sd P F : Nat} (hx : x ≠ 0) (hP : 2 * (sd + 2) ≤ bitsN x + P) (h : 2 ^ P * x ≤ F * F + 2 * F) : 2 * 2 ^ sd ≤ F := by
  refine Nat.le_of_not_lt fun hlt => ?_
  have h2 := bitsN_le x hx
  have h3 := bitsN_pos hx
  have h4 : 2 ^ (2 * sd + 3) ≤ 2 ^ P * x := by
    have h5 : 2 ^ (2 * sd + 3) ≤ 2 ^ (P + (bitsN x - 1)) := Nat.pow_le_pow_right (by omega) (by omega)
    have h6 : 2 ^ P * 2 ^ (bitsN x - 1) ≤ 2 ^ P * x := Nat.mul_le_mul_left _ h2
    rw [← Nat.pow_add] at h6
    omega
  have h7 : (F + 1) * (F + 1) ≤ 2 * 2 ^ sd * (2 * 2 ^ sd) := Nat.mul_le_mul hlt hlt
  have h8 : 2 * 2 ^ sd * (2 * 2 ^ sd) * 2 = 2 ^ (2 * sd + 3) := by
    rw [← Nat.pow_succ', ← Nat.pow_add, ← Nat.pow_succ]; congr 1; omega
  have h9 : (F + 1) * (F + 1) = F * F + 2 * F + 1 := by rw [Nat.add_mul, Nat.mul_add]; omega
  omega
theorem w64_of {z : Int} (h1 : -4611686018427387904 ≤ z) (h2 : z ≤ 4611686018427387904) : wrap64 z = z := by simp only [wrap64]; omega
theorem wi64_of {z : Int} (h1 : -4611686018427387904 ≤ z) (h2 : z ≤ 4611686018427387904) : IntKind.i64.wrap z = z := by simp [IntKind.wrap, IntKind.signed, IntKind.bits]; omega
theorem root_lim {x P : Nat} (h : bitsN x + P ≤ 524000) (F : Nat) (hF : F * F ≤ 2 ^ P * x) : 2 * F + 1 < LIM := by
  have h3 : 4 * 2 ^ (P + bitsN x) ≤ LIM := by
    obtain ⟨n, hn⟩ : ∃ n, n = 524288 := ⟨_, rfl⟩
    rw [LIM_two n hn, show 4 * 2 ^ (P + bitsN x) = 2 ^ (P + bitsN x + 2) from by rw [Nat.pow_add _ _ 2, Nat.mul_comm]]
    exact Nat.pow_le_pow_right (by omega) (by omega)
  have h2 : 2 ^ P * x < 2 ^ (P + bitsN x) := by
    rw [Nat.pow_add]
    exact Nat.mul_lt_mul_of_pos_left (bitsN_lt _) (Nat.pow_pos (by omega))
  generalize 2 ^ (P + bitsN x) = Y at h2 h3
  generalize 2 ^ P * x = X at hF h2
  have h5 : F ≤ F * F := by
    rcases Nat.eq_zero_or_pos F with h6 | h6
    · rw [h6]; omega
    · exact Nat.le_mul_of_pos_left F h6
  omega
set_option maxRecDepth 20000 in
set_option maxHeartbeats 8000000 in
theorem root_s {f p m l : Int} {S I H sd : Nat} {Be : Int} (J : Jn f p m l S I H sd Be) (_hmd : m = (sd : Int) + 1) {pa : Option Addr} {na ca : Nat} {w : World} {x e : Int} {s : Bool} (h : DN w s pa na ca e x) (hla : na ≤ 4096) (hT : Tab w) (hx : x < 0) :
    Calls Tryz.prog 33 #[.int .i64 f, DV s pa na ca e] w fun en w' => en = .returned (.tuple #[.int .u64 0, .int .i64 3]) ∧ Below w.heap.size w w' := by
  have HJN : Hid (Jn f p m l S I H sd Be) := J
  have A : Hid (DN w s pa na ca e x) := h
  have HLL : Hid (na ≤ 4096) := hla
  have TB : Hid (Tab w) := hT
  have HSX : Hid (sgnI x = -1) := by show sgnI x = -1; rcases sgn3 x with ⟨_, h2⟩ | ⟨h1, _⟩ | ⟨h1, h2⟩ <;> omega
  clear J _hmd h hla hT hx
  go_enter Tryz.func33, Tryz.ntmps33
  go_wp2_with fail
  obtain ⟨W0, hW0⟩ : ∃ W0, W0 = (w.alloc (.cells #[.bool s, .slice pa na ca, .int .i64 e] 34)) := ⟨_, rfl⟩
  have Xa : Hid (B3q W0 (w.heap.size) (.bool s) (.slice pa na ca) (.int .i64 e)) := by rw [hW0]; exact ⟨by go_simp, by go_simp, by go_simp, by go_simp, by go_simp, by go_simp⟩
  have hb0 : Below w.heap.size w W0 := by rw [hW0]; exact below1 w _
  rw [← hW0]
  clear hW0
  have hbw : Below w.heap.size w w := Below.refl _ _
  obtain ⟨ga, hga⟩ : ∃ g, g = w.heap.size := ⟨_, rfl⟩
  have HGa : Hid (w.heap.size ≤ ga) := by rw [hga]; show _ ≤ _; omega
  rw [← hga] at Xa
  try rw [← hga]
  clear hga
  replace hbw := Below.on hbw hb0
  clear hb0
  refine (HJN.out.jm.pm.fm.of _).mono ?_
  rintro e v1 ⟨rfl, hb1⟩
  replace Xa : Hid _ := Xa.out.below hb1
  replace hbw := Below.on hbw hb1
  clear hb1
  obtain ⟨ca0, ca1, ca2, fa0, fa1, fa2⟩ := Xa.out
  have hnea : ga < v1.heap.size := World.block_lt_of_cell? v1 _ ca0
  go_wp2_with fail
  clear ca0 ca1 ca2 fa0 fa1 fa2 hnea
  have Xg0 : Hid (B3q (v1.alloc (.cells #[.int .i64 p, .int .i64 m, .int .i64 l] 71)) v1.heap.size (.int .i64 p) (.int .i64 m) (.int .i64 l)) := B3q.new v1 _ _ _ _
  have hbn : Below v1.heap.size v1 (v1.alloc (.cells #[.int .i64 p, .int .i64 m, .int .i64 l] 71)) := below1 v1 _
  generalize v1.alloc (.cells #[.int .i64 p, .int .i64 m, .int .i64 l] 71) = Wg at *
  have HGg : Hid (w.heap.size ≤ v1.heap.size) := hbw.size
  replace Xa : Hid _ := Xa.out.below hbn
  replace hbw := Below.on hbw hbn
  clear hbn
  generalize v1.heap.size = gg at *
  have Xg := Xg0
  clear Xg0
  refine (dform_t (A.out.below hbw)).mono ?_
  rintro e v2 ⟨rfl, hb2⟩
  replace Xa : Hid _ := Xa.out.below hb2
  replace Xg : Hid _ := Xg.out.below hb2
  replace hbw := Below.on hbw hb2
  clear hb2
  obtain ⟨ca0, ca1, ca2, fa0, fa1, fa2⟩ := Xa.out
  have hnea : ga < v2.heap.size := World.block_lt_of_cell? v2 _ ca0
  obtain ⟨cg0, cg1, cg2, fg0, fg1, fg2⟩ := Xg.out
  have hneg : gg < v2.heap.size := World.block_lt_of_cell? v2 _ cg0
  go_wp2_with fail
  clear ca0 ca1 ca2 fa0 fa1 fa2 hnea
  clear cg0 cg1 cg2 fg0 fg1 fg2 hneg
  refine (zsign (A.out.zn.below hbw)).mono ?_
  rintro e v4 ⟨rfl, hb4⟩
  rw [HSX.out]
  replace Xa : Hid _ := Xa.out.below hb4
  replace Xg : Hid _ := Xg.out.below hb4
  replace hbw := Below.on hbw hb4
  clear hb4
  obtain ⟨ca0, ca1, ca2, fa0, fa1, fa2⟩ := Xa.out
  have hnea : ga < v4.heap.size := World.block_lt_of_cell? v4 _ ca0
  obtain ⟨cg0, cg1, cg2, fg0, fg1, fg2⟩ := Xg.out
  have hneg : gg < v4.heap.size := World.block_lt_of_cell? v4 _ cg0
  go_wp2_with fail
  clear ca0 ca1 ca2 fa0 fa1 fa2 hnea
  clear cg0 cg1 cg2 fg0 fg1 fg2 hneg
  go_ret2
  exact ⟨rfl, hbw⟩
set_option maxRecDepth 20000 in
set_option maxHeartbeats 8000000 in
theorem root_z {f p m l : Int} {S I H sd : Nat} {Be : Int} (J : Jn f p m l S I H sd Be) (hmd : m = (sd : Int) + 1) {pa : Option Addr} {na ca : Nat} {w : World} {x e : Int} {s : Bool} (h : DN w s pa na ca e x) (hla : na ≤ 4096) (hT : Tab w) (hx : x = 0) :
    Calls Tryz.prog 33 #[.int .i64 f, DV s pa na ca e] w fun en w' => en = .returned (.tuple #[.int .u64 0, .int .i64 0]) ∧ Below w.heap.size w w' := by
  have HJN : Hid (Jn f p m l S I H sd Be) := J
  have A : Hid (DN w s pa na ca e x) := h
  have HLL : Hid (na ≤ 4096) := hla
  have TB : Hid (Tab w) := hT
  have hsg : (decide (sgnI x < 0)) = false := by
    refine decide_eq_false ?_
    rcases sgn3 x with ⟨_, h2⟩ | ⟨h1, _⟩ | ⟨h1, h2⟩ <;> omega
  obtain ⟨sx, hsx⟩ : ∃ sx, sx = sgnI x := ⟨_, rfl⟩
  rw [← hsx] at hsg
  have HSX : Hid (sgnI x = sx) := hsx.symm
  have hsl := J.jm.sl
  obtain ⟨xs, hX⟩ := h.zn.ex
  have HX : Hid (Num w pa na ca xs x.natAbs) := hX
  obtain ⟨L1, hL1⟩ : ∃ L1, L1 = bitsN x.natAbs := ⟨_, rfl⟩
  have hb1 := half_bits h.zn hla
  rw [← hL1] at hb1
  have HBX : Hid (bitsN (valB B64 xs) = L1) := by rw [hL1, hX.nf.val]; rfl
  obtain ⟨D1, hD1⟩ : ∃ D1 : Int, D1 = 2 * (m + 1) := ⟨_, rfl⟩
  obtain ⟨D2, hD2⟩ : ∃ D2 : Int, D2 = D1 - L1 := ⟨_, rfl⟩
  obtain ⟨P0, hP0⟩ : ∃ P0 : Nat, (P0 : Int) = max D2 0 := ⟨(max D2 0).toNat, by omega⟩
  have HM9 : Hid (0 ≤ m ∧ m ≤ 1000) := by show _ ∧ _; omega
  have hfe : -1048576 ≤ e ∧ e ≤ 1048576 := by rcases h.fm with ⟨_, h2⟩ | ⟨_, h2, h3⟩ <;> omega
  have hP0b : P0 ≤ 200 ∧ 2 * (sd + 2) ≤ L1 + P0 := by omega
  have b1 : -4611686018427387904 ≤ D1 ∧ D1 ≤ 4611686018427387904 := by omega
  have b2 : -4611686018427387904 ≤ D2 ∧ D2 ≤ 4611686018427387904 := by omega
  have HMX : max D2 0 = (P0 : Int) := hP0.symm
  clear hP0
  obtain ⟨D3, hD3⟩ : ∃ D3 : Int, D3 = e - P0 := ⟨_, rfl⟩
  obtain ⟨D4, hD4⟩ : ∃ D4 : Nat, (D4 : Int) = D3 % 2 := ⟨(D3 % 2).toNat, by omega⟩
  have hD4b : D4 ≤ 1 := by omega
  obtain ⟨P, hP⟩ : ∃ P : Nat, P = P0 + D4 := ⟨_, rfl⟩
  have hPP : (P0 : Int) + (D4 : Int) = (P : Int) := by omega
  obtain ⟨E1, hE1⟩ : ∃ E1 : Int, E1 = e - P := ⟨_, rfl⟩
  obtain ⟨E2, hE2⟩ : ∃ E2 : Int, E1 = 2 * E2 := ⟨E1 / 2, by omega⟩
  obtain ⟨E3, hE3⟩ : ∃ E3 : Int, E3 = E2 - 1 := ⟨_, rfl⟩
  have b3 : -4611686018427387904 ≤ D3 ∧ D3 ≤ 4611686018427387904 := by omega
  have b4 : -4611686018427387904 ≤ (P : Int) ∧ (P : Int) ≤ 4611686018427387904 := by omega
  have b5 : -4611686018427387904 ≤ E1 ∧ E1 ≤ 4611686018427387904 := by omega
  have b6 : -4611686018427387904 ≤ E2 ∧ E2 ≤ 4611686018427387904 := by omega
  have b7 : -4611686018427387904 ≤ E3 ∧ E3 ≤ 4611686018427387904 := by omega
  have HE : Hid (-4194304 ≤ E3 ∧ E3 ≤ 4194304) := by show _ ∧ _; omega
  have HP : Hid (P ≤ 9223372036854775807 ∧ 2 ^ P * x.natAbs < LIM) := ⟨by omega, shl_lim2 (by rw [← hL1]; omega)⟩
  have HLF : Hid (∀ F : Nat, F * F ≤ 2 ^ P * x.natAbs → 2 * F + 1 < LIM) := root_lim (by rw [hL1] at hb1; omega)
  have HX0 : Hid (x.natAbs = 0) := by rw [hx]; rfl
  have c16 : E1.tdiv 2 = E2 := by rw [hE2]; exact Int.mul_tdiv_cancel_left E2 (by decide)
  have c1 : wrap64 (2 * (m + 1)) = D1 := by rw [← hD1]; exact w64_of b1.1 b1.2
  have c2 : IntKind.i64.wrap (2 * (m + 1)) = D1 := by rw [← hD1]; exact wi64_of b1.1 b1.2
  have c3 : wrap64 (D1 - (L1 : Int)) = D2 := by rw [← hD2]; exact w64_of b2.1 b2.2
  have c4 : IntKind.i64.wrap (D1 - (L1 : Int)) = D2 := by rw [← hD2]; exact wi64_of b2.1 b2.2
  have c5 : wrap64 (e - (P0 : Int)) = D3 := by rw [← hD3]; exact w64_of b3.1 b3.2
  have c6 : IntKind.i64.wrap (e - (P0 : Int)) = D3 := by rw [← hD3]; exact wi64_of b3.1 b3.2
  have c7 : bits BinOp.and IntKind.i64 D3 1 = (D4 : Int) := by rw [and_one_i64]; exact hD4.symm
  have c8 : wrap64 ((P0 : Int) + (D4 : Int)) = (P : Int) := by rw [hPP]; exact w64_of b4.1 b4.2
  have c9 : IntKind.i64.wrap ((P0 : Int) + (D4 : Int)) = (P : Int) := by rw [hPP]; exact wi64_of b4.1 b4.2
  have c10 : wrap64 (e - (P : Int)) = E1 := by rw [← hE1]; exact w64_of b5.1 b5.2
  have c11 : IntKind.i64.wrap (e - (P : Int)) = E1 := by rw [← hE1]; exact wi64_of b5.1 b5.2
  have c12 : wrap64 E2 = E2 := w64_of b6.1 b6.2
  have c13 : IntKind.i64.wrap E2 = E2 := wi64_of b6.1 b6.2
  have c14 : wrap64 (E2 - 1) = E3 := by rw [← hE3]; exact w64_of b7.1 b7.2
  have c15 : IntKind.i64.wrap (E2 - 1) = E3 := by rw [← hE3]; exact wi64_of b7.1 b7.2
  clear J hmd h hla hT hx hsl hX hL1 hb1 hD1 hD2 hP0b hD3 hD4 hD4b hP hPP hE1 hE2 hE3 b1 b2 b3 b4 b5 b6 b7 hfe hsx
  go_enter Tryz.func33, Tryz.ntmps33
  go_wp2_with fail
  obtain ⟨W0, hW0⟩ : ∃ W0, W0 = (w.alloc (.cells #[.bool s, .slice pa na ca, .int .i64 e] 34)) := ⟨_, rfl⟩
  have Xa : Hid (B3q W0 (w.heap.size) (.bool s) (.slice pa na ca) (.int .i64 e)) := by rw [hW0]; exact ⟨by go_simp, by go_simp, by go_simp, by go_simp, by go_simp, by go_simp⟩
  have hb0 : Below w.heap.size w W0 := by rw [hW0]; exact below1 w _
  rw [← hW0]
  clear hW0
  have hbw : Below w.heap.size w w := Below.refl _ _
  obtain ⟨ga, hga⟩ : ∃ g, g = w.heap.size := ⟨_, rfl⟩
  have HGa : Hid (w.heap.size ≤ ga) := by rw [hga]; show _ ≤ _; omega
  rw [← hga] at Xa
  try rw [← hga]
  clear hga
  replace hbw := Below.on hbw hb0
  clear hb0
  refine (HJN.out.jm.pm.fm.of _).mono ?_
  rintro e v1 ⟨rfl, hb1⟩
  replace Xa : Hid _ := Xa.out.below hb1
  replace hbw := Below.on hbw hb1
  clear hb1
  obtain ⟨ca0, ca1, ca2, fa0, fa1, fa2⟩ := Xa.out
  have hnea : ga < v1.heap.size := World.block_lt_of_cell? v1 _ ca0
  go_wp2_with fail
  clear ca0 ca1 ca2 fa0 fa1 fa2 hnea
  have Xg0 : Hid (B3q (v1.alloc (.cells #[.int .i64 p, .int .i64 m, .int .i64 l] 71)) v1.heap.size (.int .i64 p) (.int .i64 m) (.int .i64 l)) := B3q.new v1 _ _ _ _
  have hbn : Below v1.heap.size v1 (v1.alloc (.cells #[.int .i64 p, .int .i64 m, .int .i64 l] 71)) := below1 v1 _
  generalize v1.alloc (.cells #[.int .i64 p, .int .i64 m, .int .i64 l] 71) = Wg at *
  have HGg : Hid (w.heap.size ≤ v1.heap.size) := hbw.size
  replace Xa : Hid _ := Xa.out.below hbn
  replace hbw := Below.on hbw hbn
  clear hbn
  generalize v1.heap.size = gg at *
  have Xg := Xg0
  clear Xg0
  refine (dform_t (A.out.below hbw)).mono ?_
  rintro e v2 ⟨rfl, hb2⟩
  replace Xa : Hid _ := Xa.out.below hb2
  replace Xg : Hid _ := Xg.out.below hb2
  replace hbw := Below.on hbw hb2
  clear hb2
  obtain ⟨ca0, ca1, ca2, fa0, fa1, fa2⟩ := Xa.out
  have hnea : ga < v2.heap.size := World.block_lt_of_cell? v2 _ ca0
  obtain ⟨cg0, cg1, cg2, fg0, fg1, fg2⟩ := Xg.out
  have hneg : gg < v2.heap.size := World.block_lt_of_cell? v2 _ cg0
  go_wp2_with fail
  clear ca0 ca1 ca2 fa0 fa1 fa2 hnea
  clear cg0 cg1 cg2 fg0 fg1 fg2 hneg
  refine (zsign (A.out.zn.below hbw)).mono ?_
  rintro e v4 ⟨rfl, hb4⟩
  rw [HSX.out]
  replace Xa : Hid _ := Xa.out.below hb4
  replace Xg : Hid _ := Xg.out.below hb4
  replace hbw := Below.on hbw hb4
  clear hb4
  obtain ⟨ca0, ca1, ca2, fa0, fa1, fa2⟩ := Xa.out
  have hnea : ga < v4.heap.size := World.block_lt_of_cell? v4 _ ca0
  obtain ⟨cg0, cg1, cg2, fg0, fg1, fg2⟩ := Xg.out
  have hneg : gg < v4.heap.size := World.block_lt_of_cell? v4 _ cg0
  go_wp2_with fail
  clear ca0 ca1 ca2 fa0 fa1 fa2 hnea
  clear cg0 cg1 cg2 fg0 fg1 fg2 hneg
  refine (toolong HLL.out).mono ?_
  rintro e v5 ⟨rfl, hb5⟩
  replace Xa : Hid _ := Xa.out.below hb5
  replace Xg : Hid _ := Xg.out.below hb5
  replace hbw := Below.on hbw hb5
  clear hb5
  obtain ⟨ca0, ca1, ca2, fa0, fa1, fa2⟩ := Xa.out
  have hnea : ga < v5.heap.size := World.block_lt_of_cell? v5 _ ca0
  obtain ⟨cg0, cg1, cg2, fg0, fg1, fg2⟩ := Xg.out
  have hneg : gg < v5.heap.size := World.block_lt_of_cell? v5 _ cg0
  go_wp2_with fail
  clear ca0 ca1 ca2 fa0 fa1 fa2 hnea
  clear cg0 cg1 cg2 fg0 fg1 fg2 hneg
  obtain ⟨W6, hW6⟩ : ∃ W1, W1 = v5.drew := ⟨_, rfl⟩
  have hbd : Below v5.heap.size v5 W6 := by rw [hW6]; exact bDrew1 (Below.refl _ _)
  replace Xa : Hid _ := Xa.out.below hbd
  replace Xg : Hid _ := Xg.out.below hbd
  replace hbw := Below.on hbw hbd
  clear hbd
  have HJ : Hid ((fun W' : World => W'.cell? ⟨gg, 0, none⟩ = some (.int .i64 p) ∧ W'.cell? ⟨gg, 1, none⟩ = some (.int .i64 m) ∧ W'.cell? ⟨gg, 2, none⟩ = some (.int .i64 l) ∧ W'.cell? ⟨ga, 0, none⟩ = some (.bool s) ∧ W'.cell? ⟨ga, 1, none⟩ = some (.slice pa na ca) ∧ W'.cell? ⟨ga, 2, none⟩ = some (.int .i64 e)) W6) := ⟨Xg.out.c0, Xg.out.c1, Xg.out.c2, Xa.out.c0, Xa.out.c1, Xa.out.c2⟩
  refine wp_region_J (fun W' => W'.cell? ⟨gg, 0, none⟩ = some (.int .i64 p) ∧ W'.cell? ⟨gg, 1, none⟩ = some (.int .i64 m) ∧ W'.cell? ⟨gg, 2, none⟩ = some (.int .i64 l) ∧ W'.cell? ⟨ga, 0, none⟩ = some (.bool s) ∧ W'.cell? ⟨ga, 1, none⟩ = some (.slice pa na ca) ∧ W'.cell? ⟨ga, 2, none⟩ = some (.int .i64 e)) (by kernel_rfl) ?_
  rw [← hW6]
  clear hW6
  refine wpJ_take (i := 0) (v := ?v1x0) rfl (by kernel_rfl) (by kernel_rfl) (by kernel_rfl) (fun _ _ _ h => h) (by kernel_rfl) ?hy1x0 HJ.out ?rest1x0
  case hy1x0 => (intro W' hJ; obtain ⟨j0, j1, j2, j3, j4, j5⟩ := hJ; go_simp; first | done | with_reducible rfl)
  refine wpJ_take (i := 3) (v := ?v2x3) rfl (by kernel_rfl) (by kernel_rfl) (by kernel_rfl) (fun _ _ _ h => h) (by kernel_rfl) ?hy2x3 HJ.out ?rest2x3
  case hy2x3 => (intro W' hJ; obtain ⟨j0, j1, j2, j3, j4, j5⟩ := hJ; go_simp; first | done | with_reducible rfl)
  refine wpJ_take (i := 4) (v := ?v3x4) rfl (by kernel_rfl) (by kernel_rfl) (by kernel_rfl) (fun _ _ _ h => h) (by kernel_rfl) ?hy3x4 HJ.out ?rest3x4
  case hy3x4 => (intro W' hJ; obtain ⟨j0, j1, j2, j3, j4, j5⟩ := hJ; go_simp; first | done | with_reducible rfl)
  refine wpJ_take (i := 5) (v := ?v4x5) rfl (by kernel_rfl) (by kernel_rfl) (by kernel_rfl) (fun _ _ _ h => h) (by kernel_rfl) ?hy4x5 HJ.out ?rest4x5
  case hy4x5 => (intro W' hJ; obtain ⟨j0, j1, j2, j3, j4, j5⟩ := hJ; go_simp; first | done | with_reducible rfl)
  refine wpJ_one (i := 1) (by kernel_rfl) rfl (by kernel_rfl) (fun KJ hK => ?_)
  go_simp
  refine (enough_ok HM9.out).mono ?_
  rintro e v7 ⟨rfl, hb7⟩
  replace Xa : Hid _ := Xa.out.below hb7
  replace Xg : Hid _ := Xg.out.below hb7
  replace hbw := Below.on hbw hb7
  clear hb7
  clear HJ
  have HJ : Hid ((fun W' : World => W'.cell? ⟨gg, 0, none⟩ = some (.int .i64 p) ∧ W'.cell? ⟨gg, 1, none⟩ = some (.int .i64 m) ∧ W'.cell? ⟨gg, 2, none⟩ = some (.int .i64 l) ∧ W'.cell? ⟨ga, 0, none⟩ = some (.bool s) ∧ W'.cell? ⟨ga, 1, none⟩ = some (.slice pa na ca) ∧ W'.cell? ⟨ga, 2, none⟩ = some (.int .i64 e)) v7) := ⟨Xg.out.c0, Xg.out.c1, Xg.out.c2, Xa.out.c0, Xa.out.c1, Xa.out.c2⟩
  refine hK _ _ HJ.out ?_
  clear hK
  refine wpJ_take (i := 2) (v := ?v5x2) rfl (by kernel_rfl) (by kernel_rfl) (by kernel_rfl) (fun _ _ _ h => h) (by kernel_rfl) ?hy5x2 HJ.out ?rest5x2
  case hy5x2 => (intro W' hJ; obtain ⟨j0, j1, j2, j3, j4, j5⟩ := hJ; go_simp; first | done | with_reducible rfl)
  refine wpJ_one (i := 6) (by kernel_rfl) rfl (by kernel_rfl) (fun KJ hK => ?_)
  go_simp
  refine (bits_any (HX.out.at_.below hbw) (Nat.le_trans HX.out.le (by decide))).mono ?_
  rintro e v9 ⟨rfl, hw⟩
  obtain rfl := hw.symm
  clear hw
  rw [HBX.out]
  clear HJ
  have HJ : Hid ((fun W' : World => W'.cell? ⟨gg, 0, none⟩ = some (.int .i64 p) ∧ W'.cell? ⟨gg, 1, none⟩ = some (.int .i64 m) ∧ W'.cell? ⟨gg, 2, none⟩ = some (.int .i64 l) ∧ W'.cell? ⟨ga, 0, none⟩ = some (.bool s) ∧ W'.cell? ⟨ga, 1, none⟩ = some (.slice pa na ca) ∧ W'.cell? ⟨ga, 2, none⟩ = some (.int .i64 e)) v7) := ⟨Xg.out.c0, Xg.out.c1, Xg.out.c2, Xa.out.c0, Xa.out.c1, Xa.out.c2⟩
  refine hK _ _ HJ.out ?_
  clear hK
  refine wpJ_take (i := 7) (v := ?v6x7) rfl (by kernel_rfl) (by kernel_rfl) (by kernel_rfl) (fun _ _ _ h => h) (by kernel_rfl) ?hy6x7 HJ.out ?rest6x7
  case hy6x7 => (intro W' hJ; obtain ⟨j0, j1, j2, j3, j4, j5⟩ := hJ; go_simp; first | done | with_reducible rfl)
  refine wpJ_take (i := 8) (v := ?v7x8) rfl (by kernel_rfl) (by kernel_rfl) (by kernel_rfl) (fun _ _ _ h => h) (by kernel_rfl) ?hy7x8 HJ.out ?rest7x8
  case hy7x8 => (intro W' hJ; obtain ⟨j0, j1, j2, j3, j4, j5⟩ := hJ; go_simp; first | done | with_reducible rfl)
  refine wpJ_take (i := 9) (v := ?v8x9) rfl (by kernel_rfl) (by kernel_rfl) (by kernel_rfl) (fun _ _ _ h => h) (by kernel_rfl) ?hy8x9 HJ.out ?rest8x9
  case hy8x9 => (intro W' hJ; obtain ⟨j0, j1, j2, j3, j4, j5⟩ := hJ; go_simp; first | done | with_reducible rfl)
  refine wpJ_done (by kernel_rfl) ?_ _
  clear HJ
  obtain ⟨ca0, ca1, ca2, fa0, fa1, fa2⟩ := Xa.out
  have hnea : ga < v7.heap.size := World.block_lt_of_cell? v7 _ ca0
  obtain ⟨cg0, cg1, cg2, fg0, fg1, fg2⟩ := Xg.out
  have hneg : gg < v7.heap.size := World.block_lt_of_cell? v7 _ cg0
  go_wp2_with fail
  clear ca0 ca1 ca2 fa0 fa1 fa2 hnea
  clear cg0 cg1 cg2 fg0 fg1 fg2 hneg
  refine (shl_nf (HX.out.at_.below hbw) HX.out.nf HX.out.le P HP.out.1).mono ?_
  rintro e2 v10 ⟨ha, hb10⟩
  obtain ⟨p1, m1, z1, rfl, ho1, hn1, hm1⟩ := ha.ok HP.out.2
  clear ha
  replace Xa : Hid _ := Xa.out.below hb10
  replace Xg : Hid _ := Xg.out.below hb10
  replace hbw := Below.on hbw hb10
  clear hb10
  have O1 : Hid (Own v7.heap.size v10 p1 m1 z1) := ho1
  have N1 : Hid (Nf B64 z1 (2 ^ P * x.natAbs) ∧ m1 ≤ 8192) := ⟨hn1, hm1⟩
  clear ho1 hn1 hm1
  obtain ⟨ca0, ca1, ca2, fa0, fa1, fa2⟩ := Xa.out
  have hnea : ga < v10.heap.size := World.block_lt_of_cell? v10 _ ca0
  obtain ⟨cg0, cg1, cg2, fg0, fg1, fg2⟩ := Xg.out
  have hneg : gg < v10.heap.size := World.block_lt_of_cell? v10 _ cg0
  go_wp2_with fail
  clear ca0 ca1 ca2 fa0 fa1 fa2 hnea
  clear cg0 cg1 cg2 fg0 fg1 fg2 hneg
  refine (root_any (Num.of O1.out N1.out.1 N1.out.2)).mono ?_
  rintro e2 v11 ⟨u1, u2, rfl, hdt⟩
  obtain ⟨F, p2, m2, z2, p3, m3, z3, hF1, hF2, rfl, ho2, hn2, hm2, rfl, ho3, hn3, hm3⟩ := hdt.val
  have hb11 := hdt.bel
  obtain ⟨r, hr⟩ : ∃ r, r = 2 ^ P * x.natAbs - F * F := ⟨_, rfl⟩
  rw [← hr] at hn3
  have HFR : Hid (F * F ≤ 2 ^ P * x.natAbs ∧ 2 ^ P * x.natAbs = F * F + r ∧ r ≤ 2 * F) := ⟨hF1, by omega, by omega⟩
  clear hdt hF1 hF2 hr
  clear O1
  replace Xa : Hid _ := Xa.out.below hb11
  replace Xg : Hid _ := Xg.out.below hb11
  replace hbw := Below.on hbw hb11
  clear hb11
  have O2 : Hid (Own v10.heap.size v11 p2 m2 z2) := ho2
  have O3 : Hid (Own v10.heap.size v11 p3 m3 z3) := ho3
  have N2 : Hid (Nf B64 z2 F ∧ m2 ≤ 8192) := ⟨hn2, hm2⟩
  have N3 : Hid (Nf B64 z3 r ∧ m3 ≤ 8192) := ⟨hn3, hm3⟩
  clear ho2 hn2 hm2 ho3 hn3 hm3
  obtain ⟨ca0, ca1, ca2, fa0, fa1, fa2⟩ := Xa.out
  have hnea : ga < v11.heap.size := World.block_lt_of_cell? v11 _ ca0
  obtain ⟨cg0, cg1, cg2, fg0, fg1, fg2⟩ := Xg.out
  have hneg : gg < v11.heap.size := World.block_lt_of_cell? v11 _ cg0
  go_wp2_with fail
  clear ca0 ca1 ca2 fa0 fa1 fa2 hnea
  clear cg0 cg1 cg2 fg0 fg1 fg2 hneg
  obtain ⟨W12, hW12⟩ : ∃ W1, W1 = v11.drew := ⟨_, rfl⟩
  have hbd : Below v11.heap.size v11 W12 := by rw [hW12]; exact bDrew1 (Below.refl _ _)
  replace Xa : Hid _ := Xa.out.below hbd
  replace Xg : Hid _ := Xg.out.below hbd
  replace O2 : Hid (Own v10.heap.size W12 p2 m2 z2) := O2.out.below hbd
  replace O3 : Hid (Own v10.heap.size W12 p3 m3 z3) := O3.out.below hbd
  replace hbw := Below.on hbw hbd
  clear hbd
  have HJ : Hid ((fun W' : World => W'.cell? ⟨gg, 0, none⟩ = some (.int .i64 p) ∧ W'.cell? ⟨gg, 1, none⟩ = some (.int .i64 m) ∧ W'.cell? ⟨gg, 2, none⟩ = some (.int .i64 l) ∧ W'.cell? ⟨ga, 0, none⟩ = some (.bool s) ∧ W'.cell? ⟨ga, 1, none⟩ = some (.slice pa na ca) ∧ W'.cell? ⟨ga, 2, none⟩ = some (.int .i64 e)) W12) := ⟨Xg.out.c0, Xg.out.c1, Xg.out.c2, Xa.out.c0, Xa.out.c1, Xa.out.c2⟩
  refine wp_region_J (fun W' => W'.cell? ⟨gg, 0, none⟩ = some (.int .i64 p) ∧ W'.cell? ⟨gg, 1, none⟩ = some (.int .i64 m) ∧ W'.cell? ⟨gg, 2, none⟩ = some (.int .i64 l) ∧ W'.cell? ⟨ga, 0, none⟩ = some (.bool s) ∧ W'.cell? ⟨ga, 1, none⟩ = some (.slice pa na ca) ∧ W'.cell? ⟨ga, 2, none⟩ = some (.int .i64 e)) (by kernel_rfl) ?_
  rw [← hW12]
  clear hW12
  refine wpJ_take (i := 0) (v := ?v9x0) rfl (by kernel_rfl) (by kernel_rfl) (by kernel_rfl) (fun _ _ _ h => h) (by kernel_rfl) ?hy9x0 HJ.out ?rest9x0
  case hy9x0 => (intro W' hJ; obtain ⟨j0, j1, j2, j3, j4, j5⟩ := hJ; go_simp; first | done | with_reducible rfl)
  refine wpJ_take (i := 1) (v := ?v10x1) rfl (by kernel_rfl) (by kernel_rfl) (by kernel_rfl) (fun _ _ _ h => h) (by kernel_rfl) ?hy10x1 HJ.out ?rest10x1
  case hy10x1 => (intro W' hJ; obtain ⟨j0, j1, j2, j3, j4, j5⟩ := hJ; go_simp; first | done | with_reducible rfl)
  refine wpJ_take (i := 2) (v := ?v11x2) rfl (by kernel_rfl) (by kernel_rfl) (by kernel_rfl) (fun _ _ _ h => h) (by kernel_rfl) ?hy11x2 HJ.out ?rest11x2
  case hy11x2 => (intro W' hJ; obtain ⟨j0, j1, j2, j3, j4, j5⟩ := hJ; go_simp; first | done | with_reducible rfl)
  refine wpJ_take (i := 4) (v := ?v12x4) rfl (by kernel_rfl) (by kernel_rfl) (by kernel_rfl) (fun _ _ _ h => h) (by kernel_rfl) ?hy12x4 HJ.out ?rest12x4
  case hy12x4 => (intro W' hJ; obtain ⟨j0, j1, j2, j3, j4, j5⟩ := hJ; go_simp; first | done | with_reducible rfl)
  refine wpJ_take (i := 5) (v := ?v13x5) rfl (by kernel_rfl) (by kernel_rfl) (by kernel_rfl) (fun _ _ _ h => h) (by kernel_rfl) ?hy13x5 HJ.out ?rest13x5
  case hy13x5 => (intro W' hJ; obtain ⟨j0, j1, j2, j3, j4, j5⟩ := hJ; go_simp; first | done | with_reducible rfl)
  go_simp
  refine wpJ_take (i := 6) (v := ?v14x6) rfl (by kernel_rfl) (by kernel_rfl) (by kernel_rfl) (fun _ _ _ h => h) (by kernel_rfl) ?hy14x6 HJ.out ?rest14x6
  case hy14x6 => (intro W' hJ; obtain ⟨j0, j1, j2, j3, j4, j5⟩ := hJ; go_simp; first | done | with_reducible rfl)
  refine wpJ_take (i := 7) (v := ?v15x7) rfl (by kernel_rfl) (by kernel_rfl) (by kernel_rfl) (fun _ _ _ h => h) (by kernel_rfl) ?hy15x7 HJ.out ?rest15x7
  case hy15x7 => (intro W' hJ; obtain ⟨j0, j1, j2, j3, j4, j5⟩ := hJ; go_simp; first | done | with_reducible rfl)
  refine wpJ_take (i := 8) (v := ?v16x8) rfl (by kernel_rfl) (by kernel_rfl) (by kernel_rfl) (fun _ _ _ h => h) (by kernel_rfl) ?hy16x8 HJ.out ?rest16x8
  case hy16x8 => (intro W' hJ; obtain ⟨j0, j1, j2, j3, j4, j5⟩ := hJ; go_simp; first | done | with_reducible rfl)
  refine wpJ_take (i := 9) (v := ?v17x9) rfl (by kernel_rfl) (by kernel_rfl) (by kernel_rfl) (fun _ _ _ h => h) (by kernel_rfl) ?hy17x9 HJ.out ?rest17x9
  case hy17x9 => (intro W' hJ; obtain ⟨j0, j1, j2, j3, j4, j5⟩ := hJ; go_simp; first | done | with_reducible rfl)
  refine wpJ_one (i := 3) (by kernel_rfl) rfl (by kernel_rfl) (fun KJ hK => ?_)
  go_simp
  refine (withmark false (Num.of O2.out N2.out.1 N2.out.2) (Num.of O3.out N3.out.1 N3.out.2) (HLF.out F HFR.out.1)).mono ?_
  rintro e2 v12 ⟨p4, m4, z4, rfl, ho4, hn4, hm4, hb12⟩
  clear O2
  clear O3
  replace Xa : Hid _ := Xa.out.below hb12
  replace Xg : Hid _ := Xg.out.below hb12
  replace hbw := Below.on hbw hb12
  clear hb12
  have O4 : Hid (Own W12.heap.size v12 p4 m4 z4) := ho4
  have N4 : Hid (Nf B64 z4 (2 * F + (if r = 0 then 0 else 1)) ∧ m4 ≤ 8192) := ⟨hn4, hm4⟩
  clear ho4 hn4 hm4
  refine hK _ _ ⟨Xg.out.c0, Xg.out.c1, Xg.out.c2, Xa.out.c0, Xa.out.c1, Xa.out.c2⟩ ?_
  clear hK
  refine wpJ_one (i := 10) (by kernel_rfl) rfl (by kernel_rfl) (fun KJ hK => ?_)
  go_simp
  have hf0 : F = 0 ∧ r = 0 := by
    have h1 := HFR.out
    rw [HX0.out, Nat.mul_zero] at h1
    have h2 : F * F = 0 := by omega
    have h3 : F = 0 := by rcases Nat.mul_eq_zero.1 h2 with h | h <;> exact h
    rw [h3] at h1
    exact ⟨h3, by omega⟩
  have hn0 := N4.out
  rw [hf0.1, hf0.2] at hn0
  refine (nearest_o (w := v12) (xs := z4) (s := false) (Num.of O4.out hn0.1 hn0.2)).mono ?_
  rintro e2 v13 ⟨rfl, hb13⟩
  clear hn0 hf0
  replace Xa : Hid _ := Xa.out.below hb13
  replace Xg : Hid _ := Xg.out.below hb13
  replace O4 : Hid (Own W12.heap.size v13 p4 m4 z4) := O4.out.below hb13
  replace hbw := Below.on hbw hb13
  clear hb13
  clear HJ
  have HJ : Hid ((fun W' : World => W'.cell? ⟨gg, 0, none⟩ = some (.int .i64 p) ∧ W'.cell? ⟨gg, 1, none⟩ = some (.int .i64 m) ∧ W'.cell? ⟨gg, 2, none⟩ = some (.int .i64 l) ∧ W'.cell? ⟨ga, 0, none⟩ = some (.bool s) ∧ W'.cell? ⟨ga, 1, none⟩ = some (.slice pa na ca) ∧ W'.cell? ⟨ga, 2, none⟩ = some (.int .i64 e)) v13) := ⟨Xg.out.c0, Xg.out.c1, Xg.out.c2, Xa.out.c0, Xa.out.c1, Xa.out.c2⟩
  refine hK _ _ HJ.out ?_
  clear hK
  refine wpJ_take (i := 11) (v := ?v18x11) rfl (by kernel_rfl) (by kernel_rfl) (by kernel_rfl) (fun _ _ _ h => h) (by kernel_rfl) ?hy18x11 HJ.out ?rest18x11
  case hy18x11 => (intro W' hJ; obtain ⟨j0, j1, j2, j3, j4, j5⟩ := hJ; go_simp; first | done | with_reducible rfl)
  refine wpJ_take (i := 12) (v := ?v19x12) rfl (by kernel_rfl) (by kernel_rfl) (by kernel_rfl) (fun _ _ _ h => h) (by kernel_rfl) ?hy19x12 HJ.out ?rest19x12
  case hy19x12 => (intro W' hJ; obtain ⟨j0, j1, j2, j3, j4, j5⟩ := hJ; go_simp; first | done | with_reducible rfl)
  refine wpJ_done (by kernel_rfl) ?_ _
  clear HJ
  go_wp2_with fail
  go_ret2
  exact ⟨rfl, hbw⟩
set_option maxRecDepth 20000 in
set_option maxHeartbeats 8000000 in
theorem root_n {f p m l : Int} {S I H sd : Nat} {Be : Int} (J : Jn f p m l S I H sd Be) (hmd : m = (sd : Int) + 1) {pa : Option Addr} {na ca : Nat} {w : World} {x e : Int} {s : Bool} (h : DN w s pa na ca e x) (hla : na ≤ 4096) (hT : Tab w) (hx : x > 0) :
    Calls Tryz.prog 33 #[.int .i64 f, DV s pa na ca e] w fun en w' => ∃ Z V, en = .returned (.tuple #[U Z, .int .i64 0]) ∧ RNz H l I V Z ∧ Mk H l I (fun τ => τ * τ) ((x.natAbs : Int) * ((2 ^ (e + 2 * 4194304).toNat : Nat) : Int)) V ∧ Below w.heap.size w w' := by
  have HJN : Hid (Jn f p m l S I H sd Be) := J
  have A : Hid (DN w s pa na ca e x) := h
  have HLL : Hid (na ≤ 4096) := hla
  have TB : Hid (Tab w) := hT
  have hsg : (decide (sgnI x < 0)) = false := by
    refine decide_eq_false ?_
    rcases sgn3 x with ⟨_, h2⟩ | ⟨h1, _⟩ | ⟨h1, h2⟩ <;> omega
  obtain ⟨sx, hsx⟩ : ∃ sx, sx = sgnI x := ⟨_, rfl⟩
  rw [← hsx] at hsg
  have HSX : Hid (sgnI x = sx) := hsx.symm
  have hsl := J.jm.sl
  obtain ⟨xs, hX⟩ := h.zn.ex
  have HX : Hid (Num w pa na ca xs x.natAbs) := hX
  obtain ⟨L1, hL1⟩ : ∃ L1, L1 = bitsN x.natAbs := ⟨_, rfl⟩
  have hb1 := half_bits h.zn hla
  rw [← hL1] at hb1
  have HBX : Hid (bitsN (valB B64 xs) = L1) := by rw [hL1, hX.nf.val]; rfl
  obtain ⟨D1, hD1⟩ : ∃ D1 : Int, D1 = 2 * (m + 1) := ⟨_, rfl⟩
  obtain ⟨D2, hD2⟩ : ∃ D2 : Int, D2 = D1 - L1 := ⟨_, rfl⟩
  obtain ⟨P0, hP0⟩ : ∃ P0 : Nat, (P0 : Int) = max D2 0 := ⟨(max D2 0).toNat, by omega⟩
  have HM9 : Hid (0 ≤ m ∧ m ≤ 1000) := by show _ ∧ _; omega
  have hfe : -1048576 ≤ e ∧ e ≤ 1048576 := by rcases h.fm with ⟨_, h2⟩ | ⟨_, h2, h3⟩ <;> omega
  have hP0b : P0 ≤ 200 ∧ 2 * (sd + 2) ≤ L1 + P0 := by omega
  have b1 : -4611686018427387904 ≤ D1 ∧ D1 ≤ 4611686018427387904 := by omega
  have b2 : -4611686018427387904 ≤ D2 ∧ D2 ≤ 4611686018427387904 := by omega
  have HMX : max D2 0 = (P0 : Int) := hP0.symm
  clear hP0
  obtain ⟨D3, hD3⟩ : ∃ D3 : Int, D3 = e - P0 := ⟨_, rfl⟩
  obtain ⟨D4, hD4⟩ : ∃ D4 : Nat, (D4 : Int) = D3 % 2 := ⟨(D3 % 2).toNat, by omega⟩
  have hD4b : D4 ≤ 1 := by omega
  obtain ⟨P, hP⟩ : ∃ P : Nat, P = P0 + D4 := ⟨_, rfl⟩
  have hPP : (P0 : Int) + (D4 : Int) = (P : Int) := by omega
  obtain ⟨E1, hE1⟩ : ∃ E1 : Int, E1 = e - P := ⟨_, rfl⟩
  obtain ⟨E2, hE2⟩ : ∃ E2 : Int, E1 = 2 * E2 := ⟨E1 / 2, by omega⟩
  obtain ⟨E3, hE3⟩ : ∃ E3 : Int, E3 = E2 - 1 := ⟨_, rfl⟩
  have b3 : -4611686018427387904 ≤ D3 ∧ D3 ≤ 4611686018427387904 := by omega
  have b4 : -4611686018427387904 ≤ (P : Int) ∧ (P : Int) ≤ 4611686018427387904 := by omega
  have b5 : -4611686018427387904 ≤ E1 ∧ E1 ≤ 4611686018427387904 := by omega
  have b6 : -4611686018427387904 ≤ E2 ∧ E2 ≤ 4611686018427387904 := by omega
  have b7 : -4611686018427387904 ≤ E3 ∧ E3 ≤ 4611686018427387904 := by omega
  have HE : Hid (-4194304 ≤ E3 ∧ E3 ≤ 4194304) := by show _ ∧ _; omega
  have HP : Hid (P ≤ 9223372036854775807 ∧ 2 ^ P * x.natAbs < LIM) := ⟨by omega, shl_lim2 (by rw [← hL1]; omega)⟩
  have HLF : Hid (∀ F : Nat, F * F ≤ 2 ^ P * x.natAbs → 2 * F + 1 < LIM) := root_lim (by rw [hL1] at hb1; omega)
  have HMK : Hid (∀ F r M : Nat, 2 ^ P * x.natAbs = F * F + r → r ≤ 2 * F → M = 2 * F + (if r = 0 then 0 else 1) → M ≠ 0 ∧ Mk H l I (fun τ => τ * τ) ((x.natAbs : Int) * ((2 ^ (e + 2 * 4194304).toNat : Nat) : Int)) (dv (M : Int) E3)) := fun F r M hF hr hM => by
    have hb := root_big (x := x.natAbs) (sd := sd) (P := P) (F := F) (by omega) (by rw [← hL1]; omega) (by rw [hF]; omega)
    rw [← J.jm.hs] at hb
    have hp := J.jm.pm.hp
    exact ⟨by omega, mk_root hp (by have := J.jm.pm.lo; omega) (k := P) (F := F) (r := r) (by omega) (by omega) hb (by rw [Nat.mul_comm]; exact hF) hr hM⟩
  have c16 : E1.tdiv 2 = E2 := by rw [hE2]; exact Int.mul_tdiv_cancel_left E2 (by decide)
  have c1 : wrap64 (2 * (m + 1)) = D1 := by rw [← hD1]; exact w64_of b1.1 b1.2
  have c2 : IntKind.i64.wrap (2 * (m + 1)) = D1 := by rw [← hD1]; exact wi64_of b1.1 b1.2
  have c3 : wrap64 (D1 - (L1 : Int)) = D2 := by rw [← hD2]; exact w64_of b2.1 b2.2
  have c4 : IntKind.i64.wrap (D1 - (L1 : Int)) = D2 := by rw [← hD2]; exact wi64_of b2.1 b2.2
  have c5 : wrap64 (e - (P0 : Int)) = D3 := by rw [← hD3]; exact w64_of b3.1 b3.2
  have c6 : IntKind.i64.wrap (e - (P0 : Int)) = D3 := by rw [← hD3]; exact wi64_of b3.1 b3.2
  have c7 : bits BinOp.and IntKind.i64 D3 1 = (D4 : Int) := by rw [and_one_i64]; exact hD4.symm
  have c8 : wrap64 ((P0 : Int) + (D4 : Int)) = (P : Int) := by rw [hPP]; exact w64_of b4.1 b4.2
  have c9 : IntKind.i64.wrap ((P0 : Int) + (D4 : Int)) = (P : Int) := by rw [hPP]; exact wi64_of b4.1 b4.2
  have c10 : wrap64 (e - (P : Int)) = E1 := by rw [← hE1]; exact w64_of b5.1 b5.2
  have c11 : IntKind.i64.wrap (e - (P : Int)) = E1 := by rw [← hE1]; exact wi64_of b5.1 b5.2
  have c12 : wrap64 E2 = E2 := w64_of b6.1 b6.2
  have c13 : IntKind.i64.wrap E2 = E2 := wi64_of b6.1 b6.2
  have c14 : wrap64 (E2 - 1) = E3 := by rw [← hE3]; exact w64_of b7.1 b7.2
  have c15 : IntKind.i64.wrap (E2 - 1) = E3 := by rw [← hE3]; exact wi64_of b7.1 b7.2
  clear J hmd h hla hT hx hsl hX hL1 hb1 hD1 hD2 hP0b hD3 hD4 hD4b hP hPP hE1 hE2 hE3 b1 b2 b3 b4 b5 b6 b7 hfe hsx
  go_enter Tryz.func33, Tryz.ntmps33
  go_wp2_with fail
  obtain ⟨W0, hW0⟩ : ∃ W0, W0 = (w.alloc (.cells #[.bool s, .slice pa na ca, .int .i64 e] 34)) := ⟨_, rfl⟩
  have Xa : Hid (B3q W0 (w.heap.size) (.bool s) (.slice pa na ca) (.int .i64 e)) := by rw [hW0]; exact ⟨by go_simp, by go_simp, by go_simp, by go_simp, by go_simp, by go_simp⟩
  have hb0 : Below w.heap.size w W0 := by rw [hW0]; exact below1 w _
  rw [← hW0]
  clear hW0
  have hbw : Below w.heap.size w w := Below.refl _ _
  obtain ⟨ga, hga⟩ : ∃ g, g = w.heap.size := ⟨_, rfl⟩
  have HGa : Hid (w.heap.size ≤ ga) := by rw [hga]; show _ ≤ _; omega
  rw [← hga] at Xa
  try rw [← hga]
  clear hga
  replace hbw := Below.on hbw hb0
  clear hb0
  refine (HJN.out.jm.pm.fm.of _).mono ?_
  rintro e v1 ⟨rfl, hb1⟩
  replace Xa : Hid _ := Xa.out.below hb1
  replace hbw := Below.on hbw hb1
  clear hb1
  obtain ⟨ca0, ca1, ca2, fa0, fa1, fa2⟩ := Xa.out
  have hnea : ga < v1.heap.size := World.block_lt_of_cell? v1 _ ca0
  go_wp2_with fail
  clear ca0 ca1 ca2 fa0 fa1 fa2 hnea
  have Xg0 : Hid (B3q (v1.alloc (.cells #[.int .i64 p, .int .i64 m, .int .i64 l] 71)) v1.heap.size (.int .i64 p) (.int .i64 m) (.int .i64 l)) := B3q.new v1 _ _ _ _
  have hbn : Below v1.heap.size v1 (v1.alloc (.cells #[.int .i64 p, .int .i64 m, .int .i64 l] 71)) := below1 v1 _
  generalize v1.alloc (.cells #[.int .i64 p, .int .i64 m, .int .i64 l] 71) = Wg at *
  have HGg : Hid (w.heap.size ≤ v1.heap.size) := hbw.size
  replace Xa : Hid _ := Xa.out.below hbn
  replace hbw := Below.on hbw hbn
  clear hbn
  generalize v1.heap.size = gg at *
  have Xg := Xg0
  clear Xg0
  refine (dform_t (A.out.below hbw)).mono ?_
  rintro e v2 ⟨rfl, hb2⟩
  replace Xa : Hid _ := Xa.out.below hb2
  replace Xg : Hid _ := Xg.out.below hb2
  replace hbw := Below.on hbw hb2
  clear hb2
  obtain ⟨ca0, ca1, ca2, fa0, fa1, fa2⟩ := Xa.out
  have hnea : ga < v2.heap.size := World.block_lt_of_cell? v2 _ ca0
  obtain ⟨cg0, cg1, cg2, fg0, fg1, fg2⟩ := Xg.out
  have hneg : gg < v2.heap.size := World.block_lt_of_cell? v2 _ cg0
  go_wp2_with fail
  clear ca0 ca1 ca2 fa0 fa1 fa2 hnea
  clear cg0 cg1 cg2 fg0 fg1 fg2 hneg
  refine (zsign (A.out.zn.below hbw)).mono ?_
  rintro e v4 ⟨rfl, hb4⟩
  rw [HSX.out]
  replace Xa : Hid _ := Xa.out.below hb4
  replace Xg : Hid _ := Xg.out.below hb4
  replace hbw := Below.on hbw hb4
  clear hb4
  obtain ⟨ca0, ca1, ca2, fa0, fa1, fa2⟩ := Xa.out
  have hnea : ga < v4.heap.size := World.block_lt_of_cell? v4 _ ca0
  obtain ⟨cg0, cg1, cg2, fg0, fg1, fg2⟩ := Xg.out
  have hneg : gg < v4.heap.size := World.block_lt_of_cell? v4 _ cg0
  go_wp2_with fail
  clear ca0 ca1 ca2 fa0 fa1 fa2 hnea
  clear cg0 cg1 cg2 fg0 fg1 fg2 hneg
  refine (toolong HLL.out).mono ?_
  rintro e v5 ⟨rfl, hb5⟩
  replace Xa : Hid _ := Xa.out.below hb5
  replace Xg : Hid _ := Xg.out.below hb5
  replace hbw := Below.on hbw hb5
  clear hb5
  obtain ⟨ca0, ca1, ca2, fa0, fa1, fa2⟩ := Xa.out
  have hnea : ga < v5.heap.size := World.block_lt_of_cell? v5 _ ca0
  obtain ⟨cg0, cg1, cg2, fg0, fg1, fg2⟩ := Xg.out
  have hneg : gg < v5.heap.size := World.block_lt_of_cell? v5 _ cg0
  go_wp2_with fail
  clear ca0 ca1 ca2 fa0 fa1 fa2 hnea
  clear cg0 cg1 cg2 fg0 fg1 fg2 hneg
  obtain ⟨W6, hW6⟩ : ∃ W1, W1 = v5.drew := ⟨_, rfl⟩
  have hbd : Below v5.heap.size v5 W6 := by rw [hW6]; exact bDrew1 (Below.refl _ _)
  replace Xa : Hid _ := Xa.out.below hbd
  replace Xg : Hid _ := Xg.out.below hbd
  replace hbw := Below.on hbw hbd
  clear hbd
  have HJ : Hid ((fun W' : World => W'.cell? ⟨gg, 0, none⟩ = some (.int .i64 p) ∧ W'.cell? ⟨gg, 1, none⟩ = some (.int .i64 m) ∧ W'.cell? ⟨gg, 2, none⟩ = some (.int .i64 l) ∧ W'.cell? ⟨ga, 0, none⟩ = some (.bool s) ∧ W'.cell? ⟨ga, 1, none⟩ = some (.slice pa na ca) ∧ W'.cell? ⟨ga, 2, none⟩ = some (.int .i64 e)) W6) := ⟨Xg.out.c0, Xg.out.c1, Xg.out.c2, Xa.out.c0, Xa.out.c1, Xa.out.c2⟩
  refine wp_region_J (fun W' => W'.cell? ⟨gg, 0, none⟩ = some (.int .i64 p) ∧ W'.cell? ⟨gg, 1, none⟩ = some (.int .i64 m) ∧ W'.cell? ⟨gg, 2, none⟩ = some (.int .i64 l) ∧ W'.cell? ⟨ga, 0, none⟩ = some (.bool s) ∧ W'.cell? ⟨ga, 1, none⟩ = some (.slice pa na ca) ∧ W'.cell? ⟨ga, 2, none⟩ = some (.int .i64 e)) (by kernel_rfl) ?_
  rw [← hW6]
  clear hW6
  refine wpJ_take (i := 0) (v := ?v20x0) rfl (by kernel_rfl) (by kernel_rfl) (by kernel_rfl) (fun _ _ _ h => h) (by kernel_rfl) ?hy20x0 HJ.out ?rest20x0
  case hy20x0 => (intro W' hJ; obtain ⟨j0, j1, j2, j3, j4, j5⟩ := hJ; go_simp; first | done | with_reducible rfl)
  refine wpJ_take (i := 3) (v := ?v21x3) rfl (by kernel_rfl) (by kernel_rfl) (by kernel_rfl) (fun _ _ _ h => h) (by kernel_rfl) ?hy21x3 HJ.out ?rest21x3
  case hy21x3 => (intro W' hJ; obtain ⟨j0, j1, j2, j3, j4, j5⟩ := hJ; go_simp; first | done | with_reducible rfl)
  refine wpJ_take (i := 4) (v := ?v22x4) rfl (by kernel_rfl) (by kernel_rfl) (by kernel_rfl) (fun _ _ _ h => h) (by kernel_rfl) ?hy22x4 HJ.out ?rest22x4
  case hy22x4 => (intro W' hJ; obtain ⟨j0, j1, j2, j3, j4, j5⟩ := hJ; go_simp; first | done | with_reducible rfl)
  refine wpJ_take (i := 5) (v := ?v23x5) rfl (by kernel_rfl) (by kernel_rfl) (by kernel_rfl) (fun _ _ _ h => h) (by kernel_rfl) ?hy23x5 HJ.out ?rest23x5
  case hy23x5 => (intro W' hJ; obtain ⟨j0, j1, j2, j3, j4, j5⟩ := hJ; go_simp; first | done | with_reducible rfl)
  refine wpJ_one (i := 1) (by kernel_rfl) rfl (by kernel_rfl) (fun KJ hK => ?_)
  go_simp
  refine (enough_ok HM9.out).mono ?_
  rintro e v7 ⟨rfl, hb7⟩
  replace Xa : Hid _ := Xa.out.below hb7
  replace Xg : Hid _ := Xg.out.below hb7
  replace hbw := Below.on hbw hb7
  clear hb7
  clear HJ
  have HJ : Hid ((fun W' : World => W'.cell? ⟨gg, 0, none⟩ = some (.int .i64 p) ∧ W'.cell? ⟨gg, 1, none⟩ = some (.int .i64 m) ∧ W'.cell? ⟨gg, 2, none⟩ = some (.int .i64 l) ∧ W'.cell? ⟨ga, 0, none⟩ = some (.bool s) ∧ W'.cell? ⟨ga, 1, none⟩ = some (.slice pa na ca) ∧ W'.cell? ⟨ga, 2, none⟩ = some (.int .i64 e)) v7) := ⟨Xg.out.c0, Xg.out.c1, Xg.out.c2, Xa.out.c0, Xa.out.c1, Xa.out.c2⟩
  refine hK _ _ HJ.out ?_
  clear hK
  refine wpJ_take (i := 2) (v := ?v24x2) rfl (by kernel_rfl) (by kernel_rfl) (by kernel_rfl) (fun _ _ _ h => h) (by kernel_rfl) ?hy24x2 HJ.out ?rest24x2
  case hy24x2 => (intro W' hJ; obtain ⟨j0, j1, j2, j3, j4, j5⟩ := hJ; go_simp; first | done | with_reducible rfl)
  refine wpJ_one (i := 6) (by kernel_rfl) rfl (by kernel_rfl) (fun KJ hK => ?_)
  go_simp
  refine (bits_any (HX.out.at_.below hbw) (Nat.le_trans HX.out.le (by decide))).mono ?_
  rintro e v9 ⟨rfl, hw⟩
  obtain rfl := hw.symm
  clear hw
  rw [HBX.out]
  clear HJ
  have HJ : Hid ((fun W' : World => W'.cell? ⟨gg, 0, none⟩ = some (.int .i64 p) ∧ W'.cell? ⟨gg, 1, none⟩ = some (.int .i64 m) ∧ W'.cell? ⟨gg, 2, none⟩ = some (.int .i64 l) ∧ W'.cell? ⟨ga, 0, none⟩ = some (.bool s) ∧ W'.cell? ⟨ga, 1, none⟩ = some (.slice pa na ca) ∧ W'.cell? ⟨ga, 2, none⟩ = some (.int .i64 e)) v7) := ⟨Xg.out.c0, Xg.out.c1, Xg.out.c2, Xa.out.c0, Xa.out.c1, Xa.out.c2⟩
  refine hK _ _ HJ.out ?_
  clear hK
  refine wpJ_take (i := 7) (v := ?v25x7) rfl (by kernel_rfl) (by kernel_rfl) (by kernel_rfl) (fun _ _ _ h => h) (by kernel_rfl) ?hy25x7 HJ.out ?rest25x7
  case hy25x7 => (intro W' hJ; obtain ⟨j0, j1, j2, j3, j4, j5⟩ := hJ; go_simp; first | done | with_reducible rfl)
  refine wpJ_take (i := 8) (v := ?v26x8) rfl (by kernel_rfl) (by kernel_rfl) (by kernel_rfl) (fun _ _ _ h => h) (by kernel_rfl) ?hy26x8 HJ.out ?rest26x8
  case hy26x8 => (intro W' hJ; obtain ⟨j0, j1, j2, j3, j4, j5⟩ := hJ; go_simp; first | done | with_reducible rfl)
  refine wpJ_take (i := 9) (v := ?v27x9) rfl (by kernel_rfl) (by kernel_rfl) (by kernel_rfl) (fun _ _ _ h => h) (by kernel_rfl) ?hy27x9 HJ.out ?rest27x9
  case hy27x9 => (intro W' hJ; obtain ⟨j0, j1, j2, j3, j4, j5⟩ := hJ; go_simp; first | done | with_reducible rfl)
  refine wpJ_done (by kernel_rfl) ?_ _
  clear HJ
  obtain ⟨ca0, ca1, ca2, fa0, fa1, fa2⟩ := Xa.out
  have hnea : ga < v7.heap.size := World.block_lt_of_cell? v7 _ ca0
  obtain ⟨cg0, cg1, cg2, fg0, fg1, fg2⟩ := Xg.out
  have hneg : gg < v7.heap.size := World.block_lt_of_cell? v7 _ cg0
  go_wp2_with fail
  clear ca0 ca1 ca2 fa0 fa1 fa2 hnea
  clear cg0 cg1 cg2 fg0 fg1 fg2 hneg
  refine (shl_nf (HX.out.at_.below hbw) HX.out.nf HX.out.le P HP.out.1).mono ?_
  rintro e2 v10 ⟨ha, hb10⟩
  obtain ⟨p1, m1, z1, rfl, ho1, hn1, hm1⟩ := ha.ok HP.out.2
  clear ha
  replace Xa : Hid _ := Xa.out.below hb10
  replace Xg : Hid _ := Xg.out.below hb10
  replace hbw := Below.on hbw hb10
  clear hb10
  have O1 : Hid (Own v7.heap.size v10 p1 m1 z1) := ho1
  have N1 : Hid (Nf B64 z1 (2 ^ P * x.natAbs) ∧ m1 ≤ 8192) := ⟨hn1, hm1⟩
  clear ho1 hn1 hm1
  obtain ⟨ca0, ca1, ca2, fa0, fa1, fa2⟩ := Xa.out
  have hnea : ga < v10.heap.size := World.block_lt_of_cell? v10 _ ca0
  obtain ⟨cg0, cg1, cg2, fg0, fg1, fg2⟩ := Xg.out
  have hneg : gg < v10.heap.size := World.block_lt_of_cell? v10 _ cg0
  go_wp2_with fail
  clear ca0 ca1 ca2 fa0 fa1 fa2 hnea
  clear cg0 cg1 cg2 fg0 fg1 fg2 hneg
  refine (root_any (Num.of O1.out N1.out.1 N1.out.2)).mono ?_
  rintro e2 v11 ⟨u1, u2, rfl, hdt⟩
  obtain ⟨F, p2, m2, z2, p3, m3, z3, hF1, hF2, rfl, ho2, hn2, hm2, rfl, ho3, hn3, hm3⟩ := hdt.val
  have hb11 := hdt.bel
  obtain ⟨r, hr⟩ : ∃ r, r = 2 ^ P * x.natAbs - F * F := ⟨_, rfl⟩
  rw [← hr] at hn3
  have HFR : Hid (F * F ≤ 2 ^ P * x.natAbs ∧ 2 ^ P * x.natAbs = F * F + r ∧ r ≤ 2 * F) := ⟨hF1, by omega, by omega⟩
  clear hdt hF1 hF2 hr
  clear O1
  replace Xa : Hid _ := Xa.out.below hb11
  replace Xg : Hid _ := Xg.out.below hb11
  replace hbw := Below.on hbw hb11
  clear hb11
  have O2 : Hid (Own v10.heap.size v11 p2 m2 z2) := ho2
  have O3 : Hid (Own v10.heap.size v11 p3 m3 z3) := ho3
  have N2 : Hid (Nf B64 z2 F ∧ m2 ≤ 8192) := ⟨hn2, hm2⟩
  have N3 : Hid (Nf B64 z3 r ∧ m3 ≤ 8192) := ⟨hn3, hm3⟩
  clear ho2 hn2 hm2 ho3 hn3 hm3
  obtain ⟨ca0, ca1, ca2, fa0, fa1, fa2⟩ := Xa.out
  have hnea : ga < v11.heap.size := World.block_lt_of_cell? v11 _ ca0
  obtain ⟨cg0, cg1, cg2, fg0, fg1, fg2⟩ := Xg.out
  have hneg : gg < v11.heap.size := World.block_lt_of_cell? v11 _ cg0
  go_wp2_with fail
  clear ca0 ca1 ca2 fa0 fa1 fa2 hnea
  clear cg0 cg1 cg2 fg0 fg1 fg2 hneg
  obtain ⟨W12, hW12⟩ : ∃ W1, W1 = v11.drew := ⟨_, rfl⟩
  have hbd : Below v11.heap.size v11 W12 := by rw [hW12]; exact bDrew1 (Below.refl _ _)
  replace Xa : Hid _ := Xa.out.below hbd
  replace Xg : Hid _ := Xg.out.below hbd
  replace O2 : Hid (Own v10.heap.size W12 p2 m2 z2) := O2.out.below hbd
  replace O3 : Hid (Own v10.heap.size W12 p3 m3 z3) := O3.out.below hbd
  replace hbw := Below.on hbw hbd
  clear hbd
  have HJ : Hid ((fun W' : World => W'.cell? ⟨gg, 0, none⟩ = some (.int .i64 p) ∧ W'.cell? ⟨gg, 1, none⟩ = some (.int .i64 m) ∧ W'.cell? ⟨gg, 2, none⟩ = some (.int .i64 l) ∧ W'.cell? ⟨ga, 0, none⟩ = some (.bool s) ∧ W'.cell? ⟨ga, 1, none⟩ = some (.slice pa na ca) ∧ W'.cell? ⟨ga, 2, none⟩ = some (.int .i64 e)) W12) := ⟨Xg.out.c0, Xg.out.c1, Xg.out.c2, Xa.out.c0, Xa.out.c1, Xa.out.c2⟩
  refine wp_region_J (fun W' => W'.cell? ⟨gg, 0, none⟩ = some (.int .i64 p) ∧ W'.cell? ⟨gg, 1, none⟩ = some (.int .i64 m) ∧ W'.cell? ⟨gg, 2, none⟩ = some (.int .i64 l) ∧ W'.cell? ⟨ga, 0, none⟩ = some (.bool s) ∧ W'.cell? ⟨ga, 1, none⟩ = some (.slice pa na ca) ∧ W'.cell? ⟨ga, 2, none⟩ = some (.int .i64 e)) (by kernel_rfl) ?_
  rw [← hW12]
  clear hW12
  refine wpJ_take (i := 0) (v := ?v28x0) rfl (by kernel_rfl) (by kernel_rfl) (by kernel_rfl) (fun _ _ _ h => h) (by kernel_rfl) ?hy28x0 HJ.out ?rest28x0
  case hy28x0 => (intro W' hJ; obtain ⟨j0, j1, j2, j3, j4, j5⟩ := hJ; go_simp; first | done | with_reducible rfl)
  refine wpJ_take (i := 1) (v := ?v29x1) rfl (by kernel_rfl) (by kernel_rfl) (by kernel_rfl) (fun _ _ _ h => h) (by kernel_rfl) ?hy29x1 HJ.out ?rest29x1
  case hy29x1 => (intro W' hJ; obtain ⟨j0, j1, j2, j3, j4, j5⟩ := hJ; go_simp; first | done | with_reducible rfl)
  refine wpJ_take (i := 2) (v := ?v30x2) rfl (by kernel_rfl) (by kernel_rfl) (by kernel_rfl) (fun _ _ _ h => h) (by kernel_rfl) ?hy30x2 HJ.out ?rest30x2
  case hy30x2 => (intro W' hJ; obtain ⟨j0, j1, j2, j3, j4, j5⟩ := hJ; go_simp; first | done | with_reducible rfl)
  refine wpJ_take (i := 4) (v := ?v31x4) rfl (by kernel_rfl) (by kernel_rfl) (by kernel_rfl) (fun _ _ _ h => h) (by kernel_rfl) ?hy31x4 HJ.out ?rest31x4
  case hy31x4 => (intro W' hJ; obtain ⟨j0, j1, j2, j3, j4, j5⟩ := hJ; go_simp; first | done | with_reducible rfl)
  refine wpJ_take (i := 5) (v := ?v32x5) rfl (by kernel_rfl) (by kernel_rfl) (by kernel_rfl) (fun _ _ _ h => h) (by kernel_rfl) ?hy32x5 HJ.out ?rest32x5
  case hy32x5 => (intro W' hJ; obtain ⟨j0, j1, j2, j3, j4, j5⟩ := hJ; go_simp; first | done | with_reducible rfl)
  go_simp
  refine wpJ_take (i := 6) (v := ?v33x6) rfl (by kernel_rfl) (by kernel_rfl) (by kernel_rfl) (fun _ _ _ h => h) (by kernel_rfl) ?hy33x6 HJ.out ?rest33x6
  case hy33x6 => (intro W' hJ; obtain ⟨j0, j1, j2, j3, j4, j5⟩ := hJ; go_simp; first | done | with_reducible rfl)
  refine wpJ_take (i := 7) (v := ?v34x7) rfl (by kernel_rfl) (by kernel_rfl) (by kernel_rfl) (fun _ _ _ h => h) (by kernel_rfl) ?hy34x7 HJ.out ?rest34x7
  case hy34x7 => (intro W' hJ; obtain ⟨j0, j1, j2, j3, j4, j5⟩ := hJ; go_simp; first | done | with_reducible rfl)
  refine wpJ_take (i := 8) (v := ?v35x8) rfl (by kernel_rfl) (by kernel_rfl) (by kernel_rfl) (fun _ _ _ h => h) (by kernel_rfl) ?hy35x8 HJ.out ?rest35x8
  case hy35x8 => (intro W' hJ; obtain ⟨j0, j1, j2, j3, j4, j5⟩ := hJ; go_simp; first | done | with_reducible rfl)
  refine wpJ_take (i := 9) (v := ?v36x9) rfl (by kernel_rfl) (by kernel_rfl) (by kernel_rfl) (fun _ _ _ h => h) (by kernel_rfl) ?hy36x9 HJ.out ?rest36x9
  case hy36x9 => (intro W' hJ; obtain ⟨j0, j1, j2, j3, j4, j5⟩ := hJ; go_simp; first | done | with_reducible rfl)
  refine wpJ_one (i := 3) (by kernel_rfl) rfl (by kernel_rfl) (fun KJ hK => ?_)
  go_simp
  refine (withmark false (Num.of O2.out N2.out.1 N2.out.2) (Num.of O3.out N3.out.1 N3.out.2) (HLF.out F HFR.out.1)).mono ?_
  rintro e2 v12 ⟨p4, m4, z4, rfl, ho4, hn4, hm4, hb12⟩
  clear O2
  clear O3
  replace Xa : Hid _ := Xa.out.below hb12
  replace Xg : Hid _ := Xg.out.below hb12
  replace hbw := Below.on hbw hb12
  clear hb12
  have O4 : Hid (Own W12.heap.size v12 p4 m4 z4) := ho4
  have N4 : Hid (Nf B64 z4 (2 * F + (if r = 0 then 0 else 1)) ∧ m4 ≤ 8192) := ⟨hn4, hm4⟩
  clear ho4 hn4 hm4
  refine hK _ _ ⟨Xg.out.c0, Xg.out.c1, Xg.out.c2, Xa.out.c0, Xa.out.c1, Xa.out.c2⟩ ?_
  clear hK
  refine wpJ_one (i := 10) (by kernel_rfl) rfl (by kernel_rfl) (fun KJ hK => ?_)
  go_simp
  obtain ⟨M, hM⟩ : ∃ M, M = 2 * F + (if r = 0 then 0 else 1) := ⟨_, rfl⟩
  obtain ⟨q0, hMk⟩ := HMK.out F r M HFR.out.2.1 HFR.out.2.2 hM
  have ZZ : ZN v12 false p4 m4 m4 (M : Int) := ⟨⟨z4, by rw [Int.natAbs_natCast]; exact Num.of O4.out (by rw [hM]; exact N4.out.1) N4.out.2⟩, (decide_eq_false (Int.not_lt.2 (Int.natCast_nonneg M))).symm⟩
  obtain ⟨Zq, hZ1, hZ2, hZ3, _⟩ := rnp_is HJN.out (M : Int) E3 HE.out.1
  rw [Int.natAbs_natCast] at hZ2
  rw [if_neg (Int.not_lt.2 (Int.natCast_nonneg M))] at hZ3
  have HRZ : Hid (RNz H l I (dv (M : Int) E3) Zq ∧ Mk H l I (fun τ => τ * τ) ((x.natAbs : Int) * ((2 ^ (e + 2 * 4194304).toNat : Nat) : Int)) (dv (M : Int) E3)) := ⟨hZ2, hMk⟩
  refine (nearest_ok HJN.out ZZ HE.out (TB.out.below hbw)).mono ?_
  rintro e2 v13 ⟨rfl, hb13⟩
  rw [hZ3]
  clear ZZ hZ1 hZ2 hZ3 hM q0 hMk
  replace Xa : Hid _ := Xa.out.below hb13
  replace Xg : Hid _ := Xg.out.below hb13
  replace O4 : Hid (Own W12.heap.size v13 p4 m4 z4) := O4.out.below hb13
  replace hbw := Below.on hbw hb13
  clear hb13
  clear HJ
  have HJ : Hid ((fun W' : World => W'.cell? ⟨gg, 0, none⟩ = some (.int .i64 p) ∧ W'.cell? ⟨gg, 1, none⟩ = some (.int .i64 m) ∧ W'.cell? ⟨gg, 2, none⟩ = some (.int .i64 l) ∧ W'.cell? ⟨ga, 0, none⟩ = some (.bool s) ∧ W'.cell? ⟨ga, 1, none⟩ = some (.slice pa na ca) ∧ W'.cell? ⟨ga, 2, none⟩ = some (.int .i64 e)) v13) := ⟨Xg.out.c0, Xg.out.c1, Xg.out.c2, Xa.out.c0, Xa.out.c1, Xa.out.c2⟩
  refine hK _ _ HJ.out ?_
  clear hK
  refine wpJ_take (i := 11) (v := ?v37x11) rfl (by kernel_rfl) (by kernel_rfl) (by kernel_rfl) (fun _ _ _ h => h) (by kernel_rfl) ?hy37x11 HJ.out ?rest37x11
  case hy37x11 => (intro W' hJ; obtain ⟨j0, j1, j2, j3, j4, j5⟩ := hJ; go_simp; first | done | with_reducible rfl)
  refine wpJ_take (i := 12) (v := ?v38x12) rfl (by kernel_rfl) (by kernel_rfl) (by kernel_rfl) (fun _ _ _ h => h) (by kernel_rfl) ?hy38x12 HJ.out ?rest38x12
  case hy38x12 => (intro W' hJ; obtain ⟨j0, j1, j2, j3, j4, j5⟩ := hJ; go_simp; first | done | with_reducible rfl)
  refine wpJ_done (by kernel_rfl) ?_ _
  clear HJ
  go_wp2_with fail
  go_ret2
  exact ⟨Zq, _, rfl, HRZ.out.1, HRZ.out.2, hbw⟩
end Go.Proofs.YtfofoookdlaipaaGreatDoor

