import Derived.Test.YtfmbifocgljieaaGreatDoorJ16
namespace Go.Proofs.YtfmbifocgljieaaGreatDoor
open Go.RowKit Go.Shelf
set_option maxRecDepth 20000
set_option maxHeartbeats 0
theorem quo_big {x y sd P : Nat} (hx : x ≠ 0) (hy : y ≠ 0) (hP : sd + 2 + bitsN y ≤ bitsN x + P) : 2 * 2 ^ sd ≤ 2 ^ P * x / y := by
  rw [Nat.le_div_iff_mul_le (by omega)]
  have h1 := bitsN_lt y
  have h2 := bitsN_le x hx
  have h3 := bitsN_pos hx
  calc 2 * 2 ^ sd * y ≤ 2 * 2 ^ sd * 2 ^ bitsN y := Nat.mul_le_mul_left _ (Nat.le_of_lt h1)
    _ = 2 ^ (sd + 1 + bitsN y) := by rw [Nat.pow_add, Nat.pow_succ, Nat.mul_comm 2]
    _ ≤ 2 ^ (P + (bitsN x - 1)) := Nat.pow_le_pow_right (by omega) (by omega)
    _ = 2 ^ P * 2 ^ (bitsN x - 1) := Nat.pow_add _ _ _
    _ ≤ 2 ^ P * x := Nat.mul_le_mul_left _ h2
theorem shl_lim2 {x P : Nat} (h : bitsN x + P ≤ 524288) : 2 ^ P * x < LIM := by
  by_cases h0 : x = 0
  · rw [h0, Nat.mul_zero]; exact lt_LIM (L := 1) (by decide) (by decide)
  · exact (lim_shl x P h0).2 (by omega)
def SgB (S : Nat) (s t : Bool) (b Z : Nat) : Prop := b = if s = t then Z else S + Z
theorem signed_is (s t : Bool) {M : Nat} (hM : M ≠ 0) {z : Int} (hz : z = if s = t then (M : Int) else -(M : Int)) : z.natAbs = M ∧ decide (z < 0) = (s != t) ∧ z ≠ 0 := by
  rw [hz]
  cases s <;> cases t <;> simp <;> omega
theorem nearest_o {p m l : Int} {q : Option Addr} {n c : Nat} {w : World} {e : Int} {s : Bool} {xs : List Nat} (h : Num w q n c xs 0) :
    Calls Tryz.prog 23 #[WV p m l, ZV s q n c, .int .i64 e] w fun en w' => en = .returned (.int .u64 0) ∧ Below w.heap.size w w' := by
  have HZN : Hid (Num w q n c xs 0) := h
  have HS : Hid (sgnI (iv s 0) = 0) := by show sgnI (iv s 0) = 0; cases s <;> rfl
  clear h
  go_enter Tryz.func23, Tryz.ntmps23
  go_wp2_with fail
  obtain ⟨W0, hW0⟩ : ∃ W0, W0 = ((w.alloc (.cells #[.int .i64 p, .int .i64 m, .int .i64 l] 47)).alloc (.cells #[.bool s, .slice q n c] 31)) := ⟨_, rfl⟩
  have Xg : Hid (B3q W0 (w.heap.size) (.int .i64 p) (.int .i64 m) (.int .i64 l)) := by rw [hW0]; exact ⟨by go_simp, by go_simp, by go_simp, by go_simp, by go_simp, by go_simp⟩
  have Xm : Hid (Box W0 (w.heap.size + 1) (.bool s) (.slice q n c)) := by rw [hW0]; exact ⟨by go_simp, by go_simp, by go_simp, by go_simp⟩
  have hb0 : Below w.heap.size w W0 := by rw [hW0]; exact below2 w _ _
  rw [← hW0]
  clear hW0
  have hbw : Below w.heap.size w w := Below.refl _ _
  obtain ⟨gm, hgm⟩ : ∃ g, g = w.heap.size + 1 := ⟨_, rfl⟩
  have HGm : Hid (w.heap.size ≤ gm) := by rw [hgm]; show _ ≤ _; omega
  rw [← hgm] at Xm
  try rw [← hgm]
  obtain ⟨gg, hgg⟩ : ∃ g, g = w.heap.size := ⟨_, rfl⟩
  have HGg : Hid (w.heap.size ≤ gg) := by rw [hgg]; show _ ≤ _; omega
  rw [← hgg] at Xg
  try rw [← hgg]
  have HGD : Hid (gg ≠ gm ∧ gm ≠ gg) := by rw [hgg, hgm]; exact ⟨by omega, by omega⟩
  clear hgg hgm
  replace hbw := Below.on hbw hb0
  clear hb0
  refine (sign_any s (HZN.out.below hbw)).mono ?_
  rintro e v1 ⟨rfl, hb1⟩
  rw [HS.out]
  replace Xg : Hid _ := Xg.out.below hb1
  replace Xm : Hid _ := Xm.out.below hb1
  replace hbw := Below.on hbw hb1
  clear hb1
  obtain ⟨cm0, cm1, fm0, fm1⟩ := Xm.out
  have hnem := Xm.out.lt
  go_wp2_with fail
  clear cm0 cm1 fm0 fm1 hnem
  go_ret
  exact ⟨rfl, hbw⟩
theorem quotient_z {f p m l : Int} {S I H sd : Nat} {Be : Int} (J : Jn f p m l S I H sd Be) (hmd : m = (sd : Int) + 1) {pa pb : Option Addr} {na ca nb cb : Nat} {w : World} {x y e g : Int} {s t : Bool} (h : DN w s pa na ca e x) (k : DN w t pb nb cb g y) (hla : na ≤ 4096) (hlb : nb ≤ 4096) (hT : Tab w) (hy : y ≠ 0) (hx : x = 0) :
    Calls Tryz.prog 13 #[.int .i64 f, DV s pa na ca e, DV t pb nb cb g] w fun en w' => en = .returned (.tuple #[.int .u64 0, .int .i64 0]) ∧ Below w.heap.size w w' := by
  have HJN : Hid (Jn f p m l S I H sd Be) := J
  have A : Hid (DN w s pa na ca e x) := h
  have B : Hid (DN w t pb nb cb g y) := k
  have HLL : Hid (na ≤ 4096 ∧ nb ≤ 4096) := ⟨hla, hlb⟩
  have TB : Hid (Tab w) := hT
  have hsg : (sgnI y == 0) = false := by
    have : sgnI y ≠ 0 := by rcases sgn3 y with ⟨_, h2⟩ | ⟨h1, _⟩ | ⟨_, h2⟩ <;> omega
    simp [this]
  obtain ⟨sy, hsy⟩ : ∃ sy, sy = sgnI y := ⟨_, rfl⟩
  rw [← hsy] at hsg
  have HSY : Hid (sgnI y = sy) := hsy.symm
  have hsl := J.jm.sl
  obtain ⟨xs, hX⟩ := h.zn.ex
  obtain ⟨ys, hY⟩ := k.zn.ex
  have HX : Hid (Num w pa na ca xs x.natAbs) := hX
  have HY : Hid (Num w pb nb cb ys y.natAbs) := hY
  obtain ⟨L1, hL1⟩ : ∃ L1, L1 = bitsN x.natAbs := ⟨_, rfl⟩
  obtain ⟨L2, hL2⟩ : ∃ L2, L2 = bitsN y.natAbs := ⟨_, rfl⟩
  have hb1 := half_bits h.zn hla
  have hb2 := half_bits k.zn hlb
  rw [← hL1] at hb1
  rw [← hL2] at hb2
  have HBX : Hid (bitsN (valB B64 xs) = L1) := by rw [hL1, hX.nf.val]; rfl
  have HBY : Hid (bitsN (valB B64 ys) = L2) := by rw [hL2, hY.nf.val]; rfl
  obtain ⟨D1, hD1⟩ : ∃ D1 : Int, D1 = m + 1 + L2 := ⟨_, rfl⟩
  obtain ⟨D2, hD2⟩ : ∃ D2 : Int, D2 = D1 - L1 := ⟨_, rfl⟩
  obtain ⟨P, hP⟩ : ∃ P : Nat, P = (max D2 0).toNat := ⟨_, rfl⟩
  have c1 : wrap64 (m + 1 + (L2 : Int)) = D1 := by rw [hD1]; simp only [wrap64]; omega
  have c2 : IntKind.i64.wrap (m + 1 + (L2 : Int)) = D1 := by rw [hD1]; simp [IntKind.wrap, IntKind.signed, IntKind.bits]; omega
  have c3 : wrap64 (D1 - (L1 : Int)) = D2 := by rw [hD2]; simp only [wrap64]; omega
  have c4 : IntKind.i64.wrap (D1 - (L1 : Int)) = D2 := by rw [hD2]; simp [IntKind.wrap, IntKind.signed, IntKind.bits]; omega
  have HMX : Hid (max D2 0 = (P : Int)) := by show max D2 0 = (P : Int); omega
  have HM9 : Hid (0 ≤ m ∧ m ≤ 1000) := by show _ ∧ _; omega
  have HP : Hid (P ≤ 9223372036854775807 ∧ 2 ^ P * x.natAbs < LIM) := ⟨by omega, shl_lim2 (by rw [← hL1]; omega)⟩
  obtain ⟨F, hF⟩ : ∃ F, F = 2 ^ P * x.natAbs / y.natAbs := ⟨_, rfl⟩
  obtain ⟨r, hr⟩ : ∃ r, r = 2 ^ P * x.natAbs % y.natAbs := ⟨_, rfl⟩
  have HFR : Hid (2 ^ P * x.natAbs / y.natAbs = F ∧ 2 ^ P * x.natAbs % y.natAbs = r) := ⟨hF.symm, hr.symm⟩
  have HMX2 : Hid (2 * F + 1 < LIM ∧ y.natAbs ≠ 0) := ⟨by
    have h1 : F ≤ 2 ^ P * x.natAbs := by rw [hF]; exact Nat.div_le_self _ _
    have h2 : 2 ^ (P + 1) * x.natAbs + 1 ≤ 2 ^ (P + 2 + L1) := by
      have h3 := bitsN_lt x.natAbs
      rw [← hL1] at h3
      have h4 : 2 ^ (P + 1) * x.natAbs ≤ 2 ^ (P + 1) * 2 ^ L1 := Nat.mul_le_mul_left _ (Nat.le_of_lt h3)
      have h5 : 2 ^ (P + 2 + L1) = 2 * (2 ^ (P + 1) * 2 ^ L1) := by rw [← Nat.pow_add, ← Nat.pow_succ']; congr 1; omega
      have h6 : 0 < 2 ^ (P + 1) * 2 ^ L1 := Nat.mul_pos (Nat.pow_pos (by omega)) (Nat.pow_pos (by omega))
      omega
    have h7 : 2 ^ (P + 2 + L1) < LIM := by
      obtain ⟨n, hn⟩ : ∃ n, n = 524288 := ⟨_, rfl⟩
      rw [LIM_two n hn]
      exact Nat.pow_lt_pow_right (by omega) (by omega)
    have h8 : 2 ^ (P + 1) * x.natAbs = 2 * (2 ^ P * x.natAbs) := by rw [Nat.pow_succ, Nat.mul_comm (2 ^ P) 2, Nat.mul_assoc]
    omega, by omega⟩
  obtain ⟨E1, hE1⟩ : ∃ E1 : Int, E1 = e - g := ⟨_, rfl⟩
  obtain ⟨E2, hE2⟩ : ∃ E2 : Int, E2 = E1 - P := ⟨_, rfl⟩
  obtain ⟨E3, hE3⟩ : ∃ E3 : Int, E3 = E2 - 1 := ⟨_, rfl⟩
  have hfe : -1048576 ≤ e ∧ e ≤ 1048576 := by rcases h.fm with ⟨_, h2⟩ | ⟨_, h2, h3⟩ <;> omega
  have hfg : -1048576 ≤ g ∧ g ≤ 1048576 := by rcases k.fm with ⟨_, h2⟩ | ⟨_, h2, h3⟩ <;> omega
  have c5 : wrap64 (e - g) = E1 := by rw [hE1]; simp only [wrap64]; omega
  have c6 : IntKind.i64.wrap (e - g) = E1 := by rw [hE1]; simp [IntKind.wrap, IntKind.signed, IntKind.bits]; omega
  have c7 : wrap64 (E1 - (P : Int)) = E2 := by rw [hE2]; simp only [wrap64]; omega
  have c8 : IntKind.i64.wrap (E1 - (P : Int)) = E2 := by rw [hE2]; simp [IntKind.wrap, IntKind.signed, IntKind.bits]; omega
  have c9 : wrap64 (E2 - 1) = E3 := by rw [hE3]; simp only [wrap64]; omega
  have c10 : IntKind.i64.wrap (E2 - 1) = E3 := by rw [hE3]; simp [IntKind.wrap, IntKind.signed, IntKind.bits]; omega
  have HE : Hid (-4194304 ≤ E3 ∧ E3 ≤ 4194304) := by show _ ∧ _; omega
  have HF0 : Hid (F = 0 ∧ r = 0) := by show F = 0 ∧ r = 0; rw [hF, hr, hx]; simp
  clear J hmd h k hla hlb hT hy hx hsl hX hY hL1 hL2 hb1 hb2 hD1 hD2 hP hF hr hE1 hE2 hE3 hfe hfg hsy
  go_enter Tryz.func13, Tryz.ntmps13
  go_wp2_with fail
  obtain ⟨W0, hW0⟩ : ∃ W0, W0 = ((w.alloc (.cells #[.bool s, .slice pa na ca, .int .i64 e] 33)).alloc (.cells #[.bool t, .slice pb nb cb, .int .i64 g] 33)) := ⟨_, rfl⟩
  have Xa : Hid (B3q W0 (w.heap.size) (.bool s) (.slice pa na ca) (.int .i64 e)) := by rw [hW0]; exact ⟨by go_simp, by go_simp, by go_simp, by go_simp, by go_simp, by go_simp⟩
  have Xb : Hid (B3q W0 (w.heap.size + 1) (.bool t) (.slice pb nb cb) (.int .i64 g)) := by rw [hW0]; exact ⟨by go_simp, by go_simp, by go_simp, by go_simp, by go_simp, by go_simp⟩
  have hb0 : Below w.heap.size w W0 := by rw [hW0]; exact below2 w _ _
  rw [← hW0]
  clear hW0
  have hbw : Below w.heap.size w w := Below.refl _ _
  obtain ⟨gb, hgb⟩ : ∃ g, g = w.heap.size + 1 := ⟨_, rfl⟩
  have HGb : Hid (w.heap.size ≤ gb) := by rw [hgb]; show _ ≤ _; omega
  rw [← hgb] at Xb
  try rw [← hgb]
  obtain ⟨ga, hga⟩ : ∃ g, g = w.heap.size := ⟨_, rfl⟩
  have HGa : Hid (w.heap.size ≤ ga) := by rw [hga]; show _ ≤ _; omega
  rw [← hga] at Xa
  try rw [← hga]
  have HGD : Hid (ga ≠ gb ∧ gb ≠ ga) := by rw [hga, hgb]; exact ⟨by omega, by omega⟩
  clear hga hgb
  replace hbw := Below.on hbw hb0
  clear hb0
  refine (HJN.out.jm.pm.fm.of _).mono ?_
  rintro e v1 ⟨rfl, hb1⟩
  replace Xa : Hid _ := Xa.out.below hb1
  replace Xb : Hid _ := Xb.out.below hb1
  replace hbw := Below.on hbw hb1
  clear hb1
  obtain ⟨ca0, ca1, ca2, fa0, fa1, fa2⟩ := Xa.out
  have hnea : ga < v1.heap.size := World.block_lt_of_cell? v1 _ ca0
  obtain ⟨cb0, cb1, cb2, fb0, fb1, fb2⟩ := Xb.out
  have hneb : gb < v1.heap.size := World.block_lt_of_cell? v1 _ cb0
  go_wp2_with fail
  clear ca0 ca1 ca2 fa0 fa1 fa2 hnea
  clear cb0 cb1 cb2 fb0 fb1 fb2 hneb
  have Xg0 : Hid (B3q (v1.alloc (.cells #[.int .i64 p, .int .i64 m, .int .i64 l] 47)) v1.heap.size (.int .i64 p) (.int .i64 m) (.int .i64 l)) := B3q.new v1 _ _ _ _
  have hbn : Below v1.heap.size v1 (v1.alloc (.cells #[.int .i64 p, .int .i64 m, .int .i64 l] 47)) := below1 v1 _
  generalize v1.alloc (.cells #[.int .i64 p, .int .i64 m, .int .i64 l] 47) = Wg at *
  have HGg : Hid (w.heap.size ≤ v1.heap.size) := hbw.size
  replace Xa : Hid _ := Xa.out.below hbn
  replace Xb : Hid _ := Xb.out.below hbn
  replace hbw := Below.on hbw hbn
  clear hbn
  generalize v1.heap.size = gg at *
  have Xg := Xg0
  clear Xg0
  refine (dform_t (A.out.below hbw)).mono ?_
  rintro e v2 ⟨rfl, hb2⟩
  replace Xa : Hid _ := Xa.out.below hb2
  replace Xb : Hid _ := Xb.out.below hb2
  replace Xg : Hid _ := Xg.out.below hb2
  replace hbw := Below.on hbw hb2
  clear hb2
  obtain ⟨ca0, ca1, ca2, fa0, fa1, fa2⟩ := Xa.out
  have hnea : ga < v2.heap.size := World.block_lt_of_cell? v2 _ ca0
  obtain ⟨cb0, cb1, cb2, fb0, fb1, fb2⟩ := Xb.out
  have hneb : gb < v2.heap.size := World.block_lt_of_cell? v2 _ cb0
  obtain ⟨cg0, cg1, cg2, fg0, fg1, fg2⟩ := Xg.out
  have hneg : gg < v2.heap.size := World.block_lt_of_cell? v2 _ cg0
  go_wp2_with fail
  clear ca0 ca1 ca2 fa0 fa1 fa2 hnea
  clear cb0 cb1 cb2 fb0 fb1 fb2 hneb
  clear cg0 cg1 cg2 fg0 fg1 fg2 hneg
  refine (dform_t (B.out.below hbw)).mono ?_
  rintro e v3 ⟨rfl, hb3⟩
  replace Xa : Hid _ := Xa.out.below hb3
  replace Xb : Hid _ := Xb.out.below hb3
  replace Xg : Hid _ := Xg.out.below hb3
  replace hbw := Below.on hbw hb3
  clear hb3
  obtain ⟨ca0, ca1, ca2, fa0, fa1, fa2⟩ := Xa.out
  have hnea : ga < v3.heap.size := World.block_lt_of_cell? v3 _ ca0
  obtain ⟨cb0, cb1, cb2, fb0, fb1, fb2⟩ := Xb.out
  have hneb : gb < v3.heap.size := World.block_lt_of_cell? v3 _ cb0
  obtain ⟨cg0, cg1, cg2, fg0, fg1, fg2⟩ := Xg.out
  have hneg : gg < v3.heap.size := World.block_lt_of_cell? v3 _ cg0
  go_wp2_with fail
  clear ca0 ca1 ca2 fa0 fa1 fa2 hnea
  clear cb0 cb1 cb2 fb0 fb1 fb2 hneb
  clear cg0 cg1 cg2 fg0 fg1 fg2 hneg
  refine (zsign (B.out.zn.below hbw)).mono ?_
  rintro e v4 ⟨rfl, hb4⟩
  rw [HSY.out]
  replace Xa : Hid _ := Xa.out.below hb4
  replace Xb : Hid _ := Xb.out.below hb4
  replace Xg : Hid _ := Xg.out.below hb4
  replace hbw := Below.on hbw hb4
  clear hb4
  obtain ⟨ca0, ca1, ca2, fa0, fa1, fa2⟩ := Xa.out
  have hnea : ga < v4.heap.size := World.block_lt_of_cell? v4 _ ca0
  obtain ⟨cb0, cb1, cb2, fb0, fb1, fb2⟩ := Xb.out
  have hneb : gb < v4.heap.size := World.block_lt_of_cell? v4 _ cb0
  obtain ⟨cg0, cg1, cg2, fg0, fg1, fg2⟩ := Xg.out
  have hneg : gg < v4.heap.size := World.block_lt_of_cell? v4 _ cg0
  go_wp2_with fail
  clear ca0 ca1 ca2 fa0 fa1 fa2 hnea
  clear cb0 cb1 cb2 fb0 fb1 fb2 hneb
  clear cg0 cg1 cg2 fg0 fg1 fg2 hneg
  refine (toolong HLL.out.1).mono ?_
  rintro e v5 ⟨rfl, hb5⟩
  replace Xa : Hid _ := Xa.out.below hb5
  replace Xb : Hid _ := Xb.out.below hb5
  replace Xg : Hid _ := Xg.out.below hb5
  replace hbw := Below.on hbw hb5
  clear hb5
  obtain ⟨ca0, ca1, ca2, fa0, fa1, fa2⟩ := Xa.out
  have hnea : ga < v5.heap.size := World.block_lt_of_cell? v5 _ ca0
  obtain ⟨cb0, cb1, cb2, fb0, fb1, fb2⟩ := Xb.out
  have hneb : gb < v5.heap.size := World.block_lt_of_cell? v5 _ cb0
  obtain ⟨cg0, cg1, cg2, fg0, fg1, fg2⟩ := Xg.out
  have hneg : gg < v5.heap.size := World.block_lt_of_cell? v5 _ cg0
  go_wp2_with fail
  clear ca0 ca1 ca2 fa0 fa1 fa2 hnea
  clear cb0 cb1 cb2 fb0 fb1 fb2 hneb
  clear cg0 cg1 cg2 fg0 fg1 fg2 hneg
  refine (toolong HLL.out.2).mono ?_
  rintro e v6 ⟨rfl, hb6⟩
  replace Xa : Hid _ := Xa.out.below hb6
  replace Xb : Hid _ := Xb.out.below hb6
  replace Xg : Hid _ := Xg.out.below hb6
  replace hbw := Below.on hbw hb6
  clear hb6
  obtain ⟨ca0, ca1, ca2, fa0, fa1, fa2⟩ := Xa.out
  have hnea : ga < v6.heap.size := World.block_lt_of_cell? v6 _ ca0
  obtain ⟨cb0, cb1, cb2, fb0, fb1, fb2⟩ := Xb.out
  have hneb : gb < v6.heap.size := World.block_lt_of_cell? v6 _ cb0
  obtain ⟨cg0, cg1, cg2, fg0, fg1, fg2⟩ := Xg.out
  have hneg : gg < v6.heap.size := World.block_lt_of_cell? v6 _ cg0
  go_wp2_with fail
  clear ca0 ca1 ca2 fa0 fa1 fa2 hnea
  clear cb0 cb1 cb2 fb0 fb1 fb2 hneb
  clear cg0 cg1 cg2 fg0 fg1 fg2 hneg
  obtain ⟨W6, hW6⟩ : ∃ W1, W1 = v6.drew := ⟨_, rfl⟩
  have hbd : Below v6.heap.size v6 W6 := by rw [hW6]; exact bDrew1 (Below.refl _ _)
  replace Xa : Hid _ := Xa.out.below hbd
  replace Xb : Hid _ := Xb.out.below hbd
  replace Xg : Hid _ := Xg.out.below hbd
  replace hbw := Below.on hbw hbd
  clear hbd
  have HJ : Hid ((fun W' : World => W'.cell? ⟨gg, 0, none⟩ = some (.int .i64 p) ∧ W'.cell? ⟨gg, 1, none⟩ = some (.int .i64 m) ∧ W'.cell? ⟨gg, 2, none⟩ = some (.int .i64 l) ∧ W'.cell? ⟨gb, 0, none⟩ = some (.bool t) ∧ W'.cell? ⟨gb, 1, none⟩ = some (.slice pb nb cb) ∧ W'.cell? ⟨gb, 2, none⟩ = some (.int .i64 g) ∧ W'.cell? ⟨ga, 0, none⟩ = some (.bool s) ∧ W'.cell? ⟨ga, 1, none⟩ = some (.slice pa na ca) ∧ W'.cell? ⟨ga, 2, none⟩ = some (.int .i64 e)) W6) := ⟨Xg.out.c0, Xg.out.c1, Xg.out.c2, Xb.out.c0, Xb.out.c1, Xb.out.c2, Xa.out.c0, Xa.out.c1, Xa.out.c2⟩
  refine wp_region_J (fun W' => W'.cell? ⟨gg, 0, none⟩ = some (.int .i64 p) ∧ W'.cell? ⟨gg, 1, none⟩ = some (.int .i64 m) ∧ W'.cell? ⟨gg, 2, none⟩ = some (.int .i64 l) ∧ W'.cell? ⟨gb, 0, none⟩ = some (.bool t) ∧ W'.cell? ⟨gb, 1, none⟩ = some (.slice pb nb cb) ∧ W'.cell? ⟨gb, 2, none⟩ = some (.int .i64 g) ∧ W'.cell? ⟨ga, 0, none⟩ = some (.bool s) ∧ W'.cell? ⟨ga, 1, none⟩ = some (.slice pa na ca) ∧ W'.cell? ⟨ga, 2, none⟩ = some (.int .i64 e)) (by kernel_rfl) ?_
  rw [← hW6]
  clear hW6
  refine wpJ_tq 0 rfl HJ.out ?_
  refine wpJ_tq 2 rfl HJ.out ?_
  refine wpJ_tq 3 rfl HJ.out ?_
  refine wpJ_tq 4 rfl HJ.out ?_
  refine wpJ_tq 7 rfl HJ.out ?_
  go_simp
  refine wpJ_tq 8 rfl HJ.out ?_
  refine wpJ_tq 9 rfl HJ.out ?_
  refine wpJ_on 1 rfl fun KJ hK => ?_
  go_simp
  refine (enough_ok HM9.out).mono ?_
  rintro e v7 ⟨rfl, hb7⟩
  replace Xa : Hid _ := Xa.out.below hb7
  replace Xb : Hid _ := Xb.out.below hb7
  replace Xg : Hid _ := Xg.out.below hb7
  replace hbw := Below.on hbw hb7
  clear hb7
  refine hK _ _ ⟨Xg.out.c0, Xg.out.c1, Xg.out.c2, Xb.out.c0, Xb.out.c1, Xb.out.c2, Xa.out.c0, Xa.out.c1, Xa.out.c2⟩ ?_
  clear hK
  refine wpJ_on 5 rfl fun KJ hK => ?_
  go_simp
  refine (bits_any (HY.out.at_.below hbw) (Nat.le_trans HY.out.le (by decide))).mono ?_
  rintro e v8 ⟨rfl, hw⟩
  obtain rfl := hw.symm
  clear hw
  rw [HBY.out]
  clear HJ
  have HJ : Hid ((fun W' : World => W'.cell? ⟨gg, 0, none⟩ = some (.int .i64 p) ∧ W'.cell? ⟨gg, 1, none⟩ = some (.int .i64 m) ∧ W'.cell? ⟨gg, 2, none⟩ = some (.int .i64 l) ∧ W'.cell? ⟨gb, 0, none⟩ = some (.bool t) ∧ W'.cell? ⟨gb, 1, none⟩ = some (.slice pb nb cb) ∧ W'.cell? ⟨gb, 2, none⟩ = some (.int .i64 g) ∧ W'.cell? ⟨ga, 0, none⟩ = some (.bool s) ∧ W'.cell? ⟨ga, 1, none⟩ = some (.slice pa na ca) ∧ W'.cell? ⟨ga, 2, none⟩ = some (.int .i64 e)) v7) := ⟨Xg.out.c0, Xg.out.c1, Xg.out.c2, Xb.out.c0, Xb.out.c1, Xb.out.c2, Xa.out.c0, Xa.out.c1, Xa.out.c2⟩
  refine hK _ _ HJ.out ?_
  clear hK
  refine wpJ_tq 6 rfl HJ.out ?_
  refine wpJ_on 10 rfl fun KJ hK => ?_
  go_simp
  refine (bits_any (HX.out.at_.below hbw) (Nat.le_trans HX.out.le (by decide))).mono ?_
  rintro e v9 ⟨rfl, hw⟩
  obtain rfl := hw.symm
  clear hw
  rw [HBX.out]
  clear HJ
  have HJ : Hid ((fun W' : World => W'.cell? ⟨gg, 0, none⟩ = some (.int .i64 p) ∧ W'.cell? ⟨gg, 1, none⟩ = some (.int .i64 m) ∧ W'.cell? ⟨gg, 2, none⟩ = some (.int .i64 l) ∧ W'.cell? ⟨gb, 0, none⟩ = some (.bool t) ∧ W'.cell? ⟨gb, 1, none⟩ = some (.slice pb nb cb) ∧ W'.cell? ⟨gb, 2, none⟩ = some (.int .i64 g) ∧ W'.cell? ⟨ga, 0, none⟩ = some (.bool s) ∧ W'.cell? ⟨ga, 1, none⟩ = some (.slice pa na ca) ∧ W'.cell? ⟨ga, 2, none⟩ = some (.int .i64 e)) v7) := ⟨Xg.out.c0, Xg.out.c1, Xg.out.c2, Xb.out.c0, Xb.out.c1, Xb.out.c2, Xa.out.c0, Xa.out.c1, Xa.out.c2⟩
  refine hK _ _ HJ.out ?_
  clear hK
  refine wpJ_tq 11 rfl HJ.out ?_
  refine wpJ_tq 12 rfl HJ.out ?_
  refine wpJ_tq 13 rfl HJ.out ?_
  refine wpJ_done (by kernel_rfl) ?_ _
  clear HJ
  obtain ⟨ca0, ca1, ca2, fa0, fa1, fa2⟩ := Xa.out
  have hnea : ga < v7.heap.size := World.block_lt_of_cell? v7 _ ca0
  obtain ⟨cb0, cb1, cb2, fb0, fb1, fb2⟩ := Xb.out
  have hneb : gb < v7.heap.size := World.block_lt_of_cell? v7 _ cb0
  obtain ⟨cg0, cg1, cg2, fg0, fg1, fg2⟩ := Xg.out
  have hneg : gg < v7.heap.size := World.block_lt_of_cell? v7 _ cg0
  go_wp2_with fail
  clear ca0 ca1 ca2 fa0 fa1 fa2 hnea
  clear cb0 cb1 cb2 fb0 fb1 fb2 hneb
  clear cg0 cg1 cg2 fg0 fg1 fg2 hneg
  rw [HMX.out]
  refine (shl_nf (HX.out.at_.below hbw) HX.out.nf HX.out.le P HP.out.1).mono ?_
  rintro e2 v10 ⟨ha, hb10⟩
  obtain ⟨p1, m1, z1, rfl, ho1, hn1, hm1⟩ := ha.ok HP.out.2
  clear ha
  replace Xa : Hid _ := Xa.out.below hb10
  replace Xb : Hid _ := Xb.out.below hb10
  replace Xg : Hid _ := Xg.out.below hb10
  replace hbw := Below.on hbw hb10
  clear hb10
  have O1 : Hid (Own v7.heap.size v10 p1 m1 z1) := ho1
  have N1 : Hid (Nf B64 z1 (2 ^ P * x.natAbs) ∧ m1 ≤ 8192) := ⟨hn1, hm1⟩
  clear ho1 hn1 hm1
  obtain ⟨ca0, ca1, ca2, fa0, fa1, fa2⟩ := Xa.out
  have hnea : ga < v10.heap.size := World.block_lt_of_cell? v10 _ ca0
  obtain ⟨cb0, cb1, cb2, fb0, fb1, fb2⟩ := Xb.out
  have hneb : gb < v10.heap.size := World.block_lt_of_cell? v10 _ cb0
  obtain ⟨cg0, cg1, cg2, fg0, fg1, fg2⟩ := Xg.out
  have hneg : gg < v10.heap.size := World.block_lt_of_cell? v10 _ cg0
  go_wp2_with fail
  clear ca0 ca1 ca2 fa0 fa1 fa2 hnea
  clear cb0 cb1 cb2 fb0 fb1 fb2 hneb
  clear cg0 cg1 cg2 fg0 fg1 fg2 hneg
  refine (quorem_any (Num.of O1.out N1.out.1 N1.out.2).at_ (HY.out.at_.below hbw) N1.out.1 HY.out.nf N1.out.2 HY.out.le HMX2.out.2).mono ?_
  rintro e2 v11 ⟨u1, u2, rfl, hdt⟩
  obtain ⟨p2, m2, z2, rfl, ho2, hn2, hm2⟩ := hdt.quo
  obtain ⟨p3, m3, z3, rfl, ho3, hn3, hm3⟩ := hdt.rem
  rw [HFR.out.1] at hn2
  rw [HFR.out.2] at hn3
  have hb11 := hdt.bel
  clear hdt
  clear O1
  replace Xa : Hid _ := Xa.out.below hb11
  replace Xb : Hid _ := Xb.out.below hb11
  replace Xg : Hid _ := Xg.out.below hb11
  replace hbw := Below.on hbw hb11
  clear hb11
  have O2 : Hid (Own v10.heap.size v11 p2 m2 z2) := ho2
  have O3 : Hid (Own v10.heap.size v11 p3 m3 z3) := ho3
  have N2 : Hid (Nf B64 z2 F ∧ m2 ≤ 8192) := ⟨hn2, hm2⟩
  have N3 : Hid (Nf B64 z3 r ∧ m3 ≤ 8192) := ⟨hn3, hm3⟩
  clear ho2 hn2 hm2 ho3 hn3 hm3
  obtain ⟨ca0, ca1, ca2, fa0, fa1, fa2⟩ := Xa.out
  have hnea : ga < v11.heap.size := World.block_lt_of_cell? v11 _ ca0
  obtain ⟨cb0, cb1, cb2, fb0, fb1, fb2⟩ := Xb.out
  have hneb : gb < v11.heap.size := World.block_lt_of_cell? v11 _ cb0
  obtain ⟨cg0, cg1, cg2, fg0, fg1, fg2⟩ := Xg.out
  have hneg : gg < v11.heap.size := World.block_lt_of_cell? v11 _ cg0
  go_wp2_with fail
  clear ca0 ca1 ca2 fa0 fa1 fa2 hnea
  clear cb0 cb1 cb2 fb0 fb1 fb2 hneb
  clear cg0 cg1 cg2 fg0 fg1 fg2 hneg
  rw [show (!s == t) = (s != t) from by cases s <;> cases t <;> rfl]
  refine (withmark (s != t) (Num.of O2.out N2.out.1 N2.out.2) (Num.of O3.out N3.out.1 N3.out.2) HMX2.out.1).mono ?_
  rintro e2 v12 ⟨p4, m4, z4, rfl, ho4, hn4, hm4, hb12⟩
  clear O2
  clear O3
  replace Xa : Hid _ := Xa.out.below hb12
  replace Xb : Hid _ := Xb.out.below hb12
  replace Xg : Hid _ := Xg.out.below hb12
  replace hbw := Below.on hbw hb12
  clear hb12
  have O4 : Hid (Own v11.heap.size v12 p4 m4 z4) := ho4
  have N4 : Hid (Nf B64 z4 (2 * F + (if r = 0 then 0 else 1)) ∧ m4 ≤ 8192) := ⟨hn4, hm4⟩
  clear ho4 hn4 hm4
  obtain ⟨sg, hsg2⟩ : ∃ sg, sg = (s != t) := ⟨_, rfl⟩
  have HSG : Hid (sg = (s != t)) := hsg2
  rw [← hsg2]
  clear hsg2
  obtain ⟨ca0, ca1, ca2, fa0, fa1, fa2⟩ := Xa.out
  have hnea : ga < v12.heap.size := World.block_lt_of_cell? v12 _ ca0
  obtain ⟨cb0, cb1, cb2, fb0, fb1, fb2⟩ := Xb.out
  have hneb : gb < v12.heap.size := World.block_lt_of_cell? v12 _ cb0
  obtain ⟨cg0, cg1, cg2, fg0, fg1, fg2⟩ := Xg.out
  have hneg : gg < v12.heap.size := World.block_lt_of_cell? v12 _ cg0
  go_wp2_with fail
  clear ca0 ca1 ca2 fa0 fa1 fa2 hnea
  clear cb0 cb1 cb2 fb0 fb1 fb2 hneb
  clear cg0 cg1 cg2 fg0 fg1 fg2 hneg
  have Xm0 : Hid (Box (v12.alloc (.cells #[.bool sg, .slice p4 m4 m4] 31)) v12.heap.size (.bool sg) (.slice p4 m4 m4)) := Box.new v12 _ _ _
  have hbn : Below v12.heap.size v12 (v12.alloc (.cells #[.bool sg, .slice p4 m4 m4] 31)) := below1 v12 _
  generalize v12.alloc (.cells #[.bool sg, .slice p4 m4 m4] 31) = Wm at *
  have HGm : Hid (w.heap.size ≤ v12.heap.size) := hbw.size
  replace Xa : Hid _ := Xa.out.below hbn
  replace Xb : Hid _ := Xb.out.below hbn
  replace Xg : Hid _ := Xg.out.below hbn
  replace O4 : Hid (Own v11.heap.size Wm p4 m4 z4) := O4.out.below hbn
  replace hbw := Below.on hbw hbn
  clear hbn
  generalize v12.heap.size = gm at *
  have Xm := Xm0
  clear Xm0
  have hn0 := N4.out
  rw [HF0.out.1, HF0.out.2] at hn0
  refine (nearest_o (w := Wm) (xs := z4) (s := sg) (Num.of O4.out hn0.1 hn0.2)).mono ?_
  rintro e2 v13 ⟨rfl, hb13⟩
  clear hn0
  replace Xa : Hid _ := Xa.out.below hb13
  replace Xb : Hid _ := Xb.out.below hb13
  replace Xg : Hid _ := Xg.out.below hb13
  replace Xm : Hid _ := Xm.out.below hb13
  replace O4 : Hid (Own v11.heap.size v13 p4 m4 z4) := O4.out.below hb13
  replace hbw := Below.on hbw hb13
  clear hb13
  go_wp2_with fail
  go_ret2
  exact ⟨rfl, hbw⟩
theorem quotient_n {f p m l : Int} {S I H sd : Nat} {Be : Int} (J : Jn f p m l S I H sd Be) (hmd : m = (sd : Int) + 1) {pa pb : Option Addr} {na ca nb cb : Nat} {w : World} {x y e g : Int} {s t : Bool} (h : DN w s pa na ca e x) (k : DN w t pb nb cb g y) (hla : na ≤ 4096) (hlb : nb ≤ 4096) (hT : Tab w) (hy : y ≠ 0) (hx : x ≠ 0) :
    Calls Tryz.prog 13 #[.int .i64 f, DV s pa na ca e, DV t pb nb cb g] w fun en w' => ∃ b Z V, en = .returned (.tuple #[U b, .int .i64 0]) ∧ SgB S s t b Z ∧ RNz H l I V Z ∧ Mk H l I (fun τ => (y.natAbs : Int) * τ) (dv (x.natAbs : Int) (e - g)) V ∧ Below w.heap.size w w' := by
  have HJN : Hid (Jn f p m l S I H sd Be) := J
  have A : Hid (DN w s pa na ca e x) := h
  have B : Hid (DN w t pb nb cb g y) := k
  have HLL : Hid (na ≤ 4096 ∧ nb ≤ 4096) := ⟨hla, hlb⟩
  have TB : Hid (Tab w) := hT
  have hsg : (sgnI y == 0) = false := by
    have : sgnI y ≠ 0 := by rcases sgn3 y with ⟨_, h2⟩ | ⟨h1, _⟩ | ⟨_, h2⟩ <;> omega
    simp [this]
  obtain ⟨sy, hsy⟩ : ∃ sy, sy = sgnI y := ⟨_, rfl⟩
  rw [← hsy] at hsg
  have HSY : Hid (sgnI y = sy) := hsy.symm
  have hsl := J.jm.sl
  obtain ⟨xs, hX⟩ := h.zn.ex
  obtain ⟨ys, hY⟩ := k.zn.ex
  have HX : Hid (Num w pa na ca xs x.natAbs) := hX
  have HY : Hid (Num w pb nb cb ys y.natAbs) := hY
  obtain ⟨L1, hL1⟩ : ∃ L1, L1 = bitsN x.natAbs := ⟨_, rfl⟩
  obtain ⟨L2, hL2⟩ : ∃ L2, L2 = bitsN y.natAbs := ⟨_, rfl⟩
  have hb1 := half_bits h.zn hla
  have hb2 := half_bits k.zn hlb
  rw [← hL1] at hb1
  rw [← hL2] at hb2
  have HBX : Hid (bitsN (valB B64 xs) = L1) := by rw [hL1, hX.nf.val]; rfl
  have HBY : Hid (bitsN (valB B64 ys) = L2) := by rw [hL2, hY.nf.val]; rfl
  obtain ⟨D1, hD1⟩ : ∃ D1 : Int, D1 = m + 1 + L2 := ⟨_, rfl⟩
  obtain ⟨D2, hD2⟩ : ∃ D2 : Int, D2 = D1 - L1 := ⟨_, rfl⟩
  obtain ⟨P, hP⟩ : ∃ P : Nat, P = (max D2 0).toNat := ⟨_, rfl⟩
  have c1 : wrap64 (m + 1 + (L2 : Int)) = D1 := by rw [hD1]; simp only [wrap64]; omega
  have c2 : IntKind.i64.wrap (m + 1 + (L2 : Int)) = D1 := by rw [hD1]; simp [IntKind.wrap, IntKind.signed, IntKind.bits]; omega
  have c3 : wrap64 (D1 - (L1 : Int)) = D2 := by rw [hD2]; simp only [wrap64]; omega
  have c4 : IntKind.i64.wrap (D1 - (L1 : Int)) = D2 := by rw [hD2]; simp [IntKind.wrap, IntKind.signed, IntKind.bits]; omega
  have HMX : Hid (max D2 0 = (P : Int)) := by show max D2 0 = (P : Int); omega
  have HM9 : Hid (0 ≤ m ∧ m ≤ 1000) := by show _ ∧ _; omega
  have HP : Hid (P ≤ 9223372036854775807 ∧ 2 ^ P * x.natAbs < LIM) := ⟨by omega, shl_lim2 (by rw [← hL1]; omega)⟩
  obtain ⟨F, hF⟩ : ∃ F, F = 2 ^ P * x.natAbs / y.natAbs := ⟨_, rfl⟩
  obtain ⟨r, hr⟩ : ∃ r, r = 2 ^ P * x.natAbs % y.natAbs := ⟨_, rfl⟩
  have HFR : Hid (2 ^ P * x.natAbs / y.natAbs = F ∧ 2 ^ P * x.natAbs % y.natAbs = r) := ⟨hF.symm, hr.symm⟩
  have HMX2 : Hid (2 * F + 1 < LIM ∧ y.natAbs ≠ 0) := ⟨by
    have h1 : F ≤ 2 ^ P * x.natAbs := by rw [hF]; exact Nat.div_le_self _ _
    have h2 : 2 ^ (P + 1) * x.natAbs + 1 ≤ 2 ^ (P + 2 + L1) := by
      have h3 := bitsN_lt x.natAbs
      rw [← hL1] at h3
      have h4 : 2 ^ (P + 1) * x.natAbs ≤ 2 ^ (P + 1) * 2 ^ L1 := Nat.mul_le_mul_left _ (Nat.le_of_lt h3)
      have h5 : 2 ^ (P + 2 + L1) = 2 * (2 ^ (P + 1) * 2 ^ L1) := by rw [← Nat.pow_add, ← Nat.pow_succ']; congr 1; omega
      have h6 : 0 < 2 ^ (P + 1) * 2 ^ L1 := Nat.mul_pos (Nat.pow_pos (by omega)) (Nat.pow_pos (by omega))
      omega
    have h7 : 2 ^ (P + 2 + L1) < LIM := by
      obtain ⟨n, hn⟩ : ∃ n, n = 524288 := ⟨_, rfl⟩
      rw [LIM_two n hn]
      exact Nat.pow_lt_pow_right (by omega) (by omega)
    have h8 : 2 ^ (P + 1) * x.natAbs = 2 * (2 ^ P * x.natAbs) := by rw [Nat.pow_succ, Nat.mul_comm (2 ^ P) 2, Nat.mul_assoc]
    omega, by omega⟩
  obtain ⟨E1, hE1⟩ : ∃ E1 : Int, E1 = e - g := ⟨_, rfl⟩
  obtain ⟨E2, hE2⟩ : ∃ E2 : Int, E2 = E1 - P := ⟨_, rfl⟩
  obtain ⟨E3, hE3⟩ : ∃ E3 : Int, E3 = E2 - 1 := ⟨_, rfl⟩
  have hfe : -1048576 ≤ e ∧ e ≤ 1048576 := by rcases h.fm with ⟨_, h2⟩ | ⟨_, h2, h3⟩ <;> omega
  have hfg : -1048576 ≤ g ∧ g ≤ 1048576 := by rcases k.fm with ⟨_, h2⟩ | ⟨_, h2, h3⟩ <;> omega
  have c5 : wrap64 (e - g) = E1 := by rw [hE1]; simp only [wrap64]; omega
  have c6 : IntKind.i64.wrap (e - g) = E1 := by rw [hE1]; simp [IntKind.wrap, IntKind.signed, IntKind.bits]; omega
  have c7 : wrap64 (E1 - (P : Int)) = E2 := by rw [hE2]; simp only [wrap64]; omega
  have c8 : IntKind.i64.wrap (E1 - (P : Int)) = E2 := by rw [hE2]; simp [IntKind.wrap, IntKind.signed, IntKind.bits]; omega
  have c9 : wrap64 (E2 - 1) = E3 := by rw [hE3]; simp only [wrap64]; omega
  have c10 : IntKind.i64.wrap (E2 - 1) = E3 := by rw [hE3]; simp [IntKind.wrap, IntKind.signed, IntKind.bits]; omega
  have HE : Hid (-4194304 ≤ E3 ∧ E3 ≤ 4194304) := by show _ ∧ _; omega
  have HMK : Hid (∀ V, V = dv ((2 * F + (if r = 0 then 0 else 1) : Nat) : Int) E3 → Mk H l I (fun τ => (y.natAbs : Int) * τ) (dv (x.natAbs : Int) (e - g)) V) := by
    intro V hV
    rw [hV]
    refine mk_quo J.jm.pm.hp (by have := J.jm.pm.lo; omega) (k := P) (F := F) (r := r) (by omega) (by omega) ?_ ?_ ?_ rfl
    · rw [J.jm.hs, hF]
      exact quo_big (by omega) (by omega) (by rw [← hL1, ← hL2]; omega)
    · rw [Nat.mul_comm, hF, hr, Nat.mul_comm (_ / _)]
      exact (Nat.div_add_mod _ _).symm
    · rw [hr]; exact Nat.mod_lt _ (by omega)
  have HF0 : Hid (F ≠ 0) := by
    have := quo_big (x := x.natAbs) (y := y.natAbs) (sd := sd) (P := P) (by omega) (by omega) (by rw [← hL1, ← hL2]; omega)
    have h2 : 0 < 2 ^ sd := Nat.pow_pos (by omega)
    show F ≠ 0
    omega
  clear J hmd h k hla hlb hT hy hx hsl hX hY hL1 hL2 hb1 hb2 hD1 hD2 hP hF hr hE1 hE2 hE3 hfe hfg hsy
  go_enter Tryz.func13, Tryz.ntmps13
  go_wp2_with fail
  obtain ⟨W0, hW0⟩ : ∃ W0, W0 = ((w.alloc (.cells #[.bool s, .slice pa na ca, .int .i64 e] 33)).alloc (.cells #[.bool t, .slice pb nb cb, .int .i64 g] 33)) := ⟨_, rfl⟩
  have Xa : Hid (B3q W0 (w.heap.size) (.bool s) (.slice pa na ca) (.int .i64 e)) := by rw [hW0]; exact ⟨by go_simp, by go_simp, by go_simp, by go_simp, by go_simp, by go_simp⟩
  have Xb : Hid (B3q W0 (w.heap.size + 1) (.bool t) (.slice pb nb cb) (.int .i64 g)) := by rw [hW0]; exact ⟨by go_simp, by go_simp, by go_simp, by go_simp, by go_simp, by go_simp⟩
  have hb0 : Below w.heap.size w W0 := by rw [hW0]; exact below2 w _ _
  rw [← hW0]
  clear hW0
  have hbw : Below w.heap.size w w := Below.refl _ _
  obtain ⟨gb, hgb⟩ : ∃ g, g = w.heap.size + 1 := ⟨_, rfl⟩
  have HGb : Hid (w.heap.size ≤ gb) := by rw [hgb]; show _ ≤ _; omega
  rw [← hgb] at Xb
  try rw [← hgb]
  obtain ⟨ga, hga⟩ : ∃ g, g = w.heap.size := ⟨_, rfl⟩
  have HGa : Hid (w.heap.size ≤ ga) := by rw [hga]; show _ ≤ _; omega
  rw [← hga] at Xa
  try rw [← hga]
  have HGD : Hid (ga ≠ gb ∧ gb ≠ ga) := by rw [hga, hgb]; exact ⟨by omega, by omega⟩
  clear hga hgb
  replace hbw := Below.on hbw hb0
  clear hb0
  refine (HJN.out.jm.pm.fm.of _).mono ?_
  rintro e v1 ⟨rfl, hb1⟩
  replace Xa : Hid _ := Xa.out.below hb1
  replace Xb : Hid _ := Xb.out.below hb1
  replace hbw := Below.on hbw hb1
  clear hb1
  obtain ⟨ca0, ca1, ca2, fa0, fa1, fa2⟩ := Xa.out
  have hnea : ga < v1.heap.size := World.block_lt_of_cell? v1 _ ca0
  obtain ⟨cb0, cb1, cb2, fb0, fb1, fb2⟩ := Xb.out
  have hneb : gb < v1.heap.size := World.block_lt_of_cell? v1 _ cb0
  go_wp2_with fail
  clear ca0 ca1 ca2 fa0 fa1 fa2 hnea
  clear cb0 cb1 cb2 fb0 fb1 fb2 hneb
  have Xg0 : Hid (B3q (v1.alloc (.cells #[.int .i64 p, .int .i64 m, .int .i64 l] 47)) v1.heap.size (.int .i64 p) (.int .i64 m) (.int .i64 l)) := B3q.new v1 _ _ _ _
  have hbn : Below v1.heap.size v1 (v1.alloc (.cells #[.int .i64 p, .int .i64 m, .int .i64 l] 47)) := below1 v1 _
  generalize v1.alloc (.cells #[.int .i64 p, .int .i64 m, .int .i64 l] 47) = Wg at *
  have HGg : Hid (w.heap.size ≤ v1.heap.size) := hbw.size
  replace Xa : Hid _ := Xa.out.below hbn
  replace Xb : Hid _ := Xb.out.below hbn
  replace hbw := Below.on hbw hbn
  clear hbn
  generalize v1.heap.size = gg at *
  have Xg := Xg0
  clear Xg0
  refine (dform_t (A.out.below hbw)).mono ?_
  rintro e v2 ⟨rfl, hb2⟩
  replace Xa : Hid _ := Xa.out.below hb2
  replace Xb : Hid _ := Xb.out.below hb2
  replace Xg : Hid _ := Xg.out.below hb2
  replace hbw := Below.on hbw hb2
  clear hb2
  obtain ⟨ca0, ca1, ca2, fa0, fa1, fa2⟩ := Xa.out
  have hnea : ga < v2.heap.size := World.block_lt_of_cell? v2 _ ca0
  obtain ⟨cb0, cb1, cb2, fb0, fb1, fb2⟩ := Xb.out
  have hneb : gb < v2.heap.size := World.block_lt_of_cell? v2 _ cb0
  obtain ⟨cg0, cg1, cg2, fg0, fg1, fg2⟩ := Xg.out
  have hneg : gg < v2.heap.size := World.block_lt_of_cell? v2 _ cg0
  go_wp2_with fail
  clear ca0 ca1 ca2 fa0 fa1 fa2 hnea
  clear cb0 cb1 cb2 fb0 fb1 fb2 hneb
  clear cg0 cg1 cg2 fg0 fg1 fg2 hneg
  refine (dform_t (B.out.below hbw)).mono ?_
  rintro e v3 ⟨rfl, hb3⟩
  replace Xa : Hid _ := Xa.out.below hb3
  replace Xb : Hid _ := Xb.out.below hb3
  replace Xg : Hid _ := Xg.out.below hb3
  replace hbw := Below.on hbw hb3
  clear hb3
  obtain ⟨ca0, ca1, ca2, fa0, fa1, fa2⟩ := Xa.out
  have hnea : ga < v3.heap.size := World.block_lt_of_cell? v3 _ ca0
  obtain ⟨cb0, cb1, cb2, fb0, fb1, fb2⟩ := Xb.out
  have hneb : gb < v3.heap.size := World.block_lt_of_cell? v3 _ cb0
  obtain ⟨cg0, cg1, cg2, fg0, fg1, fg2⟩ := Xg.out
  have hneg : gg < v3.heap.size := World.block_lt_of_cell? v3 _ cg0
  go_wp2_with fail
  clear ca0 ca1 ca2 fa0 fa1 fa2 hnea
  clear cb0 cb1 cb2 fb0 fb1 fb2 hneb
  clear cg0 cg1 cg2 fg0 fg1 fg2 hneg
  refine (zsign (B.out.zn.below hbw)).mono ?_
  rintro e v4 ⟨rfl, hb4⟩
  rw [HSY.out]
  replace Xa : Hid _ := Xa.out.below hb4
  replace Xb : Hid _ := Xb.out.below hb4
  replace Xg : Hid _ := Xg.out.below hb4
  replace hbw := Below.on hbw hb4
  clear hb4
  obtain ⟨ca0, ca1, ca2, fa0, fa1, fa2⟩ := Xa.out
  have hnea : ga < v4.heap.size := World.block_lt_of_cell? v4 _ ca0
  obtain ⟨cb0, cb1, cb2, fb0, fb1, fb2⟩ := Xb.out
  have hneb : gb < v4.heap.size := World.block_lt_of_cell? v4 _ cb0
  obtain ⟨cg0, cg1, cg2, fg0, fg1, fg2⟩ := Xg.out
  have hneg : gg < v4.heap.size := World.block_lt_of_cell? v4 _ cg0
  go_wp2_with fail
  clear ca0 ca1 ca2 fa0 fa1 fa2 hnea
  clear cb0 cb1 cb2 fb0 fb1 fb2 hneb
  clear cg0 cg1 cg2 fg0 fg1 fg2 hneg
  refine (toolong HLL.out.1).mono ?_
  rintro e v5 ⟨rfl, hb5⟩
  replace Xa : Hid _ := Xa.out.below hb5
  replace Xb : Hid _ := Xb.out.below hb5
  replace Xg : Hid _ := Xg.out.below hb5
  replace hbw := Below.on hbw hb5
  clear hb5
  obtain ⟨ca0, ca1, ca2, fa0, fa1, fa2⟩ := Xa.out
  have hnea : ga < v5.heap.size := World.block_lt_of_cell? v5 _ ca0
  obtain ⟨cb0, cb1, cb2, fb0, fb1, fb2⟩ := Xb.out
  have hneb : gb < v5.heap.size := World.block_lt_of_cell? v5 _ cb0
  obtain ⟨cg0, cg1, cg2, fg0, fg1, fg2⟩ := Xg.out
  have hneg : gg < v5.heap.size := World.block_lt_of_cell? v5 _ cg0
  go_wp2_with fail
  clear ca0 ca1 ca2 fa0 fa1 fa2 hnea
  clear cb0 cb1 cb2 fb0 fb1 fb2 hneb
  clear cg0 cg1 cg2 fg0 fg1 fg2 hneg
  refine (toolong HLL.out.2).mono ?_
  rintro e v6 ⟨rfl, hb6⟩
  replace Xa : Hid _ := Xa.out.below hb6
  replace Xb : Hid _ := Xb.out.below hb6
  replace Xg : Hid _ := Xg.out.below hb6
  replace hbw := Below.on hbw hb6
  clear hb6
  obtain ⟨ca0, ca1, ca2, fa0, fa1, fa2⟩ := Xa.out
  have hnea : ga < v6.heap.size := World.block_lt_of_cell? v6 _ ca0
  obtain ⟨cb0, cb1, cb2, fb0, fb1, fb2⟩ := Xb.out
  have hneb : gb < v6.heap.size := World.block_lt_of_cell? v6 _ cb0
  obtain ⟨cg0, cg1, cg2, fg0, fg1, fg2⟩ := Xg.out
  have hneg : gg < v6.heap.size := World.block_lt_of_cell? v6 _ cg0
  go_wp2_with fail
  clear ca0 ca1 ca2 fa0 fa1 fa2 hnea
  clear cb0 cb1 cb2 fb0 fb1 fb2 hneb
  clear cg0 cg1 cg2 fg0 fg1 fg2 hneg
  obtain ⟨W6, hW6⟩ : ∃ W1, W1 = v6.drew := ⟨_, rfl⟩
  have hbd : Below v6.heap.size v6 W6 := by rw [hW6]; exact bDrew1 (Below.refl _ _)
  replace Xa : Hid _ := Xa.out.below hbd
  replace Xb : Hid _ := Xb.out.below hbd
  replace Xg : Hid _ := Xg.out.below hbd
  replace hbw := Below.on hbw hbd
  clear hbd
  have HJ : Hid ((fun W' : World => W'.cell? ⟨gg, 0, none⟩ = some (.int .i64 p) ∧ W'.cell? ⟨gg, 1, none⟩ = some (.int .i64 m) ∧ W'.cell? ⟨gg, 2, none⟩ = some (.int .i64 l) ∧ W'.cell? ⟨gb, 0, none⟩ = some (.bool t) ∧ W'.cell? ⟨gb, 1, none⟩ = some (.slice pb nb cb) ∧ W'.cell? ⟨gb, 2, none⟩ = some (.int .i64 g) ∧ W'.cell? ⟨ga, 0, none⟩ = some (.bool s) ∧ W'.cell? ⟨ga, 1, none⟩ = some (.slice pa na ca) ∧ W'.cell? ⟨ga, 2, none⟩ = some (.int .i64 e)) W6) := ⟨Xg.out.c0, Xg.out.c1, Xg.out.c2, Xb.out.c0, Xb.out.c1, Xb.out.c2, Xa.out.c0, Xa.out.c1, Xa.out.c2⟩
  refine wp_region_J (fun W' => W'.cell? ⟨gg, 0, none⟩ = some (.int .i64 p) ∧ W'.cell? ⟨gg, 1, none⟩ = some (.int .i64 m) ∧ W'.cell? ⟨gg, 2, none⟩ = some (.int .i64 l) ∧ W'.cell? ⟨gb, 0, none⟩ = some (.bool t) ∧ W'.cell? ⟨gb, 1, none⟩ = some (.slice pb nb cb) ∧ W'.cell? ⟨gb, 2, none⟩ = some (.int .i64 g) ∧ W'.cell? ⟨ga, 0, none⟩ = some (.bool s) ∧ W'.cell? ⟨ga, 1, none⟩ = some (.slice pa na ca) ∧ W'.cell? ⟨ga, 2, none⟩ = some (.int .i64 e)) (by kernel_rfl) ?_
  rw [← hW6]
  clear hW6
  refine wpJ_tq 0 rfl HJ.out ?_
  refine wpJ_tq 2 rfl HJ.out ?_
  refine wpJ_tq 3 rfl HJ.out ?_
  refine wpJ_tq 4 rfl HJ.out ?_
  refine wpJ_tq 7 rfl HJ.out ?_
  go_simp
  refine wpJ_tq 8 rfl HJ.out ?_
  refine wpJ_tq 9 rfl HJ.out ?_
  refine wpJ_on 1 rfl fun KJ hK => ?_
  go_simp
  refine (enough_ok HM9.out).mono ?_
  rintro e v7 ⟨rfl, hb7⟩
  replace Xa : Hid _ := Xa.out.below hb7
  replace Xb : Hid _ := Xb.out.below hb7
  replace Xg : Hid _ := Xg.out.below hb7
  replace hbw := Below.on hbw hb7
  clear hb7
  refine hK _ _ ⟨Xg.out.c0, Xg.out.c1, Xg.out.c2, Xb.out.c0, Xb.out.c1, Xb.out.c2, Xa.out.c0, Xa.out.c1, Xa.out.c2⟩ ?_
  clear hK
  refine wpJ_on 5 rfl fun KJ hK => ?_
  go_simp
  refine (bits_any (HY.out.at_.below hbw) (Nat.le_trans HY.out.le (by decide))).mono ?_
  rintro e v8 ⟨rfl, hw⟩
  obtain rfl := hw.symm
  clear hw
  rw [HBY.out]
  clear HJ
  have HJ : Hid ((fun W' : World => W'.cell? ⟨gg, 0, none⟩ = some (.int .i64 p) ∧ W'.cell? ⟨gg, 1, none⟩ = some (.int .i64 m) ∧ W'.cell? ⟨gg, 2, none⟩ = some (.int .i64 l) ∧ W'.cell? ⟨gb, 0, none⟩ = some (.bool t) ∧ W'.cell? ⟨gb, 1, none⟩ = some (.slice pb nb cb) ∧ W'.cell? ⟨gb, 2, none⟩ = some (.int .i64 g) ∧ W'.cell? ⟨ga, 0, none⟩ = some (.bool s) ∧ W'.cell? ⟨ga, 1, none⟩ = some (.slice pa na ca) ∧ W'.cell? ⟨ga, 2, none⟩ = some (.int .i64 e)) v7) := ⟨Xg.out.c0, Xg.out.c1, Xg.out.c2, Xb.out.c0, Xb.out.c1, Xb.out.c2, Xa.out.c0, Xa.out.c1, Xa.out.c2⟩
  refine hK _ _ HJ.out ?_
  clear hK
  refine wpJ_tq 6 rfl HJ.out ?_
  refine wpJ_on 10 rfl fun KJ hK => ?_
  go_simp
  refine (bits_any (HX.out.at_.below hbw) (Nat.le_trans HX.out.le (by decide))).mono ?_
  rintro e v9 ⟨rfl, hw⟩
  obtain rfl := hw.symm
  clear hw
  rw [HBX.out]
  clear HJ
  have HJ : Hid ((fun W' : World => W'.cell? ⟨gg, 0, none⟩ = some (.int .i64 p) ∧ W'.cell? ⟨gg, 1, none⟩ = some (.int .i64 m) ∧ W'.cell? ⟨gg, 2, none⟩ = some (.int .i64 l) ∧ W'.cell? ⟨gb, 0, none⟩ = some (.bool t) ∧ W'.cell? ⟨gb, 1, none⟩ = some (.slice pb nb cb) ∧ W'.cell? ⟨gb, 2, none⟩ = some (.int .i64 g) ∧ W'.cell? ⟨ga, 0, none⟩ = some (.bool s) ∧ W'.cell? ⟨ga, 1, none⟩ = some (.slice pa na ca) ∧ W'.cell? ⟨ga, 2, none⟩ = some (.int .i64 e)) v7) := ⟨Xg.out.c0, Xg.out.c1, Xg.out.c2, Xb.out.c0, Xb.out.c1, Xb.out.c2, Xa.out.c0, Xa.out.c1, Xa.out.c2⟩
  refine hK _ _ HJ.out ?_
  clear hK
  refine wpJ_tq 11 rfl HJ.out ?_
  refine wpJ_tq 12 rfl HJ.out ?_
  refine wpJ_tq 13 rfl HJ.out ?_
  refine wpJ_done (by kernel_rfl) ?_ _
  clear HJ
  obtain ⟨ca0, ca1, ca2, fa0, fa1, fa2⟩ := Xa.out
  have hnea : ga < v7.heap.size := World.block_lt_of_cell? v7 _ ca0
  obtain ⟨cb0, cb1, cb2, fb0, fb1, fb2⟩ := Xb.out
  have hneb : gb < v7.heap.size := World.block_lt_of_cell? v7 _ cb0
  obtain ⟨cg0, cg1, cg2, fg0, fg1, fg2⟩ := Xg.out
  have hneg : gg < v7.heap.size := World.block_lt_of_cell? v7 _ cg0
  go_wp2_with fail
  clear ca0 ca1 ca2 fa0 fa1 fa2 hnea
  clear cb0 cb1 cb2 fb0 fb1 fb2 hneb
  clear cg0 cg1 cg2 fg0 fg1 fg2 hneg
  rw [HMX.out]
  refine (shl_nf (HX.out.at_.below hbw) HX.out.nf HX.out.le P HP.out.1).mono ?_
  rintro e2 v10 ⟨ha, hb10⟩
  obtain ⟨p1, m1, z1, rfl, ho1, hn1, hm1⟩ := ha.ok HP.out.2
  clear ha
  replace Xa : Hid _ := Xa.out.below hb10
  replace Xb : Hid _ := Xb.out.below hb10
  replace Xg : Hid _ := Xg.out.below hb10
  replace hbw := Below.on hbw hb10
  clear hb10
  have O1 : Hid (Own v7.heap.size v10 p1 m1 z1) := ho1
  have N1 : Hid (Nf B64 z1 (2 ^ P * x.natAbs) ∧ m1 ≤ 8192) := ⟨hn1, hm1⟩
  clear ho1 hn1 hm1
  obtain ⟨ca0, ca1, ca2, fa0, fa1, fa2⟩ := Xa.out
  have hnea : ga < v10.heap.size := World.block_lt_of_cell? v10 _ ca0
  obtain ⟨cb0, cb1, cb2, fb0, fb1, fb2⟩ := Xb.out
  have hneb : gb < v10.heap.size := World.block_lt_of_cell? v10 _ cb0
  obtain ⟨cg0, cg1, cg2, fg0, fg1, fg2⟩ := Xg.out
  have hneg : gg < v10.heap.size := World.block_lt_of_cell? v10 _ cg0
  go_wp2_with fail
  clear ca0 ca1 ca2 fa0 fa1 fa2 hnea
  clear cb0 cb1 cb2 fb0 fb1 fb2 hneb
  clear cg0 cg1 cg2 fg0 fg1 fg2 hneg
  refine (quorem_any (Num.of O1.out N1.out.1 N1.out.2).at_ (HY.out.at_.below hbw) N1.out.1 HY.out.nf N1.out.2 HY.out.le HMX2.out.2).mono ?_
  rintro e2 v11 ⟨u1, u2, rfl, hdt⟩
  obtain ⟨p2, m2, z2, rfl, ho2, hn2, hm2⟩ := hdt.quo
  obtain ⟨p3, m3, z3, rfl, ho3, hn3, hm3⟩ := hdt.rem
  rw [HFR.out.1] at hn2
  rw [HFR.out.2] at hn3
  have hb11 := hdt.bel
  clear hdt
  clear O1
  replace Xa : Hid _ := Xa.out.below hb11
  replace Xb : Hid _ := Xb.out.below hb11
  replace Xg : Hid _ := Xg.out.below hb11
  replace hbw := Below.on hbw hb11
  clear hb11
  have O2 : Hid (Own v10.heap.size v11 p2 m2 z2) := ho2
  have O3 : Hid (Own v10.heap.size v11 p3 m3 z3) := ho3
  have N2 : Hid (Nf B64 z2 F ∧ m2 ≤ 8192) := ⟨hn2, hm2⟩
  have N3 : Hid (Nf B64 z3 r ∧ m3 ≤ 8192) := ⟨hn3, hm3⟩
  clear ho2 hn2 hm2 ho3 hn3 hm3
  obtain ⟨ca0, ca1, ca2, fa0, fa1, fa2⟩ := Xa.out
  have hnea : ga < v11.heap.size := World.block_lt_of_cell? v11 _ ca0
  obtain ⟨cb0, cb1, cb2, fb0, fb1, fb2⟩ := Xb.out
  have hneb : gb < v11.heap.size := World.block_lt_of_cell? v11 _ cb0
  obtain ⟨cg0, cg1, cg2, fg0, fg1, fg2⟩ := Xg.out
  have hneg : gg < v11.heap.size := World.block_lt_of_cell? v11 _ cg0
  go_wp2_with fail
  clear ca0 ca1 ca2 fa0 fa1 fa2 hnea
  clear cb0 cb1 cb2 fb0 fb1 fb2 hneb
  clear cg0 cg1 cg2 fg0 fg1 fg2 hneg
  rw [show (!s == t) = (s != t) from by cases s <;> cases t <;> rfl]
  refine (withmark (s != t) (Num.of O2.out N2.out.1 N2.out.2) (Num.of O3.out N3.out.1 N3.out.2) HMX2.out.1).mono ?_
  rintro e2 v12 ⟨p4, m4, z4, rfl, ho4, hn4, hm4, hb12⟩
  clear O2
  clear O3
  replace Xa : Hid _ := Xa.out.below hb12
  replace Xb : Hid _ := Xb.out.below hb12
  replace Xg : Hid _ := Xg.out.below hb12
  replace hbw := Below.on hbw hb12
  clear hb12
  have O4 : Hid (Own v11.heap.size v12 p4 m4 z4) := ho4
  have N4 : Hid (Nf B64 z4 (2 * F + (if r = 0 then 0 else 1)) ∧ m4 ≤ 8192) := ⟨hn4, hm4⟩
  clear ho4 hn4 hm4
  obtain ⟨sg, hsg2⟩ : ∃ sg, sg = (s != t) := ⟨_, rfl⟩
  have HSG : Hid (sg = (s != t)) := hsg2
  rw [← hsg2]
  clear hsg2
  obtain ⟨ca0, ca1, ca2, fa0, fa1, fa2⟩ := Xa.out
  have hnea : ga < v12.heap.size := World.block_lt_of_cell? v12 _ ca0
  obtain ⟨cb0, cb1, cb2, fb0, fb1, fb2⟩ := Xb.out
  have hneb : gb < v12.heap.size := World.block_lt_of_cell? v12 _ cb0
  obtain ⟨cg0, cg1, cg2, fg0, fg1, fg2⟩ := Xg.out
  have hneg : gg < v12.heap.size := World.block_lt_of_cell? v12 _ cg0
  go_wp2_with fail
  clear ca0 ca1 ca2 fa0 fa1 fa2 hnea
  clear cb0 cb1 cb2 fb0 fb1 fb2 hneb
  clear cg0 cg1 cg2 fg0 fg1 fg2 hneg
  have Xm0 : Hid (Box (v12.alloc (.cells #[.bool sg, .slice p4 m4 m4] 31)) v12.heap.size (.bool sg) (.slice p4 m4 m4)) := Box.new v12 _ _ _
  have hbn : Below v12.heap.size v12 (v12.alloc (.cells #[.bool sg, .slice p4 m4 m4] 31)) := below1 v12 _
  generalize v12.alloc (.cells #[.bool sg, .slice p4 m4 m4] 31) = Wm at *
  have HGm : Hid (w.heap.size ≤ v12.heap.size) := hbw.size
  replace Xa : Hid _ := Xa.out.below hbn
  replace Xb : Hid _ := Xb.out.below hbn
  replace Xg : Hid _ := Xg.out.below hbn
  replace O4 : Hid (Own v11.heap.size Wm p4 m4 z4) := O4.out.below hbn
  replace hbw := Below.on hbw hbn
  clear hbn
  generalize v12.heap.size = gm at *
  have Xm := Xm0
  clear Xm0
  obtain ⟨M, hM⟩ : ∃ M, M = 2 * F + (if r = 0 then 0 else 1) := ⟨_, rfl⟩
  obtain ⟨z, hz⟩ : ∃ z : Int, z = if s = t then (M : Int) else -(M : Int) := ⟨_, rfl⟩
  obtain ⟨q1, q2, q3⟩ := signed_is s t (M := M) (by have := HF0.out; omega) hz
  have ZZ : ZN Wm sg p4 m4 m4 z := ⟨⟨z4, by rw [q1]; exact Num.of O4.out (by rw [hM]; exact N4.out.1) N4.out.2⟩, by rw [q2, HSG.out]⟩
  obtain ⟨Zq, hZ1, hZ2, hZ3, _⟩ := rnp_is HJN.out z E3 HE.out.1
  rw [q1] at hZ2
  have HRZ : Hid (RNz H l I (dv (M : Int) E3) Zq ∧ Mk H l I (fun τ => (y.natAbs : Int) * τ) (dv (x.natAbs : Int) (e - g)) (dv (M : Int) E3)) := ⟨hZ2, HMK.out _ (by rw [hM])⟩
  obtain ⟨b, hb⟩ : ∃ b, b = rnp l sd Be S I z E3 := ⟨_, rfl⟩
  have HB : Hid (SgB S s t b Zq) := by
    show b = if s = t then Zq else S + Zq
    rw [hb, hZ3]
    by_cases h9 : s = t
    · rw [if_pos h9, if_neg (by rw [hz, if_pos h9]; omega)]
    · rw [if_neg h9, if_pos (by rw [hz, if_neg h9]; omega)]
  refine (nearest_ok HJN.out ZZ HE.out (TB.out.below hbw)).mono ?_
  rintro e2 v13 ⟨rfl, hb13⟩
  rw [← hb]
  clear ZZ hz q1 q2 q3 hZ1 hZ2 hZ3 hb hM
  replace Xa : Hid _ := Xa.out.below hb13
  replace Xb : Hid _ := Xb.out.below hb13
  replace Xg : Hid _ := Xg.out.below hb13
  replace Xm : Hid _ := Xm.out.below hb13
  replace O4 : Hid (Own v11.heap.size v13 p4 m4 z4) := O4.out.below hb13
  replace hbw := Below.on hbw hb13
  clear hb13
  go_wp2_with fail
  go_ret2
  exact ⟨b, Zq, _, rfl, HB.out, HRZ.out.1, HRZ.out.2, hbw⟩
theorem and_one_i64 (z : Int) : bits BinOp.and IntKind.i64 z 1 = z % 2 := by
  have h1 : (BitVec.ofInt 64 1).toNat = 2 ^ 1 - 1 := by decide
  have key : (BitVec.ofInt 64 z &&& BitVec.ofInt 64 1).toNat = (z % ((2 ^ 64 : Nat) : Int)).toNat % 2 ^ 1 := by
    rw [BitVec.toNat_and, BitVec.toNat_ofInt, h1, Nat.and_two_pow_sub_one_eq_mod]
  show IntKind.i64.wrap ((BitVec.ofInt 64 z &&& BitVec.ofInt 64 1).toNat : Nat) = _
  rw [key]
  simp only [IntKind.wrap, IntKind.signed, IntKind.bits]
  simp
  omega
theorem root_big {x sd P F : Nat} (hx : x ≠ 0) (hP : 2 * (sd + 2) ≤ bitsN x + P) (h : 2 ^ P * x ≤ F * F + 2 * F) : 2 * 2 ^ sd ≤ F := by
  refine Nat.le_of_not_lt fun hlt => ?_
  have h2 := bitsN_le x hx
  have h3 := bitsN_pos hx
  have h4 : 2 ^ (2 * sd + 3) ≤ 2 ^ P * x := by
    have h5 : 2 ^ (2 * sd + 3) ≤ 2 ^ (P + (bitsN x - 1)) := Nat.pow_le_pow_right (by omega) (by omega)
    have h6 : 2 ^ P * 2 ^ (bitsN x - 1) ≤ 2 ^ P * x := Nat.mul_le_mul_left _ h2
    rw [← Nat.pow_add] at h6
    omega
  have h7 : (F + 1) * (F + 1) ≤ 2 * 2 ^ sd * (2 * 2 ^ sd) := Nat.mul_le_mul hlt hlt
  have h8 : 2 * 2 ^ sd * (2 * 2 ^ sd) * 2 = 2 ^ (2 * sd + 3) := by
    rw [← Nat.pow_succ', ← Nat.pow_add, ← Nat.pow_succ]; congr 1; omega
  have h9 : (F + 1) * (F + 1) = F * F + 2 * F + 1 := by rw [Nat.add_mul, Nat.mul_add]; omega
  omega
theorem w64_of {z : Int} (h1 : -4611686018427387904 ≤ z) (h2 : z ≤ 4611686018427387904) : wrap64 z = z := by simp only [wrap64]; omega
theorem wi64_of {z : Int} (h1 : -4611686018427387904 ≤ z) (h2 : z ≤ 4611686018427387904) : IntKind.i64.wrap z = z := by simp [IntKind.wrap, IntKind.signed, IntKind.bits]; omega
theorem root_lim {x P : Nat} (h : bitsN x + P ≤ 524000) (F : Nat) (hF : F * F ≤ 2 ^ P * x) : 2 * F + 1 < LIM := by
  have h3 : 4 * 2 ^ (P + bitsN x) ≤ LIM := by
    obtain ⟨n, hn⟩ : ∃ n, n = 524288 := ⟨_, rfl⟩
    rw [LIM_two n hn, show 4 * 2 ^ (P + bitsN x) = 2 ^ (P + bitsN x + 2) from by rw [Nat.pow_add _ _ 2, Nat.mul_comm]]
    exact Nat.pow_le_pow_right (by omega) (by omega)
  have h2 : 2 ^ P * x < 2 ^ (P + bitsN x) := by
    rw [Nat.pow_add]
    exact Nat.mul_lt_mul_of_pos_left (bitsN_lt _) (Nat.pow_pos (by omega))
  generalize 2 ^ (P + bitsN x) = Y at h2 h3
  generalize 2 ^ P * x = X at hF h2
  have h5 : F ≤ F * F := by
    rcases Nat.eq_zero_or_pos F with h6 | h6
    · rw [h6]; omega
    · exact Nat.le_mul_of_pos_left F h6
  omega
theorem root_z {f p m l : Int} {S I H sd : Nat} {Be : Int} (J : Jn f p m l S I H sd Be) (hmd : m = (sd : Int) + 1) {pa : Option Addr} {na ca : Nat} {w : World} {x e : Int} {s : Bool} (h : DN w s pa na ca e x) (hla : na ≤ 4096) (hT : Tab w) (hx : x = 0) :
    Calls Tryz.prog 14 #[.int .i64 f, DV s pa na ca e] w fun en w' => en = .returned (.tuple #[.int .u64 0, .int .i64 0]) ∧ Below w.heap.size w w' := by
  have HJN : Hid (Jn f p m l S I H sd Be) := J
  have A : Hid (DN w s pa na ca e x) := h
  have HLL : Hid (na ≤ 4096) := hla
  have TB : Hid (Tab w) := hT
  have hsg : (decide (sgnI x < 0)) = false := by
    refine decide_eq_false ?_
    rcases sgn3 x with ⟨_, h2⟩ | ⟨h1, _⟩ | ⟨h1, h2⟩ <;> omega
  obtain ⟨sx, hsx⟩ : ∃ sx, sx = sgnI x := ⟨_, rfl⟩
  rw [← hsx] at hsg
  have HSX : Hid (sgnI x = sx) := hsx.symm
  have hsl := J.jm.sl
  obtain ⟨xs, hX⟩ := h.zn.ex
  have HX : Hid (Num w pa na ca xs x.natAbs) := hX
  obtain ⟨L1, hL1⟩ : ∃ L1, L1 = bitsN x.natAbs := ⟨_, rfl⟩
  have hb1 := half_bits h.zn hla
  rw [← hL1] at hb1
  have HBX : Hid (bitsN (valB B64 xs) = L1) := by rw [hL1, hX.nf.val]; rfl
  obtain ⟨D1, hD1⟩ : ∃ D1 : Int, D1 = 2 * (m + 1) := ⟨_, rfl⟩
  obtain ⟨D2, hD2⟩ : ∃ D2 : Int, D2 = D1 - L1 := ⟨_, rfl⟩
  obtain ⟨P0, hP0⟩ : ∃ P0 : Nat, (P0 : Int) = max D2 0 := ⟨(max D2 0).toNat, by omega⟩
  have HM9 : Hid (0 ≤ m ∧ m ≤ 1000) := by show _ ∧ _; omega
  have hfe : -1048576 ≤ e ∧ e ≤ 1048576 := by rcases h.fm with ⟨_, h2⟩ | ⟨_, h2, h3⟩ <;> omega
  have hP0b : P0 ≤ 200 ∧ 2 * (sd + 2) ≤ L1 + P0 := by omega
  have b1 : -4611686018427387904 ≤ D1 ∧ D1 ≤ 4611686018427387904 := by omega
  have b2 : -4611686018427387904 ≤ D2 ∧ D2 ≤ 4611686018427387904 := by omega
  have HMX : max D2 0 = (P0 : Int) := hP0.symm
  clear hP0
  obtain ⟨D3, hD3⟩ : ∃ D3 : Int, D3 = e - P0 := ⟨_, rfl⟩
  obtain ⟨D4, hD4⟩ : ∃ D4 : Nat, (D4 : Int) = D3 % 2 := ⟨(D3 % 2).toNat, by omega⟩
  have hD4b : D4 ≤ 1 := by omega
  obtain ⟨P, hP⟩ : ∃ P : Nat, P = P0 + D4 := ⟨_, rfl⟩
  have hPP : (P0 : Int) + (D4 : Int) = (P : Int) := by omega
  obtain ⟨E1, hE1⟩ : ∃ E1 : Int, E1 = e - P := ⟨_, rfl⟩
  obtain ⟨E2, hE2⟩ : ∃ E2 : Int, E1 = 2 * E2 := ⟨E1 / 2, by omega⟩
  obtain ⟨E3, hE3⟩ : ∃ E3 : Int, E3 = E2 - 1 := ⟨_, rfl⟩
  have b3 : -4611686018427387904 ≤ D3 ∧ D3 ≤ 4611686018427387904 := by omega
  have b4 : -4611686018427387904 ≤ (P : Int) ∧ (P : Int) ≤ 4611686018427387904 := by omega
  have b5 : -4611686018427387904 ≤ E1 ∧ E1 ≤ 4611686018427387904 := by omega
  have b6 : -4611686018427387904 ≤ E2 ∧ E2 ≤ 4611686018427387904 := by omega
  have b7 : -4611686018427387904 ≤ E3 ∧ E3 ≤ 4611686018427387904 := by omega
  have HE : Hid (-4194304 ≤ E3 ∧ E3 ≤ 4194304) := by show _ ∧ _; omega
  have HP : Hid (P ≤ 9223372036854775807 ∧ 2 ^ P * x.natAbs < LIM) := ⟨by omega, shl_lim2 (by rw [← hL1]; omega)⟩
  have HLF : Hid (∀ F : Nat, F * F ≤ 2 ^ P * x.natAbs → 2 * F + 1 < LIM) := root_lim (by rw [hL1] at hb1; omega)
  have HX0 : Hid (x.natAbs = 0) := by rw [hx]; rfl
  have c16 : E1.tdiv 2 = E2 := by rw [hE2]; exact Int.mul_tdiv_cancel_left E2 (by decide)
  have c1 : wrap64 (2 * (m + 1)) = D1 := by rw [← hD1]; exact w64_of b1.1 b1.2
  have c2 : IntKind.i64.wrap (2 * (m + 1)) = D1 := by rw [← hD1]; exact wi64_of b1.1 b1.2
  have c3 : wrap64 (D1 - (L1 : Int)) = D2 := by rw [← hD2]; exact w64_of b2.1 b2.2
  have c4 : IntKind.i64.wrap (D1 - (L1 : Int)) = D2 := by rw [← hD2]; exact wi64_of b2.1 b2.2
  have c5 : wrap64 (e - (P0 : Int)) = D3 := by rw [← hD3]; exact w64_of b3.1 b3.2
  have c6 : IntKind.i64.wrap (e - (P0 : Int)) = D3 := by rw [← hD3]; exact wi64_of b3.1 b3.2
  have c7 : bits BinOp.and IntKind.i64 D3 1 = (D4 : Int) := by rw [and_one_i64]; exact hD4.symm
  have c8 : wrap64 ((P0 : Int) + (D4 : Int)) = (P : Int) := by rw [hPP]; exact w64_of b4.1 b4.2
  have c9 : IntKind.i64.wrap ((P0 : Int) + (D4 : Int)) = (P : Int) := by rw [hPP]; exact wi64_of b4.1 b4.2
  have c10 : wrap64 (e - (P : Int)) = E1 := by rw [← hE1]; exact w64_of b5.1 b5.2
  have c11 : IntKind.i64.wrap (e - (P : Int)) = E1 := by rw [← hE1]; exact wi64_of b5.1 b5.2
  have c12 : wrap64 E2 = E2 := w64_of b6.1 b6.2
  have c13 : IntKind.i64.wrap E2 = E2 := wi64_of b6.1 b6.2
  have c14 : wrap64 (E2 - 1) = E3 := by rw [← hE3]; exact w64_of b7.1 b7.2
  have c15 : IntKind.i64.wrap (E2 - 1) = E3 := by rw [← hE3]; exact wi64_of b7.1 b7.2
  clear J hmd h hla hT hx hsl hX hL1 hb1 hD1 hD2 hP0b hD3 hD4 hD4b hP hPP hE1 hE2 hE3 b1 b2 b3 b4 b5 b6 b7 hfe hsx
  go_enter Tryz.func14, Tryz.ntmps14
  go_wp2_with fail
  obtain ⟨W0, hW0⟩ : ∃ W0, W0 = (w.alloc (.cells #[.bool s, .slice pa na ca, .int .i64 e] 33)) := ⟨_, rfl⟩
  have Xa : Hid (B3q W0 (w.heap.size) (.bool s) (.slice pa na ca) (.int .i64 e)) := by rw [hW0]; exact ⟨by go_simp, by go_simp, by go_simp, by go_simp, by go_simp, by go_simp⟩
  have hb0 : Below w.heap.size w W0 := by rw [hW0]; exact below1 w _
  rw [← hW0]
  clear hW0
  have hbw : Below w.heap.size w w := Below.refl _ _
  obtain ⟨ga, hga⟩ : ∃ g, g = w.heap.size := ⟨_, rfl⟩
  have HGa : Hid (w.heap.size ≤ ga) := by rw [hga]; show _ ≤ _; omega
  rw [← hga] at Xa
  try rw [← hga]
  clear hga
  replace hbw := Below.on hbw hb0
  clear hb0
  refine (HJN.out.jm.pm.fm.of _).mono ?_
  rintro e v1 ⟨rfl, hb1⟩
  replace Xa : Hid _ := Xa.out.below hb1
  replace hbw := Below.on hbw hb1
  clear hb1
  obtain ⟨ca0, ca1, ca2, fa0, fa1, fa2⟩ := Xa.out
  have hnea : ga < v1.heap.size := World.block_lt_of_cell? v1 _ ca0
  go_wp2_with fail
  clear ca0 ca1 ca2 fa0 fa1 fa2 hnea
  have Xg0 : Hid (B3q (v1.alloc (.cells #[.int .i64 p, .int .i64 m, .int .i64 l] 47)) v1.heap.size (.int .i64 p) (.int .i64 m) (.int .i64 l)) := B3q.new v1 _ _ _ _
  have hbn : Below v1.heap.size v1 (v1.alloc (.cells #[.int .i64 p, .int .i64 m, .int .i64 l] 47)) := below1 v1 _
  generalize v1.alloc (.cells #[.int .i64 p, .int .i64 m, .int .i64 l] 47) = Wg at *
  have HGg : Hid (w.heap.size ≤ v1.heap.size) := hbw.size
  replace Xa : Hid _ := Xa.out.below hbn
  replace hbw := Below.on hbw hbn
  clear hbn
  generalize v1.heap.size = gg at *
  have Xg := Xg0
  clear Xg0
  refine (dform_t (A.out.below hbw)).mono ?_
  rintro e v2 ⟨rfl, hb2⟩
  replace Xa : Hid _ := Xa.out.below hb2
  replace Xg : Hid _ := Xg.out.below hb2
  replace hbw := Below.on hbw hb2
  clear hb2
  obtain ⟨ca0, ca1, ca2, fa0, fa1, fa2⟩ := Xa.out
  have hnea : ga < v2.heap.size := World.block_lt_of_cell? v2 _ ca0
  obtain ⟨cg0, cg1, cg2, fg0, fg1, fg2⟩ := Xg.out
  have hneg : gg < v2.heap.size := World.block_lt_of_cell? v2 _ cg0
  go_wp2_with fail
  clear ca0 ca1 ca2 fa0 fa1 fa2 hnea
  clear cg0 cg1 cg2 fg0 fg1 fg2 hneg
  refine (zsign (A.out.zn.below hbw)).mono ?_
  rintro e v4 ⟨rfl, hb4⟩
  rw [HSX.out]
  replace Xa : Hid _ := Xa.out.below hb4
  replace Xg : Hid _ := Xg.out.below hb4
  replace hbw := Below.on hbw hb4
  clear hb4
  obtain ⟨ca0, ca1, ca2, fa0, fa1, fa2⟩ := Xa.out
  have hnea : ga < v4.heap.size := World.block_lt_of_cell? v4 _ ca0
  obtain ⟨cg0, cg1, cg2, fg0, fg1, fg2⟩ := Xg.out
  have hneg : gg < v4.heap.size := World.block_lt_of_cell? v4 _ cg0
  go_wp2_with fail
  clear ca0 ca1 ca2 fa0 fa1 fa2 hnea
  clear cg0 cg1 cg2 fg0 fg1 fg2 hneg
  refine (toolong HLL.out).mono ?_
  rintro e v5 ⟨rfl, hb5⟩
  replace Xa : Hid _ := Xa.out.below hb5
  replace Xg : Hid _ := Xg.out.below hb5
  replace hbw := Below.on hbw hb5
  clear hb5
  obtain ⟨ca0, ca1, ca2, fa0, fa1, fa2⟩ := Xa.out
  have hnea : ga < v5.heap.size := World.block_lt_of_cell? v5 _ ca0
  obtain ⟨cg0, cg1, cg2, fg0, fg1, fg2⟩ := Xg.out
  have hneg : gg < v5.heap.size := World.block_lt_of_cell? v5 _ cg0
  go_wp2_with fail
  clear ca0 ca1 ca2 fa0 fa1 fa2 hnea
  clear cg0 cg1 cg2 fg0 fg1 fg2 hneg
  obtain ⟨W6, hW6⟩ : ∃ W1, W1 = v5.drew := ⟨_, rfl⟩
  have hbd : Below v5.heap.size v5 W6 := by rw [hW6]; exact bDrew1 (Below.refl _ _)
  replace Xa : Hid _ := Xa.out.below hbd
  replace Xg : Hid _ := Xg.out.below hbd
  replace hbw := Below.on hbw hbd
  clear hbd
  have HJ : Hid ((fun W' : World => W'.cell? ⟨gg, 0, none⟩ = some (.int .i64 p) ∧ W'.cell? ⟨gg, 1, none⟩ = some (.int .i64 m) ∧ W'.cell? ⟨gg, 2, none⟩ = some (.int .i64 l) ∧ W'.cell? ⟨ga, 0, none⟩ = some (.bool s) ∧ W'.cell? ⟨ga, 1, none⟩ = some (.slice pa na ca) ∧ W'.cell? ⟨ga, 2, none⟩ = some (.int .i64 e)) W6) := ⟨Xg.out.c0, Xg.out.c1, Xg.out.c2, Xa.out.c0, Xa.out.c1, Xa.out.c2⟩
  refine wp_region_J (fun W' => W'.cell? ⟨gg, 0, none⟩ = some (.int .i64 p) ∧ W'.cell? ⟨gg, 1, none⟩ = some (.int .i64 m) ∧ W'.cell? ⟨gg, 2, none⟩ = some (.int .i64 l) ∧ W'.cell? ⟨ga, 0, none⟩ = some (.bool s) ∧ W'.cell? ⟨ga, 1, none⟩ = some (.slice pa na ca) ∧ W'.cell? ⟨ga, 2, none⟩ = some (.int .i64 e)) (by kernel_rfl) ?_
  rw [← hW6]
  clear hW6
  refine wpJ_tq 0 rfl HJ.out ?_
  refine wpJ_tq 3 rfl HJ.out ?_
  refine wpJ_tq 4 rfl HJ.out ?_
  refine wpJ_tq 5 rfl HJ.out ?_
  refine wpJ_on 1 rfl fun KJ hK => ?_
  go_simp
  refine (enough_ok HM9.out).mono ?_
  rintro e v7 ⟨rfl, hb7⟩
  replace Xa : Hid _ := Xa.out.below hb7
  replace Xg : Hid _ := Xg.out.below hb7
  replace hbw := Below.on hbw hb7
  clear hb7
  clear HJ
  have HJ : Hid ((fun W' : World => W'.cell? ⟨gg, 0, none⟩ = some (.int .i64 p) ∧ W'.cell? ⟨gg, 1, none⟩ = some (.int .i64 m) ∧ W'.cell? ⟨gg, 2, none⟩ = some (.int .i64 l) ∧ W'.cell? ⟨ga, 0, none⟩ = some (.bool s) ∧ W'.cell? ⟨ga, 1, none⟩ = some (.slice pa na ca) ∧ W'.cell? ⟨ga, 2, none⟩ = some (.int .i64 e)) v7) := ⟨Xg.out.c0, Xg.out.c1, Xg.out.c2, Xa.out.c0, Xa.out.c1, Xa.out.c2⟩
  refine hK _ _ HJ.out ?_
  clear hK
  refine wpJ_tq 2 rfl HJ.out ?_
  refine wpJ_on 6 rfl fun KJ hK => ?_
  go_simp
  refine (bits_any (HX.out.at_.below hbw) (Nat.le_trans HX.out.le (by decide))).mono ?_
  rintro e v9 ⟨rfl, hw⟩
  obtain rfl := hw.symm
  clear hw
  rw [HBX.out]
  clear HJ
  have HJ : Hid ((fun W' : World => W'.cell? ⟨gg, 0, none⟩ = some (.int .i64 p) ∧ W'.cell? ⟨gg, 1, none⟩ = some (.int .i64 m) ∧ W'.cell? ⟨gg, 2, none⟩ = some (.int .i64 l) ∧ W'.cell? ⟨ga, 0, none⟩ = some (.bool s) ∧ W'.cell? ⟨ga, 1, none⟩ = some (.slice pa na ca) ∧ W'.cell? ⟨ga, 2, none⟩ = some (.int .i64 e)) v7) := ⟨Xg.out.c0, Xg.out.c1, Xg.out.c2, Xa.out.c0, Xa.out.c1, Xa.out.c2⟩
  refine hK _ _ HJ.out ?_
  clear hK
  refine wpJ_tq 7 rfl HJ.out ?_
  refine wpJ_tq 8 rfl HJ.out ?_
  refine wpJ_tq 9 rfl HJ.out ?_
  refine wpJ_done (by kernel_rfl) ?_ _
  clear HJ
  obtain ⟨ca0, ca1, ca2, fa0, fa1, fa2⟩ := Xa.out
  have hnea : ga < v7.heap.size := World.block_lt_of_cell? v7 _ ca0
  obtain ⟨cg0, cg1, cg2, fg0, fg1, fg2⟩ := Xg.out
  have hneg : gg < v7.heap.size := World.block_lt_of_cell? v7 _ cg0
  go_wp2_with fail
  clear ca0 ca1 ca2 fa0 fa1 fa2 hnea
  clear cg0 cg1 cg2 fg0 fg1 fg2 hneg
  refine (shl_nf (HX.out.at_.below hbw) HX.out.nf HX.out.le P HP.out.1).mono ?_
  rintro e2 v10 ⟨ha, hb10⟩
  obtain ⟨p1, m1, z1, rfl, ho1, hn1, hm1⟩ := ha.ok HP.out.2
  clear ha
  replace Xa : Hid _ := Xa.out.below hb10
  replace Xg : Hid _ := Xg.out.below hb10
  replace hbw := Below.on hbw hb10
  clear hb10
  have O1 : Hid (Own v7.heap.size v10 p1 m1 z1) := ho1
  have N1 : Hid (Nf B64 z1 (2 ^ P * x.natAbs) ∧ m1 ≤ 8192) := ⟨hn1, hm1⟩
  clear ho1 hn1 hm1
  obtain ⟨ca0, ca1, ca2, fa0, fa1, fa2⟩ := Xa.out
  have hnea : ga < v10.heap.size := World.block_lt_of_cell? v10 _ ca0
  obtain ⟨cg0, cg1, cg2, fg0, fg1, fg2⟩ := Xg.out
  have hneg : gg < v10.heap.size := World.block_lt_of_cell? v10 _ cg0
  go_wp2_with fail
  clear ca0 ca1 ca2 fa0 fa1 fa2 hnea
  clear cg0 cg1 cg2 fg0 fg1 fg2 hneg
  refine (root_any (Num.of O1.out N1.out.1 N1.out.2)).mono ?_
  rintro e2 v11 ⟨u1, u2, rfl, hdt⟩
  obtain ⟨F, p2, m2, z2, p3, m3, z3, hF1, hF2, rfl, ho2, hn2, hm2, rfl, ho3, hn3, hm3⟩ := hdt.val
  have hb11 := hdt.bel
  obtain ⟨r, hr⟩ : ∃ r, r = 2 ^ P * x.natAbs - F * F := ⟨_, rfl⟩
  rw [← hr] at hn3
  have HFR : Hid (F * F ≤ 2 ^ P * x.natAbs ∧ 2 ^ P * x.natAbs = F * F + r ∧ r ≤ 2 * F) := ⟨hF1, by omega, by omega⟩
  clear hdt hF1 hF2 hr
  clear O1
  replace Xa : Hid _ := Xa.out.below hb11
  replace Xg : Hid _ := Xg.out.below hb11
  replace hbw := Below.on hbw hb11
  clear hb11
  have O2 : Hid (Own v10.heap.size v11 p2 m2 z2) := ho2
  have O3 : Hid (Own v10.heap.size v11 p3 m3 z3) := ho3
  have N2 : Hid (Nf B64 z2 F ∧ m2 ≤ 8192) := ⟨hn2, hm2⟩
  have N3 : Hid (Nf B64 z3 r ∧ m3 ≤ 8192) := ⟨hn3, hm3⟩
  clear ho2 hn2 hm2 ho3 hn3 hm3
  obtain ⟨ca0, ca1, ca2, fa0, fa1, fa2⟩ := Xa.out
  have hnea : ga < v11.heap.size := World.block_lt_of_cell? v11 _ ca0
  obtain ⟨cg0, cg1, cg2, fg0, fg1, fg2⟩ := Xg.out
  have hneg : gg < v11.heap.size := World.block_lt_of_cell? v11 _ cg0
  go_wp2_with fail
  clear ca0 ca1 ca2 fa0 fa1 fa2 hnea
  clear cg0 cg1 cg2 fg0 fg1 fg2 hneg
  obtain ⟨W12, hW12⟩ : ∃ W1, W1 = v11.drew := ⟨_, rfl⟩
  have hbd : Below v11.heap.size v11 W12 := by rw [hW12]; exact bDrew1 (Below.refl _ _)
  replace Xa : Hid _ := Xa.out.below hbd
  replace Xg : Hid _ := Xg.out.below hbd
  replace O2 : Hid (Own v10.heap.size W12 p2 m2 z2) := O2.out.below hbd
  replace O3 : Hid (Own v10.heap.size W12 p3 m3 z3) := O3.out.below hbd
  replace hbw := Below.on hbw hbd
  clear hbd
  have HJ : Hid ((fun W' : World => W'.cell? ⟨gg, 0, none⟩ = some (.int .i64 p) ∧ W'.cell? ⟨gg, 1, none⟩ = some (.int .i64 m) ∧ W'.cell? ⟨gg, 2, none⟩ = some (.int .i64 l) ∧ W'.cell? ⟨ga, 0, none⟩ = some (.bool s) ∧ W'.cell? ⟨ga, 1, none⟩ = some (.slice pa na ca) ∧ W'.cell? ⟨ga, 2, none⟩ = some (.int .i64 e)) W12) := ⟨Xg.out.c0, Xg.out.c1, Xg.out.c2, Xa.out.c0, Xa.out.c1, Xa.out.c2⟩
  refine wp_region_J (fun W' => W'.cell? ⟨gg, 0, none⟩ = some (.int .i64 p) ∧ W'.cell? ⟨gg, 1, none⟩ = some (.int .i64 m) ∧ W'.cell? ⟨gg, 2, none⟩ = some (.int .i64 l) ∧ W'.cell? ⟨ga, 0, none⟩ = some (.bool s) ∧ W'.cell? ⟨ga, 1, none⟩ = some (.slice pa na ca) ∧ W'.cell? ⟨ga, 2, none⟩ = some (.int .i64 e)) (by kernel_rfl) ?_
  rw [← hW12]
  clear hW12
  refine wpJ_tq 0 rfl HJ.out ?_
  refine wpJ_tq 1 rfl HJ.out ?_
  refine wpJ_tq 2 rfl HJ.out ?_
  refine wpJ_tq 4 rfl HJ.out ?_
  refine wpJ_tq 5 rfl HJ.out ?_
  go_simp
  refine wpJ_tq 6 rfl HJ.out ?_
  refine wpJ_tq 7 rfl HJ.out ?_
  refine wpJ_tq 8 rfl HJ.out ?_
  refine wpJ_tq 9 rfl HJ.out ?_
  refine wpJ_on 3 rfl fun KJ hK => ?_
  go_simp
  refine (withmark false (Num.of O2.out N2.out.1 N2.out.2) (Num.of O3.out N3.out.1 N3.out.2) (HLF.out F HFR.out.1)).mono ?_
  rintro e2 v12 ⟨p4, m4, z4, rfl, ho4, hn4, hm4, hb12⟩
  clear O2
  clear O3
  replace Xa : Hid _ := Xa.out.below hb12
  replace Xg : Hid _ := Xg.out.below hb12
  replace hbw := Below.on hbw hb12
  clear hb12
  have O4 : Hid (Own W12.heap.size v12 p4 m4 z4) := ho4
  have N4 : Hid (Nf B64 z4 (2 * F + (if r = 0 then 0 else 1)) ∧ m4 ≤ 8192) := ⟨hn4, hm4⟩
  clear ho4 hn4 hm4
  refine hK _ _ ⟨Xg.out.c0, Xg.out.c1, Xg.out.c2, Xa.out.c0, Xa.out.c1, Xa.out.c2⟩ ?_
  clear hK
  refine wpJ_on 10 rfl fun KJ hK => ?_
  go_simp
  have hf0 : F = 0 ∧ r = 0 := by
    have h1 := HFR.out
    rw [HX0.out, Nat.mul_zero] at h1
    have h2 : F * F = 0 := by omega
    have h3 : F = 0 := by rcases Nat.mul_eq_zero.1 h2 with h | h <;> exact h
    rw [h3] at h1
    exact ⟨h3, by omega⟩
  have hn0 := N4.out
  rw [hf0.1, hf0.2] at hn0
  refine (nearest_o (w := v12) (xs := z4) (s := false) (Num.of O4.out hn0.1 hn0.2)).mono ?_
  rintro e2 v13 ⟨rfl, hb13⟩
  clear hn0 hf0
  replace Xa : Hid _ := Xa.out.below hb13
  replace Xg : Hid _ := Xg.out.below hb13
  replace O4 : Hid (Own W12.heap.size v13 p4 m4 z4) := O4.out.below hb13
  replace hbw := Below.on hbw hb13
  clear hb13
  clear HJ
  have HJ : Hid ((fun W' : World => W'.cell? ⟨gg, 0, none⟩ = some (.int .i64 p) ∧ W'.cell? ⟨gg, 1, none⟩ = some (.int .i64 m) ∧ W'.cell? ⟨gg, 2, none⟩ = some (.int .i64 l) ∧ W'.cell? ⟨ga, 0, none⟩ = some (.bool s) ∧ W'.cell? ⟨ga, 1, none⟩ = some (.slice pa na ca) ∧ W'.cell? ⟨ga, 2, none⟩ = some (.int .i64 e)) v13) := ⟨Xg.out.c0, Xg.out.c1, Xg.out.c2, Xa.out.c0, Xa.out.c1, Xa.out.c2⟩
  refine hK _ _ HJ.out ?_
  clear hK
  refine wpJ_tq 11 rfl HJ.out ?_
  refine wpJ_tq 12 rfl HJ.out ?_
  refine wpJ_done (by kernel_rfl) ?_ _
  clear HJ
  go_wp2_with fail
  go_ret2
  exact ⟨rfl, hbw⟩
theorem root_n {f p m l : Int} {S I H sd : Nat} {Be : Int} (J : Jn f p m l S I H sd Be) (hmd : m = (sd : Int) + 1) {pa : Option Addr} {na ca : Nat} {w : World} {x e : Int} {s : Bool} (h : DN w s pa na ca e x) (hla : na ≤ 4096) (hT : Tab w) (hx : x > 0) :
    Calls Tryz.prog 14 #[.int .i64 f, DV s pa na ca e] w fun en w' => ∃ Z V, en = .returned (.tuple #[U Z, .int .i64 0]) ∧ RNz H l I V Z ∧ Mk H l I (fun τ => τ * τ) ((x.natAbs : Int) * ((2 ^ (e + 2 * 4194304).toNat : Nat) : Int)) V ∧ Below w.heap.size w w' := by
  have HJN : Hid (Jn f p m l S I H sd Be) := J
  have A : Hid (DN w s pa na ca e x) := h
  have HLL : Hid (na ≤ 4096) := hla
  have TB : Hid (Tab w) := hT
  have hsg : (decide (sgnI x < 0)) = false := by
    refine decide_eq_false ?_
    rcases sgn3 x with ⟨_, h2⟩ | ⟨h1, _⟩ | ⟨h1, h2⟩ <;> omega
  obtain ⟨sx, hsx⟩ : ∃ sx, sx = sgnI x := ⟨_, rfl⟩
  rw [← hsx] at hsg
  have HSX : Hid (sgnI x = sx) := hsx.symm
  have hsl := J.jm.sl
  obtain ⟨xs, hX⟩ := h.zn.ex
  have HX : Hid (Num w pa na ca xs x.natAbs) := hX
  obtain ⟨L1, hL1⟩ : ∃ L1, L1 = bitsN x.natAbs := ⟨_, rfl⟩
  have hb1 := half_bits h.zn hla
  rw [← hL1] at hb1
  have HBX : Hid (bitsN (valB B64 xs) = L1) := by rw [hL1, hX.nf.val]; rfl
  obtain ⟨D1, hD1⟩ : ∃ D1 : Int, D1 = 2 * (m + 1) := ⟨_, rfl⟩
  obtain ⟨D2, hD2⟩ : ∃ D2 : Int, D2 = D1 - L1 := ⟨_, rfl⟩
  obtain ⟨P0, hP0⟩ : ∃ P0 : Nat, (P0 : Int) = max D2 0 := ⟨(max D2 0).toNat, by omega⟩
  have HM9 : Hid (0 ≤ m ∧ m ≤ 1000) := by show _ ∧ _; omega
  have hfe : -1048576 ≤ e ∧ e ≤ 1048576 := by rcases h.fm with ⟨_, h2⟩ | ⟨_, h2, h3⟩ <;> omega
  have hP0b : P0 ≤ 200 ∧ 2 * (sd + 2) ≤ L1 + P0 := by omega
  have b1 : -4611686018427387904 ≤ D1 ∧ D1 ≤ 4611686018427387904 := by omega
  have b2 : -4611686018427387904 ≤ D2 ∧ D2 ≤ 4611686018427387904 := by omega
  have HMX : max D2 0 = (P0 : Int) := hP0.symm
  clear hP0
  obtain ⟨D3, hD3⟩ : ∃ D3 : Int, D3 = e - P0 := ⟨_, rfl⟩
  obtain ⟨D4, hD4⟩ : ∃ D4 : Nat, (D4 : Int) = D3 % 2 := ⟨(D3 % 2).toNat, by omega⟩
  have hD4b : D4 ≤ 1 := by omega
  obtain ⟨P, hP⟩ : ∃ P : Nat, P = P0 + D4 := ⟨_, rfl⟩
  have hPP : (P0 : Int) + (D4 : Int) = (P : Int) := by omega
  obtain ⟨E1, hE1⟩ : ∃ E1 : Int, E1 = e - P := ⟨_, rfl⟩
  obtain ⟨E2, hE2⟩ : ∃ E2 : Int, E1 = 2 * E2 := ⟨E1 / 2, by omega⟩
  obtain ⟨E3, hE3⟩ : ∃ E3 : Int, E3 = E2 - 1 := ⟨_, rfl⟩
  have b3 : -4611686018427387904 ≤ D3 ∧ D3 ≤ 4611686018427387904 := by omega
  have b4 : -4611686018427387904 ≤ (P : Int) ∧ (P : Int) ≤ 4611686018427387904 := by omega
  have b5 : -4611686018427387904 ≤ E1 ∧ E1 ≤ 4611686018427387904 := by omega
  have b6 : -4611686018427387904 ≤ E2 ∧ E2 ≤ 4611686018427387904 := by omega
  have b7 : -4611686018427387904 ≤ E3 ∧ E3 ≤ 4611686018427387904 := by omega
  have HE : Hid (-4194304 ≤ E3 ∧ E3 ≤ 4194304) := by show _ ∧ _; omega
  have HP : Hid (P ≤ 9223372036854775807 ∧ 2 ^ P * x.natAbs < LIM) := ⟨by omega, shl_lim2 (by rw [← hL1]; omega)⟩
  have HLF : Hid (∀ F : Nat, F * F ≤ 2 ^ P * x.natAbs → 2 * F + 1 < LIM) := root_lim (by rw [hL1] at hb1; omega)
  have HMK : Hid (∀ F r M : Nat, 2 ^ P * x.natAbs = F * F + r → r ≤ 2 * F → M = 2 * F + (if r = 0 then 0 else 1) → M ≠ 0 ∧ Mk H l I (fun τ => τ * τ) ((x.natAbs : Int) * ((2 ^ (e + 2 * 4194304).toNat : Nat) : Int)) (dv (M : Int) E3)) := fun F r M hF hr hM => by
    have hb := root_big (x := x.natAbs) (sd := sd) (P := P) (F := F) (by omega) (by rw [← hL1]; omega) (by rw [hF]; omega)
    rw [← J.jm.hs] at hb
    have hp := J.jm.pm.hp
    exact ⟨by omega, mk_root hp (by have := J.jm.pm.lo; omega) (k := P) (F := F) (r := r) (by omega) (by omega) hb (by rw [Nat.mul_comm]; exact hF) hr hM⟩
  have c16 : E1.tdiv 2 = E2 := by rw [hE2]; exact Int.mul_tdiv_cancel_left E2 (by decide)
  have c1 : wrap64 (2 * (m + 1)) = D1 := by rw [← hD1]; exact w64_of b1.1 b1.2
  have c2 : IntKind.i64.wrap (2 * (m + 1)) = D1 := by rw [← hD1]; exact wi64_of b1.1 b1.2
  have c3 : wrap64 (D1 - (L1 : Int)) = D2 := by rw [← hD2]; exact w64_of b2.1 b2.2
  have c4 : IntKind.i64.wrap (D1 - (L1 : Int)) = D2 := by rw [← hD2]; exact wi64_of b2.1 b2.2
  have c5 : wrap64 (e - (P0 : Int)) = D3 := by rw [← hD3]; exact w64_of b3.1 b3.2
  have c6 : IntKind.i64.wrap (e - (P0 : Int)) = D3 := by rw [← hD3]; exact wi64_of b3.1 b3.2
  have c7 : bits BinOp.and IntKind.i64 D3 1 = (D4 : Int) := by rw [and_one_i64]; exact hD4.symm
  have c8 : wrap64 ((P0 : Int) + (D4 : Int)) = (P : Int) := by rw [hPP]; exact w64_of b4.1 b4.2
  have c9 : IntKind.i64.wrap ((P0 : Int) + (D4 : Int)) = (P : Int) := by rw [hPP]; exact wi64_of b4.1 b4.2
  have c10 : wrap64 (e - (P : Int)) = E1 := by rw [← hE1]; exact w64_of b5.1 b5.2
  have c11 : IntKind.i64.wrap (e - (P : Int)) = E1 := by rw [← hE1]; exact wi64_of b5.1 b5.2
  have c12 : wrap64 E2 = E2 := w64_of b6.1 b6.2
  have c13 : IntKind.i64.wrap E2 = E2 := wi64_of b6.1 b6.2
  have c14 : wrap64 (E2 - 1) = E3 := by rw [← hE3]; exact w64_of b7.1 b7.2
  have c15 : IntKind.i64.wrap (E2 - 1) = E3 := by rw [← hE3]; exact wi64_of b7.1 b7.2
  clear J hmd h hla hT hx hsl hX hL1 hb1 hD1 hD2 hP0b hD3 hD4 hD4b hP hPP hE1 hE2 hE3 b1 b2 b3 b4 b5 b6 b7 hfe hsx
  go_enter Tryz.func14, Tryz.ntmps14
  go_wp2_with fail
  obtain ⟨W0, hW0⟩ : ∃ W0, W0 = (w.alloc (.cells #[.bool s, .slice pa na ca, .int .i64 e] 33)) := ⟨_, rfl⟩
  have Xa : Hid (B3q W0 (w.heap.size) (.bool s) (.slice pa na ca) (.int .i64 e)) := by rw [hW0]; exact ⟨by go_simp, by go_simp, by go_simp, by go_simp, by go_simp, by go_simp⟩
  have hb0 : Below w.heap.size w W0 := by rw [hW0]; exact below1 w _
  rw [← hW0]
  clear hW0
  have hbw : Below w.heap.size w w := Below.refl _ _
  obtain ⟨ga, hga⟩ : ∃ g, g = w.heap.size := ⟨_, rfl⟩
  have HGa : Hid (w.heap.size ≤ ga) := by rw [hga]; show _ ≤ _; omega
  rw [← hga] at Xa
  try rw [← hga]
  clear hga
  replace hbw := Below.on hbw hb0
  clear hb0
  refine (HJN.out.jm.pm.fm.of _).mono ?_
  rintro e v1 ⟨rfl, hb1⟩
  replace Xa : Hid _ := Xa.out.below hb1
  replace hbw := Below.on hbw hb1
  clear hb1
  obtain ⟨ca0, ca1, ca2, fa0, fa1, fa2⟩ := Xa.out
  have hnea : ga < v1.heap.size := World.block_lt_of_cell? v1 _ ca0
  go_wp2_with fail
  clear ca0 ca1 ca2 fa0 fa1 fa2 hnea
  have Xg0 : Hid (B3q (v1.alloc (.cells #[.int .i64 p, .int .i64 m, .int .i64 l] 47)) v1.heap.size (.int .i64 p) (.int .i64 m) (.int .i64 l)) := B3q.new v1 _ _ _ _
  have hbn : Below v1.heap.size v1 (v1.alloc (.cells #[.int .i64 p, .int .i64 m, .int .i64 l] 47)) := below1 v1 _
  generalize v1.alloc (.cells #[.int .i64 p, .int .i64 m, .int .i64 l] 47) = Wg at *
  have HGg : Hid (w.heap.size ≤ v1.heap.size) := hbw.size
  replace Xa : Hid _ := Xa.out.below hbn
  replace hbw := Below.on hbw hbn
  clear hbn
  generalize v1.heap.size = gg at *
  have Xg := Xg0
  clear Xg0
  refine (dform_t (A.out.below hbw)).mono ?_
  rintro e v2 ⟨rfl, hb2⟩
  replace Xa : Hid _ := Xa.out.below hb2
  replace Xg : Hid _ := Xg.out.below hb2
  replace hbw := Below.on hbw hb2
  clear hb2
  obtain ⟨ca0, ca1, ca2, fa0, fa1, fa2⟩ := Xa.out
  have hnea : ga < v2.heap.size := World.block_lt_of_cell? v2 _ ca0
  obtain ⟨cg0, cg1, cg2, fg0, fg1, fg2⟩ := Xg.out
  have hneg : gg < v2.heap.size := World.block_lt_of_cell? v2 _ cg0
  go_wp2_with fail
  clear ca0 ca1 ca2 fa0 fa1 fa2 hnea
  clear cg0 cg1 cg2 fg0 fg1 fg2 hneg
  refine (zsign (A.out.zn.below hbw)).mono ?_
  rintro e v4 ⟨rfl, hb4⟩
  rw [HSX.out]
  replace Xa : Hid _ := Xa.out.below hb4
  replace Xg : Hid _ := Xg.out.below hb4
  replace hbw := Below.on hbw hb4
  clear hb4
  obtain ⟨ca0, ca1, ca2, fa0, fa1, fa2⟩ := Xa.out
  have hnea : ga < v4.heap.size := World.block_lt_of_cell? v4 _ ca0
  obtain ⟨cg0, cg1, cg2, fg0, fg1, fg2⟩ := Xg.out
  have hneg : gg < v4.heap.size := World.block_lt_of_cell? v4 _ cg0
  go_wp2_with fail
  clear ca0 ca1 ca2 fa0 fa1 fa2 hnea
  clear cg0 cg1 cg2 fg0 fg1 fg2 hneg
  refine (toolong HLL.out).mono ?_
  rintro e v5 ⟨rfl, hb5⟩
  replace Xa : Hid _ := Xa.out.below hb5
  replace Xg : Hid _ := Xg.out.below hb5
  replace hbw := Below.on hbw hb5
  clear hb5
  obtain ⟨ca0, ca1, ca2, fa0, fa1, fa2⟩ := Xa.out
  have hnea : ga < v5.heap.size := World.block_lt_of_cell? v5 _ ca0
  obtain ⟨cg0, cg1, cg2, fg0, fg1, fg2⟩ := Xg.out
  have hneg : gg < v5.heap.size := World.block_lt_of_cell? v5 _ cg0
  go_wp2_with fail
  clear ca0 ca1 ca2 fa0 fa1 fa2 hnea
  clear cg0 cg1 cg2 fg0 fg1 fg2 hneg
  obtain ⟨W6, hW6⟩ : ∃ W1, W1 = v5.drew := ⟨_, rfl⟩
  have hbd : Below v5.heap.size v5 W6 := by rw [hW6]; exact bDrew1 (Below.refl _ _)
  replace Xa : Hid _ := Xa.out.below hbd
  replace Xg : Hid _ := Xg.out.below hbd
  replace hbw := Below.on hbw hbd
  clear hbd
  have HJ : Hid ((fun W' : World => W'.cell? ⟨gg, 0, none⟩ = some (.int .i64 p) ∧ W'.cell? ⟨gg, 1, none⟩ = some (.int .i64 m) ∧ W'.cell? ⟨gg, 2, none⟩ = some (.int .i64 l) ∧ W'.cell? ⟨ga, 0, none⟩ = some (.bool s) ∧ W'.cell? ⟨ga, 1, none⟩ = some (.slice pa na ca) ∧ W'.cell? ⟨ga, 2, none⟩ = some (.int .i64 e)) W6) := ⟨Xg.out.c0, Xg.out.c1, Xg.out.c2, Xa.out.c0, Xa.out.c1, Xa.out.c2⟩
  refine wp_region_J (fun W' => W'.cell? ⟨gg, 0, none⟩ = some (.int .i64 p) ∧ W'.cell? ⟨gg, 1, none⟩ = some (.int .i64 m) ∧ W'.cell? ⟨gg, 2, none⟩ = some (.int .i64 l) ∧ W'.cell? ⟨ga, 0, none⟩ = some (.bool s) ∧ W'.cell? ⟨ga, 1, none⟩ = some (.slice pa na ca) ∧ W'.cell? ⟨ga, 2, none⟩ = some (.int .i64 e)) (by kernel_rfl) ?_
  rw [← hW6]
  clear hW6
  refine wpJ_tq 0 rfl HJ.out ?_
  refine wpJ_tq 3 rfl HJ.out ?_
  refine wpJ_tq 4 rfl HJ.out ?_
  refine wpJ_tq 5 rfl HJ.out ?_
  refine wpJ_on 1 rfl fun KJ hK => ?_
  go_simp
  refine (enough_ok HM9.out).mono ?_
  rintro e v7 ⟨rfl, hb7⟩
  replace Xa : Hid _ := Xa.out.below hb7
  replace Xg : Hid _ := Xg.out.below hb7
  replace hbw := Below.on hbw hb7
  clear hb7
  clear HJ
  have HJ : Hid ((fun W' : World => W'.cell? ⟨gg, 0, none⟩ = some (.int .i64 p) ∧ W'.cell? ⟨gg, 1, none⟩ = some (.int .i64 m) ∧ W'.cell? ⟨gg, 2, none⟩ = some (.int .i64 l) ∧ W'.cell? ⟨ga, 0, none⟩ = some (.bool s) ∧ W'.cell? ⟨ga, 1, none⟩ = some (.slice pa na ca) ∧ W'.cell? ⟨ga, 2, none⟩ = some (.int .i64 e)) v7) := ⟨Xg.out.c0, Xg.out.c1, Xg.out.c2, Xa.out.c0, Xa.out.c1, Xa.out.c2⟩
  refine hK _ _ HJ.out ?_
  clear hK
  refine wpJ_tq 2 rfl HJ.out ?_
  refine wpJ_on 6 rfl fun KJ hK => ?_
  go_simp
  refine (bits_any (HX.out.at_.below hbw) (Nat.le_trans HX.out.le (by decide))).mono ?_
  rintro e v9 ⟨rfl, hw⟩
  obtain rfl := hw.symm
  clear hw
  rw [HBX.out]
  clear HJ
  have HJ : Hid ((fun W' : World => W'.cell? ⟨gg, 0, none⟩ = some (.int .i64 p) ∧ W'.cell? ⟨gg, 1, none⟩ = some (.int .i64 m) ∧ W'.cell? ⟨gg, 2, none⟩ = some (.int .i64 l) ∧ W'.cell? ⟨ga, 0, none⟩ = some (.bool s) ∧ W'.cell? ⟨ga, 1, none⟩ = some (.slice pa na ca) ∧ W'.cell? ⟨ga, 2, none⟩ = some (.int .i64 e)) v7) := ⟨Xg.out.c0, Xg.out.c1, Xg.out.c2, Xa.out.c0, Xa.out.c1, Xa.out.c2⟩
  refine hK _ _ HJ.out ?_
  clear hK
  refine wpJ_tq 7 rfl HJ.out ?_
  refine wpJ_tq 8 rfl HJ.out ?_
  refine wpJ_tq 9 rfl HJ.out ?_
  refine wpJ_done (by kernel_rfl) ?_ _
  clear HJ
  obtain ⟨ca0, ca1, ca2, fa0, fa1, fa2⟩ := Xa.out
  have hnea : ga < v7.heap.size := World.block_lt_of_cell? v7 _ ca0
  obtain ⟨cg0, cg1, cg2, fg0, fg1, fg2⟩ := Xg.out
  have hneg : gg < v7.heap.size := World.block_lt_of_cell? v7 _ cg0
  go_wp2_with fail
  clear ca0 ca1 ca2 fa0 fa1 fa2 hnea
  clear cg0 cg1 cg2 fg0 fg1 fg2 hneg
  refine (shl_nf (HX.out.at_.below hbw) HX.out.nf HX.out.le P HP.out.1).mono ?_
  rintro e2 v10 ⟨ha, hb10⟩
  obtain ⟨p1, m1, z1, rfl, ho1, hn1, hm1⟩ := ha.ok HP.out.2
  clear ha
  replace Xa : Hid _ := Xa.out.below hb10
  replace Xg : Hid _ := Xg.out.below hb10
  replace hbw := Below.on hbw hb10
  clear hb10
  have O1 : Hid (Own v7.heap.size v10 p1 m1 z1) := ho1
  have N1 : Hid (Nf B64 z1 (2 ^ P * x.natAbs) ∧ m1 ≤ 8192) := ⟨hn1, hm1⟩
  clear ho1 hn1 hm1
  obtain ⟨ca0, ca1, ca2, fa0, fa1, fa2⟩ := Xa.out
  have hnea : ga < v10.heap.size := World.block_lt_of_cell? v10 _ ca0
  obtain ⟨cg0, cg1, cg2, fg0, fg1, fg2⟩ := Xg.out
  have hneg : gg < v10.heap.size := World.block_lt_of_cell? v10 _ cg0
  go_wp2_with fail
  clear ca0 ca1 ca2 fa0 fa1 fa2 hnea
  clear cg0 cg1 cg2 fg0 fg1 fg2 hneg
  refine (root_any (Num.of O1.out N1.out.1 N1.out.2)).mono ?_
  rintro e2 v11 ⟨u1, u2, rfl, hdt⟩
  obtain ⟨F, p2, m2, z2, p3, m3, z3, hF1, hF2, rfl, ho2, hn2, hm2, rfl, ho3, hn3, hm3⟩ := hdt.val
  have hb11 := hdt.bel
  obtain ⟨r, hr⟩ : ∃ r, r = 2 ^ P * x.natAbs - F * F := ⟨_, rfl⟩
  rw [← hr] at hn3
  have HFR : Hid (F * F ≤ 2 ^ P * x.natAbs ∧ 2 ^ P * x.natAbs = F * F + r ∧ r ≤ 2 * F) := ⟨hF1, by omega, by omega⟩
  clear hdt hF1 hF2 hr
  clear O1
  replace Xa : Hid _ := Xa.out.below hb11
  replace Xg : Hid _ := Xg.out.below hb11
  replace hbw := Below.on hbw hb11
  clear hb11
  have O2 : Hid (Own v10.heap.size v11 p2 m2 z2) := ho2
  have O3 : Hid (Own v10.heap.size v11 p3 m3 z3) := ho3
  have N2 : Hid (Nf B64 z2 F ∧ m2 ≤ 8192) := ⟨hn2, hm2⟩
  have N3 : Hid (Nf B64 z3 r ∧ m3 ≤ 8192) := ⟨hn3, hm3⟩
  clear ho2 hn2 hm2 ho3 hn3 hm3
  obtain ⟨ca0, ca1, ca2, fa0, fa1, fa2⟩ := Xa.out
  have hnea : ga < v11.heap.size := World.block_lt_of_cell? v11 _ ca0
  obtain ⟨cg0, cg1, cg2, fg0, fg1, fg2⟩ := Xg.out
  have hneg : gg < v11.heap.size := World.block_lt_of_cell? v11 _ cg0
  go_wp2_with fail
  clear ca0 ca1 ca2 fa0 fa1 fa2 hnea
  clear cg0 cg1 cg2 fg0 fg1 fg2 hneg
  obtain ⟨W12, hW12⟩ : ∃ W1, W1 = v11.drew := ⟨_, rfl⟩
  have hbd : Below v11.heap.size v11 W12 := by rw [hW12]; exact bDrew1 (Below.refl _ _)
  replace Xa : Hid _ := Xa.out.below hbd
  replace Xg : Hid _ := Xg.out.below hbd
  replace O2 : Hid (Own v10.heap.size W12 p2 m2 z2) := O2.out.below hbd
  replace O3 : Hid (Own v10.heap.size W12 p3 m3 z3) := O3.out.below hbd
  replace hbw := Below.on hbw hbd
  clear hbd
  have HJ : Hid ((fun W' : World => W'.cell? ⟨gg, 0, none⟩ = some (.int .i64 p) ∧ W'.cell? ⟨gg, 1, none⟩ = some (.int .i64 m) ∧ W'.cell? ⟨gg, 2, none⟩ = some (.int .i64 l) ∧ W'.cell? ⟨ga, 0, none⟩ = some (.bool s) ∧ W'.cell? ⟨ga, 1, none⟩ = some (.slice pa na ca) ∧ W'.cell? ⟨ga, 2, none⟩ = some (.int .i64 e)) W12) := ⟨Xg.out.c0, Xg.out.c1, Xg.out.c2, Xa.out.c0, Xa.out.c1, Xa.out.c2⟩
  refine wp_region_J (fun W' => W'.cell? ⟨gg, 0, none⟩ = some (.int .i64 p) ∧ W'.cell? ⟨gg, 1, none⟩ = some (.int .i64 m) ∧ W'.cell? ⟨gg, 2, none⟩ = some (.int .i64 l) ∧ W'.cell? ⟨ga, 0, none⟩ = some (.bool s) ∧ W'.cell? ⟨ga, 1, none⟩ = some (.slice pa na ca) ∧ W'.cell? ⟨ga, 2, none⟩ = some (.int .i64 e)) (by kernel_rfl) ?_
  rw [← hW12]
  clear hW12
  refine wpJ_tq 0 rfl HJ.out ?_
  refine wpJ_tq 1 rfl HJ.out ?_
  refine wpJ_tq 2 rfl HJ.out ?_
  refine wpJ_tq 4 rfl HJ.out ?_
  refine wpJ_tq 5 rfl HJ.out ?_
  go_simp
  refine wpJ_tq 6 rfl HJ.out ?_
  refine wpJ_tq 7 rfl HJ.out ?_
  refine wpJ_tq 8 rfl HJ.out ?_
  refine wpJ_tq 9 rfl HJ.out ?_
  refine wpJ_on 3 rfl fun KJ hK => ?_
  go_simp
  refine (withmark false (Num.of O2.out N2.out.1 N2.out.2) (Num.of O3.out N3.out.1 N3.out.2) (HLF.out F HFR.out.1)).mono ?_
  rintro e2 v12 ⟨p4, m4, z4, rfl, ho4, hn4, hm4, hb12⟩
  clear O2
  clear O3
  replace Xa : Hid _ := Xa.out.below hb12
  replace Xg : Hid _ := Xg.out.below hb12
  replace hbw := Below.on hbw hb12
  clear hb12
  have O4 : Hid (Own W12.heap.size v12 p4 m4 z4) := ho4
  have N4 : Hid (Nf B64 z4 (2 * F + (if r = 0 then 0 else 1)) ∧ m4 ≤ 8192) := ⟨hn4, hm4⟩
  clear ho4 hn4 hm4
  refine hK _ _ ⟨Xg.out.c0, Xg.out.c1, Xg.out.c2, Xa.out.c0, Xa.out.c1, Xa.out.c2⟩ ?_
  clear hK
  refine wpJ_on 10 rfl fun KJ hK => ?_
  go_simp
  obtain ⟨M, hM⟩ : ∃ M, M = 2 * F + (if r = 0 then 0 else 1) := ⟨_, rfl⟩
  obtain ⟨q0, hMk⟩ := HMK.out F r M HFR.out.2.1 HFR.out.2.2 hM
  have ZZ : ZN v12 false p4 m4 m4 (M : Int) := ⟨⟨z4, by rw [Int.natAbs_natCast]; exact Num.of O4.out (by rw [hM]; exact N4.out.1) N4.out.2⟩, (decide_eq_false (Int.not_lt.2 (Int.natCast_nonneg M))).symm⟩
  obtain ⟨Zq, hZ1, hZ2, hZ3, _⟩ := rnp_is HJN.out (M : Int) E3 HE.out.1
  rw [Int.natAbs_natCast] at hZ2
  rw [if_neg (Int.not_lt.2 (Int.natCast_nonneg M))] at hZ3
  have HRZ : Hid (RNz H l I (dv (M : Int) E3) Zq ∧ Mk H l I (fun τ => τ * τ) ((x.natAbs : Int) * ((2 ^ (e + 2 * 4194304).toNat : Nat) : Int)) (dv (M : Int) E3)) := ⟨hZ2, hMk⟩
  refine (nearest_ok HJN.out ZZ HE.out (TB.out.below hbw)).mono ?_
  rintro e2 v13 ⟨rfl, hb13⟩
  rw [hZ3]
  clear ZZ hZ1 hZ2 hZ3 hM q0 hMk
  replace Xa : Hid _ := Xa.out.below hb13
  replace Xg : Hid _ := Xg.out.below hb13
  replace O4 : Hid (Own W12.heap.size v13 p4 m4 z4) := O4.out.below hb13
  replace hbw := Below.on hbw hb13
  clear hb13
  clear HJ
  have HJ : Hid ((fun W' : World => W'.cell? ⟨gg, 0, none⟩ = some (.int .i64 p) ∧ W'.cell? ⟨gg, 1, none⟩ = some (.int .i64 m) ∧ W'.cell? ⟨gg, 2, none⟩ = some (.int .i64 l) ∧ W'.cell? ⟨ga, 0, none⟩ = some (.bool s) ∧ W'.cell? ⟨ga, 1, none⟩ = some (.slice pa na ca) ∧ W'.cell? ⟨ga, 2, none⟩ = some (.int .i64 e)) v13) := ⟨Xg.out.c0, Xg.out.c1, Xg.out.c2, Xa.out.c0, Xa.out.c1, Xa.out.c2⟩
  refine hK _ _ HJ.out ?_
  clear hK
  refine wpJ_tq 11 rfl HJ.out ?_
  refine wpJ_tq 12 rfl HJ.out ?_
  refine wpJ_done (by kernel_rfl) ?_ _
  clear HJ
  go_wp2_with fail
  go_ret2
  exact ⟨Zq, _, rfl, HRZ.out.1, HRZ.out.2, hbw⟩
end Go.Proofs.YtfmbifocgljieaaGreatDoor
