import Derived.Test.YtfofoookdlaipaaGreatDoorJ11
import Derived.Test.YtfofoookdlaipaaGreatDoorJ22
import Derived.Test.YtfofoookdlaipaaGreatDoorJ21
namespace Go.Proofs.YtfofoookdlaipaaGreatDoor
open Go.RowKit Go.Shelf

theorem more_ex {i : Nat} (hi : i < 72057594037927936) : ∃ zp ep, DB zp ep 56 116 ∧ dv zp ep = dv (i : Int) (-116) ∧ 0 ≤ zp := by
  have h56 : (2 : Nat) ^ 56 = 72057594037927936 := by decide
  by_cases h0 : i = 0
  · subst h0
    exact ⟨0, 0, ⟨.inl ⟨rfl, rfl⟩, by decide, by decide, by decide⟩, by rw [show ((0 : Nat) : Int) = 0 from rfl, dv_zero, dv_zero], by decide⟩
  · obtain ⟨zo, eo, g1, g2, _, g4, g5, g6⟩ := form_ex (z := (i : Int)) (e := -116) (L := 56) (by omega) (by decide) (by rw [Int.natAbs_natCast]; omega) (by decide)
    refine ⟨zo, eo, ⟨g1, ?_, by omega, by omega⟩, g2, ?_⟩
    · rw [Int.natAbs_natCast] at g4
      exact Nat.lt_of_le_of_lt g4 (by omega)
    · have h3 := dv_nn i (-116)
      rw [← g2] at h3
      rcases dv3 zo eo with ⟨a, b⟩ | ⟨a, b⟩ | ⟨a, b⟩ <;> omega
theorem db_abs {x e : Int} {K E : Nat} (h : DB x e K E) : DB (x.natAbs : Int) e K E := by
  by_cases hx : x < 0
  · rw [show (x.natAbs : Int) = -x from by omega]; exact h.neg
  · rw [show (x.natAbs : Int) = x from by omega]; exact h
theorem sbet_a {p q : Option Addr} {m c n d : Nat} {w : World} {e f : Int} {s t : Bool} {a : Option Addr} {x y : Int} (h : DN w s p m c e x) (k : DN w t q n d f y) {K E : Nat} (bx : DB x e K E) (by_ : DB y f K E) (hKE : 5 * K + 12 * E + 46 ≤ 524288) (hc : dv x e ≤ dv y f) (i : Nat) (hi : i < 256) (hT : Tab w) :
    Calls Tryz.prog 55 #[.pointer a, DV s p m c e, DV t q n d f, .int .u8 i] w fun en w' => ∃ s1 p1 m1 s2 p2 m2 s3 p3 m3 c3 zu eu, en = .returned (.tuple #[SV s1 p1 m1 m1 e s2 p2 m2 m2 f, DV s3 p3 m3 c3 eu]) ∧ DN w' s1 p1 m1 m1 e x ∧ DN w' s2 p2 m2 m2 f y ∧ DN w' s3 p3 m3 c3 eu zu ∧ dv x e ≤ dv zu eu ∧ dv zu eu ≤ dv y f ∧ Below w.heap.size w w' := by
  by_cases h5 : i = 255
  · refine (sbet_e h k bx by_ hKE hc i hi hT h5).mono fun en w' ⟨s1, p1, m1, s2, p2, m2, h1, h2, h3, h4⟩ => ⟨s1, p1, m1, s2, p2, m2, t, q, n, d, y, f, h1, h2.dn, h3.dn, k.below h4, hc, Int.le_refl _, h4⟩
  · refine (sbet_n h k bx by_ hKE hc i hi hT h5).mono fun en w' ⟨s1, p1, m1, s2, p2, m2, s3, p3, m3, zu, eu, h1, h2, h3, h4, h6, h7⟩ => ⟨s1, p1, m1, s2, p2, m2, s3, p3, m3, m3, zu, eu, h1, h2.dn, h3.dn, h4, ?_, ?_, h7⟩
    · have := Int.mul_nonneg (show (0 : Int) ≤ (i : Int) by omega) (show 0 ≤ dv y f - dv x e by omega)
      omega
    · have h8 : (i : Int) * (dv y f - dv x e) ≤ 256 * (dv y f - dv x e) := Int.mul_le_mul_of_nonneg_right (by omega) (by omega)
      omega
set_option maxRecDepth 20000 in
set_option maxHeartbeats 8000000 in
theorem decided_n {f p m l : Int} {S I H sd : Nat} {Be : Int} (J : Jn f p m l S I H sd Be) {q : Option Addr} {n k : Nat} {w : World} {x e : Int} {s : Bool} {a : Option Addr} (h : DN w s q n k e x) (bx : DB x e 128 1430) (mo : Nat) (hmo : mo < B64) (hT : Tab w) :
    Calls Tryz.prog 20 #[.pointer a, .int .i64 f, DV s q n k e, U mo] w fun en w' => en = .returned (.bool true) ∧ Below w.heap.size w w' := by
  have HJN : Hid (Jn f p m l S I H sd Be) := J
  have A : Hid (DN w s q n k e x) := h
  have BX : Hid (DB x e 128 1430) := bx
  have TB : Hid (Tab w) := hT
  obtain ⟨i, hi⟩ : ∃ i, i = mo / 256 := ⟨_, rfl⟩
  obtain ⟨j, hj⟩ : ∃ j, j = mo % 256 := ⟨_, rfl⟩
  have hi2 : i < 72057594037927936 := by rw [B64_eq] at hmo; omega
  have HI : Hid (i < 72057594037927936 ∧ j < 256) := ⟨hi2, by omega⟩
  obtain ⟨zp, ep, hdb, hdp, hzp⟩ := more_ex hi2
  have HP : Hid (DB zp ep 56 116 ∧ dv zp ep = dv (i : Int) (-116) ∧ 0 ≤ zp) := ⟨hdb, hdp, hzp⟩
  have m1 : (mo : Int) / 256 = (i : Int) := by omega
  have m2 : IntKind.i64.wrap (i : Int) = (i : Int) := by simp [IntKind.wrap, IntKind.signed, IntKind.bits]; omega
  have m3 : IntKind.u8.wrap (mo : Int) = (j : Int) := by simp [IntKind.wrap, IntKind.signed, IntKind.bits]; omega
  clear J h bx hT hdb hdp hzp hi2 hi hj hmo
  go_enter Tryz.func20, Tryz.ntmps20
  go_wp2_with fail
  obtain ⟨W0, hW0⟩ : ∃ W0, W0 = (w.alloc (.cells #[.bool s, .slice q n k, .int .i64 e] 34)) := ⟨_, rfl⟩
  have Xd : Hid (B3q W0 (w.heap.size) (.bool s) (.slice q n k) (.int .i64 e)) := by rw [hW0]; exact ⟨by go_simp, by go_simp, by go_simp, by go_simp, by go_simp, by go_simp⟩
  have hb0 : Below w.heap.size w W0 := by rw [hW0]; exact below1 w _
  rw [← hW0]
  clear hW0
  have hbw : Below w.heap.size w w := Below.refl _ _
  obtain ⟨gd, hgd⟩ : ∃ g, g = w.heap.size := ⟨_, rfl⟩
  have HGd : Hid (w.heap.size ≤ gd) := by rw [hgd]; show _ ≤ _; omega
  rw [← hgd] at Xd
  try rw [← hgd]
  clear hgd
  replace hbw := Below.on hbw hb0
  clear hb0
  obtain ⟨W1, hW1⟩ : ∃ W1, W1 = W0.drew := ⟨_, rfl⟩
  have hbd : Below W0.heap.size W0 W1 := by rw [hW1]; exact bDrew1 (Below.refl _ _)
  replace Xd : Hid _ := Xd.out.below hbd
  replace hbw := Below.on hbw hbd
  clear hbd
  have HJ : Hid ((fun W' : World => W'.cell? ⟨gd, 0, none⟩ = some (.bool s) ∧ W'.cell? ⟨gd, 1, none⟩ = some (.slice q n k) ∧ W'.cell? ⟨gd, 2, none⟩ = some (.int .i64 e)) W1) := ⟨Xd.out.c0, Xd.out.c1, Xd.out.c2⟩
  refine wp_region_J (fun W' => W'.cell? ⟨gd, 0, none⟩ = some (.bool s) ∧ W'.cell? ⟨gd, 1, none⟩ = some (.slice q n k) ∧ W'.cell? ⟨gd, 2, none⟩ = some (.int .i64 e)) (by kernel_rfl) ?_
  rw [← hW1]
  clear hW1
  refine wpJ_take (i := 0) (v := ?v1x0) rfl (by kernel_rfl) (by kernel_rfl) (by kernel_rfl) (fun _ _ _ h => h) (by kernel_rfl) ?hy1x0 HJ.out ?rest1x0
  case hy1x0 => (intro W' hJ; obtain ⟨j0, j1, j2⟩ := hJ; go_simp; first | done | with_reducible rfl)
  refine wpJ_take (i := 1) (v := ?v2x1) rfl (by kernel_rfl) (by kernel_rfl) (by kernel_rfl) (fun _ _ _ h => h) (by kernel_rfl) ?hy2x1 HJ.out ?rest2x1
  case hy2x1 => (intro W' hJ; obtain ⟨j0, j1, j2⟩ := hJ; go_simp; first | done | with_reducible rfl)
  refine wpJ_take (i := 2) (v := ?v3x2) rfl (by kernel_rfl) (by kernel_rfl) (by kernel_rfl) (fun _ _ _ h => h) (by kernel_rfl) ?hy3x2 HJ.out ?rest3x2
  case hy3x2 => (intro W' hJ; obtain ⟨j0, j1, j2⟩ := hJ; go_simp; first | done | with_reducible rfl)
  refine wpJ_take (i := 3) (v := ?v4x3) rfl (by kernel_rfl) (by kernel_rfl) (by kernel_rfl) (fun _ _ _ h => h) (by kernel_rfl) ?hy4x3 HJ.out ?rest4x3
  case hy4x3 => (intro W' hJ; obtain ⟨j0, j1, j2⟩ := hJ; go_simp; first | done | with_reducible rfl)
  refine wpJ_take (i := 4) (v := ?v5x4) rfl (by kernel_rfl) (by kernel_rfl) (by kernel_rfl) (fun _ _ _ h => h) (by kernel_rfl) ?hy5x4 HJ.out ?rest5x4
  case hy5x4 => (intro W' hJ; obtain ⟨j0, j1, j2⟩ := hJ; go_simp; first | done | with_reducible rfl)
  go_simp
  refine wpJ_take (i := 6) (v := ?v6x6) rfl (by kernel_rfl) (by kernel_rfl) (by kernel_rfl) (fun _ _ _ h => h) (by kernel_rfl) ?hy6x6 HJ.out ?rest6x6
  case hy6x6 => (intro W' hJ; obtain ⟨j0, j1, j2⟩ := hJ; go_simp; first | done | with_reducible rfl)
  refine wpJ_take (i := 7) (v := ?v7x7) rfl (by kernel_rfl) (by kernel_rfl) (by kernel_rfl) (fun _ _ _ h => h) (by kernel_rfl) ?hy7x7 HJ.out ?rest7x7
  case hy7x7 => (intro W' hJ; obtain ⟨j0, j1, j2⟩ := hJ; go_simp; first | done | with_reducible rfl)
  refine wpJ_take (i := 8) (v := ?v8x8) rfl (by kernel_rfl) (by kernel_rfl) (by kernel_rfl) (fun _ _ _ h => h) (by kernel_rfl) ?hy8x8 HJ.out ?rest8x8
  case hy8x8 => (intro W' hJ; obtain ⟨j0, j1, j2⟩ := hJ; go_simp; first | done | with_reducible rfl)
  refine wpJ_take (i := 9) (v := ?v9x9) rfl (by kernel_rfl) (by kernel_rfl) (by kernel_rfl) (fun _ _ _ h => h) (by kernel_rfl) ?hy9x9 HJ.out ?rest9x9
  case hy9x9 => (intro W' hJ; obtain ⟨j0, j1, j2⟩ := hJ; go_simp; first | done | with_reducible rfl)
  go_simp
  obtain ⟨RQ, HRQ, HRP⟩ : ∃ RQ : Act → Act → World → Prop, Hid (∀ a1 a2 a3, (fun a0 a' W' => ∃ gw_ s5 p5 m5 c5 s10 p10 m10 s11 p11 m11 zo15 eo15 s15 p15 m15 zo16 eo16 s16 p16 m16, a' = (((((((((a0.put (some 28) (DV s5 p5 m5 c5 e)).put (some 33) (ZV s10 p10 m10 m10)).put (some 34) (.tuple #[(DV s11 p11 m11 m11 ep), .int .i64 0])).put (some 35) (DV s11 p11 m11 m11 ep)).put (some 36) (.int .i64 0)).put (some 37) (DV s11 p11 m11 m11 ep)).put (some 38) (DV s15 p15 m15 m15 eo15)).put (some 39) (DV s16 p16 m16 m16 eo16)).put (some 9) (.pointer (some ⟨gw_, 0, none⟩))) ∧ B3q W' gw_ (.bool s16) (.slice p16 m16 m16) (.int .i64 eo16) ∧ B3q W' gd (.bool s) (.slice q n k) (.int .i64 e) ∧ DN W' s16 p16 m16 m16 eo16 zo16 ∧ w.heap.size ≤ gw_ ∧ gd ≠ gw_ ∧ (DB zo15 eo15 (128 + 56) (1430 + 116 + 128 + 56) ∧ dv zo15 eo15 = dv ((x.natAbs : Int) * zp) (e + ep)) ∧ (DB zo16 eo16 ((128 + 56) + 2 * (1430 + 116 + 128 + 56) + 1) ((128 + 56) + 3 * (1430 + 116 + 128 + 56) + 1) ∧ dv zo16 eo16 = dv x e + dv zo15 eo15) ∧ Below w.heap.size w W') a1 a2 a3 → RQ a1 a2 a3) ∧ Hid (∀ a1 a2 a3, RQ a1 a2 a3 → (fun a0 a' W' => ∃ gw_ s5 p5 m5 c5 s10 p10 m10 s11 p11 m11 zo15 eo15 s15 p15 m15 zo16 eo16 s16 p16 m16, a' = (((((((((a0.put (some 28) (DV s5 p5 m5 c5 e)).put (some 33) (ZV s10 p10 m10 m10)).put (some 34) (.tuple #[(DV s11 p11 m11 m11 ep), .int .i64 0])).put (some 35) (DV s11 p11 m11 m11 ep)).put (some 36) (.int .i64 0)).put (some 37) (DV s11 p11 m11 m11 ep)).put (some 38) (DV s15 p15 m15 m15 eo15)).put (some 39) (DV s16 p16 m16 m16 eo16)).put (some 9) (.pointer (some ⟨gw_, 0, none⟩))) ∧ B3q W' gw_ (.bool s16) (.slice p16 m16 m16) (.int .i64 eo16) ∧ B3q W' gd (.bool s) (.slice q n k) (.int .i64 e) ∧ DN W' s16 p16 m16 m16 eo16 zo16 ∧ w.heap.size ≤ gw_ ∧ gd ≠ gw_ ∧ (DB zo15 eo15 (128 + 56) (1430 + 116 + 128 + 56) ∧ dv zo15 eo15 = dv ((x.natAbs : Int) * zp) (e + ep)) ∧ (DB zo16 eo16 ((128 + 56) + 2 * (1430 + 116 + 128 + 56) + 1) ((128 + 56) + 3 * (1430 + 116 + 128 + 56) + 1) ∧ dv zo16 eo16 = dv x e + dv zo15 eo15) ∧ Below w.heap.size w W') a1 a2 a3) := ⟨_, fun _ _ _ h => h, fun _ _ _ h => h⟩
  refine wpJ_cutA RQ ?_ ?_
  · intro a' Wc hrq
    obtain ⟨gw_, s5, p5, m5, c5, s10, p10, m10, s11, p11, m11, zo15, eo15, s15, p15, m15, zo16, eo16, s16, p16, m16, rfl, xb, xd, rr, hg, hdd, hHB15, hHB16, hbc⟩ := HRP.out _ _ _ hrq
    clear hrq HRP HRQ
    clear hbw HJ Xd
    have hbw := hbc
    have Xw_ : Hid (B3q Wc gw_ (.bool s16) (.slice p16 m16 m16) (.int .i64 eo16)) := xb
    have Xd : Hid (B3q Wc gd (.bool s) (.slice q n k) (.int .i64 e)) := xd
    have RR : Hid (DN Wc s16 p16 m16 m16 eo16 zo16) := rr
    have HGw_ : Hid (w.heap.size ≤ gw_) := hg
    have HDdw_ : Hid (gd ≠ gw_) := hdd
    have HB15 : Hid (DB zo15 eo15 (128 + 56) (1430 + 116 + 128 + 56) ∧ dv zo15 eo15 = dv ((x.natAbs : Int) * zp) (e + ep)) := hHB15
    have HB16 : Hid (DB zo16 eo16 ((128 + 56) + 2 * (1430 + 116 + 128 + 56) + 1) ((128 + 56) + 3 * (1430 + 116 + 128 + 56) + 1) ∧ dv zo16 eo16 = dv x e + dv zo15 eo15) := hHB16
    clear xb xd rr hg hdd hHB15 hHB16 hbc
    obtain ⟨cd0, cd1, cd2, fd0, fd1, fd2⟩ := Xd.out
    have hned : gd < Wc.heap.size := World.block_lt_of_cell? Wc _ cd0
    obtain ⟨cw_0, cw_1, cw_2, fw_0, fw_1, fw_2⟩ := Xw_.out
    have hnew_ : gw_ < Wc.heap.size := World.block_lt_of_cell? Wc _ cw_0
    go_wp2_with fail
    clear cd0 cd1 cd2 fd0 fd1 fd2 hned
    clear cw_0 cw_1 cw_2 fw_0 fw_1 fw_2 hnew_
    have HLE : Hid (dv x e ≤ dv zo16 eo16) := by
      show dv x e ≤ dv zo16 eo16
      rw [HB16.out.2, HB15.out.2]
      have h9 : dv 0 (e + ep) ≤ dv ((x.natAbs : Int) * zp) (e + ep) := dv_le _ (Int.mul_nonneg (by omega) HP.out.2.2)
      rw [dv_zero] at h9
      omega
    refine (sbet_a (A.out.below hbw) RR.out (BX.out.mono (by decide) (by decide)) HB16.out.1 (by decide) HLE.out j HI.out.2 (TB.out.below hbw)).mono ?_
    rintro e9 v20 ⟨s1, p1, m1, s2, p2, m2', s3, p3, m3', c3, zu, eu, rfl, hd1, hd2, hd3, hu1, hu2, hb20⟩
    clear RR
    replace Xw_ : Hid _ := Xw_.out.below hb20
    replace Xd : Hid _ := Xd.out.below hb20
    replace hbw := Below.on hbw hb20
    clear hb20
    have S1 : Hid (DN v20 s1 p1 m1 m1 e x) := hd1
    have S2 : Hid (DN v20 s2 p2 m2' m2' eo16 zo16) := hd2
    have S3 : Hid (DN v20 s3 p3 m3' c3 eu zu) := hd3
    have HU : Hid (dv x e ≤ dv zu eu ∧ dv zu eu ≤ dv zo16 eo16) := ⟨hu1, hu2⟩
    clear hd1 hd2 hd3 hu1 hu2
    go_wp2_with fail
    rw [show v20.heap.size + 1 = (v20.alloc (.cells #[.bool s1, .slice p1 m1 m1, .int .i64 e, .bool s2, .slice p2 m2' m2', .int .i64 eo16] 66)).heap.size from by simp]
    clear Xw_
    have Xsp0 : Hid (B6q (v20.alloc (.cells #[.bool s1, .slice p1 m1 m1, .int .i64 e, .bool s2, .slice p2 m2' m2', .int .i64 eo16] 66)) v20.heap.size (.bool s1) (.slice p1 m1 m1) (.int .i64 e) (.bool s2) (.slice p2 m2' m2') (.int .i64 eo16)) := B6q.new v20 _ _ _ _ _ _ _
    have hbn : Below v20.heap.size v20 (v20.alloc (.cells #[.bool s1, .slice p1 m1 m1, .int .i64 e, .bool s2, .slice p2 m2' m2', .int .i64 eo16] 66)) := below1 v20 _
    generalize v20.alloc (.cells #[.bool s1, .slice p1 m1 m1, .int .i64 e, .bool s2, .slice p2 m2' m2', .int .i64 eo16] 66) = Wsp at *
    have HGsp : Hid (w.heap.size ≤ v20.heap.size) := hbw.size
    replace Xd : Hid _ := Xd.out.below hbn
    replace S1 : Hid _ := S1.out.below hbn
    replace S2 : Hid _ := S2.out.below hbn
    replace S3 : Hid _ := S3.out.below hbn
    replace hbw := Below.on hbw hbn
    clear hbn
    generalize v20.heap.size = gsp at *
    have Xsp := Xsp0
    clear Xsp0
    have Xmi0 : Hid (B3q (Wsp.alloc (.cells #[.bool s3, .slice p3 m3' c3, .int .i64 eu] 34)) Wsp.heap.size (.bool s3) (.slice p3 m3' c3) (.int .i64 eu)) := B3q.new Wsp _ _ _ _
    have hbn : Below Wsp.heap.size Wsp (Wsp.alloc (.cells #[.bool s3, .slice p3 m3' c3, .int .i64 eu] 34)) := below1 Wsp _
    generalize Wsp.alloc (.cells #[.bool s3, .slice p3 m3' c3, .int .i64 eu] 34) = Wmi at *
    have HGmi : Hid (w.heap.size ≤ Wsp.heap.size) := hbw.size
    replace Xd : Hid _ := Xd.out.below hbn
    replace Xsp : Hid _ := Xsp.out.below hbn
    replace S1 : Hid _ := S1.out.below hbn
    replace S2 : Hid _ := S2.out.below hbn
    replace S3 : Hid _ := S3.out.below hbn
    replace hbw := Below.on hbw hbn
    clear hbn
    generalize Wsp.heap.size = gmi at *
    have Xmi := Xmi0
    clear Xmi0
    obtain ⟨a1, ha1⟩ : ∃ a1, a1 = rnp l sd Be S I x e := ⟨_, rfl⟩
    have HA1 : Hid (rnp l sd Be S I x e = a1) := ha1.symm
    clear ha1
    have HEX : Hid (-4194304 ≤ e ∧ -4194304 ≤ eo16 ∧ -4194304 ≤ eu) := ⟨by have := BX.out.lo; omega, by have := HB16.out.1.lo; omega, by rcases S3.out.fm with ⟨_, h2⟩ | ⟨_, h2, _⟩ <;> omega⟩
    by_cases hq : rnp l sd Be S I x e = rnp l sd Be S I zo16 eo16
    · have HA2 : Hid (rnp l sd Be S I zo16 eo16 = a1) := by rw [← hq]; exact HA1.out
      have HA3 : Hid (rnp l sd Be S I zu eu = a1) := by show _ = a1; rw [← HA1.out]; exact rnp_mid HJN.out HEX.out.1 HEX.out.2.1 HEX.out.2.2 HU.out.1 HU.out.2 hq
      have HQ : Hid (rnp l sd Be S I x e = rnp l sd Be S I zo16 eo16) := hq
      clear hq
      refine (decide_y HJN.out S1.out S2.out HLE.out HQ.out (TB.out.below hbw)).mono ?_
      rintro e v21 ⟨rfl, hb21⟩
      rw [HA1.out]
      replace Xd : Hid _ := Xd.out.below hb21
      replace Xsp : Hid _ := Xsp.out.below hb21
      replace Xmi : Hid _ := Xmi.out.below hb21
      replace S1 : Hid _ := S1.out.below hb21
      replace S2 : Hid _ := S2.out.below hb21
      replace S3 : Hid _ := S3.out.below hb21
      replace hbw := Below.on hbw hb21
      clear hb21
      obtain ⟨csp0, csp1, csp2, csp3, csp4, csp5, fsp0, fsp1, fsp2, fsp3, fsp4, fsp5⟩ := Xsp.out
      have hnesp : gsp < v21.heap.size := World.block_lt_of_cell? v21 _ csp0
      go_wp2_with fail
      clear csp0 csp1 csp2 csp3 csp4 csp5 fsp0 fsp1 fsp2 fsp3 fsp4 fsp5 hnesp
      refine (rnearest HJN.out S1.out (TB.out.below hbw)).mono ?_
      rintro e v22 ⟨rfl, hb22⟩
      rw [HA1.out]
      replace Xd : Hid _ := Xd.out.below hb22
      replace Xsp : Hid _ := Xsp.out.below hb22
      replace Xmi : Hid _ := Xmi.out.below hb22
      replace S1 : Hid _ := S1.out.below hb22
      replace S2 : Hid _ := S2.out.below hb22
      replace S3 : Hid _ := S3.out.below hb22
      replace hbw := Below.on hbw hb22
      clear hb22
      obtain ⟨csp0, csp1, csp2, csp3, csp4, csp5, fsp0, fsp1, fsp2, fsp3, fsp4, fsp5⟩ := Xsp.out
      have hnesp : gsp < v22.heap.size := World.block_lt_of_cell? v22 _ csp0
      go_wp2_with fail
      clear csp0 csp1 csp2 csp3 csp4 csp5 fsp0 fsp1 fsp2 fsp3 fsp4 fsp5 hnesp
      refine (rnearest HJN.out S2.out (TB.out.below hbw)).mono ?_
      rintro e v23 ⟨rfl, hb23⟩
      rw [HA2.out]
      replace Xd : Hid _ := Xd.out.below hb23
      replace Xsp : Hid _ := Xsp.out.below hb23
      replace Xmi : Hid _ := Xmi.out.below hb23
      replace S1 : Hid _ := S1.out.below hb23
      replace S2 : Hid _ := S2.out.below hb23
      replace S3 : Hid _ := S3.out.below hb23
      replace hbw := Below.on hbw hb23
      clear hb23
      obtain ⟨cmi0, cmi1, cmi2, fmi0, fmi1, fmi2⟩ := Xmi.out
      have hnemi : gmi < v23.heap.size := World.block_lt_of_cell? v23 _ cmi0
      go_wp2_with fail
      clear cmi0 cmi1 cmi2 fmi0 fmi1 fmi2 hnemi
      refine (rnearest HJN.out S3.out (TB.out.below hbw)).mono ?_
      rintro e v24 ⟨rfl, hb24⟩
      rw [HA3.out]
      replace Xd : Hid _ := Xd.out.below hb24
      replace Xsp : Hid _ := Xsp.out.below hb24
      replace Xmi : Hid _ := Xmi.out.below hb24
      replace S1 : Hid _ := S1.out.below hb24
      replace S2 : Hid _ := S2.out.below hb24
      replace S3 : Hid _ := S3.out.below hb24
      replace hbw := Below.on hbw hb24
      clear hb24
      obtain ⟨csp0, csp1, csp2, csp3, csp4, csp5, fsp0, fsp1, fsp2, fsp3, fsp4, fsp5⟩ := Xsp.out
      have hnesp : gsp < v24.heap.size := World.block_lt_of_cell? v24 _ csp0
      obtain ⟨cmi0, cmi1, cmi2, fmi0, fmi1, fmi2⟩ := Xmi.out
      have hnemi : gmi < v24.heap.size := World.block_lt_of_cell? v24 _ cmi0
      go_wp2_with fail
      clear csp0 csp1 csp2 csp3 csp4 csp5 fsp0 fsp1 fsp2 fsp3 fsp4 fsp5 hnesp
      clear cmi0 cmi1 cmi2 fmi0 fmi1 fmi2 hnemi
      refine (shas S1.out S2.out S3.out HU.out.1 HU.out.2).mono ?_
      rintro e v25 ⟨rfl, hb25⟩
      replace Xd : Hid _ := Xd.out.below hb25
      replace Xsp : Hid _ := Xsp.out.below hb25
      replace Xmi : Hid _ := Xmi.out.below hb25
      replace S1 : Hid _ := S1.out.below hb25
      replace S2 : Hid _ := S2.out.below hb25
      replace S3 : Hid _ := S3.out.below hb25
      replace hbw := Below.on hbw hb25
      clear hb25
      go_wp2_with fail
      go_ret
      exact ⟨rfl, hbw⟩
    · obtain ⟨a2, ha2⟩ : ∃ a2, a2 = rnp l sd Be S I zo16 eo16 := ⟨_, rfl⟩
      have HA2 : Hid (rnp l sd Be S I zo16 eo16 = a2) := ha2.symm
      obtain ⟨a3, ha3⟩ : ∃ a3, a3 = rnp l sd Be S I zu eu := ⟨_, rfl⟩
      have HA3 : Hid (rnp l sd Be S I zu eu = a3) := ha3.symm
      have HQ : Hid (¬ rnp l sd Be S I x e = rnp l sd Be S I zo16 eo16) := hq
      have n1 : ¬ a1 = a2 := by rw [← HA1.out, ha2]; exact hq
      have n2 : ((a1 : Int) == (a2 : Int)) = false := by simp; omega
      have n3 : ((a1 : Int) != (a2 : Int)) = true := by simp; omega
      clear ha2 ha3 hq
      refine (decide_n HJN.out S1.out S2.out HLE.out HQ.out (TB.out.below hbw)).mono ?_
      rintro e v21 ⟨rfl, hb21⟩
      replace Xd : Hid _ := Xd.out.below hb21
      replace Xsp : Hid _ := Xsp.out.below hb21
      replace Xmi : Hid _ := Xmi.out.below hb21
      replace S1 : Hid _ := S1.out.below hb21
      replace S2 : Hid _ := S2.out.below hb21
      replace S3 : Hid _ := S3.out.below hb21
      replace hbw := Below.on hbw hb21
      clear hb21
      obtain ⟨csp0, csp1, csp2, csp3, csp4, csp5, fsp0, fsp1, fsp2, fsp3, fsp4, fsp5⟩ := Xsp.out
      have hnesp : gsp < v21.heap.size := World.block_lt_of_cell? v21 _ csp0
      go_wp2_with fail
      clear csp0 csp1 csp2 csp3 csp4 csp5 fsp0 fsp1 fsp2 fsp3 fsp4 fsp5 hnesp
      refine (rnearest HJN.out S1.out (TB.out.below hbw)).mono ?_
      rintro e v22 ⟨rfl, hb22⟩
      rw [HA1.out]
      replace Xd : Hid _ := Xd.out.below hb22
      replace Xsp : Hid _ := Xsp.out.below hb22
      replace Xmi : Hid _ := Xmi.out.below hb22
      replace S1 : Hid _ := S1.out.below hb22
      replace S2 : Hid _ := S2.out.below hb22
      replace S3 : Hid _ := S3.out.below hb22
      replace hbw := Below.on hbw hb22
      clear hb22
      obtain ⟨csp0, csp1, csp2, csp3, csp4, csp5, fsp0, fsp1, fsp2, fsp3, fsp4, fsp5⟩ := Xsp.out
      have hnesp : gsp < v22.heap.size := World.block_lt_of_cell? v22 _ csp0
      go_wp2_with fail
      clear csp0 csp1 csp2 csp3 csp4 csp5 fsp0 fsp1 fsp2 fsp3 fsp4 fsp5 hnesp
      refine (rnearest HJN.out S2.out (TB.out.below hbw)).mono ?_
      rintro e v23 ⟨rfl, hb23⟩
      rw [HA2.out]
      replace Xd : Hid _ := Xd.out.below hb23
      replace Xsp : Hid _ := Xsp.out.below hb23
      replace Xmi : Hid _ := Xmi.out.below hb23
      replace S1 : Hid _ := S1.out.below hb23
      replace S2 : Hid _ := S2.out.below hb23
      replace S3 : Hid _ := S3.out.below hb23
      replace hbw := Below.on hbw hb23
      clear hb23
      obtain ⟨cmi0, cmi1, cmi2, fmi0, fmi1, fmi2⟩ := Xmi.out
      have hnemi : gmi < v23.heap.size := World.block_lt_of_cell? v23 _ cmi0
      go_wp2_with fail
      clear cmi0 cmi1 cmi2 fmi0 fmi1 fmi2 hnemi
      refine (rnearest HJN.out S3.out (TB.out.below hbw)).mono ?_
      rintro e v24 ⟨rfl, hb24⟩
      rw [HA3.out]
      replace Xd : Hid _ := Xd.out.below hb24
      replace Xsp : Hid _ := Xsp.out.below hb24
      replace Xmi : Hid _ := Xmi.out.below hb24
      replace S1 : Hid _ := S1.out.below hb24
      replace S2 : Hid _ := S2.out.below hb24
      replace S3 : Hid _ := S3.out.below hb24
      replace hbw := Below.on hbw hb24
      clear hb24
      obtain ⟨csp0, csp1, csp2, csp3, csp4, csp5, fsp0, fsp1, fsp2, fsp3, fsp4, fsp5⟩ := Xsp.out
      have hnesp : gsp < v24.heap.size := World.block_lt_of_cell? v24 _ csp0
      obtain ⟨cmi0, cmi1, cmi2, fmi0, fmi1, fmi2⟩ := Xmi.out
      have hnemi : gmi < v24.heap.size := World.block_lt_of_cell? v24 _ cmi0
      go_wp2_with fail
      clear csp0 csp1 csp2 csp3 csp4 csp5 fsp0 fsp1 fsp2 fsp3 fsp4 fsp5 hnesp
      clear cmi0 cmi1 cmi2 fmi0 fmi1 fmi2 hnemi
      refine (shas S1.out S2.out S3.out HU.out.1 HU.out.2).mono ?_
      rintro e v25 ⟨rfl, hb25⟩
      replace Xd : Hid _ := Xd.out.below hb25
      replace Xsp : Hid _ := Xsp.out.below hb25
      replace Xmi : Hid _ := Xmi.out.below hb25
      replace S1 : Hid _ := S1.out.below hb25
      replace S2 : Hid _ := S2.out.below hb25
      replace S3 : Hid _ := S3.out.below hb25
      replace hbw := Below.on hbw hb25
      clear hb25
      go_wp2_with fail
      go_ret
      exact ⟨rfl, hbw⟩
  · skip
    refine wpJ_two (i := 5) (k := 17) (by kernel_rfl) rfl rfl (by kernel_rfl) (by kernel_rfl) (fun KJ hK => ?_) (fun KJ hK => ?_)
    · go_simp
      refine (ssize (A.out.below hbw)).mono ?_
      rintro e9 v5 ⟨s5, p5, m5, c5, rfl, hd, hb5⟩
      replace Xd : Hid _ := Xd.out.below hb5
      replace hbw := Below.on hbw hb5
      clear hb5
      have D5 : Hid (DN v5 s5 p5 m5 c5 e (x.natAbs : Int)) := hd
      clear hd
      clear HJ
      have HJ : Hid ((fun W' : World => W'.cell? ⟨gd, 0, none⟩ = some (.bool s) ∧ W'.cell? ⟨gd, 1, none⟩ = some (.slice q n k) ∧ W'.cell? ⟨gd, 2, none⟩ = some (.int .i64 e)) v5) := ⟨Xd.out.c0, Xd.out.c1, Xd.out.c2⟩
      refine hK _ _ HJ.out ?_
      clear hK
      refine wpJ_two (i := 10) (k := 17) (by kernel_rfl) rfl rfl (by kernel_rfl) (by kernel_rfl) (fun KJ hK => ?_) (fun KJ hK => ?_)
      · go_simp
        refine (zof (i : Int) _ (by omega) (by have := HI.out.1; omega)).mono ?_
        rintro e9 v10 ⟨s10, p10, m10, rfl, hz, hb10⟩
        replace Xd : Hid _ := Xd.out.below hb10
        replace D5 : Hid _ := D5.out.below hb10
        replace hbw := Below.on hbw hb10
        clear hb10
        have Z10 : Hid (ZN v10 s10 p10 m10 m10 (i : Int)) := hz
        clear hz
        clear HJ
        have HJ : Hid ((fun W' : World => W'.cell? ⟨gd, 0, none⟩ = some (.bool s) ∧ W'.cell? ⟨gd, 1, none⟩ = some (.slice q n k) ∧ W'.cell? ⟨gd, 2, none⟩ = some (.int .i64 e)) v10) := ⟨Xd.out.c0, Xd.out.c1, Xd.out.c2⟩
        refine hK _ _ HJ.out ?_
        clear hK
        refine wpJ_two (i := 11) (k := 17) (by kernel_rfl) rfl rfl (by kernel_rfl) (by kernel_rfl) (fun KJ hK => ?_) (fun KJ hK => ?_)
        · go_simp
          refine (makep Z10.out (by decide) (TB.out.below hbw)).mono ?_
          rintro e9 v11 ⟨hv, hb11⟩
          obtain ⟨v, rfl, hv2⟩ := hv.form HP.out.1.fm HP.out.2.1
          obtain ⟨s11, p11, m11, rfl, hd11⟩ := hv2.dn HP.out.1.fm
          clear hv hv2
          replace Xd : Hid _ := Xd.out.below hb11
          replace D5 : Hid _ := D5.out.below hb11
          replace Z10 : Hid _ := Z10.out.below hb11
          replace hbw := Below.on hbw hb11
          clear hb11
          have D11 : Hid (DN v11 s11 p11 m11 m11 ep zp) := hd11
          clear hd11
          clear HJ
          have HJ : Hid ((fun W' : World => W'.cell? ⟨gd, 0, none⟩ = some (.bool s) ∧ W'.cell? ⟨gd, 1, none⟩ = some (.slice q n k) ∧ W'.cell? ⟨gd, 2, none⟩ = some (.int .i64 e)) v11) := ⟨Xd.out.c0, Xd.out.c1, Xd.out.c2⟩
          refine hK _ _ HJ.out ?_
          clear hK
          refine wpJ_take (i := 12) (v := ?v10x12) rfl (by kernel_rfl) (by kernel_rfl) (by kernel_rfl) (fun _ _ _ h => by cases h.1) (by kernel_rfl) ?hy10x12 HJ.out ?rest10x12
          case hy10x12 => (intro W' hJ; obtain ⟨j0, j1, j2⟩ := hJ; go_simp; first | done | with_reducible rfl)
          refine wpJ_take (i := 13) (v := ?v11x13) rfl (by kernel_rfl) (by kernel_rfl) (by kernel_rfl) (fun _ _ _ h => by cases h.1) (by kernel_rfl) ?hy11x13 HJ.out ?rest11x13
          case hy11x13 => (intro W' hJ; obtain ⟨j0, j1, j2⟩ := hJ; go_simp; first | done | with_reducible rfl)
          refine wpJ_two (i := 14) (k := 17) (by kernel_rfl) rfl rfl (by kernel_rfl) (by kernel_rfl) (fun KJ hK => ?_) (fun KJ hK => ?_)
          · go_simp
            refine (stake).mono ?_
            rintro e v14 ⟨rfl, hb14⟩
            replace Xd : Hid _ := Xd.out.below hb14
            replace D5 : Hid _ := D5.out.below hb14
            replace Z10 : Hid _ := Z10.out.below hb14
            replace D11 : Hid _ := D11.out.below hb14
            replace hbw := Below.on hbw hb14
            clear hb14
            clear HJ
            have HJ : Hid ((fun W' : World => W'.cell? ⟨gd, 0, none⟩ = some (.bool s) ∧ W'.cell? ⟨gd, 1, none⟩ = some (.slice q n k) ∧ W'.cell? ⟨gd, 2, none⟩ = some (.int .i64 e)) v14) := ⟨Xd.out.c0, Xd.out.c1, Xd.out.c2⟩
            refine hK _ _ HJ.out ?_
            clear hK
            refine wpJ_two (i := 15) (k := 17) (by kernel_rfl) rfl rfl (by kernel_rfl) (by kernel_rfl) (fun KJ hK => ?_) (fun KJ hK => ?_)
            · go_simp
              refine (smul D5.out D11.out (show DB (x.natAbs : Int) e 128 1430 from db_abs BX.out) HP.out.1 (by decide) (by decide) (TB.out.below hbw)).mono ?_
              rintro e9 v15 ⟨zo15, eo15, s15, p15, m15, rfl, hd, hdb, hdv, hb15⟩
              have HB15 : Hid (DB zo15 eo15 (128 + 56) (1430 + 116 + 128 + 56) ∧ dv zo15 eo15 = dv ((x.natAbs : Int) * zp) (e + ep)) := ⟨hdb, hdv⟩
              clear hdb hdv
              replace Xd : Hid _ := Xd.out.below hb15
              replace D5 : Hid _ := D5.out.below hb15
              replace Z10 : Hid _ := Z10.out.below hb15
              replace D11 : Hid _ := D11.out.below hb15
              replace hbw := Below.on hbw hb15
              clear hb15
              have D15 : Hid (DO v14.heap.size v15 s15 p15 m15 eo15 zo15) := hd
              clear hd
              clear HJ
              have HJ : Hid ((fun W' : World => W'.cell? ⟨gd, 0, none⟩ = some (.bool s) ∧ W'.cell? ⟨gd, 1, none⟩ = some (.slice q n k) ∧ W'.cell? ⟨gd, 2, none⟩ = some (.int .i64 e)) v15) := ⟨Xd.out.c0, Xd.out.c1, Xd.out.c2⟩
              refine hK _ _ HJ.out ?_
              clear hK
              refine wpJ_two (i := 16) (k := 17) (by kernel_rfl) rfl rfl (by kernel_rfl) (by kernel_rfl) (fun KJ hK => ?_) (fun KJ hK => ?_)
              · go_simp
                refine (sadd (A.out.below hbw) D15.out.dn (BX.out.mono (by decide) (by decide)) HB15.out.1 (by decide) (TB.out.below hbw)).mono ?_
                rintro e9 v16 ⟨zo16, eo16, s16, p16, m16, rfl, hd, hdb, hdv, hb16⟩
                have HB16 : Hid (DB zo16 eo16 ((128 + 56) + 2 * (1430 + 116 + 128 + 56) + 1) ((128 + 56) + 3 * (1430 + 116 + 128 + 56) + 1) ∧ dv zo16 eo16 = dv x e + dv zo15 eo15) := ⟨hdb, hdv⟩
                clear hdb hdv
                replace Xd : Hid _ := Xd.out.below hb16
                replace D5 : Hid _ := D5.out.below hb16
                replace Z10 : Hid _ := Z10.out.below hb16
                replace D11 : Hid _ := D11.out.below hb16
                replace D15 : Hid (DO v14.heap.size v16 s15 p15 m15 eo15 zo15) := D15.out.below hb16
                replace hbw := Below.on hbw hb16
                clear hb16
                have RR : Hid (DO v15.heap.size v16 s16 p16 m16 eo16 zo16) := hd
                clear hd
                refine hK _ _ ⟨Xd.out.c0, Xd.out.c1, Xd.out.c2⟩ ?_
                clear hK
                refine wpJ_one (i := 17) (by kernel_rfl) rfl (by kernel_rfl) (fun KJ hK => ?_)
                go_simp
                have HDdw_ : Hid (gd ≠ v16.heap.size) := Nat.ne_of_lt Xd.out.lt
                have HLS : Hid (∀ v0 v1 v2, DN ((((v16.alloc (.cells #[.bool false, .slice none 0 0, .int .i64 0] 34)).setCell ⟨v16.heap.size, 0, none⟩ v0).setCell ⟨v16.heap.size, 1, none⟩ v1).setCell ⟨v16.heap.size, 2, none⟩ v2) s16 p16 m16 m16 eo16 zo16) := fun v0 v1 v2 => RR.out.dn.below (bSet (bSet (bSet (below1 _ _) _ _ _ (Nat.le_refl _)) _ _ _ (Nat.le_refl _)) _ _ _ (Nat.le_refl _))
                have Xw_0 : Hid (B3q (v16.alloc (.cells #[.bool false, .slice none 0 0, .int .i64 0] 34)) v16.heap.size (.bool false) (.slice none 0 0) (.int .i64 0)) := B3q.new v16 _ _ _ _
                have hbn : Below v16.heap.size v16 (v16.alloc (.cells #[.bool false, .slice none 0 0, .int .i64 0] 34)) := below1 v16 _
                generalize v16.alloc (.cells #[.bool false, .slice none 0 0, .int .i64 0] 34) = Wa at *
                have HGw_ : Hid (w.heap.size ≤ v16.heap.size) := hbw.size
                replace Xd : Hid _ := Xd.out.below hbn
                replace D5 : Hid _ := D5.out.below hbn
                replace Z10 : Hid _ := Z10.out.below hbn
                replace D11 : Hid _ := D11.out.below hbn
                replace D15 : Hid (DO v14.heap.size Wa s15 p15 m15 eo15 zo15) := D15.out.below hbn
                replace RR : Hid (DO v15.heap.size Wa s16 p16 m16 eo16 zo16) := RR.out.below hbn
                replace hbw := Below.on hbw hbn
                clear hbn
                generalize v16.heap.size = gw_ at *
                have Xw_ := Xw_0
                clear Xw_0
                refine hK _ _ ⟨Xd.out.c0, Xd.out.c1, Xd.out.c2⟩ ?_
                clear hK
                obtain ⟨cw_0, cw_1, cw_2, fw_0, fw_1, fw_2⟩ := Xw_.out
                have hnew_ : gw_ < Wa.heap.size := World.block_lt_of_cell? Wa _ cw_0
                obtain ⟨cd0, cd1, cd2, fd0, fd1, fd2⟩ := Xd.out
                have hned : gd < Wa.heap.size := World.block_lt_of_cell? Wa _ cd0
                have qad : gd ≠ gw_ := HDdw_.out
                have qbd : gw_ ≠ gd := fun h => qad h.symm
                refine wpJ_one (i := 18) (by kernel_rfl) rfl (by kernel_rfl) (fun KJ hK => ?_)
                go_simp
                have HJ2 : Hid ((fun W' : World => W'.cell? ⟨gd, 0, none⟩ = some (.bool s) ∧ W'.cell? ⟨gd, 1, none⟩ = some (.slice q n k) ∧ W'.cell? ⟨gd, 2, none⟩ = some (.int .i64 e)) (((Wa.setCell ⟨gw_, 0, none⟩ (.bool s16)).setCell ⟨gw_, 1, none⟩ (.slice p16 m16 m16)).setCell ⟨gw_, 2, none⟩ (.int .i64 eo16))) := ⟨by go_simp, by go_simp, by go_simp⟩
                have Xw_2 : Hid (B3q (((Wa.setCell ⟨gw_, 0, none⟩ (.bool s16)).setCell ⟨gw_, 1, none⟩ (.slice p16 m16 m16)).setCell ⟨gw_, 2, none⟩ (.int .i64 eo16)) gw_ (.bool s16) (.slice p16 m16 m16) (.int .i64 eo16)) := ⟨by go_simp, by go_simp, by go_simp, by go_simp, by go_simp, by go_simp⟩
                have Xd2 : Hid (B3q (((Wa.setCell ⟨gw_, 0, none⟩ (.bool s16)).setCell ⟨gw_, 1, none⟩ (.slice p16 m16 m16)).setCell ⟨gw_, 2, none⟩ (.int .i64 eo16)) gd (.bool s) (.slice q n k) (.int .i64 e)) := ⟨by go_simp, by go_simp, by go_simp, by go_simp, by go_simp, by go_simp⟩
                have RR2 : Hid (DN (((Wa.setCell ⟨gw_, 0, none⟩ (.bool s16)).setCell ⟨gw_, 1, none⟩ (.slice p16 m16 m16)).setCell ⟨gw_, 2, none⟩ (.int .i64 eo16)) s16 p16 m16 m16 eo16 zo16) := HLS.out _ _ _
                have hbw2 : Below w.heap.size w (((Wa.setCell ⟨gw_, 0, none⟩ (.bool s16)).setCell ⟨gw_, 1, none⟩ (.slice p16 m16 m16)).setCell ⟨gw_, 2, none⟩ (.int .i64 eo16)) := bSet (bSet (bSet hbw _ _ _ HGw_.out) _ _ _ HGw_.out) _ _ _ HGw_.out
                refine hK _ _ HJ2.out ?_
                clear hK HJ
                have HJ := HJ2
                refine wpJ_done (by kernel_rfl) ?_ _
                exact ⟨rfl, HRQ.out _ _ _ ⟨gw_, s5, p5, m5, c5, s10, p10, m10, s11, p11, m11, zo15, eo15, s15, p15, m15, zo16, eo16, s16, p16, m16, by kernel_rfl, Xw_2.out, Xd2.out, RR2.out, HGw_.out, HDdw_.out, HB15.out, HB16.out, hbw2⟩⟩
              · go_simp
                have HDdw_ : Hid (gd ≠ v15.heap.size) := Nat.ne_of_lt Xd.out.lt
                have Xw_0 : Hid (B3q (v15.alloc (.cells #[.bool false, .slice none 0 0, .int .i64 0] 34)) v15.heap.size (.bool false) (.slice none 0 0) (.int .i64 0)) := B3q.new v15 _ _ _ _
                have hbn : Below v15.heap.size v15 (v15.alloc (.cells #[.bool false, .slice none 0 0, .int .i64 0] 34)) := below1 v15 _
                generalize v15.alloc (.cells #[.bool false, .slice none 0 0, .int .i64 0] 34) = Wa at *
                have HGw_ : Hid (w.heap.size ≤ v15.heap.size) := hbw.size
                replace Xd : Hid _ := Xd.out.below hbn
                replace D5 : Hid _ := D5.out.below hbn
                replace Z10 : Hid _ := Z10.out.below hbn
                replace D11 : Hid _ := D11.out.below hbn
                replace D15 : Hid (DO v14.heap.size Wa s15 p15 m15 eo15 zo15) := D15.out.below hbn
                replace hbw := Below.on hbw hbn
                clear hbn
                generalize v15.heap.size = gw_ at *
                have Xw_ := Xw_0
                clear Xw_0
                refine hK _ _ ⟨Xd.out.c0, Xd.out.c1, Xd.out.c2⟩ ?_
                clear hK
                refine wpJ_one (i := 16) (by kernel_rfl) rfl (by kernel_rfl) (fun KJ hK => ?_)
                go_simp
                have HLT : Hid (gw_ < Wa.heap.size) := Xw_.out.lt
                refine (sadd (A.out.below hbw) D15.out.dn (BX.out.mono (by decide) (by decide)) HB15.out.1 (by decide) (TB.out.below hbw)).mono ?_
                rintro e9 v16 ⟨zo16, eo16, s16, p16, m16, rfl, hd, hdb, hdv, hb16⟩
                have HB16 : Hid (DB zo16 eo16 ((128 + 56) + 2 * (1430 + 116 + 128 + 56) + 1) ((128 + 56) + 3 * (1430 + 116 + 128 + 56) + 1) ∧ dv zo16 eo16 = dv x e + dv zo15 eo15) := ⟨hdb, hdv⟩
                clear hdb hdv
                replace Xd : Hid _ := Xd.out.below hb16
                replace Xw_ : Hid _ := Xw_.out.below hb16
                replace D5 : Hid _ := D5.out.below hb16
                replace Z10 : Hid _ := Z10.out.below hb16
                replace D11 : Hid _ := D11.out.below hb16
                replace D15 : Hid (DO v14.heap.size v16 s15 p15 m15 eo15 zo15) := D15.out.below hb16
                replace hbw := Below.on hbw hb16
                clear hb16
                have RR : Hid (DO Wa.heap.size v16 s16 p16 m16 eo16 zo16) := hd
                clear hd
                refine hK _ _ ⟨Xd.out.c0, Xd.out.c1, Xd.out.c2⟩ ?_
                clear hK
                obtain ⟨cw_0, cw_1, cw_2, fw_0, fw_1, fw_2⟩ := Xw_.out
                have hnew_ : gw_ < v16.heap.size := World.block_lt_of_cell? v16 _ cw_0
                obtain ⟨cd0, cd1, cd2, fd0, fd1, fd2⟩ := Xd.out
                have hned : gd < v16.heap.size := World.block_lt_of_cell? v16 _ cd0
                have qad : gd ≠ gw_ := HDdw_.out
                have qbd : gw_ ≠ gd := fun h => qad h.symm
                refine wpJ_one (i := 18) (by kernel_rfl) rfl (by kernel_rfl) (fun KJ hK => ?_)
                go_simp
                have HJ2 : Hid ((fun W' : World => W'.cell? ⟨gd, 0, none⟩ = some (.bool s) ∧ W'.cell? ⟨gd, 1, none⟩ = some (.slice q n k) ∧ W'.cell? ⟨gd, 2, none⟩ = some (.int .i64 e)) (((v16.setCell ⟨gw_, 0, none⟩ (.bool s16)).setCell ⟨gw_, 1, none⟩ (.slice p16 m16 m16)).setCell ⟨gw_, 2, none⟩ (.int .i64 eo16))) := ⟨by go_simp, by go_simp, by go_simp⟩
                have Xw_2 : Hid (B3q (((v16.setCell ⟨gw_, 0, none⟩ (.bool s16)).setCell ⟨gw_, 1, none⟩ (.slice p16 m16 m16)).setCell ⟨gw_, 2, none⟩ (.int .i64 eo16)) gw_ (.bool s16) (.slice p16 m16 m16) (.int .i64 eo16)) := ⟨by go_simp, by go_simp, by go_simp, by go_simp, by go_simp, by go_simp⟩
                have Xd2 : Hid (B3q (((v16.setCell ⟨gw_, 0, none⟩ (.bool s16)).setCell ⟨gw_, 1, none⟩ (.slice p16 m16 m16)).setCell ⟨gw_, 2, none⟩ (.int .i64 eo16)) gd (.bool s) (.slice q n k) (.int .i64 e)) := ⟨by go_simp, by go_simp, by go_simp, by go_simp, by go_simp, by go_simp⟩
                have RR2 : Hid (DN (((v16.setCell ⟨gw_, 0, none⟩ (.bool s16)).setCell ⟨gw_, 1, none⟩ (.slice p16 m16 m16)).setCell ⟨gw_, 2, none⟩ (.int .i64 eo16)) s16 p16 m16 m16 eo16 zo16) := (((RR.out.set _ _ _ HLT.out).set _ _ _ HLT.out).set _ _ _ HLT.out).dn
                have hbw2 : Below w.heap.size w (((v16.setCell ⟨gw_, 0, none⟩ (.bool s16)).setCell ⟨gw_, 1, none⟩ (.slice p16 m16 m16)).setCell ⟨gw_, 2, none⟩ (.int .i64 eo16)) := bSet (bSet (bSet hbw _ _ _ HGw_.out) _ _ _ HGw_.out) _ _ _ HGw_.out
                refine hK _ _ HJ2.out ?_
                clear hK HJ
                have HJ := HJ2
                refine wpJ_done (by kernel_rfl) ?_ _
                exact ⟨rfl, HRQ.out _ _ _ ⟨gw_, s5, p5, m5, c5, s10, p10, m10, s11, p11, m11, zo15, eo15, s15, p15, m15, zo16, eo16, s16, p16, m16, by kernel_rfl, Xw_2.out, Xd2.out, RR2.out, HGw_.out, HDdw_.out, HB15.out, HB16.out, hbw2⟩⟩
            · go_simp
              have HDdw_ : Hid (gd ≠ v14.heap.size) := Nat.ne_of_lt Xd.out.lt
              have Xw_0 : Hid (B3q (v14.alloc (.cells #[.bool false, .slice none 0 0, .int .i64 0] 34)) v14.heap.size (.bool false) (.slice none 0 0) (.int .i64 0)) := B3q.new v14 _ _ _ _
              have hbn : Below v14.heap.size v14 (v14.alloc (.cells #[.bool false, .slice none 0 0, .int .i64 0] 34)) := below1 v14 _
              generalize v14.alloc (.cells #[.bool false, .slice none 0 0, .int .i64 0] 34) = Wa at *
              have HGw_ : Hid (w.heap.size ≤ v14.heap.size) := hbw.size
              replace Xd : Hid _ := Xd.out.below hbn
              replace D5 : Hid _ := D5.out.below hbn
              replace Z10 : Hid _ := Z10.out.below hbn
              replace D11 : Hid _ := D11.out.below hbn
              replace hbw := Below.on hbw hbn
              clear hbn
              generalize v14.heap.size = gw_ at *
              have Xw_ := Xw_0
              clear Xw_0
              refine hK _ _ ⟨Xd.out.c0, Xd.out.c1, Xd.out.c2⟩ ?_
              clear hK
              refine wpJ_one (i := 15) (by kernel_rfl) rfl (by kernel_rfl) (fun KJ hK => ?_)
              go_simp
              refine (smul D5.out D11.out (show DB (x.natAbs : Int) e 128 1430 from db_abs BX.out) HP.out.1 (by decide) (by decide) (TB.out.below hbw)).mono ?_
              rintro e9 v15 ⟨zo15, eo15, s15, p15, m15, rfl, hd, hdb, hdv, hb15⟩
              have HB15 : Hid (DB zo15 eo15 (128 + 56) (1430 + 116 + 128 + 56) ∧ dv zo15 eo15 = dv ((x.natAbs : Int) * zp) (e + ep)) := ⟨hdb, hdv⟩
              clear hdb hdv
              replace Xd : Hid _ := Xd.out.below hb15
              replace Xw_ : Hid _ := Xw_.out.below hb15
              replace D5 : Hid _ := D5.out.below hb15
              replace Z10 : Hid _ := Z10.out.below hb15
              replace D11 : Hid _ := D11.out.below hb15
              replace hbw := Below.on hbw hb15
              clear hb15
              have D15 : Hid (DO Wa.heap.size v15 s15 p15 m15 eo15 zo15) := hd
              clear hd
              refine hK _ _ ⟨Xd.out.c0, Xd.out.c1, Xd.out.c2⟩ ?_
              clear hK
              refine wpJ_one (i := 16) (by kernel_rfl) rfl (by kernel_rfl) (fun KJ hK => ?_)
              go_simp
              have HLT : Hid (gw_ < v15.heap.size) := Xw_.out.lt
              refine (sadd (A.out.below hbw) D15.out.dn (BX.out.mono (by decide) (by decide)) HB15.out.1 (by decide) (TB.out.below hbw)).mono ?_
              rintro e9 v16 ⟨zo16, eo16, s16, p16, m16, rfl, hd, hdb, hdv, hb16⟩
              have HB16 : Hid (DB zo16 eo16 ((128 + 56) + 2 * (1430 + 116 + 128 + 56) + 1) ((128 + 56) + 3 * (1430 + 116 + 128 + 56) + 1) ∧ dv zo16 eo16 = dv x e + dv zo15 eo15) := ⟨hdb, hdv⟩
              clear hdb hdv
              replace Xd : Hid _ := Xd.out.below hb16
              replace Xw_ : Hid _ := Xw_.out.below hb16
              replace D5 : Hid _ := D5.out.below hb16
              replace Z10 : Hid _ := Z10.out.below hb16
              replace D11 : Hid _ := D11.out.below hb16
              replace D15 : Hid (DO Wa.heap.size v16 s15 p15 m15 eo15 zo15) := D15.out.below hb16
              replace hbw := Below.on hbw hb16
              clear hb16
              have RR : Hid (DO v15.heap.size v16 s16 p16 m16 eo16 zo16) := hd
              clear hd
              refine hK _ _ ⟨Xd.out.c0, Xd.out.c1, Xd.out.c2⟩ ?_
              clear hK
              obtain ⟨cw_0, cw_1, cw_2, fw_0, fw_1, fw_2⟩ := Xw_.out
              have hnew_ : gw_ < v16.heap.size := World.block_lt_of_cell? v16 _ cw_0
              obtain ⟨cd0, cd1, cd2, fd0, fd1, fd2⟩ := Xd.out
              have hned : gd < v16.heap.size := World.block_lt_of_cell? v16 _ cd0
              have qad : gd ≠ gw_ := HDdw_.out
              have qbd : gw_ ≠ gd := fun h => qad h.symm
              refine wpJ_one (i := 18) (by kernel_rfl) rfl (by kernel_rfl) (fun KJ hK => ?_)
              go_simp
              have HJ2 : Hid ((fun W' : World => W'.cell? ⟨gd, 0, none⟩ = some (.bool s) ∧ W'.cell? ⟨gd, 1, none⟩ = some (.slice q n k) ∧ W'.cell? ⟨gd, 2, none⟩ = some (.int .i64 e)) (((v16.setCell ⟨gw_, 0, none⟩ (.bool s16)).setCell ⟨gw_, 1, none⟩ (.slice p16 m16 m16)).setCell ⟨gw_, 2, none⟩ (.int .i64 eo16))) := ⟨by go_simp, by go_simp, by go_simp⟩
              have Xw_2 : Hid (B3q (((v16.setCell ⟨gw_, 0, none⟩ (.bool s16)).setCell ⟨gw_, 1, none⟩ (.slice p16 m16 m16)).setCell ⟨gw_, 2, none⟩ (.int .i64 eo16)) gw_ (.bool s16) (.slice p16 m16 m16) (.int .i64 eo16)) := ⟨by go_simp, by go_simp, by go_simp, by go_simp, by go_simp, by go_simp⟩
              have Xd2 : Hid (B3q (((v16.setCell ⟨gw_, 0, none⟩ (.bool s16)).setCell ⟨gw_, 1, none⟩ (.slice p16 m16 m16)).setCell ⟨gw_, 2, none⟩ (.int .i64 eo16)) gd (.bool s) (.slice q n k) (.int .i64 e)) := ⟨by go_simp, by go_simp, by go_simp, by go_simp, by go_simp, by go_simp⟩
              have RR2 : Hid (DN (((v16.setCell ⟨gw_, 0, none⟩ (.bool s16)).setCell ⟨gw_, 1, none⟩ (.slice p16 m16 m16)).setCell ⟨gw_, 2, none⟩ (.int .i64 eo16)) s16 p16 m16 m16 eo16 zo16) := (((RR.out.set _ _ _ HLT.out).set _ _ _ HLT.out).set _ _ _ HLT.out).dn
              have hbw2 : Below w.heap.size w (((v16.setCell ⟨gw_, 0, none⟩ (.bool s16)).setCell ⟨gw_, 1, none⟩ (.slice p16 m16 m16)).setCell ⟨gw_, 2, none⟩ (.int .i64 eo16)) := bSet (bSet (bSet hbw _ _ _ HGw_.out) _ _ _ HGw_.out) _ _ _ HGw_.out
              refine hK _ _ HJ2.out ?_
              clear hK HJ
              have HJ := HJ2
              refine wpJ_done (by kernel_rfl) ?_ _
              exact ⟨rfl, HRQ.out _ _ _ ⟨gw_, s5, p5, m5, c5, s10, p10, m10, s11, p11, m11, zo15, eo15, s15, p15, m15, zo16, eo16, s16, p16, m16, by kernel_rfl, Xw_2.out, Xd2.out, RR2.out, HGw_.out, HDdw_.out, HB15.out, HB16.out, hbw2⟩⟩
          · go_simp
            have HDdw_ : Hid (gd ≠ v11.heap.size) := Nat.ne_of_lt Xd.out.lt
            have Xw_0 : Hid (B3q (v11.alloc (.cells #[.bool false, .slice none 0 0, .int .i64 0] 34)) v11.heap.size (.bool false) (.slice none 0 0) (.int .i64 0)) := B3q.new v11 _ _ _ _
            have hbn : Below v11.heap.size v11 (v11.alloc (.cells #[.bool false, .slice none 0 0, .int .i64 0] 34)) := below1 v11 _
            generalize v11.alloc (.cells #[.bool false, .slice none 0 0, .int .i64 0] 34) = Wa at *
            have HGw_ : Hid (w.heap.size ≤ v11.heap.size) := hbw.size
            replace Xd : Hid _ := Xd.out.below hbn
            replace D5 : Hid _ := D5.out.below hbn
            replace Z10 : Hid _ := Z10.out.below hbn
            replace D11 : Hid _ := D11.out.below hbn
            replace hbw := Below.on hbw hbn
            clear hbn
            generalize v11.heap.size = gw_ at *
            have Xw_ := Xw_0
            clear Xw_0
            refine hK _ _ ⟨Xd.out.c0, Xd.out.c1, Xd.out.c2⟩ ?_
            clear hK
            refine wpJ_one (i := 14) (by kernel_rfl) rfl (by kernel_rfl) (fun KJ hK => ?_)
            go_simp
            refine (stake).mono ?_
            rintro e v14 ⟨rfl, hb14⟩
            replace Xd : Hid _ := Xd.out.below hb14
            replace Xw_ : Hid _ := Xw_.out.below hb14
            replace D5 : Hid _ := D5.out.below hb14
            replace Z10 : Hid _ := Z10.out.below hb14
            replace D11 : Hid _ := D11.out.below hb14
            replace hbw := Below.on hbw hb14
            clear hb14
            refine hK _ _ ⟨Xd.out.c0, Xd.out.c1, Xd.out.c2⟩ ?_
            clear hK
            refine wpJ_one (i := 15) (by kernel_rfl) rfl (by kernel_rfl) (fun KJ hK => ?_)
            go_simp
            refine (smul D5.out D11.out (show DB (x.natAbs : Int) e 128 1430 from db_abs BX.out) HP.out.1 (by decide) (by decide) (TB.out.below hbw)).mono ?_
            rintro e9 v15 ⟨zo15, eo15, s15, p15, m15, rfl, hd, hdb, hdv, hb15⟩
            have HB15 : Hid (DB zo15 eo15 (128 + 56) (1430 + 116 + 128 + 56) ∧ dv zo15 eo15 = dv ((x.natAbs : Int) * zp) (e + ep)) := ⟨hdb, hdv⟩
            clear hdb hdv
            replace Xd : Hid _ := Xd.out.below hb15
            replace Xw_ : Hid _ := Xw_.out.below hb15
            replace D5 : Hid _ := D5.out.below hb15
            replace Z10 : Hid _ := Z10.out.below hb15
            replace D11 : Hid _ := D11.out.below hb15
            replace hbw := Below.on hbw hb15
            clear hb15
            have D15 : Hid (DO v14.heap.size v15 s15 p15 m15 eo15 zo15) := hd
            clear hd
            refine hK _ _ ⟨Xd.out.c0, Xd.out.c1, Xd.out.c2⟩ ?_
            clear hK
            refine wpJ_one (i := 16) (by kernel_rfl) rfl (by kernel_rfl) (fun KJ hK => ?_)
            go_simp
            have HLT : Hid (gw_ < v15.heap.size) := Xw_.out.lt
            refine (sadd (A.out.below hbw) D15.out.dn (BX.out.mono (by decide) (by decide)) HB15.out.1 (by decide) (TB.out.below hbw)).mono ?_
            rintro e9 v16 ⟨zo16, eo16, s16, p16, m16, rfl, hd, hdb, hdv, hb16⟩
            have HB16 : Hid (DB zo16 eo16 ((128 + 56) + 2 * (1430 + 116 + 128 + 56) + 1) ((128 + 56) + 3 * (1430 + 116 + 128 + 56) + 1) ∧ dv zo16 eo16 = dv x e + dv zo15 eo15) := ⟨hdb, hdv⟩
            clear hdb hdv
            replace Xd : Hid _ := Xd.out.below hb16
            replace Xw_ : Hid _ := Xw_.out.below hb16
            replace D5 : Hid _ := D5.out.below hb16
            replace Z10 : Hid _ := Z10.out.below hb16
            replace D11 : Hid _ := D11.out.below hb16
            replace D15 : Hid (DO v14.heap.size v16 s15 p15 m15 eo15 zo15) := D15.out.below hb16
            replace hbw := Below.on hbw hb16
            clear hb16
            have RR : Hid (DO v15.heap.size v16 s16 p16 m16 eo16 zo16) := hd
            clear hd
            refine hK _ _ ⟨Xd.out.c0, Xd.out.c1, Xd.out.c2⟩ ?_
            clear hK
            obtain ⟨cw_0, cw_1, cw_2, fw_0, fw_1, fw_2⟩ := Xw_.out
            have hnew_ : gw_ < v16.heap.size := World.block_lt_of_cell? v16 _ cw_0
            obtain ⟨cd0, cd1, cd2, fd0, fd1, fd2⟩ := Xd.out
            have hned : gd < v16.heap.size := World.block_lt_of_cell? v16 _ cd0
            have qad : gd ≠ gw_ := HDdw_.out
            have qbd : gw_ ≠ gd := fun h => qad h.symm
            refine wpJ_one (i := 18) (by kernel_rfl) rfl (by kernel_rfl) (fun KJ hK => ?_)
            go_simp
            have HJ2 : Hid ((fun W' : World => W'.cell? ⟨gd, 0, none⟩ = some (.bool s) ∧ W'.cell? ⟨gd, 1, none⟩ = some (.slice q n k) ∧ W'.cell? ⟨gd, 2, none⟩ = some (.int .i64 e)) (((v16.setCell ⟨gw_, 0, none⟩ (.bool s16)).setCell ⟨gw_, 1, none⟩ (.slice p16 m16 m16)).setCell ⟨gw_, 2, none⟩ (.int .i64 eo16))) := ⟨by go_simp, by go_simp, by go_simp⟩
            have Xw_2 : Hid (B3q (((v16.setCell ⟨gw_, 0, none⟩ (.bool s16)).setCell ⟨gw_, 1, none⟩ (.slice p16 m16 m16)).setCell ⟨gw_, 2, none⟩ (.int .i64 eo16)) gw_ (.bool s16) (.slice p16 m16 m16) (.int .i64 eo16)) := ⟨by go_simp, by go_simp, by go_simp, by go_simp, by go_simp, by go_simp⟩
            have Xd2 : Hid (B3q (((v16.setCell ⟨gw_, 0, none⟩ (.bool s16)).setCell ⟨gw_, 1, none⟩ (.slice p16 m16 m16)).setCell ⟨gw_, 2, none⟩ (.int .i64 eo16)) gd (.bool s) (.slice q n k) (.int .i64 e)) := ⟨by go_simp, by go_simp, by go_simp, by go_simp, by go_simp, by go_simp⟩
            have RR2 : Hid (DN (((v16.setCell ⟨gw_, 0, none⟩ (.bool s16)).setCell ⟨gw_, 1, none⟩ (.slice p16 m16 m16)).setCell ⟨gw_, 2, none⟩ (.int .i64 eo16)) s16 p16 m16 m16 eo16 zo16) := (((RR.out.set _ _ _ HLT.out).set _ _ _ HLT.out).set _ _ _ HLT.out).dn
            have hbw2 : Below w.heap.size w (((v16.setCell ⟨gw_, 0, none⟩ (.bool s16)).setCell ⟨gw_, 1, none⟩ (.slice p16 m16 m16)).setCell ⟨gw_, 2, none⟩ (.int .i64 eo16)) := bSet (bSet (bSet hbw _ _ _ HGw_.out) _ _ _ HGw_.out) _ _ _ HGw_.out
            refine hK _ _ HJ2.out ?_
            clear hK HJ
            have HJ := HJ2
            refine wpJ_done (by kernel_rfl) ?_ _
            exact ⟨rfl, HRQ.out _ _ _ ⟨gw_, s5, p5, m5, c5, s10, p10, m10, s11, p11, m11, zo15, eo15, s15, p15, m15, zo16, eo16, s16, p16, m16, by kernel_rfl, Xw_2.out, Xd2.out, RR2.out, HGw_.out, HDdw_.out, HB15.out, HB16.out, hbw2⟩⟩
        · go_simp
          have HDdw_ : Hid (gd ≠ v10.heap.size) := Nat.ne_of_lt Xd.out.lt
          have Xw_0 : Hid (B3q (v10.alloc (.cells #[.bool false, .slice none 0 0, .int .i64 0] 34)) v10.heap.size (.bool false) (.slice none 0 0) (.int .i64 0)) := B3q.new v10 _ _ _ _
          have hbn : Below v10.heap.size v10 (v10.alloc (.cells #[.bool false, .slice none 0 0, .int .i64 0] 34)) := below1 v10 _
          generalize v10.alloc (.cells #[.bool false, .slice none 0 0, .int .i64 0] 34) = Wa at *
          have HGw_ : Hid (w.heap.size ≤ v10.heap.size) := hbw.size
          replace Xd : Hid _ := Xd.out.below hbn
          replace D5 : Hid _ := D5.out.below hbn
          replace Z10 : Hid _ := Z10.out.below hbn
          replace hbw := Below.on hbw hbn
          clear hbn
          generalize v10.heap.size = gw_ at *
          have Xw_ := Xw_0
          clear Xw_0
          refine hK _ _ ⟨Xd.out.c0, Xd.out.c1, Xd.out.c2⟩ ?_
          clear hK
          refine wpJ_one (i := 11) (by kernel_rfl) rfl (by kernel_rfl) (fun KJ hK => ?_)
          go_simp
          refine (makep Z10.out (by decide) (TB.out.below hbw)).mono ?_
          rintro e9 v11 ⟨hv, hb11⟩
          obtain ⟨v, rfl, hv2⟩ := hv.form HP.out.1.fm HP.out.2.1
          obtain ⟨s11, p11, m11, rfl, hd11⟩ := hv2.dn HP.out.1.fm
          clear hv hv2
          replace Xd : Hid _ := Xd.out.below hb11
          replace Xw_ : Hid _ := Xw_.out.below hb11
          replace D5 : Hid _ := D5.out.below hb11
          replace Z10 : Hid _ := Z10.out.below hb11
          replace hbw := Below.on hbw hb11
          clear hb11
          have D11 : Hid (DN v11 s11 p11 m11 m11 ep zp) := hd11
          clear hd11
          clear HJ
          have HJ : Hid ((fun W' : World => W'.cell? ⟨gd, 0, none⟩ = some (.bool s) ∧ W'.cell? ⟨gd, 1, none⟩ = some (.slice q n k) ∧ W'.cell? ⟨gd, 2, none⟩ = some (.int .i64 e)) v11) := ⟨Xd.out.c0, Xd.out.c1, Xd.out.c2⟩
          refine hK _ _ HJ.out ?_
          clear hK
          refine wpJ_take (i := 12) (v := ?v12x12) rfl (by kernel_rfl) (by kernel_rfl) (by kernel_rfl) (fun _ _ _ h => by cases h.1) (by kernel_rfl) ?hy12x12 HJ.out ?rest12x12
          case hy12x12 => (intro W' hJ; obtain ⟨j0, j1, j2⟩ := hJ; go_simp; first | done | with_reducible rfl)
          refine wpJ_take (i := 13) (v := ?v13x13) rfl (by kernel_rfl) (by kernel_rfl) (by kernel_rfl) (fun _ _ _ h => by cases h.1) (by kernel_rfl) ?hy13x13 HJ.out ?rest13x13
          case hy13x13 => (intro W' hJ; obtain ⟨j0, j1, j2⟩ := hJ; go_simp; first | done | with_reducible rfl)
          refine wpJ_one (i := 14) (by kernel_rfl) rfl (by kernel_rfl) (fun KJ hK => ?_)
          go_simp
          refine (stake).mono ?_
          rintro e v14 ⟨rfl, hb14⟩
          replace Xd : Hid _ := Xd.out.below hb14
          replace Xw_ : Hid _ := Xw_.out.below hb14
          replace D5 : Hid _ := D5.out.below hb14
          replace Z10 : Hid _ := Z10.out.below hb14
          replace D11 : Hid _ := D11.out.below hb14
          replace hbw := Below.on hbw hb14
          clear hb14
          refine hK _ _ ⟨Xd.out.c0, Xd.out.c1, Xd.out.c2⟩ ?_
          clear hK
          refine wpJ_one (i := 15) (by kernel_rfl) rfl (by kernel_rfl) (fun KJ hK => ?_)
          go_simp
          refine (smul D5.out D11.out (show DB (x.natAbs : Int) e 128 1430 from db_abs BX.out) HP.out.1 (by decide) (by decide) (TB.out.below hbw)).mono ?_
          rintro e9 v15 ⟨zo15, eo15, s15, p15, m15, rfl, hd, hdb, hdv, hb15⟩
          have HB15 : Hid (DB zo15 eo15 (128 + 56) (1430 + 116 + 128 + 56) ∧ dv zo15 eo15 = dv ((x.natAbs : Int) * zp) (e + ep)) := ⟨hdb, hdv⟩
          clear hdb hdv
          replace Xd : Hid _ := Xd.out.below hb15
          replace Xw_ : Hid _ := Xw_.out.below hb15
          replace D5 : Hid _ := D5.out.below hb15
          replace Z10 : Hid _ := Z10.out.below hb15
          replace D11 : Hid _ := D11.out.below hb15
          replace hbw := Below.on hbw hb15
          clear hb15
          have D15 : Hid (DO v14.heap.size v15 s15 p15 m15 eo15 zo15) := hd
          clear hd
          refine hK _ _ ⟨Xd.out.c0, Xd.out.c1, Xd.out.c2⟩ ?_
          clear hK
          refine wpJ_one (i := 16) (by kernel_rfl) rfl (by kernel_rfl) (fun KJ hK => ?_)
          go_simp
          have HLT : Hid (gw_ < v15.heap.size) := Xw_.out.lt
          refine (sadd (A.out.below hbw) D15.out.dn (BX.out.mono (by decide) (by decide)) HB15.out.1 (by decide) (TB.out.below hbw)).mono ?_
          rintro e9 v16 ⟨zo16, eo16, s16, p16, m16, rfl, hd, hdb, hdv, hb16⟩
          have HB16 : Hid (DB zo16 eo16 ((128 + 56) + 2 * (1430 + 116 + 128 + 56) + 1) ((128 + 56) + 3 * (1430 + 116 + 128 + 56) + 1) ∧ dv zo16 eo16 = dv x e + dv zo15 eo15) := ⟨hdb, hdv⟩
          clear hdb hdv
          replace Xd : Hid _ := Xd.out.below hb16
          replace Xw_ : Hid _ := Xw_.out.below hb16
          replace D5 : Hid _ := D5.out.below hb16
          replace Z10 : Hid _ := Z10.out.below hb16
          replace D11 : Hid _ := D11.out.below hb16
          replace D15 : Hid (DO v14.heap.size v16 s15 p15 m15 eo15 zo15) := D15.out.below hb16
          replace hbw := Below.on hbw hb16
          clear hb16
          have RR : Hid (DO v15.heap.size v16 s16 p16 m16 eo16 zo16) := hd
          clear hd
          refine hK _ _ ⟨Xd.out.c0, Xd.out.c1, Xd.out.c2⟩ ?_
          clear hK
          obtain ⟨cw_0, cw_1, cw_2, fw_0, fw_1, fw_2⟩ := Xw_.out
          have hnew_ : gw_ < v16.heap.size := World.block_lt_of_cell? v16 _ cw_0
          obtain ⟨cd0, cd1, cd2, fd0, fd1, fd2⟩ := Xd.out
          have hned : gd < v16.heap.size := World.block_lt_of_cell? v16 _ cd0
          have qad : gd ≠ gw_ := HDdw_.out
          have qbd : gw_ ≠ gd := fun h => qad h.symm
          refine wpJ_one (i := 18) (by kernel_rfl) rfl (by kernel_rfl) (fun KJ hK => ?_)
          go_simp
          have HJ2 : Hid ((fun W' : World => W'.cell? ⟨gd, 0, none⟩ = some (.bool s) ∧ W'.cell? ⟨gd, 1, none⟩ = some (.slice q n k) ∧ W'.cell? ⟨gd, 2, none⟩ = some (.int .i64 e)) (((v16.setCell ⟨gw_, 0, none⟩ (.bool s16)).setCell ⟨gw_, 1, none⟩ (.slice p16 m16 m16)).setCell ⟨gw_, 2, none⟩ (.int .i64 eo16))) := ⟨by go_simp, by go_simp, by go_simp⟩
          have Xw_2 : Hid (B3q (((v16.setCell ⟨gw_, 0, none⟩ (.bool s16)).setCell ⟨gw_, 1, none⟩ (.slice p16 m16 m16)).setCell ⟨gw_, 2, none⟩ (.int .i64 eo16)) gw_ (.bool s16) (.slice p16 m16 m16) (.int .i64 eo16)) := ⟨by go_simp, by go_simp, by go_simp, by go_simp, by go_simp, by go_simp⟩
          have Xd2 : Hid (B3q (((v16.setCell ⟨gw_, 0, none⟩ (.bool s16)).setCell ⟨gw_, 1, none⟩ (.slice p16 m16 m16)).setCell ⟨gw_, 2, none⟩ (.int .i64 eo16)) gd (.bool s) (.slice q n k) (.int .i64 e)) := ⟨by go_simp, by go_simp, by go_simp, by go_simp, by go_simp, by go_simp⟩
          have RR2 : Hid (DN (((v16.setCell ⟨gw_, 0, none⟩ (.bool s16)).setCell ⟨gw_, 1, none⟩ (.slice p16 m16 m16)).setCell ⟨gw_, 2, none⟩ (.int .i64 eo16)) s16 p16 m16 m16 eo16 zo16) := (((RR.out.set _ _ _ HLT.out).set _ _ _ HLT.out).set _ _ _ HLT.out).dn
          have hbw2 : Below w.heap.size w (((v16.setCell ⟨gw_, 0, none⟩ (.bool s16)).setCell ⟨gw_, 1, none⟩ (.slice p16 m16 m16)).setCell ⟨gw_, 2, none⟩ (.int .i64 eo16)) := bSet (bSet (bSet hbw _ _ _ HGw_.out) _ _ _ HGw_.out) _ _ _ HGw_.out
          refine hK _ _ HJ2.out ?_
          clear hK HJ
          have HJ := HJ2
          refine wpJ_done (by kernel_rfl) ?_ _
          exact ⟨rfl, HRQ.out _ _ _ ⟨gw_, s5, p5, m5, c5, s10, p10, m10, s11, p11, m11, zo15, eo15, s15, p15, m15, zo16, eo16, s16, p16, m16, by kernel_rfl, Xw_2.out, Xd2.out, RR2.out, HGw_.out, HDdw_.out, HB15.out, HB16.out, hbw2⟩⟩
      · go_simp
        have HDdw_ : Hid (gd ≠ v5.heap.size) := Nat.ne_of_lt Xd.out.lt
        have Xw_0 : Hid (B3q (v5.alloc (.cells #[.bool false, .slice none 0 0, .int .i64 0] 34)) v5.heap.size (.bool false) (.slice none 0 0) (.int .i64 0)) := B3q.new v5 _ _ _ _
        have hbn : Below v5.heap.size v5 (v5.alloc (.cells #[.bool false, .slice none 0 0, .int .i64 0] 34)) := below1 v5 _
        generalize v5.alloc (.cells #[.bool false, .slice none 0 0, .int .i64 0] 34) = Wa at *
        have HGw_ : Hid (w.heap.size ≤ v5.heap.size) := hbw.size
        replace Xd : Hid _ := Xd.out.below hbn
        replace D5 : Hid _ := D5.out.below hbn
        replace hbw := Below.on hbw hbn
        clear hbn
        generalize v5.heap.size = gw_ at *
        have Xw_ := Xw_0
        clear Xw_0
        refine hK _ _ ⟨Xd.out.c0, Xd.out.c1, Xd.out.c2⟩ ?_
        clear hK
        refine wpJ_one (i := 10) (by kernel_rfl) rfl (by kernel_rfl) (fun KJ hK => ?_)
        go_simp
        refine (zof (i : Int) _ (by omega) (by have := HI.out.1; omega)).mono ?_
        rintro e9 v10 ⟨s10, p10, m10, rfl, hz, hb10⟩
        replace Xd : Hid _ := Xd.out.below hb10
        replace Xw_ : Hid _ := Xw_.out.below hb10
        replace D5 : Hid _ := D5.out.below hb10
        replace hbw := Below.on hbw hb10
        clear hb10
        have Z10 : Hid (ZN v10 s10 p10 m10 m10 (i : Int)) := hz
        clear hz
        refine hK _ _ ⟨Xd.out.c0, Xd.out.c1, Xd.out.c2⟩ ?_
        clear hK
        refine wpJ_one (i := 11) (by kernel_rfl) rfl (by kernel_rfl) (fun KJ hK => ?_)
        go_simp
        refine (makep Z10.out (by decide) (TB.out.below hbw)).mono ?_
        rintro e9 v11 ⟨hv, hb11⟩
        obtain ⟨v, rfl, hv2⟩ := hv.form HP.out.1.fm HP.out.2.1
        obtain ⟨s11, p11, m11, rfl, hd11⟩ := hv2.dn HP.out.1.fm
        clear hv hv2
        replace Xd : Hid _ := Xd.out.below hb11
        replace Xw_ : Hid _ := Xw_.out.below hb11
        replace D5 : Hid _ := D5.out.below hb11
        replace Z10 : Hid _ := Z10.out.below hb11
        replace hbw := Below.on hbw hb11
        clear hb11
        have D11 : Hid (DN v11 s11 p11 m11 m11 ep zp) := hd11
        clear hd11
        clear HJ
        have HJ : Hid ((fun W' : World => W'.cell? ⟨gd, 0, none⟩ = some (.bool s) ∧ W'.cell? ⟨gd, 1, none⟩ = some (.slice q n k) ∧ W'.cell? ⟨gd, 2, none⟩ = some (.int .i64 e)) v11) := ⟨Xd.out.c0, Xd.out.c1, Xd.out.c2⟩
        refine hK _ _ HJ.out ?_
        clear hK
        refine wpJ_take (i := 12) (v := ?v14x12) rfl (by kernel_rfl) (by kernel_rfl) (by kernel_rfl) (fun _ _ _ h => by cases h.1) (by kernel_rfl) ?hy14x12 HJ.out ?rest14x12
        case hy14x12 => (intro W' hJ; obtain ⟨j0, j1, j2⟩ := hJ; go_simp; first | done | with_reducible rfl)
        refine wpJ_take (i := 13) (v := ?v15x13) rfl (by kernel_rfl) (by kernel_rfl) (by kernel_rfl) (fun _ _ _ h => by cases h.1) (by kernel_rfl) ?hy15x13 HJ.out ?rest15x13
        case hy15x13 => (intro W' hJ; obtain ⟨j0, j1, j2⟩ := hJ; go_simp; first | done | with_reducible rfl)
        refine wpJ_one (i := 14) (by kernel_rfl) rfl (by kernel_rfl) (fun KJ hK => ?_)
        go_simp
        refine (stake).mono ?_
        rintro e v14 ⟨rfl, hb14⟩
        replace Xd : Hid _ := Xd.out.below hb14
        replace Xw_ : Hid _ := Xw_.out.below hb14
        replace D5 : Hid _ := D5.out.below hb14
        replace Z10 : Hid _ := Z10.out.below hb14
        replace D11 : Hid _ := D11.out.below hb14
        replace hbw := Below.on hbw hb14
        clear hb14
        refine hK _ _ ⟨Xd.out.c0, Xd.out.c1, Xd.out.c2⟩ ?_
        clear hK
        refine wpJ_one (i := 15) (by kernel_rfl) rfl (by kernel_rfl) (fun KJ hK => ?_)
        go_simp
        refine (smul D5.out D11.out (show DB (x.natAbs : Int) e 128 1430 from db_abs BX.out) HP.out.1 (by decide) (by decide) (TB.out.below hbw)).mono ?_
        rintro e9 v15 ⟨zo15, eo15, s15, p15, m15, rfl, hd, hdb, hdv, hb15⟩
        have HB15 : Hid (DB zo15 eo15 (128 + 56) (1430 + 116 + 128 + 56) ∧ dv zo15 eo15 = dv ((x.natAbs : Int) * zp) (e + ep)) := ⟨hdb, hdv⟩
        clear hdb hdv
        replace Xd : Hid _ := Xd.out.below hb15
        replace Xw_ : Hid _ := Xw_.out.below hb15
        replace D5 : Hid _ := D5.out.below hb15
        replace Z10 : Hid _ := Z10.out.below hb15
        replace D11 : Hid _ := D11.out.below hb15
        replace hbw := Below.on hbw hb15
        clear hb15
        have D15 : Hid (DO v14.heap.size v15 s15 p15 m15 eo15 zo15) := hd
        clear hd
        refine hK _ _ ⟨Xd.out.c0, Xd.out.c1, Xd.out.c2⟩ ?_
        clear hK
        refine wpJ_one (i := 16) (by kernel_rfl) rfl (by kernel_rfl) (fun KJ hK => ?_)
        go_simp
        have HLT : Hid (gw_ < v15.heap.size) := Xw_.out.lt
        refine (sadd (A.out.below hbw) D15.out.dn (BX.out.mono (by decide) (by decide)) HB15.out.1 (by decide) (TB.out.below hbw)).mono ?_
        rintro e9 v16 ⟨zo16, eo16, s16, p16, m16, rfl, hd, hdb, hdv, hb16⟩
        have HB16 : Hid (DB zo16 eo16 ((128 + 56) + 2 * (1430 + 116 + 128 + 56) + 1) ((128 + 56) + 3 * (1430 + 116 + 128 + 56) + 1) ∧ dv zo16 eo16 = dv x e + dv zo15 eo15) := ⟨hdb, hdv⟩
        clear hdb hdv
        replace Xd : Hid _ := Xd.out.below hb16
        replace Xw_ : Hid _ := Xw_.out.below hb16
        replace D5 : Hid _ := D5.out.below hb16
        replace Z10 : Hid _ := Z10.out.below hb16
        replace D11 : Hid _ := D11.out.below hb16
        replace D15 : Hid (DO v14.heap.size v16 s15 p15 m15 eo15 zo15) := D15.out.below hb16
        replace hbw := Below.on hbw hb16
        clear hb16
        have RR : Hid (DO v15.heap.size v16 s16 p16 m16 eo16 zo16) := hd
        clear hd
        refine hK _ _ ⟨Xd.out.c0, Xd.out.c1, Xd.out.c2⟩ ?_
        clear hK
        obtain ⟨cw_0, cw_1, cw_2, fw_0, fw_1, fw_2⟩ := Xw_.out
        have hnew_ : gw_ < v16.heap.size := World.block_lt_of_cell? v16 _ cw_0
        obtain ⟨cd0, cd1, cd2, fd0, fd1, fd2⟩ := Xd.out
        have hned : gd < v16.heap.size := World.block_lt_of_cell? v16 _ cd0
        have qad : gd ≠ gw_ := HDdw_.out
        have qbd : gw_ ≠ gd := fun h => qad h.symm
        refine wpJ_one (i := 18) (by kernel_rfl) rfl (by kernel_rfl) (fun KJ hK => ?_)
        go_simp
        have HJ2 : Hid ((fun W' : World => W'.cell? ⟨gd, 0, none⟩ = some (.bool s) ∧ W'.cell? ⟨gd, 1, none⟩ = some (.slice q n k) ∧ W'.cell? ⟨gd, 2, none⟩ = some (.int .i64 e)) (((v16.setCell ⟨gw_, 0, none⟩ (.bool s16)).setCell ⟨gw_, 1, none⟩ (.slice p16 m16 m16)).setCell ⟨gw_, 2, none⟩ (.int .i64 eo16))) := ⟨by go_simp, by go_simp, by go_simp⟩
        have Xw_2 : Hid (B3q (((v16.setCell ⟨gw_, 0, none⟩ (.bool s16)).setCell ⟨gw_, 1, none⟩ (.slice p16 m16 m16)).setCell ⟨gw_, 2, none⟩ (.int .i64 eo16)) gw_ (.bool s16) (.slice p16 m16 m16) (.int .i64 eo16)) := ⟨by go_simp, by go_simp, by go_simp, by go_simp, by go_simp, by go_simp⟩
        have Xd2 : Hid (B3q (((v16.setCell ⟨gw_, 0, none⟩ (.bool s16)).setCell ⟨gw_, 1, none⟩ (.slice p16 m16 m16)).setCell ⟨gw_, 2, none⟩ (.int .i64 eo16)) gd (.bool s) (.slice q n k) (.int .i64 e)) := ⟨by go_simp, by go_simp, by go_simp, by go_simp, by go_simp, by go_simp⟩
        have RR2 : Hid (DN (((v16.setCell ⟨gw_, 0, none⟩ (.bool s16)).setCell ⟨gw_, 1, none⟩ (.slice p16 m16 m16)).setCell ⟨gw_, 2, none⟩ (.int .i64 eo16)) s16 p16 m16 m16 eo16 zo16) := (((RR.out.set _ _ _ HLT.out).set _ _ _ HLT.out).set _ _ _ HLT.out).dn
        have hbw2 : Below w.heap.size w (((v16.setCell ⟨gw_, 0, none⟩ (.bool s16)).setCell ⟨gw_, 1, none⟩ (.slice p16 m16 m16)).setCell ⟨gw_, 2, none⟩ (.int .i64 eo16)) := bSet (bSet (bSet hbw _ _ _ HGw_.out) _ _ _ HGw_.out) _ _ _ HGw_.out
        refine hK _ _ HJ2.out ?_
        clear hK HJ
        have HJ := HJ2
        refine wpJ_done (by kernel_rfl) ?_ _
        exact ⟨rfl, HRQ.out _ _ _ ⟨gw_, s5, p5, m5, c5, s10, p10, m10, s11, p11, m11, zo15, eo15, s15, p15, m15, zo16, eo16, s16, p16, m16, by kernel_rfl, Xw_2.out, Xd2.out, RR2.out, HGw_.out, HDdw_.out, HB15.out, HB16.out, hbw2⟩⟩
    · go_simp
      have HDdw_ : Hid (gd ≠ W1.heap.size) := Nat.ne_of_lt Xd.out.lt
      have Xw_0 : Hid (B3q (W1.alloc (.cells #[.bool false, .slice none 0 0, .int .i64 0] 34)) W1.heap.size (.bool false) (.slice none 0 0) (.int .i64 0)) := B3q.new W1 _ _ _ _
      have hbn : Below W1.heap.size W1 (W1.alloc (.cells #[.bool false, .slice none 0 0, .int .i64 0] 34)) := below1 W1 _
      generalize W1.alloc (.cells #[.bool false, .slice none 0 0, .int .i64 0] 34) = Wa at *
      have HGw_ : Hid (w.heap.size ≤ W1.heap.size) := hbw.size
      replace Xd : Hid _ := Xd.out.below hbn
      replace hbw := Below.on hbw hbn
      clear hbn
      generalize W1.heap.size = gw_ at *
      have Xw_ := Xw_0
      clear Xw_0
      refine hK _ _ ⟨Xd.out.c0, Xd.out.c1, Xd.out.c2⟩ ?_
      clear hK
      refine wpJ_one (i := 5) (by kernel_rfl) rfl (by kernel_rfl) (fun KJ hK => ?_)
      go_simp
      refine (ssize (A.out.below hbw)).mono ?_
      rintro e9 v5 ⟨s5, p5, m5, c5, rfl, hd, hb5⟩
      replace Xd : Hid _ := Xd.out.below hb5
      replace Xw_ : Hid _ := Xw_.out.below hb5
      replace hbw := Below.on hbw hb5
      clear hb5
      have D5 : Hid (DN v5 s5 p5 m5 c5 e (x.natAbs : Int)) := hd
      clear hd
      refine hK _ _ ⟨Xd.out.c0, Xd.out.c1, Xd.out.c2⟩ ?_
      clear hK
      refine wpJ_one (i := 10) (by kernel_rfl) rfl (by kernel_rfl) (fun KJ hK => ?_)
      go_simp
      refine (zof (i : Int) _ (by omega) (by have := HI.out.1; omega)).mono ?_
      rintro e9 v10 ⟨s10, p10, m10, rfl, hz, hb10⟩
      replace Xd : Hid _ := Xd.out.below hb10
      replace Xw_ : Hid _ := Xw_.out.below hb10
      replace D5 : Hid _ := D5.out.below hb10
      replace hbw := Below.on hbw hb10
      clear hb10
      have Z10 : Hid (ZN v10 s10 p10 m10 m10 (i : Int)) := hz
      clear hz
      refine hK _ _ ⟨Xd.out.c0, Xd.out.c1, Xd.out.c2⟩ ?_
      clear hK
      refine wpJ_one (i := 11) (by kernel_rfl) rfl (by kernel_rfl) (fun KJ hK => ?_)
      go_simp
      refine (makep Z10.out (by decide) (TB.out.below hbw)).mono ?_
      rintro e9 v11 ⟨hv, hb11⟩
      obtain ⟨v, rfl, hv2⟩ := hv.form HP.out.1.fm HP.out.2.1
      obtain ⟨s11, p11, m11, rfl, hd11⟩ := hv2.dn HP.out.1.fm
      clear hv hv2
      replace Xd : Hid _ := Xd.out.below hb11
      replace Xw_ : Hid _ := Xw_.out.below hb11
      replace D5 : Hid _ := D5.out.below hb11
      replace Z10 : Hid _ := Z10.out.below hb11
      replace hbw := Below.on hbw hb11
      clear hb11
      have D11 : Hid (DN v11 s11 p11 m11 m11 ep zp) := hd11
      clear hd11
      clear HJ
      have HJ : Hid ((fun W' : World => W'.cell? ⟨gd, 0, none⟩ = some (.bool s) ∧ W'.cell? ⟨gd, 1, none⟩ = some (.slice q n k) ∧ W'.cell? ⟨gd, 2, none⟩ = some (.int .i64 e)) v11) := ⟨Xd.out.c0, Xd.out.c1, Xd.out.c2⟩
      refine hK _ _ HJ.out ?_
      clear hK
      refine wpJ_take (i := 12) (v := ?v16x12) rfl (by kernel_rfl) (by kernel_rfl) (by kernel_rfl) (fun _ _ _ h => by cases h.1) (by kernel_rfl) ?hy16x12 HJ.out ?rest16x12
      case hy16x12 => (intro W' hJ; obtain ⟨j0, j1, j2⟩ := hJ; go_simp; first | done | with_reducible rfl)
      refine wpJ_take (i := 13) (v := ?v17x13) rfl (by kernel_rfl) (by kernel_rfl) (by kernel_rfl) (fun _ _ _ h => by cases h.1) (by kernel_rfl) ?hy17x13 HJ.out ?rest17x13
      case hy17x13 => (intro W' hJ; obtain ⟨j0, j1, j2⟩ := hJ; go_simp; first | done | with_reducible rfl)
      refine wpJ_one (i := 14) (by kernel_rfl) rfl (by kernel_rfl) (fun KJ hK => ?_)
      go_simp
      refine (stake).mono ?_
      rintro e v14 ⟨rfl, hb14⟩
      replace Xd : Hid _ := Xd.out.below hb14
      replace Xw_ : Hid _ := Xw_.out.below hb14
      replace D5 : Hid _ := D5.out.below hb14
      replace Z10 : Hid _ := Z10.out.below hb14
      replace D11 : Hid _ := D11.out.below hb14
      replace hbw := Below.on hbw hb14
      clear hb14
      refine hK _ _ ⟨Xd.out.c0, Xd.out.c1, Xd.out.c2⟩ ?_
      clear hK
      refine wpJ_one (i := 15) (by kernel_rfl) rfl (by kernel_rfl) (fun KJ hK => ?_)
      go_simp
      refine (smul D5.out D11.out (show DB (x.natAbs : Int) e 128 1430 from db_abs BX.out) HP.out.1 (by decide) (by decide) (TB.out.below hbw)).mono ?_
      rintro e9 v15 ⟨zo15, eo15, s15, p15, m15, rfl, hd, hdb, hdv, hb15⟩
      have HB15 : Hid (DB zo15 eo15 (128 + 56) (1430 + 116 + 128 + 56) ∧ dv zo15 eo15 = dv ((x.natAbs : Int) * zp) (e + ep)) := ⟨hdb, hdv⟩
      clear hdb hdv
      replace Xd : Hid _ := Xd.out.below hb15
      replace Xw_ : Hid _ := Xw_.out.below hb15
      replace D5 : Hid _ := D5.out.below hb15
      replace Z10 : Hid _ := Z10.out.below hb15
      replace D11 : Hid _ := D11.out.below hb15
      replace hbw := Below.on hbw hb15
      clear hb15
      have D15 : Hid (DO v14.heap.size v15 s15 p15 m15 eo15 zo15) := hd
      clear hd
      refine hK _ _ ⟨Xd.out.c0, Xd.out.c1, Xd.out.c2⟩ ?_
      clear hK
      refine wpJ_one (i := 16) (by kernel_rfl) rfl (by kernel_rfl) (fun KJ hK => ?_)
      go_simp
      have HLT : Hid (gw_ < v15.heap.size) := Xw_.out.lt
      refine (sadd (A.out.below hbw) D15.out.dn (BX.out.mono (by decide) (by decide)) HB15.out.1 (by decide) (TB.out.below hbw)).mono ?_
      rintro e9 v16 ⟨zo16, eo16, s16, p16, m16, rfl, hd, hdb, hdv, hb16⟩
      have HB16 : Hid (DB zo16 eo16 ((128 + 56) + 2 * (1430 + 116 + 128 + 56) + 1) ((128 + 56) + 3 * (1430 + 116 + 128 + 56) + 1) ∧ dv zo16 eo16 = dv x e + dv zo15 eo15) := ⟨hdb, hdv⟩
      clear hdb hdv
      replace Xd : Hid _ := Xd.out.below hb16
      replace Xw_ : Hid _ := Xw_.out.below hb16
      replace D5 : Hid _ := D5.out.below hb16
      replace Z10 : Hid _ := Z10.out.below hb16
      replace D11 : Hid _ := D11.out.below hb16
      replace D15 : Hid (DO v14.heap.size v16 s15 p15 m15 eo15 zo15) := D15.out.below hb16
      replace hbw := Below.on hbw hb16
      clear hb16
      have RR : Hid (DO v15.heap.size v16 s16 p16 m16 eo16 zo16) := hd
      clear hd
      refine hK _ _ ⟨Xd.out.c0, Xd.out.c1, Xd.out.c2⟩ ?_
      clear hK
      obtain ⟨cw_0, cw_1, cw_2, fw_0, fw_1, fw_2⟩ := Xw_.out
      have hnew_ : gw_ < v16.heap.size := World.block_lt_of_cell? v16 _ cw_0
      obtain ⟨cd0, cd1, cd2, fd0, fd1, fd2⟩ := Xd.out
      have hned : gd < v16.heap.size := World.block_lt_of_cell? v16 _ cd0
      have qad : gd ≠ gw_ := HDdw_.out
      have qbd : gw_ ≠ gd := fun h => qad h.symm
      refine wpJ_one (i := 18) (by kernel_rfl) rfl (by kernel_rfl) (fun KJ hK => ?_)
      go_simp
      have HJ2 : Hid ((fun W' : World => W'.cell? ⟨gd, 0, none⟩ = some (.bool s) ∧ W'.cell? ⟨gd, 1, none⟩ = some (.slice q n k) ∧ W'.cell? ⟨gd, 2, none⟩ = some (.int .i64 e)) (((v16.setCell ⟨gw_, 0, none⟩ (.bool s16)).setCell ⟨gw_, 1, none⟩ (.slice p16 m16 m16)).setCell ⟨gw_, 2, none⟩ (.int .i64 eo16))) := ⟨by go_simp, by go_simp, by go_simp⟩
      have Xw_2 : Hid (B3q (((v16.setCell ⟨gw_, 0, none⟩ (.bool s16)).setCell ⟨gw_, 1, none⟩ (.slice p16 m16 m16)).setCell ⟨gw_, 2, none⟩ (.int .i64 eo16)) gw_ (.bool s16) (.slice p16 m16 m16) (.int .i64 eo16)) := ⟨by go_simp, by go_simp, by go_simp, by go_simp, by go_simp, by go_simp⟩
      have Xd2 : Hid (B3q (((v16.setCell ⟨gw_, 0, none⟩ (.bool s16)).setCell ⟨gw_, 1, none⟩ (.slice p16 m16 m16)).setCell ⟨gw_, 2, none⟩ (.int .i64 eo16)) gd (.bool s) (.slice q n k) (.int .i64 e)) := ⟨by go_simp, by go_simp, by go_simp, by go_simp, by go_simp, by go_simp⟩
      have RR2 : Hid (DN (((v16.setCell ⟨gw_, 0, none⟩ (.bool s16)).setCell ⟨gw_, 1, none⟩ (.slice p16 m16 m16)).setCell ⟨gw_, 2, none⟩ (.int .i64 eo16)) s16 p16 m16 m16 eo16 zo16) := (((RR.out.set _ _ _ HLT.out).set _ _ _ HLT.out).set _ _ _ HLT.out).dn
      have hbw2 : Below w.heap.size w (((v16.setCell ⟨gw_, 0, none⟩ (.bool s16)).setCell ⟨gw_, 1, none⟩ (.slice p16 m16 m16)).setCell ⟨gw_, 2, none⟩ (.int .i64 eo16)) := bSet (bSet (bSet hbw _ _ _ HGw_.out) _ _ _ HGw_.out) _ _ _ HGw_.out
      refine hK _ _ HJ2.out ?_
      clear hK HJ
      have HJ := HJ2
      refine wpJ_done (by kernel_rfl) ?_ _
      exact ⟨rfl, HRQ.out _ _ _ ⟨gw_, s5, p5, m5, c5, s10, p10, m10, s11, p11, m11, zo15, eo15, s15, p15, m15, zo16, eo16, s16, p16, m16, by kernel_rfl, Xw_2.out, Xd2.out, RR2.out, HGw_.out, HDdw_.out, HB15.out, HB16.out, hbw2⟩⟩
end Go.Proofs.YtfofoookdlaipaaGreatDoor

