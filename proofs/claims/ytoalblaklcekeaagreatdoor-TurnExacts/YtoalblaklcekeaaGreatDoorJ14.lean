import Derived.Test.YtoalblaklcekeaaGreatDoorJ13
import Derived.Laws.EntriesVeiled
import Derived.Laws.Bits64b
import Derived.Deep.RegionWith
import Derived.Test.YtoalblaklcekeaaGreatDoorChecked
import Derived.Test.YtoalblaklcekeaaGreatDoorMem
import Derived.Shelf.Strconv.Itoa0
import Derived.BigQuiet
import Derived.Test.YtoalblaklcekeaaGreatDoorJ10
namespace Go.Proofs.YtoalblaklcekeaaGreatDoor
open Go.RowKit Go.Shelf
theorem dv3 (z e : Int) : (z < 0 ∧ dv z e < 0) ∨ (z = 0 ∧ dv z e = 0) ∨ (0 < z ∧ 0 < dv z e) := by
  have h1 : (0 : Int) < ((2 ^ (e + 4194304).toNat : Nat) : Int) := by have := Nat.pow_pos (n := (e + 4194304).toNat) (show 0 < 2 by omega); omega
  rcases Int.lt_trichotomy z 0 with h | h | h
  · exact .inl ⟨h, Int.mul_neg_of_neg_of_pos h h1⟩
  · exact .inr (.inl ⟨h, by rw [h, dv_zero]⟩)
  · exact .inr (.inr ⟨h, Int.mul_pos h h1⟩)
def topI (z e : Int) : Int := e + bitsN z.natAbs - 1
theorem cmp_same {x y e f g : Int} (h1 : g ≤ e) (h2 : g ≤ f) (hg : -4194304 ≤ g) : cmpI (x * 2 ^ (e - g).toNat) (y * 2 ^ (f - g).toNat) = cmpI (dv x e) (dv y f) := by
  rw [dv_shift h1 hg, dv_shift h2 hg, pow_cast, pow_cast]
  generalize x * ((2 ^ (e - g).toNat : Nat) : Int) = X
  generalize y * ((2 ^ (f - g).toNat : Nat) : Int) = Y
  have h3 : (0 : Int) < ((2 ^ (g + 4194304).toNat : Nat) : Int) := by have := Nat.pow_pos (n := (g + 4194304).toNat) (show 0 < 2 by omega); omega
  unfold cmpI dv
  generalize ((2 ^ (g + 4194304).toNat : Nat) : Int) = T at *
  rcases Int.lt_trichotomy X Y with h | h | h
  · rw [if_pos h, if_pos (Int.mul_lt_mul_of_pos_right h h3)]
  · subst h
    rw [if_neg (by omega), if_pos rfl, if_neg (by omega), if_pos rfl]
  · have := Int.mul_lt_mul_of_pos_right h h3
    rw [if_neg (by omega), if_neg (by omega), if_neg (by omega), if_neg (by omega)]
set_option maxRecDepth 20000 in
set_option maxHeartbeats 8000000 in
theorem dtop {p : Option Addr} {m c : Nat} {w : World} {z e : Int} {s : Bool} (h : ZN w s p m c z) (he : -1048576 ≤ e ∧ e ≤ 1048576) :
    Calls Tryz.prog 44 #[DV s p m c e] w fun en w' => en = .returned (.int .i64 (topI z e)) ∧ Below w.heap.size w w' := by
  have H : Hid (ZN w s p m c z) := h
  have hb := (lim_bits z.natAbs).1 h.lim
  have f1 : wrap64 (e + bitsN z.natAbs) = e + bitsN z.natAbs := by simp only [wrap64]; omega
  have f2 : wrap64 (e + bitsN z.natAbs - 1) = topI z e := by unfold topI; simp only [wrap64]; omega
  have f3 : IntKind.i64.wrap (e + bitsN z.natAbs) = e + bitsN z.natAbs := by simp [IntKind.wrap, IntKind.signed, IntKind.bits]; omega
  have f4 : IntKind.i64.wrap (e + bitsN z.natAbs - 1) = topI z e := by unfold topI; simp [IntKind.wrap, IntKind.signed, IntKind.bits]; omega
  clear h he hb
  go_enter Tryz.func44, Tryz.ntmps44
  go_wp2_with fail
  obtain ⟨W0, hW0⟩ : ∃ W0, W0 = (w.alloc (.cells #[.bool s, .slice p m c, .int .i64 e] 28)) := ⟨_, rfl⟩
  have Xd : Hid (B3q W0 (w.heap.size) (.bool s) (.slice p m c) (.int .i64 e)) := by rw [hW0]; exact ⟨by go_simp, by go_simp, by go_simp, by go_simp, by go_simp, by go_simp⟩
  have hb0 : Below w.heap.size w W0 := by rw [hW0]; exact below1 w _
  rw [← hW0]
  clear hW0
  have hbw : Below w.heap.size w w := Below.refl _ _
  obtain ⟨gd, hgd⟩ : ∃ g, g = w.heap.size := ⟨_, rfl⟩
  have HGd : Hid (w.heap.size ≤ gd) := by rw [hgd]; show _ ≤ _; omega
  rw [← hgd] at Xd
  try rw [← hgd]
  clear hgd
  replace hbw := Below.on hbw hb0
  clear hb0
  obtain ⟨W1, hW1⟩ : ∃ W1, W1 = W0.drew := ⟨_, rfl⟩
  have hbd : Below W0.heap.size W0 W1 := by rw [hW1]; exact bDrew1 (Below.refl _ _)
  replace Xd : Hid _ := Xd.out.below hbd
  replace hbw := Below.on hbw hbd
  clear hbd
  have HJ : Hid ((fun W' : World => W'.cell? ⟨gd, 1, none⟩ = some (.slice p m c) ∧ W'.cell? ⟨gd, 2, none⟩ = some (.int .i64 e)) W1) := ⟨Xd.out.c1, Xd.out.c2⟩
  refine wp_region_J (fun W' => W'.cell? ⟨gd, 1, none⟩ = some (.slice p m c) ∧ W'.cell? ⟨gd, 2, none⟩ = some (.int .i64 e)) (by kernel_rfl) ?_
  rw [← hW1]
  clear hW1
  refine wpJ_tk 0 (v := ?v1x0) rfl ?hy1x0 HJ.out ?_
  case hy1x0 => (intro W' hJ; obtain ⟨j0, j1⟩ := hJ; go_simp; first | done | with_reducible rfl)
  refine wpJ_tk 1 (v := ?v2x1) rfl ?hy2x1 HJ.out ?_
  case hy2x1 => (intro W' hJ; obtain ⟨j0, j1⟩ := hJ; go_simp; first | done | with_reducible rfl)
  refine wpJ_tk 2 (v := ?v3x2) rfl ?hy3x2 HJ.out ?_
  case hy3x2 => (intro W' hJ; obtain ⟨j0, j1⟩ := hJ; go_simp; first | done | with_reducible rfl)
  refine wpJ_tk 3 (v := ?v4x3) rfl ?hy4x3 HJ.out ?_
  case hy4x3 => (intro W' hJ; obtain ⟨j0, j1⟩ := hJ; go_simp; first | done | with_reducible rfl)
  refine wpJ_tk 4 (v := ?v5x4) rfl ?hy5x4 HJ.out ?_
  case hy5x4 => (intro W' hJ; obtain ⟨j0, j1⟩ := hJ; go_simp; first | done | with_reducible rfl)
  refine wpJ_one (i := 5) (by kernel_rfl) rfl (by kernel_rfl) (fun KJ hK => ?_)
  go_simp
  obtain ⟨xs, hX⟩ := (H.out.below hbw).ex
  refine (bits_any hX.at_ (by have := hX.le; omega)).mono ?_
  rintro e2 v3 ⟨rfl, hw⟩
  obtain rfl := hw.symm
  clear hw
  rw [hX.nf.val]
  clear hX
  clear HJ
  have HJ : Hid ((fun W' : World => W'.cell? ⟨gd, 1, none⟩ = some (.slice p m c) ∧ W'.cell? ⟨gd, 2, none⟩ = some (.int .i64 e)) W1) := ⟨Xd.out.c1, Xd.out.c2⟩
  refine hK _ _ HJ.out ?_
  clear hK
  refine wpJ_tk 6 (v := ?v6x6) rfl ?hy6x6 HJ.out ?_
  case hy6x6 => (intro W' hJ; obtain ⟨j0, j1⟩ := hJ; go_simp; first | done | with_reducible rfl)
  refine wpJ_tk 7 (v := ?v7x7) rfl ?hy7x7 HJ.out ?_
  case hy7x7 => (intro W' hJ; obtain ⟨j0, j1⟩ := hJ; go_simp; first | done | with_reducible rfl)
  refine wpJ_tk 8 (v := ?v8x8) rfl ?hy8x8 HJ.out ?_
  case hy8x8 => (intro W' hJ; obtain ⟨j0, j1⟩ := hJ; go_simp; first | done | with_reducible rfl)
  refine wpJ_done (by kernel_rfl) ?_ _
  clear HJ
  go_wp2_with fail
  go_ret
  exact ⟨rfl, hbw⟩
set_option maxRecDepth 20000 in
set_option maxHeartbeats 8000000 in
theorem dcmp_a {p q : Option Addr} {m c n d : Nat} {w : World} {x y e f : Int} {s t : Bool} (h : DN w s p m c e x) (k : DN w t q n d f y) (hs : sgnI x = sgnI y) (hx : x ≠ 0) (ht : topI x e = topI y f) :
    Calls Tryz.prog 18 #[DV s p m c e, DV t q n d f] w fun en w' => en = .returned (.tuple #[.int .i64 (cmpI (dv x e) (dv y f)), .int .i64 0]) ∧ Below w.heap.size w w' := by
  have H : Hid (DN w s p m c e x) := h
  have K : Hid (DN w t q n d f y) := k
  have hy : y ≠ 0 := by
    intro h0
    rw [h0] at hs
    unfold sgnI at hs
    rw [if_neg (show ¬ (0 : Int) < 0 by omega), if_pos rfl] at hs
    rcases Int.lt_or_lt_of_ne hx with h1 | h1
    · rw [if_pos h1] at hs; omega
    · rw [if_neg (by omega), if_neg (by omega)] at hs; omega
  have hE : -1048576 ≤ e ∧ e ≤ 1048576 ∧ -1048576 ≤ f ∧ f ≤ 1048576 := by
    rcases h.fm with ⟨h1, _⟩ | ⟨_, h1, h2⟩
    · exact absurd h1 hx
    · rcases k.fm with ⟨k1, _⟩ | ⟨_, k1, k2⟩
      · exact absurd k1 hy
      · exact ⟨h1, h2, k1, k2⟩
  have HE : Hid (-1048576 ≤ e ∧ e ≤ 1048576 ∧ -1048576 ≤ f ∧ f ≤ 1048576) := hE
  have hbx := (lim_bits x.natAbs).1 h.zn.lim
  have hby := (lim_bits y.natAbs).1 k.zn.lim
  obtain ⟨r, hr⟩ : ∃ r, r = cmpI (dv x e) (dv y f) := ⟨_, rfl⟩
  rw [← hr]
  obtain ⟨sx, hsx⟩ : ∃ b, b = sgnI x := ⟨_, rfl⟩
  have hv1 : sx = 1 ∨ sx = -1 := by
    rw [hsx]
    unfold sgnI
    rcases Int.lt_or_lt_of_ne hx with h1 | h1
    · rw [if_pos h1]; exact .inr rfl
    · rw [if_neg (by omega), if_neg (by omega)]; exact .inl rfl
  have hd0 : (sx == 0) = false := by rcases hv1 with h1 | h1 <;> rw [h1] <;> rfl
  have hd1 : (sx == sx) = true := by simp
  have hd2 : (sx != sx) = false := by simp
  obtain ⟨g, hg⟩ : ∃ g, g = min e f := ⟨_, rfl⟩
  rw [← cmp_same (g := g) (by omega) (by omega) (by omega)] at hr
  have HX : Hid (sgnI x = sx ∧ sgnI y = sx ∧ cmpI (x * 2 ^ (e - g).toNat) (y * 2 ^ (f - g).toNat) = r) := ⟨hsx.symm, by rw [← hs, hsx], hr.symm⟩
  obtain ⟨tx, htx⟩ : ∃ b, b = topI x e := ⟨_, rfl⟩
  have HTX : Hid (topI x e = tx ∧ topI y f = tx) := ⟨htx.symm, by rw [← ht, htx]⟩
  have hd3 : (tx == tx) = true := by simp
  have hd4 : (tx != tx) = false := by simp
  have HG : Hid (g = min e f) := hg
  have hb : ∀ (u v : Int) (k2 : Nat), u ≠ 0 → bitsN u.natAbs + k2 ≤ 524288 → (u * 2 ^ k2).natAbs < LIM := by
    intro u v k2 h0 h1
    rw [Int.natAbs_mul, pow_cast, Int.natAbs_natCast, lim_bits, Nat.mul_comm, bitsN_shl _ _ (by omega)]
    omega
  have HB : Hid ((x * 2 ^ (e - g).toNat).natAbs < LIM ∧ (y * 2 ^ (f - g).toNat).natAbs < LIM) := by
    unfold topI at ht
    exact ⟨hb x x _ hx (by omega), hb y y _ hy (by omega)⟩
  clear h k hs hx hy hE hsx hv1 hr ht htx hbx hby hg hb
  go_enter Tryz.func18, Tryz.ntmps18
  go_wp2_with fail
  obtain ⟨W0, hW0⟩ : ∃ W0, W0 = ((w.alloc (.cells #[.bool s, .slice p m c, .int .i64 e] 28)).alloc (.cells #[.bool t, .slice q n d, .int .i64 f] 28)) := ⟨_, rfl⟩
  have Xa : Hid (B3q W0 (w.heap.size) (.bool s) (.slice p m c) (.int .i64 e)) := by rw [hW0]; exact ⟨by go_simp, by go_simp, by go_simp, by go_simp, by go_simp, by go_simp⟩
  have Xb : Hid (B3q W0 (w.heap.size + 1) (.bool t) (.slice q n d) (.int .i64 f)) := by rw [hW0]; exact ⟨by go_simp, by go_simp, by go_simp, by go_simp, by go_simp, by go_simp⟩
  have hb0 : Below w.heap.size w W0 := by rw [hW0]; exact below2 w _ _
  rw [← hW0]
  clear hW0
  have hbw : Below w.heap.size w w := Below.refl _ _
  obtain ⟨gb, hgb⟩ : ∃ g, g = w.heap.size + 1 := ⟨_, rfl⟩
  have HGb : Hid (w.heap.size ≤ gb) := by rw [hgb]; show _ ≤ _; omega
  rw [← hgb] at Xb
  try rw [← hgb]
  obtain ⟨ga, hga⟩ : ∃ g, g = w.heap.size := ⟨_, rfl⟩
  have HGa : Hid (w.heap.size ≤ ga) := by rw [hga]; show _ ≤ _; omega
  rw [← hga] at Xa
  try rw [← hga]
  have HGD : Hid (ga ≠ gb ∧ gb ≠ ga) := by rw [hga, hgb]; exact ⟨by omega, by omega⟩
  clear hga hgb
  replace hbw := Below.on hbw hb0
  clear hb0
  refine (dform_t (H.out.below hbw)).mono ?_
  rintro e v1 ⟨rfl, hb1⟩
  replace Xa : Hid _ := Xa.out.below hb1
  replace Xb : Hid _ := Xb.out.below hb1
  replace hbw := Below.on hbw hb1
  clear hb1
  obtain ⟨cb0, cb1, cb2, fb0, fb1, fb2⟩ := Xb.out
  have hneb : gb < v1.heap.size := World.block_lt_of_cell? v1 _ cb0
  go_wp2_with fail
  clear cb0 cb1 cb2 fb0 fb1 fb2 hneb
  refine (dform_t (K.out.below hbw)).mono ?_
  rintro e v2 ⟨rfl, hb2⟩
  replace Xa : Hid _ := Xa.out.below hb2
  replace Xb : Hid _ := Xb.out.below hb2
  replace hbw := Below.on hbw hb2
  clear hb2
  obtain ⟨ca0, ca1, ca2, fa0, fa1, fa2⟩ := Xa.out
  have hnea : ga < v2.heap.size := World.block_lt_of_cell? v2 _ ca0
  obtain ⟨cb0, cb1, cb2, fb0, fb1, fb2⟩ := Xb.out
  have hneb : gb < v2.heap.size := World.block_lt_of_cell? v2 _ cb0
  go_wp2_with fail
  clear ca0 ca1 ca2 fa0 fa1 fa2 hnea
  clear cb0 cb1 cb2 fb0 fb1 fb2 hneb
  refine (zsign (H.out.zn.below hbw)).mono ?_
  rintro e v3 ⟨rfl, hb3⟩
  rw [HX.out.1]
  replace Xa : Hid _ := Xa.out.below hb3
  replace Xb : Hid _ := Xb.out.below hb3
  replace hbw := Below.on hbw hb3
  clear hb3
  obtain ⟨cb0, cb1, cb2, fb0, fb1, fb2⟩ := Xb.out
  have hneb : gb < v3.heap.size := World.block_lt_of_cell? v3 _ cb0
  go_wp2_with fail
  clear cb0 cb1 cb2 fb0 fb1 fb2 hneb
  refine (zsign (K.out.zn.below hbw)).mono ?_
  rintro e v4 ⟨rfl, hb4⟩
  rw [HX.out.2.1]
  replace Xa : Hid _ := Xa.out.below hb4
  replace Xb : Hid _ := Xb.out.below hb4
  replace hbw := Below.on hbw hb4
  clear hb4
  obtain ⟨ca0, ca1, ca2, fa0, fa1, fa2⟩ := Xa.out
  have hnea : ga < v4.heap.size := World.block_lt_of_cell? v4 _ ca0
  obtain ⟨cb0, cb1, cb2, fb0, fb1, fb2⟩ := Xb.out
  have hneb : gb < v4.heap.size := World.block_lt_of_cell? v4 _ cb0
  go_wp2_with fail
  clear ca0 ca1 ca2 fa0 fa1 fa2 hnea
  clear cb0 cb1 cb2 fb0 fb1 fb2 hneb
  obtain ⟨W1, hW1⟩ : ∃ W1, W1 = v4.drew := ⟨_, rfl⟩
  have hbd : Below v4.heap.size v4 W1 := by rw [hW1]; exact bDrew1 (Below.refl _ _)
  replace Xa : Hid _ := Xa.out.below hbd
  replace Xb : Hid _ := Xb.out.below hbd
  replace hbw := Below.on hbw hbd
  clear hbd
  have HJ : Hid ((fun W' : World => W'.cell? ⟨ga, 0, none⟩ = some (.bool s) ∧ W'.cell? ⟨ga, 1, none⟩ = some (.slice p m c) ∧ W'.cell? ⟨ga, 2, none⟩ = some (.int .i64 e) ∧ W'.cell? ⟨gb, 0, none⟩ = some (.bool t) ∧ W'.cell? ⟨gb, 1, none⟩ = some (.slice q n d) ∧ W'.cell? ⟨gb, 2, none⟩ = some (.int .i64 f)) W1) := ⟨Xa.out.c0, Xa.out.c1, Xa.out.c2, Xb.out.c0, Xb.out.c1, Xb.out.c2⟩
  refine wp_region_J (fun W' => W'.cell? ⟨ga, 0, none⟩ = some (.bool s) ∧ W'.cell? ⟨ga, 1, none⟩ = some (.slice p m c) ∧ W'.cell? ⟨ga, 2, none⟩ = some (.int .i64 e) ∧ W'.cell? ⟨gb, 0, none⟩ = some (.bool t) ∧ W'.cell? ⟨gb, 1, none⟩ = some (.slice q n d) ∧ W'.cell? ⟨gb, 2, none⟩ = some (.int .i64 f)) (by kernel_rfl) ?_
  rw [← hW1]
  clear hW1
  refine wpJ_tk 0 (v := ?v13x0) rfl ?hy13x0 HJ.out ?_
  case hy13x0 => (intro W' hJ; obtain ⟨j0, j1, j2, j3, j4, j5⟩ := hJ; go_simp; first | done | with_reducible rfl)
  refine wpJ_tk 2 (v := ?v14x2) rfl ?hy14x2 HJ.out ?_
  case hy14x2 => (intro W' hJ; obtain ⟨j0, j1, j2, j3, j4, j5⟩ := hJ; go_simp; first | done | with_reducible rfl)
  refine wpJ_one (i := 1) (by kernel_rfl) rfl (by kernel_rfl) (fun KJ hK => ?_)
  go_simp
  refine (dtop (e := e) (H.out.zn.below hbw) (by have := HE.out; omega)).mono ?_
  rintro e v5 ⟨rfl, hb5⟩
  rw [HTX.out.1]
  replace Xa : Hid _ := Xa.out.below hb5
  replace Xb : Hid _ := Xb.out.below hb5
  replace hbw := Below.on hbw hb5
  clear hb5
  refine hK _ _ ⟨Xa.out.c0, Xa.out.c1, Xa.out.c2, Xb.out.c0, Xb.out.c1, Xb.out.c2⟩ ?_
  clear hK
  refine wpJ_one (i := 3) (by kernel_rfl) rfl (by kernel_rfl) (fun KJ hK => ?_)
  go_simp
  refine (dtop (e := f) (K.out.zn.below hbw) (by have := HE.out; omega)).mono ?_
  rintro e v6 ⟨rfl, hb6⟩
  rw [HTX.out.2]
  replace Xa : Hid _ := Xa.out.below hb6
  replace Xb : Hid _ := Xb.out.below hb6
  replace hbw := Below.on hbw hb6
  clear hb6
  clear HJ
  have HJ : Hid ((fun W' : World => W'.cell? ⟨ga, 0, none⟩ = some (.bool s) ∧ W'.cell? ⟨ga, 1, none⟩ = some (.slice p m c) ∧ W'.cell? ⟨ga, 2, none⟩ = some (.int .i64 e) ∧ W'.cell? ⟨gb, 0, none⟩ = some (.bool t) ∧ W'.cell? ⟨gb, 1, none⟩ = some (.slice q n d) ∧ W'.cell? ⟨gb, 2, none⟩ = some (.int .i64 f)) v6) := ⟨Xa.out.c0, Xa.out.c1, Xa.out.c2, Xb.out.c0, Xb.out.c1, Xb.out.c2⟩
  refine hK _ _ HJ.out ?_
  clear hK
  refine wpJ_tk 4 (v := ?v15x4) rfl ?hy15x4 HJ.out ?_
  case hy15x4 => (intro W' hJ; obtain ⟨j0, j1, j2, j3, j4, j5⟩ := hJ; go_simp; first | done | with_reducible rfl)
  refine wpJ_tk 5 (v := ?v16x5) rfl ?hy16x5 HJ.out ?_
  case hy16x5 => (intro W' hJ; obtain ⟨j0, j1, j2, j3, j4, j5⟩ := hJ; go_simp; first | done | with_reducible rfl)
  refine wpJ_done (by kernel_rfl) ?_ _
  clear HJ
  obtain ⟨ca0, ca1, ca2, fa0, fa1, fa2⟩ := Xa.out
  have hnea : ga < v6.heap.size := World.block_lt_of_cell? v6 _ ca0
  obtain ⟨cb0, cb1, cb2, fb0, fb1, fb2⟩ := Xb.out
  have hneb : gb < v6.heap.size := World.block_lt_of_cell? v6 _ cb0
  go_wp2_with fail
  clear ca0 ca1 ca2 fa0 fa1 fa2 hnea
  clear cb0 cb1 cb2 fb0 fb1 fb2 hneb
  refine (daligned (H.out.zn.below hbw) (K.out.zn.below hbw) HG.out HE.out HB.out.1 HB.out.2).mono ?_
  rintro e2 v8 ⟨s5, p5, m5, s6, p6, m6, rfl, hz5, hz6, hb5⟩
  replace Xa : Hid _ := Xa.out.below hb5
  replace Xb : Hid _ := Xb.out.below hb5
  replace hbw := Below.on hbw hb5
  clear hb5
  have Z5 : Hid (ZN v8 s5 p5 m5 m5 (x * 2 ^ (e - g).toNat)) := hz5
  have Z6 : Hid (ZN v8 s6 p6 m6 m6 (y * 2 ^ (f - g).toNat)) := hz6
  clear hz5 hz6
  go_wp2_with fail
  rw [show v8.heap.size + 1 = (v8.alloc (.cells #[.bool s5, .slice p5 m5 m5] 26)).heap.size from by simp]
  have Xx0 : Hid (Box (v8.alloc (.cells #[.bool s5, .slice p5 m5 m5] 26)) v8.heap.size (.bool s5) (.slice p5 m5 m5)) := Box.new v8 _ _ _
  have hbn : Below v8.heap.size v8 (v8.alloc (.cells #[.bool s5, .slice p5 m5 m5] 26)) := below1 v8 _
  generalize v8.alloc (.cells #[.bool s5, .slice p5 m5 m5] 26) = Wx at *
  have HGx : Hid (w.heap.size ≤ v8.heap.size) := hbw.size
  replace Xa : Hid _ := Xa.out.below hbn
  replace Xb : Hid _ := Xb.out.below hbn
  replace Z5 : Hid _ := Z5.out.below hbn
  replace Z6 : Hid _ := Z6.out.below hbn
  replace hbw := Below.on hbw hbn
  clear hbn
  generalize v8.heap.size = gx at *
  have Xx := Xx0
  clear Xx0
  have Xy0 : Hid (Box (Wx.alloc (.cells #[.bool s6, .slice p6 m6 m6] 26)) Wx.heap.size (.bool s6) (.slice p6 m6 m6)) := Box.new Wx _ _ _
  have hbn : Below Wx.heap.size Wx (Wx.alloc (.cells #[.bool s6, .slice p6 m6 m6] 26)) := below1 Wx _
  generalize Wx.alloc (.cells #[.bool s6, .slice p6 m6 m6] 26) = Wy at *
  have HGy : Hid (w.heap.size ≤ Wx.heap.size) := hbw.size
  replace Xa : Hid _ := Xa.out.below hbn
  replace Xb : Hid _ := Xb.out.below hbn
  replace Xx : Hid _ := Xx.out.below hbn
  replace Z5 : Hid _ := Z5.out.below hbn
  replace Z6 : Hid _ := Z6.out.below hbn
  replace hbw := Below.on hbw hbn
  clear hbn
  generalize Wx.heap.size = gy at *
  have Xy := Xy0
  clear Xy0
  refine (zcmp Z5.out Z6.out).mono ?_
  rintro e v9 ⟨rfl, hb9⟩
  rw [HX.out.2.2]
  replace Xa : Hid _ := Xa.out.below hb9
  replace Xb : Hid _ := Xb.out.below hb9
  replace Xx : Hid _ := Xx.out.below hb9
  replace Xy : Hid _ := Xy.out.below hb9
  replace Z5 : Hid _ := Z5.out.below hb9
  replace Z6 : Hid _ := Z6.out.below hb9
  replace hbw := Below.on hbw hb9
  clear hb9
  go_wp2_with fail
  go_ret2
  exact ⟨rfl, hbw⟩
def UQ : Int := dv 1 (-2)
theorem dv_q (z : Int) : dv z (-2) = z * UQ := by unfold UQ dv; rw [Int.one_mul]
theorem uq_pos : 0 < UQ := by
  unfold UQ
  rcases dv3 1 (-2) with ⟨h, _⟩ | ⟨h, _⟩ | ⟨_, h⟩
  · exact absurd h (by decide)
  · exact absurd h (by decide)
  · exact h
theorem dv_ge {z e : Int} (h : -2 ≤ e) : dv z e = z * ((2 ^ (e + 2).toNat : Nat) : Int) * UQ := by
  rw [dv_shift (f := -2) h (by decide), dv_q]
  rw [show e - -2 = e + 2 from by omega]
theorem dv_h (z : Int) : dv z (-1) = 2 * z * UQ := by
  rw [dv_ge (by decide), show ((2 ^ ((-1 : Int) + 2).toNat : Nat) : Int) = 2 from rfl, Int.mul_comm z 2]
theorem dv_w (z : Int) : dv z 0 = 4 * z * UQ := by
  rw [dv_ge (by decide), show ((2 ^ ((0 : Int) + 2).toNat : Nat) : Int) = 4 from rfl, Int.mul_comm z 4]
theorem uq_small {j : Int} (h1 : -UQ ≤ j * UQ) (h2 : j * UQ < UQ) : j = -1 ∨ j = 0 := by
  have hp := uq_pos
  have a1 : -1 ≤ j := by
    rcases Int.lt_or_le j (-1) with h | h
    · have h3 : (j + 1) * UQ ≤ (-1) * UQ := Int.mul_le_mul_of_nonneg_right (by omega) (Int.le_of_lt hp)
      rw [Int.add_mul, Int.one_mul] at h3
      omega
    · exact h
  have a2 : j < 1 := by
    rcases Int.lt_or_le j 1 with h | h
    · exact h
    · have h3 : 1 * UQ ≤ j * UQ := Int.mul_le_mul_of_nonneg_right h (Int.le_of_lt hp)
      omega
  omega
structure Rdc (z e K zr er : Int) : Prop where
  fm : DFm zr er
  v : dv zr er = dv z e - 2 * K * UQ
  lo : -UQ ≤ dv zr er
  hi : dv zr er < UQ
theorem Rdc.int {z e K zr er j : Int} (h : Rdc z e K zr er) (hj : dv z e = j * UQ) : (j = 2 * K ∧ zr = 0 ∧ er = 0) ∨ (j = 2 * K - 1 ∧ zr = -1 ∧ er = -2) := by
  have hv := h.v
  rw [hj, ← Int.sub_mul] at hv
  have h1 := h.lo
  have h2 := h.hi
  rw [hv] at h1 h2
  rcases uq_small h1 h2 with h3 | h3
  · right
    rw [h3, ← dv_q] at hv
    obtain ⟨a, b⟩ := dv_inj h.fm (.inr ⟨by decide, by decide, by decide⟩) hv
    exact ⟨by omega, a, b⟩
  · left
    rw [h3, Int.zero_mul] at hv
    have hz := dv_eq_zero hv
    refine ⟨by omega, hz, ?_⟩
    rcases h.fm with ⟨_, h5⟩ | ⟨h5, _⟩
    · exact h5
    · rw [hz] at h5; exact absurd h5 (by decide)
theorem Rdc.whole {z e K zr er : Int} (h : Rdc z e K zr er) (he : 0 ≤ e) : K % 2 = 0 ∧ zr = 0 ∧ er = 0 ∧ K = 2 * (z * ((2 ^ e.toNat : Nat) : Int)) := by
  have hj : dv z e = (4 * (z * ((2 ^ e.toNat : Nat) : Int))) * UQ := by
    rw [dv_ge (by omega), show (e + 2).toNat = e.toNat + 2 from by omega, Nat.pow_add, show 2 ^ 2 = 4 from rfl, Int.natCast_mul, show ((4 : Nat) : Int) = 4 from rfl]
    congr 1
    rw [← Int.mul_assoc, Int.mul_comm]
  generalize z * ((2 ^ e.toNat : Nat) : Int) = N at hj ⊢
  rcases h.int hj with ⟨a, b, c⟩ | ⟨a, _⟩
  · exact ⟨by omega, b, c, by omega⟩
  · omega
theorem Rdc.half {z e K zr er : Int} (h : Rdc z e K zr er) (he : e = -1) : K = z ∧ zr = 0 ∧ er = 0 := by
  subst he
  rcases h.int (j := 2 * z) (dv_h z) with ⟨a, b, c⟩ | ⟨a, _⟩
  · exact ⟨by omega, b, c⟩
  · omega
theorem Rdc.quarter {z e K zr er : Int} (h : Rdc z e K zr er) (hz : z % 2 = 1) (he : e = -2) : 2 * K = z + 1 ∧ zr = -1 ∧ er = -2 := by
  subst he
  rcases h.int (j := z) (dv_q z) with ⟨a, b, c⟩ | ⟨a, b, c⟩
  · omega
  · exact ⟨by omega, b, c⟩
theorem odd_no {z e j : Int} (hz : z % 2 = 1) (he : e < -2) (h4 : -4194304 ≤ e) : dv z e ≠ j * UQ := by
  intro h
  rw [← dv_q, dv_shift (z := j) (e := -2) (f := e) (by omega) h4] at h
  unfold dv at h
  have h5 := Int.eq_of_mul_eq_mul_right (pow_pos_int _) h
  rw [show (-2 - e).toNat = (-2 - e).toNat - 1 + 1 from by omega, Nat.pow_succ, Int.natCast_mul, ← Int.mul_assoc] at h5
  generalize j * ((2 ^ ((-2 - e).toNat - 1) : Nat) : Int) = N at h5
  omega
theorem Rdc.other {z e K zr er : Int} (h : Rdc z e K zr er) (hz : z % 2 = 1) (he : e < -2) (h4 : -4194304 ≤ e) : zr ≠ 0 ∧ topI zr er ≠ -2 := by
  have hv := h.v
  have a1 : dv zr er ≠ 0 := by
    intro h0
    exact odd_no (j := 2 * K) hz he h4 (by omega)
  have a2 : dv zr er ≠ -UQ := by
    intro h0
    refine odd_no (j := 2 * K - 1) hz he h4 ?_
    rw [Int.sub_mul, Int.one_mul]
    omega
  have a0 : zr ≠ 0 := by intro h0; rw [h0, dv_zero] at a1; exact a1 rfl
  refine ⟨a0, fun ht => ?_⟩
  unfold topI at ht
  have hb := bitsN_le zr.natAbs (by omega)
  have hle : -1048576 ≤ er := by rcases h.fm with ⟨h5, _⟩ | ⟨_, h5, _⟩ <;> omega
  have hb2 : bitsN zr.natAbs ≠ 0 := by
    intro h0
    have := bitsN_lt zr.natAbs
    rw [h0] at this
    omega
  have hU : dv ((2 ^ (bitsN zr.natAbs - 1) : Nat) : Int) er = UQ := by
    unfold UQ
    rw [dv_shift (z := 1) (e := -2) (f := er) (by omega) (by omega), Int.one_mul, show (-2 - er).toNat = bitsN zr.natAbs - 1 from by omega]
  have h7 := dv_le er (Int.ofNat_le.mpr hb)
  rw [hU] at h7
  have h8 := h.lo
  have h9 := h.hi
  rcases Int.lt_or_le zr 0 with hn | hn
  · rw [show ((zr.natAbs : Nat) : Int) = -zr from by omega, dv_neg] at h7
    omega
  · rw [show ((zr.natAbs : Nat) : Int) = zr from by omega] at h7
    omega
structure DO (B : Nat) (w : World) (s : Bool) (p : Option Addr) (m : Nat) (e z : Int) : Prop where
  own : ∃ zs, Own B w p m zs ∧ Nf B64 zs z.natAbs ∧ m ≤ 8192
  sg : s = decide (z < 0)
  fm : DFm z e
theorem DO.dn {B : Nat} {w : World} {s : Bool} {p : Option Addr} {m : Nat} {e z : Int} (h : DO B w s p m e z) : DN w s p m m e z := by
  obtain ⟨zs, h1, h2, h3⟩ := h.own
  exact ⟨⟨⟨zs, Num.of h1 h2 h3⟩, h.sg⟩, h.fm⟩
theorem DO.below {B : Nat} {w w' : World} {s : Bool} {p : Option Addr} {m : Nat} {e z : Int} (h : DO B w s p m e z) (hb : Below w.heap.size w w') : DO B w' s p m e z := by
  obtain ⟨zs, h1, h2, h3⟩ := h.own
  exact ⟨⟨zs, h1.below hb, h2, h3⟩, h.sg, h.fm⟩
theorem DO.set {B : Nat} {w : World} {s : Bool} {p : Option Addr} {m : Nat} {e z : Int} (h : DO B w s p m e z) (g o : Nat) (v : Value) (hg : g < B) : DO B (w.setCell ⟨g, o, none⟩ v) s p m e z := by
  obtain ⟨zs, h1, h2, h3⟩ := h.own
  exact ⟨⟨zs, h1.setOld _ _ _ hg, h2, h3⟩, h.sg, h.fm⟩
theorem DO.of {B : Nat} {w : World} {v : Value} {e z : Int} (h : AnsD B w v z e) (hf : DFm z e) : ∃ s p m, v = DV s p m m e ∧ DO B w s p m e z := by
  obtain ⟨p, m, zs, rfl, h1, h2, h3⟩ := h
  exact ⟨_, p, m, rfl, ⟨zs, h1, h2, h3⟩, rfl, hf⟩
abbrev SV (s : Bool) (p : Option Addr) (m c : Nat) (e : Int) (t : Bool) (q : Option Addr) (n d : Nat) (f : Int) : Value := .agg #[.bool s, .slice p m c, .int .i64 e, .bool t, .slice q n d, .int .i64 f]
abbrev WVd : Value := .agg #[.func (.func 79) #[] #[], .func (.func 179) #[] #[]]
set_option maxRecDepth 20000 in
set_option maxHeartbeats 8000000 in
theorem way_d (w : World) :
    Calls Tryz.prog 127 #[] w fun en w' => en = .returned WVd ∧ Below w.heap.size w w' := by
  have c0 : (w.alloc (.cells #[.nilFunc, .nilFunc] 180)).cell? ⟨w.heap.size, 0, none⟩ = some .nilFunc := by go_simp
  have f0 : (w.alloc (.cells #[.nilFunc, .nilFunc] 180)).frozen? ⟨w.heap.size, 0, none⟩ = false := by go_simp
  have c1 : (w.alloc (.cells #[.nilFunc, .nilFunc] 180)).cell? ⟨w.heap.size, 1, none⟩ = some .nilFunc := by go_simp
  have f1 : (w.alloc (.cells #[.nilFunc, .nilFunc] 180)).frozen? ⟨w.heap.size, 1, none⟩ = false := by go_simp
  go_enter Tryz.func127, Tryz.ntmps127
  go_wp2_with fail
  refine bodyPost_ret (v := WVd) (by rw [results_cell1 rfl]; go_simp) rfl ⟨rfl, ?_⟩
  first | exact below1 _ _ | exact Below.on (below1 _ _) (below1 _ _) | exact Below.refl _ _
set_option maxRecDepth 20000 in
set_option maxHeartbeats 8000000 in
theorem sameD_s {p q : Option Addr} {m c n d : Nat} {w : World} {x y e f : Int} {s t : Bool} (h : DN w s p m c e x) (k : DN w t q n d f y) (hs : s ≠ t) :
    Calls Tryz.prog 11 #[DV s p m c e, DV t q n d f] w fun en w' => en = .returned (.bool false) ∧ Below w.heap.size w w' := by
  have H : Hid (DN w s p m c e x) := h
  have K : Hid (DN w t q n d f y) := k
  have hbb : (s == t) = false := by cases s <;> cases t <;> first | rfl | exact absurd rfl hs
  clear h k hs
  go_enter Tryz.func11, Tryz.ntmps11
  go_wp2_with fail
  go_ret
  exact ⟨rfl, below2 w _ _⟩
set_option maxRecDepth 20000 in
set_option maxHeartbeats 8000000 in
theorem sameD_e {p q : Option Addr} {m c n d : Nat} {w : World} {x y e f : Int} {s t : Bool} (h : DN w s p m c e x) (k : DN w t q n d f y) (hs : s = t) (he : e ≠ f) :
    Calls Tryz.prog 11 #[DV s p m c e, DV t q n d f] w fun en w' => en = .returned (.bool false) ∧ Below w.heap.size w w' := by
  have H : Hid (DN w s p m c e x) := h
  have K : Hid (DN w t q n d f y) := k
  subst hs
  have hbb : (s == s) = true := by simp
  have hee : (e == f) = false := by simp [he]
  clear h k he
  go_enter Tryz.func11, Tryz.ntmps11
  go_wp2_with fail
  go_ret
  exact ⟨rfl, below2 w _ _⟩
set_option maxRecDepth 20000 in
set_option maxHeartbeats 8000000 in
theorem sameD_l {p q : Option Addr} {m c n d : Nat} {w : World} {x y e f : Int} {s t : Bool} (h : DN w s p m c e x) (k : DN w t q n d f y) (hs : s = t) (he : e = f) (hz : x ≠ y) :
    Calls Tryz.prog 11 #[DV s p m c e, DV t q n d f] w fun en w' => en = .returned (.bool false) ∧ Below w.heap.size w w' := by
  have H : Hid (DN w s p m c e x) := h
  have K : Hid (DN w t q n d f y) := k
  subst hs
  subst he
  have hbb : (s == s) = true := by simp
  have hee : (e == e) = true := by simp
  have HZ : Hid (x ≠ y) := hz
  clear h k hz
  go_enter Tryz.func11, Tryz.ntmps11
  go_wp2_with fail
  obtain ⟨W0, hW0⟩ : ∃ W0, W0 = ((w.alloc (.cells #[.bool s, .slice p m c, .int .i64 e] 28)).alloc (.cells #[.bool s, .slice q n d, .int .i64 e] 28)) := ⟨_, rfl⟩
  have Xa : Hid (B3q W0 (w.heap.size) (.bool s) (.slice p m c) (.int .i64 e)) := by rw [hW0]; exact ⟨by go_simp, by go_simp, by go_simp, by go_simp, by go_simp, by go_simp⟩
  have Xb : Hid (B3q W0 (w.heap.size + 1) (.bool s) (.slice q n d) (.int .i64 e)) := by rw [hW0]; exact ⟨by go_simp, by go_simp, by go_simp, by go_simp, by go_simp, by go_simp⟩
  have hb0 : Below w.heap.size w W0 := by rw [hW0]; exact below2 w _ _
  rw [← hW0]
  clear hW0
  have hbw : Below w.heap.size w w := Below.refl _ _
  obtain ⟨gb, hgb⟩ : ∃ g, g = w.heap.size + 1 := ⟨_, rfl⟩
  have HGb : Hid (w.heap.size ≤ gb) := by rw [hgb]; show _ ≤ _; omega
  rw [← hgb] at Xb
  try rw [← hgb]
  obtain ⟨ga, hga⟩ : ∃ g, g = w.heap.size := ⟨_, rfl⟩
  have HGa : Hid (w.heap.size ≤ ga) := by rw [hga]; show _ ≤ _; omega
  rw [← hga] at Xa
  try rw [← hga]
  have HGD : Hid (ga ≠ gb ∧ gb ≠ ga) := by rw [hga, hgb]; exact ⟨by omega, by omega⟩
  clear hga hgb
  replace hbw := Below.on hbw hb0
  clear hb0
  obtain ⟨xs, hX⟩ := (H.out.zn.below hbw).ex
  obtain ⟨ys, hY⟩ := (K.out.zn.below hbw).ex
  have hne : xs ≠ ys := by
    intro h9
    subst h9
    have h1 := hX.nf.val
    have h2 := hY.nf.val
    have h3 := (H.out.zn).sg
    have h4 := (K.out.zn).sg
    rw [h3] at h4
    have h5 := HZ.out
    have h6 : (x < 0) = (y < 0) := by
      by_cases h7 : x < 0
      · rw [decide_eq_true h7] at h4; have := of_decide_eq_true h4.symm; simp [h7, this]
      · rw [decide_eq_false h7] at h4; have := of_decide_eq_false h4.symm; simp [h7, this]
    have h8 : x.natAbs = y.natAbs := h1.symm.trans h2
    by_cases h7 : x < 0
    · have : y < 0 := h6 ▸ h7; omega
    · have : ¬ y < 0 := h6 ▸ h7; omega
  refine (same_any hX.at_ hY.at_).mono ?_
  rintro e2 v1 ⟨rfl, r, hb1⟩
  rw [decide_eq_false hne]
  have hb2 : Below W0.heap.size W0 v1 := by rw [hb1]; exact bDrewN (Below.refl _ _) r
  clear hX hY hne hb1
  replace Xa : Hid _ := Xa.out.below hb2
  replace Xb : Hid _ := Xb.out.below hb2
  replace hbw := Below.on hbw hb2
  clear hb2
  go_wp2_with fail
  go_ret
  exact ⟨rfl, hbw⟩
theorem sameD {p q : Option Addr} {m c n d : Nat} {w : World} {x y e f : Int} {s t : Bool} (h : DN w s p m c e x) (k : DN w t q n d f y) :
    Calls Tryz.prog 11 #[DV s p m c e, DV t q n d f] w fun en w' => en = .returned (.bool (decide (x = y ∧ e = f))) ∧ Below w.heap.size w w' := by
  by_cases hz : x = y
  · by_cases he : e = f
    · subst hz
      subst he
      rw [decide_eq_true ⟨rfl, rfl⟩]
      exact sameD_t h k
    · rw [decide_eq_false (fun h9 => he h9.2)]
      exact sameD_e h k (by rw [h.zn.sg, k.zn.sg, hz]) he
  · rw [decide_eq_false (fun h9 => hz h9.1)]
    by_cases hs : s = t
    · by_cases he : e = f
      · exact sameD_l h k hs he hz
      · exact sameD_e h k hs he
    · exact sameD_s h k hs
set_option maxRecDepth 20000 in
set_option maxHeartbeats 8000000 in
theorem dTop {p : Option Addr} {m c : Nat} {w : World} {z e : Int} {s : Bool} (h : DN w s p m c e z) (hz : z ≠ 0) :
    Calls Tryz.prog 143 #[DV s p m c e] w fun en w' => en = .returned (.tuple #[.int .i64 (topI z e), .int .i64 0]) ∧ Below w.heap.size w w' := by
  have H : Hid (DN w s p m c e z) := h
  have HZ : Hid (z ≠ 0) := hz
  have HE : Hid (-1048576 ≤ e ∧ e ≤ 1048576) := by rcases h.fm with ⟨h0, _⟩ | ⟨_, h5⟩; (exact absurd h0 hz); exact h5
  clear h hz
  go_enter Tryz.func143, Tryz.ntmps143
  go_wp2_with fail
  obtain ⟨W0, hW0⟩ : ∃ W0, W0 = (w.alloc (.cells #[.bool s, .slice p m c, .int .i64 e] 28)) := ⟨_, rfl⟩
  have Xd : Hid (B3q W0 (w.heap.size) (.bool s) (.slice p m c) (.int .i64 e)) := by rw [hW0]; exact ⟨by go_simp, by go_simp, by go_simp, by go_simp, by go_simp, by go_simp⟩
  have hb0 : Below w.heap.size w W0 := by rw [hW0]; exact below1 w _
  rw [← hW0]
  clear hW0
  have hbw : Below w.heap.size w w := Below.refl _ _
  obtain ⟨gd, hgd⟩ : ∃ g, g = w.heap.size := ⟨_, rfl⟩
  have HGd : Hid (w.heap.size ≤ gd) := by rw [hgd]; show _ ≤ _; omega
  rw [← hgd] at Xd
  try rw [← hgd]
  clear hgd
  replace hbw := Below.on hbw hb0
  clear hb0
  refine (dform_t (H.out.below hbw)).mono ?_
  rintro e v1 ⟨rfl, hb1⟩
  replace Xd : Hid _ := Xd.out.below hb1
  replace hbw := Below.on hbw hb1
  clear hb1
  obtain ⟨cd0, cd1, cd2, fd0, fd1, fd2⟩ := Xd.out
  have hned : gd < v1.heap.size := World.block_lt_of_cell? v1 _ cd0
  go_wp2_with fail
  clear cd0 cd1 cd2 fd0 fd1 fd2 hned
  refine (zsign (H.out.zn.below hbw)).mono ?_
  rintro e v2 ⟨rfl, hb2⟩
  obtain ⟨sg, hsg⟩ : ∃ sg, sg = sgnI (z) := ⟨_, rfl⟩
  rw [← hsg]
  have hs0 : (sg == 0) = false := by rw [hsg]; have := HZ.out; unfold sgnI; split <;> (try split) <;> simp <;> omega
  clear hsg
  replace Xd : Hid _ := Xd.out.below hb2
  replace hbw := Below.on hbw hb2
  clear hb2
  obtain ⟨cd0, cd1, cd2, fd0, fd1, fd2⟩ := Xd.out
  have hned : gd < v2.heap.size := World.block_lt_of_cell? v2 _ cd0
  go_wp2_with fail
  clear cd0 cd1 cd2 fd0 fd1 fd2 hned
  refine (dtop (H.out.zn.below hbw) HE.out).mono ?_
  rintro e v3 ⟨rfl, hb3⟩
  replace Xd : Hid _ := Xd.out.below hb3
  replace hbw := Below.on hbw hb3
  clear hb3
  go_wp2_with fail
  go_ret2
  exact ⟨rfl, hbw⟩
theorem dv_lt {x y : Int} (e : Int) (h : x < y) : dv x e < dv y e := by
  have h1 : (0 : Int) < ((2 ^ (e + 4194304).toNat : Nat) : Int) := by have := Nat.pow_pos (n := (e + 4194304).toNat) (show 0 < 2 by omega); omega
  exact Int.mul_lt_mul_of_pos_right h h1
theorem rd_far (up : Bool) {z : Int} {b n : Nat} (hb : z.natAbs < 2 ^ b) (hn : b ≤ n) : rd up z (2 ^ n) = rd up z (2 ^ b) := by
  have h0 : (2 : Nat) ^ b ≤ 2 ^ n := Nat.pow_le_pow_right (by omega) hn
  have key : ∀ (x : Int) (d : Nat), 0 < d → x.natAbs < d → x / (d : Int) = if x < 0 then -1 else 0 := by
    intro x d hd hx
    split
    · rw [Int.ediv_eq_iff_of_pos (by omega)]
      omega
    · exact Int.ediv_eq_zero_of_lt (by omega) (by omega)
  have p1 : 0 < 2 ^ n := Nat.pow_pos (by omega)
  have p2 : 0 < 2 ^ b := Nat.pow_pos (by omega)
  cases up
  · rw [rd_f, rd_f, key _ _ p1 (by omega), key _ _ p2 hb]
  · rw [rd_t, rd_t, key _ _ p1 (by omega), key _ _ p2 (by omega)]
set_option maxRecDepth 20000 in
set_option maxHeartbeats 8000000 in
theorem dscale {p : Option Addr} {m c : Nat} {w : World} {z e N : Int} {s : Bool} (h : DN w s p m c e z) (hz : z ≠ 0) (hN : -1048576 ≤ e + N ∧ e + N ≤ 1048576) :
    Calls Tryz.prog 14 #[DV s p m c e, .int .i64 N] w fun en w' => ∃ v, en = .returned (.tuple #[v, .int .i64 0]) ∧ AnsD w.heap.size w' v z (e + N) ∧ Below w.heap.size w w' := by
  have H : Hid (DN w s p m c e z) := h
  have HZ : Hid (z ≠ 0) := hz
  have HE : Hid ((-1048576 ≤ e ∧ e ≤ 2097152) ∧ -1048576 ≤ e + N ∧ e + N ≤ 1048576) := ⟨by rcases h.fm with ⟨h0, _⟩ | ⟨_, h5⟩; (exact absurd h0 hz); omega, hN⟩
  clear h hz hN
  go_enter Tryz.func14, Tryz.ntmps14
  go_wp2_with fail
  obtain ⟨W0, hW0⟩ : ∃ W0, W0 = ((w.alloc (.cells #[.bool s, .slice p m c, .int .i64 e] 28)).alloc (.cells #[.bool false, .slice none 0 0, .int .i64 0] 28)) := ⟨_, rfl⟩
  have Xd : Hid (B3q W0 (w.heap.size) (.bool s) (.slice p m c) (.int .i64 e)) := by rw [hW0]; exact ⟨by go_simp, by go_simp, by go_simp, by go_simp, by go_simp, by go_simp⟩
  have Xr : Hid (B3q W0 (w.heap.size + 1) (.bool false) (.slice none 0 0) (.int .i64 0)) := by rw [hW0]; exact ⟨by go_simp, by go_simp, by go_simp, by go_simp, by go_simp, by go_simp⟩
  have hb0 : Below w.heap.size w W0 := by rw [hW0]; exact below2 w _ _
  rw [← hW0]
  clear hW0
  have hbw : Below w.heap.size w w := Below.refl _ _
  obtain ⟨gr, hgr⟩ : ∃ g, g = w.heap.size + 1 := ⟨_, rfl⟩
  have HGr : Hid (w.heap.size ≤ gr) := by rw [hgr]; show _ ≤ _; omega
  rw [← hgr] at Xr
  try rw [← hgr]
  obtain ⟨gd, hgd⟩ : ∃ g, g = w.heap.size := ⟨_, rfl⟩
  have HGd : Hid (w.heap.size ≤ gd) := by rw [hgd]; show _ ≤ _; omega
  rw [← hgd] at Xd
  try rw [← hgd]
  have HGD : Hid (gd ≠ gr ∧ gr ≠ gd) := by rw [hgd, hgr]; exact ⟨by omega, by omega⟩
  clear hgd hgr
  replace hbw := Below.on hbw hb0
  clear hb0
  refine (dform_t (H.out.below hbw)).mono ?_
  rintro e v1 ⟨rfl, hb1⟩
  replace Xd : Hid _ := Xd.out.below hb1
  replace Xr : Hid _ := Xr.out.below hb1
  replace hbw := Below.on hbw hb1
  clear hb1
  obtain ⟨cd0, cd1, cd2, fd0, fd1, fd2⟩ := Xd.out
  have hned : gd < v1.heap.size := World.block_lt_of_cell? v1 _ cd0
  go_wp2_with fail
  clear cd0 cd1 cd2 fd0 fd1 fd2 hned
  refine (zsign (H.out.zn.below hbw)).mono ?_
  rintro e v2 ⟨rfl, hb2⟩
  obtain ⟨sg, hsg⟩ : ∃ sg, sg = sgnI (z) := ⟨_, rfl⟩
  rw [← hsg]
  have hs0 : (sg == 0) = false := by rw [hsg]; have := HZ.out; unfold sgnI; split <;> (try split) <;> simp <;> omega
  clear hsg
  replace Xd : Hid _ := Xd.out.below hb2
  replace Xr : Hid _ := Xr.out.below hb2
  replace hbw := Below.on hbw hb2
  clear hb2
  obtain ⟨cd0, cd1, cd2, fd0, fd1, fd2⟩ := Xd.out
  have hned : gd < v2.heap.size := World.block_lt_of_cell? v2 _ cd0
  go_wp2_with fail
  clear cd0 cd1 cd2 fd0 fd1 fd2 hned
  clear hs0
  refine (moved_ok e N _ HE.out.1 HE.out.2).mono ?_
  rintro e2 v4 ⟨rfl, hw⟩
  obtain rfl := hw.symm
  clear hw
  obtain ⟨cd0, cd1, cd2, fd0, fd1, fd2⟩ := Xd.out
  have hned : gd < v2.heap.size := World.block_lt_of_cell? v2 _ cd0
  go_wp2_with fail
  clear cd0 cd1 cd2 fd0 fd1 fd2 hned
  have HRL : Hid (gr < v2.heap.size ∧ gd < v2.heap.size ∧ w.heap.size ≤ v2.heap.size) := ⟨Xr.out.lt, Xd.out.lt, hbw.size⟩
  obtain ⟨xs, hX⟩ := (H.out.zn.below hbw).ex
  have N6 : Hid (Nf B64 xs z.natAbs ∧ m ≤ 8192 ∧ s = decide (z < 0)) := ⟨hX.nf, hX.le, H.out.zn.sg⟩
  refine (dcopied s hX.at_ hX.le).mono ?_
  rintro e2 v5 ⟨p5, rfl, ho5, hb5⟩
  clear hX
  replace Xd : Hid _ := Xd.out.below hb5
  replace Xr : Hid _ := Xr.out.below hb5
  replace hbw := Below.on hbw hb5
  clear hb5
  have O5 : Hid (Own v2.heap.size v5 p5 m xs) := ho5
  clear ho5
  obtain ⟨hgd0, hgd1⟩ := HGD.out
  obtain ⟨cd0, cd1, cd2, fd0, fd1, fd2⟩ := Xd.out
  have hned : gd < v5.heap.size := World.block_lt_of_cell? v5 _ cd0
  obtain ⟨cr0, cr1, cr2, fr0, fr1, fr2⟩ := Xr.out
  have hner : gr < v5.heap.size := World.block_lt_of_cell? v5 _ cr0
  have q2 : (((v5.setCell ⟨gd, 0, none⟩ (.bool s)).setCell ⟨gd, 1, none⟩ (.slice p5 m m)).setCell ⟨gd, 2, none⟩ (.int .i64 e)).cell? ⟨gd, 2, none⟩ = some (.int .i64 e) := by go_simp
  have q3 : ((((v5.setCell ⟨gd, 0, none⟩ (.bool s)).setCell ⟨gd, 1, none⟩ (.slice p5 m m)).setCell ⟨gd, 2, none⟩ (.int .i64 e)).setCell ⟨gd, 2, none⟩ (.int .i64 (e + N))).cell? ⟨gd, 2, none⟩ = some (.int .i64 (e + N)) := World.cell?_setCell_same _ _ _ q2
  go_wp2_with fail
  refine bodyPost_ret (v := .tuple #[DV s p5 m m (e + N), .int .i64 0]) (by rw [results_cell_tmp rfl]; go_simp) rfl ⟨_, rfl, ⟨p5, m, xs, by rw [N6.out.2.2], ?_, N6.out.1, N6.out.2.1⟩, ?_⟩
  · exact own_set3 ((own_set3 O5.out HRL.out.2.1 (Nat.le_refl _) _ _ _).setOld _ _ _ HRL.out.2.1) HRL.out.1 HRL.out.2.2 _ _ _
  · exact bSet (bSet (bSet (bSet (bSet (bSet (bSet hbw _ _ _ HGd.out) _ _ _ HGd.out) _ _ _ HGd.out) _ _ _ HGd.out) _ _ _ HGr.out) _ _ _ HGr.out) _ _ _ HGr.out
set_option maxRecDepth 20000 in
set_option maxHeartbeats 8000000 in
theorem tg_zd {q : Option Addr} {m c : Nat} {w : World} {z e E : Int} {s : Bool} (h : DN w s q m c e z) (hz : z = 0) :
    Calls Tryz.prog 128 #[WVd, DV s q m c e, .int .i64 E] w fun en w' => ∃ v, en = .returned (.tuple #[v, .int .i64 0]) ∧ AnsD w.heap.size w' v z e ∧ Below w.heap.size w w' := by
  have H : Hid (DN w s q m c e z) := h
  have HZ : Hid (z = 0) := hz
  clear h hz
  go_enter Tryz.func128, Tryz.ntmps128
  go_wp2_with fail
  obtain ⟨W0, hW0⟩ : ∃ W0, W0 = (((w.alloc (.cells #[.func (.func 79) #[] #[], .func (.func 179) #[] #[]] 180)).alloc (.cells #[.bool s, .slice q m c, .int .i64 e] 28)).alloc (.cells #[.bool false, .slice none 0 0, .int .i64 0] 28)) := ⟨_, rfl⟩
  have Xy : Hid (Box W0 (w.heap.size) (.func (.func 79) #[] #[]) (.func (.func 179) #[] #[])) := by rw [hW0]; exact ⟨by go_simp, by go_simp, by go_simp, by go_simp⟩
  have Xd : Hid (B3q W0 (w.heap.size + 1) (.bool s) (.slice q m c) (.int .i64 e)) := by rw [hW0]; exact ⟨by go_simp, by go_simp, by go_simp, by go_simp, by go_simp, by go_simp⟩
  have Xr : Hid (B3q W0 (w.heap.size + 1 + 1) (.bool false) (.slice none 0 0) (.int .i64 0)) := by rw [hW0]; exact ⟨by go_simp, by go_simp, by go_simp, by go_simp, by go_simp, by go_simp⟩
  have hb0 : Below w.heap.size w W0 := by rw [hW0]; exact below3 w _ _ _
  rw [← hW0]
  clear hW0
  have hbw : Below w.heap.size w w := Below.refl _ _
  obtain ⟨gr, hgr⟩ : ∃ g, g = w.heap.size + 1 + 1 := ⟨_, rfl⟩
  have HGr : Hid (w.heap.size ≤ gr) := by rw [hgr]; show _ ≤ _; omega
  rw [← hgr] at Xr
  try rw [← hgr]
  obtain ⟨gd, hgd⟩ : ∃ g, g = w.heap.size + 1 := ⟨_, rfl⟩
  have HGd : Hid (w.heap.size ≤ gd) := by rw [hgd]; show _ ≤ _; omega
  rw [← hgd] at Xd
  try rw [← hgd]
  obtain ⟨gy, hgy⟩ : ∃ g, g = w.heap.size := ⟨_, rfl⟩
  have HGy : Hid (w.heap.size ≤ gy) := by rw [hgy]; show _ ≤ _; omega
  rw [← hgy] at Xy
  try rw [← hgy]
  have HGD : Hid (gy ≠ gd ∧ gy ≠ gr ∧ gd ≠ gy ∧ gd ≠ gr ∧ gr ≠ gy ∧ gr ≠ gd) := by rw [hgy, hgd, hgr]; exact ⟨by omega, by omega, by omega, by omega, by omega, by omega⟩
  clear hgy hgd hgr
  replace hbw := Below.on hbw hb0
  clear hb0
  refine (dform_t (H.out.below hbw)).mono ?_
  rintro e v1 ⟨rfl, hb1⟩
  replace Xy : Hid _ := Xy.out.below hb1
  replace Xd : Hid _ := Xd.out.below hb1
  replace Xr : Hid _ := Xr.out.below hb1
  replace hbw := Below.on hbw hb1
  clear hb1
  obtain ⟨cd0, cd1, cd2, fd0, fd1, fd2⟩ := Xd.out
  have hned : gd < v1.heap.size := World.block_lt_of_cell? v1 _ cd0
  go_wp2_with fail
  clear cd0 cd1 cd2 fd0 fd1 fd2 hned
  refine (zsign (H.out.zn.below hbw)).mono ?_
  rintro e v2 ⟨rfl, hb2⟩
  obtain ⟨sg2, hsg⟩ : ∃ sg, sg = sgnI (z) := ⟨_, rfl⟩
  rw [← hsg]
  have hs2 : (sg2 == 0) = true := by rw [hsg]; have := HZ.out; unfold sgnI; split <;> (try split) <;> simp <;> omega
  clear hsg
  replace Xy : Hid _ := Xy.out.below hb2
  replace Xd : Hid _ := Xd.out.below hb2
  replace Xr : Hid _ := Xr.out.below hb2
  replace hbw := Below.on hbw hb2
  clear hb2
  obtain ⟨cd0, cd1, cd2, fd0, fd1, fd2⟩ := Xd.out
  have hned : gd < v2.heap.size := World.block_lt_of_cell? v2 _ cd0
  go_wp2_with fail
  clear cd0 cd1 cd2 fd0 fd1 fd2 hned
  have HRL : Hid (gr < v2.heap.size ∧ w.heap.size ≤ v2.heap.size) := ⟨Xr.out.lt, hbw.size⟩
  obtain ⟨xs, hX⟩ := (H.out.zn.below hbw).ex
  have N6 : Hid (Nf B64 xs z.natAbs ∧ m ≤ 8192 ∧ s = decide (z < 0)) := ⟨hX.nf, hX.le, H.out.zn.sg⟩
  refine (dcopied s hX.at_ hX.le).mono ?_
  rintro e2 v5 ⟨p5, rfl, ho5, hb5⟩
  clear hX
  replace Xy : Hid _ := Xy.out.below hb5
  replace Xd : Hid _ := Xd.out.below hb5
  replace Xr : Hid _ := Xr.out.below hb5
  replace hbw := Below.on hbw hb5
  clear hb5
  have O5 : Hid (Own v2.heap.size v5 p5 m xs) := ho5
  clear ho5
  obtain ⟨cr0, cr1, cr2, fr0, fr1, fr2⟩ := Xr.out
  have hner : gr < v5.heap.size := World.block_lt_of_cell? v5 _ cr0
  go_wp2_with fail
  refine bodyPost_ret (v := .tuple #[DV s p5 m m e, .int .i64 0]) (by rw [results_cell_tmp rfl]; go_simp) rfl ⟨_, rfl, ⟨p5, m, xs, by rw [N6.out.2.2], ?_, N6.out.1, N6.out.2.1⟩, ?_⟩
  · exact own_set3 O5.out HRL.out.1 HRL.out.2 _ _ _
  · exact bSet (bSet (bSet hbw _ _ _ HGr.out) _ _ _ HGr.out) _ _ _ HGr.out
set_option maxRecDepth 20000 in
set_option maxHeartbeats 8000000 in
theorem tg_cd {q : Option Addr} {m c : Nat} {w : World} {z e E : Int} {s : Bool} (h : DN w s q m c e z) (hz : z ≠ 0) (hE : E ≤ e) :
    Calls Tryz.prog 128 #[WVd, DV s q m c e, .int .i64 E] w fun en w' => ∃ v, en = .returned (.tuple #[v, .int .i64 0]) ∧ AnsD w.heap.size w' v z e ∧ Below w.heap.size w w' := by
  have H : Hid (DN w s q m c e z) := h
  have HZ : Hid (z ≠ 0) := hz
  have f1 : E ≤ e := hE
  clear h hz
  go_enter Tryz.func128, Tryz.ntmps128
  go_wp2_with fail
  obtain ⟨W0, hW0⟩ : ∃ W0, W0 = (((w.alloc (.cells #[.func (.func 79) #[] #[], .func (.func 179) #[] #[]] 180)).alloc (.cells #[.bool s, .slice q m c, .int .i64 e] 28)).alloc (.cells #[.bool false, .slice none 0 0, .int .i64 0] 28)) := ⟨_, rfl⟩
  have Xy : Hid (Box W0 (w.heap.size) (.func (.func 79) #[] #[]) (.func (.func 179) #[] #[])) := by rw [hW0]; exact ⟨by go_simp, by go_simp, by go_simp, by go_simp⟩
  have Xd : Hid (B3q W0 (w.heap.size + 1) (.bool s) (.slice q m c) (.int .i64 e)) := by rw [hW0]; exact ⟨by go_simp, by go_simp, by go_simp, by go_simp, by go_simp, by go_simp⟩
  have Xr : Hid (B3q W0 (w.heap.size + 1 + 1) (.bool false) (.slice none 0 0) (.int .i64 0)) := by rw [hW0]; exact ⟨by go_simp, by go_simp, by go_simp, by go_simp, by go_simp, by go_simp⟩
  have hb0 : Below w.heap.size w W0 := by rw [hW0]; exact below3 w _ _ _
  rw [← hW0]
  clear hW0
  have hbw : Below w.heap.size w w := Below.refl _ _
  obtain ⟨gr, hgr⟩ : ∃ g, g = w.heap.size + 1 + 1 := ⟨_, rfl⟩
  have HGr : Hid (w.heap.size ≤ gr) := by rw [hgr]; show _ ≤ _; omega
  rw [← hgr] at Xr
  try rw [← hgr]
  obtain ⟨gd, hgd⟩ : ∃ g, g = w.heap.size + 1 := ⟨_, rfl⟩
  have HGd : Hid (w.heap.size ≤ gd) := by rw [hgd]; show _ ≤ _; omega
  rw [← hgd] at Xd
  try rw [← hgd]
  obtain ⟨gy, hgy⟩ : ∃ g, g = w.heap.size := ⟨_, rfl⟩
  have HGy : Hid (w.heap.size ≤ gy) := by rw [hgy]; show _ ≤ _; omega
  rw [← hgy] at Xy
  try rw [← hgy]
  have HGD : Hid (gy ≠ gd ∧ gy ≠ gr ∧ gd ≠ gy ∧ gd ≠ gr ∧ gr ≠ gy ∧ gr ≠ gd) := by rw [hgy, hgd, hgr]; exact ⟨by omega, by omega, by omega, by omega, by omega, by omega⟩
  clear hgy hgd hgr
  replace hbw := Below.on hbw hb0
  clear hb0
  refine (dform_t (H.out.below hbw)).mono ?_
  rintro e v1 ⟨rfl, hb1⟩
  replace Xy : Hid _ := Xy.out.below hb1
  replace Xd : Hid _ := Xd.out.below hb1
  replace Xr : Hid _ := Xr.out.below hb1
  replace hbw := Below.on hbw hb1
  clear hb1
  obtain ⟨cd0, cd1, cd2, fd0, fd1, fd2⟩ := Xd.out
  have hned : gd < v1.heap.size := World.block_lt_of_cell? v1 _ cd0
  go_wp2_with fail
  clear cd0 cd1 cd2 fd0 fd1 fd2 hned
  refine (zsign (H.out.zn.below hbw)).mono ?_
  rintro e v2 ⟨rfl, hb2⟩
  obtain ⟨sg2, hsg⟩ : ∃ sg, sg = sgnI (z) := ⟨_, rfl⟩
  rw [← hsg]
  have hs2 : (sg2 == 0) = false := by rw [hsg]; have := HZ.out; unfold sgnI; split <;> (try split) <;> simp <;> omega
  clear hsg
  replace Xy : Hid _ := Xy.out.below hb2
  replace Xd : Hid _ := Xd.out.below hb2
  replace Xr : Hid _ := Xr.out.below hb2
  replace hbw := Below.on hbw hb2
  clear hb2
  obtain ⟨cd0, cd1, cd2, fd0, fd1, fd2⟩ := Xd.out
  have hned : gd < v2.heap.size := World.block_lt_of_cell? v2 _ cd0
  go_wp2_with fail
  clear cd0 cd1 cd2 fd0 fd1 fd2 hned
  have HRL : Hid (gr < v2.heap.size ∧ w.heap.size ≤ v2.heap.size) := ⟨Xr.out.lt, hbw.size⟩
  obtain ⟨xs, hX⟩ := (H.out.zn.below hbw).ex
  have N6 : Hid (Nf B64 xs z.natAbs ∧ m ≤ 8192 ∧ s = decide (z < 0)) := ⟨hX.nf, hX.le, H.out.zn.sg⟩
  refine (dcopied s hX.at_ hX.le).mono ?_
  rintro e2 v5 ⟨p5, rfl, ho5, hb5⟩
  clear hX
  replace Xy : Hid _ := Xy.out.below hb5
  replace Xd : Hid _ := Xd.out.below hb5
  replace Xr : Hid _ := Xr.out.below hb5
  replace hbw := Below.on hbw hb5
  clear hb5
  have O5 : Hid (Own v2.heap.size v5 p5 m xs) := ho5
  clear ho5
  obtain ⟨cr0, cr1, cr2, fr0, fr1, fr2⟩ := Xr.out
  have hner : gr < v5.heap.size := World.block_lt_of_cell? v5 _ cr0
  go_wp2_with fail
  refine bodyPost_ret (v := .tuple #[DV s p5 m m e, .int .i64 0]) (by rw [results_cell_tmp rfl]; go_simp) rfl ⟨_, rfl, ⟨p5, m, xs, by rw [N6.out.2.2], ?_, N6.out.1, N6.out.2.1⟩, ?_⟩
  · exact own_set3 O5.out HRL.out.1 HRL.out.2 _ _ _
  · exact bSet (bSet (bSet hbw _ _ _ HGr.out) _ _ _ HGr.out) _ _ _ HGr.out
set_option maxRecDepth 20000 in
set_option maxHeartbeats 8000000 in
theorem tg_sd {q : Option Addr} {m c n : Nat} {w : World} {z e E : Int} {s : Bool} (h : DN w s q m c e z) (hz : z ≠ 0) (hE : e < E ∧ E ≤ 1048576) (hn : n = (E - e).toNat) (hT : Tab w) :
    Calls Tryz.prog 128 #[WVd, DV s q m c e, .int .i64 E] w fun en w' => MakeP w.heap.size w' en (rd false z (2 ^ n)) E ∧ Below w.heap.size w w' := by
  have H : Hid (DN w s q m c e z) := h
  have TB : Hid (Tab w) := hT
  have HZ : Hid (z ≠ 0) := hz
  have hb := (lim_bits z.natAbs).1 h.zn.lim
  have he : -1048576 ≤ e ∧ e ≤ 1048576 := by rcases h.fm with ⟨h0, _⟩ | ⟨_, h5⟩; (exact absurd h0 hz); exact h5
  obtain ⟨pl, hpl⟩ : ∃ pl, pl = min n (bitsN z.natAbs) := ⟨_, rfl⟩
  obtain ⟨B, hB⟩ : ∃ B, B = bitsN z.natAbs := ⟨_, rfl⟩
  rw [← hB] at hb hpl
  have HB : Hid (bitsN z.natAbs = B) := hB.symm
  have f0 : ¬ E ≤ e := by omega
  have f1 : wrap64 (e + B) = e + B := by simp only [wrap64]; omega
  have f2 : min E (e + (B : Int)) = e + pl := by omega
  have f3 : wrap64 (e + (pl : Int) - e) = pl := by simp only [wrap64]; omega
  have f4 : IntKind.i64.wrap (e + B) = e + B := by simp [IntKind.wrap, IntKind.signed, IntKind.bits]; omega
  have f5 : IntKind.i64.wrap (e + (pl : Int) - e) = pl := by simp [IntKind.wrap, IntKind.signed, IntKind.bits]; omega
  have HF : Hid (pl ≤ 9223372036854775807 ∧ -3145728 ≤ E ∧ E ≤ 3145728) := ⟨by omega, by omega, by omega⟩
  have HR : Hid (fl (decide (z < 0)) z.natAbs (2 ^ pl) = rd false z (2 ^ n)) := by
    rw [fl_eq _ _ (Nat.pow_pos (by omega))]
    show rd false z (2 ^ pl) = _
    by_cases h9 : n ≤ B
    · rw [show pl = n from by omega]
    · rw [show pl = B from by omega]
      exact (rd_far false (by rw [hB]; exact bitsN_lt _) (by omega)).symm
  clear h hz hE hn hT hb he hpl hB
  go_enter Tryz.func128, Tryz.ntmps128
  go_wp2_with fail
  obtain ⟨W0, hW0⟩ : ∃ W0, W0 = (((w.alloc (.cells #[.func (.func 79) #[] #[], .func (.func 179) #[] #[]] 180)).alloc (.cells #[.bool s, .slice q m c, .int .i64 e] 28)).alloc (.cells #[.bool false, .slice none 0 0, .int .i64 0] 28)) := ⟨_, rfl⟩
  have Xy : Hid (Box W0 (w.heap.size) (.func (.func 79) #[] #[]) (.func (.func 179) #[] #[])) := by rw [hW0]; exact ⟨by go_simp, by go_simp, by go_simp, by go_simp⟩
  have Xd : Hid (B3q W0 (w.heap.size + 1) (.bool s) (.slice q m c) (.int .i64 e)) := by rw [hW0]; exact ⟨by go_simp, by go_simp, by go_simp, by go_simp, by go_simp, by go_simp⟩
  have Xr : Hid (B3q W0 (w.heap.size + 1 + 1) (.bool false) (.slice none 0 0) (.int .i64 0)) := by rw [hW0]; exact ⟨by go_simp, by go_simp, by go_simp, by go_simp, by go_simp, by go_simp⟩
  have hb0 : Below w.heap.size w W0 := by rw [hW0]; exact below3 w _ _ _
  rw [← hW0]
  clear hW0
  have hbw : Below w.heap.size w w := Below.refl _ _
  obtain ⟨gr, hgr⟩ : ∃ g, g = w.heap.size + 1 + 1 := ⟨_, rfl⟩
  have HGr : Hid (w.heap.size ≤ gr) := by rw [hgr]; show _ ≤ _; omega
  rw [← hgr] at Xr
  try rw [← hgr]
  obtain ⟨gd, hgd⟩ : ∃ g, g = w.heap.size + 1 := ⟨_, rfl⟩
  have HGd : Hid (w.heap.size ≤ gd) := by rw [hgd]; show _ ≤ _; omega
  rw [← hgd] at Xd
  try rw [← hgd]
  obtain ⟨gy, hgy⟩ : ∃ g, g = w.heap.size := ⟨_, rfl⟩
  have HGy : Hid (w.heap.size ≤ gy) := by rw [hgy]; show _ ≤ _; omega
  rw [← hgy] at Xy
  try rw [← hgy]
  have HGD : Hid (gy ≠ gd ∧ gy ≠ gr ∧ gd ≠ gy ∧ gd ≠ gr ∧ gr ≠ gy ∧ gr ≠ gd) := by rw [hgy, hgd, hgr]; exact ⟨by omega, by omega, by omega, by omega, by omega, by omega⟩
  clear hgy hgd hgr
  replace hbw := Below.on hbw hb0
  clear hb0
  refine (dform_t (H.out.below hbw)).mono ?_
  rintro e v1 ⟨rfl, hb1⟩
  replace Xy : Hid _ := Xy.out.below hb1
  replace Xd : Hid _ := Xd.out.below hb1
  replace Xr : Hid _ := Xr.out.below hb1
  replace hbw := Below.on hbw hb1
  clear hb1
  obtain ⟨cd0, cd1, cd2, fd0, fd1, fd2⟩ := Xd.out
  have hned : gd < v1.heap.size := World.block_lt_of_cell? v1 _ cd0
  go_wp2_with fail
  clear cd0 cd1 cd2 fd0 fd1 fd2 hned
  refine (zsign (H.out.zn.below hbw)).mono ?_
  rintro e v2 ⟨rfl, hb2⟩
  obtain ⟨sg2, hsg⟩ : ∃ sg, sg = sgnI (z) := ⟨_, rfl⟩
  rw [← hsg]
  have hs2 : (sg2 == 0) = false := by rw [hsg]; have := HZ.out; unfold sgnI; split <;> (try split) <;> simp <;> omega
  clear hsg
  replace Xy : Hid _ := Xy.out.below hb2
  replace Xd : Hid _ := Xd.out.below hb2
  replace Xr : Hid _ := Xr.out.below hb2
  replace hbw := Below.on hbw hb2
  clear hb2
  obtain ⟨cd0, cd1, cd2, fd0, fd1, fd2⟩ := Xd.out
  have hned : gd < v2.heap.size := World.block_lt_of_cell? v2 _ cd0
  go_wp2_with fail
  clear cd0 cd1 cd2 fd0 fd1 fd2 hned
  clear hs2 f0
  obtain ⟨W1, hW1⟩ : ∃ W1, W1 = v2.drew := ⟨_, rfl⟩
  have hbd : Below v2.heap.size v2 W1 := by rw [hW1]; exact bDrew1 (Below.refl _ _)
  replace Xy : Hid _ := Xy.out.below hbd
  replace Xd : Hid _ := Xd.out.below hbd
  replace Xr : Hid _ := Xr.out.below hbd
  replace hbw := Below.on hbw hbd
  clear hbd
  have HJ : Hid ((fun W' : World => W'.cell? ⟨gd, 1, none⟩ = some (.slice q m c) ∧ W'.cell? ⟨gd, 2, none⟩ = some (.int .i64 e)) W1) := ⟨Xd.out.c1, Xd.out.c2⟩
  refine wp_region_J (fun W' => W'.cell? ⟨gd, 1, none⟩ = some (.slice q m c) ∧ W'.cell? ⟨gd, 2, none⟩ = some (.int .i64 e)) (by kernel_rfl) ?_
  rw [← hW1]
  clear hW1
  refine wpJ_tk 0 (v := ?v1x0) rfl ?hy1x0 HJ.out ?_
  case hy1x0 => (intro W' hJ; obtain ⟨j0, j1⟩ := hJ; go_simp; first | done | with_reducible rfl)
  refine wpJ_tk 1 (v := ?v2x1) rfl ?hy2x1 HJ.out ?_
  case hy2x1 => (intro W' hJ; obtain ⟨j0, j1⟩ := hJ; go_simp; first | done | with_reducible rfl)
  refine wpJ_tk 2 (v := ?v3x2) rfl ?hy3x2 HJ.out ?_
  case hy3x2 => (intro W' hJ; obtain ⟨j0, j1⟩ := hJ; go_simp; first | done | with_reducible rfl)
  refine wpJ_tk 3 (v := ?v4x3) rfl ?hy4x3 HJ.out ?_
  case hy4x3 => (intro W' hJ; obtain ⟨j0, j1⟩ := hJ; go_simp; first | done | with_reducible rfl)
  refine wpJ_tk 4 (v := ?v5x4) rfl ?hy5x4 HJ.out ?_
  case hy5x4 => (intro W' hJ; obtain ⟨j0, j1⟩ := hJ; go_simp; first | done | with_reducible rfl)
  refine wpJ_tk 5 (v := ?v6x5) rfl ?hy6x5 HJ.out ?_
  case hy6x5 => (intro W' hJ; obtain ⟨j0, j1⟩ := hJ; go_simp; first | done | with_reducible rfl)
  refine wpJ_tk 9 (v := ?v7x9) rfl ?hy7x9 HJ.out ?_
  case hy7x9 => (intro W' hJ; obtain ⟨j0, j1⟩ := hJ; go_simp; first | done | with_reducible rfl)
  refine wpJ_tk 10 (v := ?v8x10) rfl ?hy8x10 HJ.out ?_
  case hy8x10 => (intro W' hJ; obtain ⟨j0, j1⟩ := hJ; go_simp; first | done | with_reducible rfl)
  refine wpJ_one (i := 6) (by kernel_rfl) rfl (by kernel_rfl) (fun KJ hK => ?_)
  go_simp
  obtain ⟨xs, hX⟩ := (H.out.zn.below hbw).ex
  refine (bits_any hX.at_ (by have := hX.le; omega)).mono ?_
  rintro e2 v3 ⟨rfl, hw⟩
  obtain rfl := hw.symm
  clear hw
  rw [hX.nf.val, HB.out]
  clear hX
  clear HJ
  have HJ : Hid ((fun W' : World => W'.cell? ⟨gd, 1, none⟩ = some (.slice q m c) ∧ W'.cell? ⟨gd, 2, none⟩ = some (.int .i64 e)) W1) := ⟨Xd.out.c1, Xd.out.c2⟩
  refine hK _ _ HJ.out ?_
  clear hK
  refine wpJ_tk 7 (v := ?v9x7) rfl ?hy9x7 HJ.out ?_
  case hy9x7 => (intro W' hJ; obtain ⟨j0, j1⟩ := hJ; go_simp; first | done | with_reducible rfl)
  refine wpJ_tk 8 (v := ?v10x8) rfl ?hy10x8 HJ.out ?_
  case hy10x8 => (intro W' hJ; obtain ⟨j0, j1⟩ := hJ; go_simp; first | done | with_reducible rfl)
  refine wpJ_tk 11 (v := ?v11x11) rfl ?hy11x11 HJ.out ?_
  case hy11x11 => (intro W' hJ; obtain ⟨j0, j1⟩ := hJ; go_simp; first | done | with_reducible rfl)
  refine wpJ_tk 12 (v := ?v12x12) rfl ?hy12x12 HJ.out ?_
  case hy12x12 => (intro W' hJ; obtain ⟨j0, j1⟩ := hJ; go_simp; first | done | with_reducible rfl)
  refine wpJ_done (by kernel_rfl) ?_ _
  clear HJ
  obtain ⟨cy0, cy1, fy0, fy1⟩ := Xy.out
  have hney := Xy.out.lt
  obtain ⟨cd0, cd1, cd2, fd0, fd1, fd2⟩ := Xd.out
  have hned : gd < W1.heap.size := World.block_lt_of_cell? W1 _ cd0
  go_wp2_with fail
  clear cy0 cy1 fy0 fy1 hney
  clear cd0 cd1 cd2 fd0 fd1 fd2 hned
  clear f1 f2 f3 f4 f5
  refine (zfshr (H.out.zn.below hbw) pl HF.out.1 (TB.out.below hbw)).mono ?_
  rintro e v5 ⟨⟨s5, p5, m5, rfl, hz⟩, hb5⟩
  replace Xy : Hid _ := Xy.out.below hb5
  replace Xd : Hid _ := Xd.out.below hb5
  replace Xr : Hid _ := Xr.out.below hb5
  replace hbw := Below.on hbw hb5
  clear hb5
  have hz := hz.cast (z' := rd false z (2 ^ n)) (HR.out)
  have Z5 : Hid (ZN v5 s5 p5 m5 m5 (rd false z (2 ^ n))) := hz
  clear hz
  go_wp2_with fail
  have Xq0 : Hid (Box (v5.alloc (.cells #[.bool s5, .slice p5 m5 m5] 26)) v5.heap.size (.bool s5) (.slice p5 m5 m5)) := Box.new v5 _ _ _
  have hbn : Below v5.heap.size v5 (v5.alloc (.cells #[.bool s5, .slice p5 m5 m5] 26)) := below1 v5 _
  generalize v5.alloc (.cells #[.bool s5, .slice p5 m5 m5] 26) = Wq at *
  have HGq : Hid (w.heap.size ≤ v5.heap.size) := hbw.size
  replace Xy : Hid _ := Xy.out.below hbn
  replace Xd : Hid _ := Xd.out.below hbn
  replace Xr : Hid _ := Xr.out.below hbn
  replace Z5 : Hid _ := Z5.out.below hbn
  replace hbw := Below.on hbw hbn
  clear hbn
  generalize v5.heap.size = gq at *
  have Xq := Xq0
  clear Xq0
  have HRL : Hid (gr < Wq.heap.size ∧ w.heap.size ≤ Wq.heap.size) := ⟨Xr.out.lt, hbw.size⟩
  refine (makep Z5.out HF.out.2 (TB.out.below hbw)).mono ?_
  rintro e2 v6 ⟨hv, hb6⟩
  obtain ⟨s6, p6, m6, eo, er, rfl, hmp⟩ := hv.open
  clear hv
  replace Xy : Hid _ := Xy.out.below hb6
  replace Xd : Hid _ := Xd.out.below hb6
  replace Xr : Hid _ := Xr.out.below hb6
  replace Xq : Hid _ := Xq.out.below hb6
  replace Z5 : Hid _ := Z5.out.below hb6
  replace hbw := Below.on hbw hb6
  clear hb6
  have M6 : Hid (MP Wq.heap.size v6 s6 p6 m6 eo er (rd false z (2 ^ n)) (E)) := hmp
  clear hmp
  obtain ⟨cr0, cr1, cr2, fr0, fr1, fr2⟩ := Xr.out
  have hner : gr < v6.heap.size := World.block_lt_of_cell? v6 _ cr0
  go_wp2_with fail
  refine bodyPost_ret (v := .tuple #[DV s6 p6 m6 m6 eo, .int .i64 er]) (by rw [results_cell_tmp rfl]; go_simp) rfl ⟨(M6.out.set HRL.out.1 HRL.out.2 _ _ _).close, ?_⟩
  exact bSet (bSet (bSet hbw _ _ _ HGr.out) _ _ _ HGr.out) _ _ _ HGr.out
set_option maxRecDepth 20000 in
set_option maxHeartbeats 8000000 in
theorem at_zd {q : Option Addr} {m c : Nat} {w : World} {z e E : Int} {s : Bool} (h : DN w s q m c e z) (hz : z = 0) :
    Calls Tryz.prog 74 #[DV s q m c e, .int .i64 E] w fun en w' => ∃ v, en = .returned (.tuple #[v, .int .i64 0]) ∧ AnsD w.heap.size w' v z e ∧ Below w.heap.size w w' := by
  have H : Hid (DN w s q m c e z) := h
  have HZ : Hid (z = 0) := hz
  clear h hz
  go_enter Tryz.func74, Tryz.ntmps74
  go_wp2_with fail
  obtain ⟨W0, hW0⟩ : ∃ W0, W0 = ((w.alloc (.cells #[.bool s, .slice q m c, .int .i64 e] 28)).alloc (.cells #[.bool false, .slice none 0 0, .int .i64 0] 28)) := ⟨_, rfl⟩
  have Xd : Hid (B3q W0 (w.heap.size) (.bool s) (.slice q m c) (.int .i64 e)) := by rw [hW0]; exact ⟨by go_simp, by go_simp, by go_simp, by go_simp, by go_simp, by go_simp⟩
  have Xr : Hid (B3q W0 (w.heap.size + 1) (.bool false) (.slice none 0 0) (.int .i64 0)) := by rw [hW0]; exact ⟨by go_simp, by go_simp, by go_simp, by go_simp, by go_simp, by go_simp⟩
  have hb0 : Below w.heap.size w W0 := by rw [hW0]; exact below2 w _ _
  rw [← hW0]
  clear hW0
  have hbw : Below w.heap.size w w := Below.refl _ _
  obtain ⟨gr, hgr⟩ : ∃ g, g = w.heap.size + 1 := ⟨_, rfl⟩
  have HGr : Hid (w.heap.size ≤ gr) := by rw [hgr]; show _ ≤ _; omega
  rw [← hgr] at Xr
  try rw [← hgr]
  obtain ⟨gd, hgd⟩ : ∃ g, g = w.heap.size := ⟨_, rfl⟩
  have HGd : Hid (w.heap.size ≤ gd) := by rw [hgd]; show _ ≤ _; omega
  rw [← hgd] at Xd
  try rw [← hgd]
  have HGD : Hid (gd ≠ gr ∧ gr ≠ gd) := by rw [hgd, hgr]; exact ⟨by omega, by omega⟩
  clear hgd hgr
  replace hbw := Below.on hbw hb0
  clear hb0
  obtain ⟨W1, hW1⟩ : ∃ W1, W1 = W0.drew := ⟨_, rfl⟩
  have hbd : Below W0.heap.size W0 W1 := by rw [hW1]; exact bDrew1 (Below.refl _ _)
  replace Xd : Hid _ := Xd.out.below hbd
  replace Xr : Hid _ := Xr.out.below hbd
  replace hbw := Below.on hbw hbd
  clear hbd
  have HJ : Hid ((fun W' : World => W'.cell? ⟨gd, 0, none⟩ = some (.bool s) ∧ W'.cell? ⟨gd, 1, none⟩ = some (.slice q m c) ∧ W'.cell? ⟨gd, 2, none⟩ = some (.int .i64 e)) W1) := ⟨Xd.out.c0, Xd.out.c1, Xd.out.c2⟩
  refine wp_region_J (fun W' => W'.cell? ⟨gd, 0, none⟩ = some (.bool s) ∧ W'.cell? ⟨gd, 1, none⟩ = some (.slice q m c) ∧ W'.cell? ⟨gd, 2, none⟩ = some (.int .i64 e)) (by kernel_rfl) ?_
  rw [← hW1]
  clear hW1
  refine wpJ_tk 1 (v := ?v13x1) rfl ?hy13x1 HJ.out ?_
  case hy13x1 => (intro W' hJ; obtain ⟨j0, j1, j2⟩ := hJ; go_simp; first | done | with_reducible rfl)
  refine wpJ_tk 2 (v := ?v14x2) rfl ?hy14x2 HJ.out ?_
  case hy14x2 => (intro W' hJ; obtain ⟨j0, j1, j2⟩ := hJ; go_simp; first | done | with_reducible rfl)
  refine wpJ_one (i := 0) (by kernel_rfl) rfl (by kernel_rfl) (fun KJ hK => ?_)
  go_simp
  refine (way_d _).mono ?_
  rintro e v1 ⟨rfl, hb1⟩
  replace Xd : Hid _ := Xd.out.below hb1
  replace Xr : Hid _ := Xr.out.below hb1
  replace hbw := Below.on hbw hb1
  clear hb1
  refine hK _ _ ⟨Xd.out.c0, Xd.out.c1, Xd.out.c2⟩ ?_
  clear hK
  refine wpJ_one (i := 3) (by kernel_rfl) rfl (by kernel_rfl) (fun KJ hK => ?_)
  go_simp
  have HRL : Hid (gr < v1.heap.size ∧ w.heap.size ≤ v1.heap.size) := ⟨Xr.out.lt, hbw.size⟩
  refine (tg_zd (H.out.below hbw) HZ.out).mono ?_
  rintro e2 v6 ⟨v, rfl, hv, hb6⟩
  obtain ⟨p6, m6, z6, rfl, ho6, hn6, hm6⟩ := hv
  replace Xd : Hid _ := Xd.out.below hb6
  replace Xr : Hid _ := Xr.out.below hb6
  replace hbw := Below.on hbw hb6
  clear hb6
  have O6 : Hid (Own v1.heap.size v6 p6 m6 z6) := ho6
  have N6 : Hid (Nf B64 z6 (z).natAbs ∧ m6 ≤ 8192) := ⟨hn6, hm6⟩
  clear ho6 hn6 hm6
  obtain ⟨so, hso⟩ : ∃ b, b = decide ((z) < 0) := ⟨_, rfl⟩
  rw [← hso]
  have HSO : Hid (so = decide ((z) < 0)) := hso
  clear hso
  clear HJ
  have HJ : Hid ((fun W' : World => W'.cell? ⟨gd, 0, none⟩ = some (.bool s) ∧ W'.cell? ⟨gd, 1, none⟩ = some (.slice q m c) ∧ W'.cell? ⟨gd, 2, none⟩ = some (.int .i64 e)) v6) := ⟨Xd.out.c0, Xd.out.c1, Xd.out.c2⟩
  refine hK _ _ HJ.out ?_
  clear hK
  refine wpJ_tk 4 (v := ?v15x4) rfl ?hy15x4 HJ.out ?_
  case hy15x4 => (intro W' hJ; obtain ⟨j0, j1, j2⟩ := hJ; go_simp; first | done | with_reducible rfl)
  refine wpJ_tk 5 (v := ?v16x5) rfl ?hy16x5 HJ.out ?_
  case hy16x5 => (intro W' hJ; obtain ⟨j0, j1, j2⟩ := hJ; go_simp; first | done | with_reducible rfl)
  obtain ⟨cr0, cr1, cr2, fr0, fr1, fr2⟩ := Xr.out
  have hner : gr < v6.heap.size := World.block_lt_of_cell? v6 _ cr0
  obtain ⟨cd0, cd1, cd2, fd0, fd1, fd2⟩ := Xd.out
  have hned : gd < v6.heap.size := World.block_lt_of_cell? v6 _ cd0
  obtain ⟨hgd0, hgd1⟩ := HGD.out
  refine wpJ_one (i := 6) (by kernel_rfl) rfl (by kernel_rfl) (fun KJ hK => ?_)
  go_simp
  have HJ2 : Hid ((fun W' : World => W'.cell? ⟨gd, 0, none⟩ = some (.bool s) ∧ W'.cell? ⟨gd, 1, none⟩ = some (.slice q m c) ∧ W'.cell? ⟨gd, 2, none⟩ = some (.int .i64 e)) (((v6.setCell ⟨gr, 0, none⟩ (.bool so)).setCell ⟨gr, 1, none⟩ (.slice p6 m6 m6)).setCell ⟨gr, 2, none⟩ (.int .i64 (e)))) := ⟨by go_simp, by go_simp, by go_simp⟩
  refine hK _ _ HJ2.out ?_
  clear hK HJ
  have HJ := HJ2
  clear HJ2
  refine wpJ_tk 7 (v := ?v17x7) rfl ?hy17x7 HJ.out ?_
  case hy17x7 => (intro W' hJ; obtain ⟨j0, j1, j2⟩ := hJ; go_simp; first | done | with_reducible rfl)
  refine wpJ_done (by kernel_rfl) ?_ _
  clear HJ
  go_wp2_with fail
  refine bodyPost_ret (v := .tuple #[DV so p6 m6 m6 (e), .int .i64 0]) (by rw [results_cell_tmp rfl]; go_simp) rfl ⟨_, rfl, ⟨p6, m6, z6, by rw [HSO.out], ?_, N6.out.1, N6.out.2⟩, ?_⟩
  · exact own_set3 O6.out HRL.out.1 HRL.out.2 _ _ _
  · exact bSet (bSet (bSet hbw _ _ _ HGr.out) _ _ _ HGr.out) _ _ _ HGr.out
set_option maxRecDepth 20000 in
set_option maxHeartbeats 8000000 in
theorem at_cd {q : Option Addr} {m c : Nat} {w : World} {z e E : Int} {s : Bool} (h : DN w s q m c e z) (hz : z ≠ 0) (hE : E ≤ e) :
    Calls Tryz.prog 74 #[DV s q m c e, .int .i64 E] w fun en w' => ∃ v, en = .returned (.tuple #[v, .int .i64 0]) ∧ AnsD w.heap.size w' v z e ∧ Below w.heap.size w w' := by
  have H : Hid (DN w s q m c e z) := h
  have HZ : Hid (z ≠ 0 ∧ E ≤ e) := ⟨hz, hE⟩
  clear h hz hE
  go_enter Tryz.func74, Tryz.ntmps74
  go_wp2_with fail
  obtain ⟨W0, hW0⟩ : ∃ W0, W0 = ((w.alloc (.cells #[.bool s, .slice q m c, .int .i64 e] 28)).alloc (.cells #[.bool false, .slice none 0 0, .int .i64 0] 28)) := ⟨_, rfl⟩
  have Xd : Hid (B3q W0 (w.heap.size) (.bool s) (.slice q m c) (.int .i64 e)) := by rw [hW0]; exact ⟨by go_simp, by go_simp, by go_simp, by go_simp, by go_simp, by go_simp⟩
  have Xr : Hid (B3q W0 (w.heap.size + 1) (.bool false) (.slice none 0 0) (.int .i64 0)) := by rw [hW0]; exact ⟨by go_simp, by go_simp, by go_simp, by go_simp, by go_simp, by go_simp⟩
  have hb0 : Below w.heap.size w W0 := by rw [hW0]; exact below2 w _ _
  rw [← hW0]
  clear hW0
  have hbw : Below w.heap.size w w := Below.refl _ _
  obtain ⟨gr, hgr⟩ : ∃ g, g = w.heap.size + 1 := ⟨_, rfl⟩
  have HGr : Hid (w.heap.size ≤ gr) := by rw [hgr]; show _ ≤ _; omega
  rw [← hgr] at Xr
  try rw [← hgr]
  obtain ⟨gd, hgd⟩ : ∃ g, g = w.heap.size := ⟨_, rfl⟩
  have HGd : Hid (w.heap.size ≤ gd) := by rw [hgd]; show _ ≤ _; omega
  rw [← hgd] at Xd
  try rw [← hgd]
  have HGD : Hid (gd ≠ gr ∧ gr ≠ gd) := by rw [hgd, hgr]; exact ⟨by omega, by omega⟩
  clear hgd hgr
  replace hbw := Below.on hbw hb0
  clear hb0
  obtain ⟨W1, hW1⟩ : ∃ W1, W1 = W0.drew := ⟨_, rfl⟩
  have hbd : Below W0.heap.size W0 W1 := by rw [hW1]; exact bDrew1 (Below.refl _ _)
  replace Xd : Hid _ := Xd.out.below hbd
  replace Xr : Hid _ := Xr.out.below hbd
  replace hbw := Below.on hbw hbd
  clear hbd
  have HJ : Hid ((fun W' : World => W'.cell? ⟨gd, 0, none⟩ = some (.bool s) ∧ W'.cell? ⟨gd, 1, none⟩ = some (.slice q m c) ∧ W'.cell? ⟨gd, 2, none⟩ = some (.int .i64 e)) W1) := ⟨Xd.out.c0, Xd.out.c1, Xd.out.c2⟩
  refine wp_region_J (fun W' => W'.cell? ⟨gd, 0, none⟩ = some (.bool s) ∧ W'.cell? ⟨gd, 1, none⟩ = some (.slice q m c) ∧ W'.cell? ⟨gd, 2, none⟩ = some (.int .i64 e)) (by kernel_rfl) ?_
  rw [← hW1]
  clear hW1
  refine wpJ_tk 1 (v := ?v18x1) rfl ?hy18x1 HJ.out ?_
  case hy18x1 => (intro W' hJ; obtain ⟨j0, j1, j2⟩ := hJ; go_simp; first | done | with_reducible rfl)
  refine wpJ_tk 2 (v := ?v19x2) rfl ?hy19x2 HJ.out ?_
  case hy19x2 => (intro W' hJ; obtain ⟨j0, j1, j2⟩ := hJ; go_simp; first | done | with_reducible rfl)
  refine wpJ_one (i := 0) (by kernel_rfl) rfl (by kernel_rfl) (fun KJ hK => ?_)
  go_simp
  refine (way_d _).mono ?_
  rintro e v1 ⟨rfl, hb1⟩
  replace Xd : Hid _ := Xd.out.below hb1
  replace Xr : Hid _ := Xr.out.below hb1
  replace hbw := Below.on hbw hb1
  clear hb1
  refine hK _ _ ⟨Xd.out.c0, Xd.out.c1, Xd.out.c2⟩ ?_
  clear hK
  refine wpJ_one (i := 3) (by kernel_rfl) rfl (by kernel_rfl) (fun KJ hK => ?_)
  go_simp
  have HRL : Hid (gr < v1.heap.size ∧ w.heap.size ≤ v1.heap.size) := ⟨Xr.out.lt, hbw.size⟩
  refine (tg_cd (H.out.below hbw) HZ.out.1 HZ.out.2).mono ?_
  rintro e2 v6 ⟨v, rfl, hv, hb6⟩
  obtain ⟨p6, m6, z6, rfl, ho6, hn6, hm6⟩ := hv
  replace Xd : Hid _ := Xd.out.below hb6
  replace Xr : Hid _ := Xr.out.below hb6
  replace hbw := Below.on hbw hb6
  clear hb6
  have O6 : Hid (Own v1.heap.size v6 p6 m6 z6) := ho6
  have N6 : Hid (Nf B64 z6 (z).natAbs ∧ m6 ≤ 8192) := ⟨hn6, hm6⟩
  clear ho6 hn6 hm6
  obtain ⟨so, hso⟩ : ∃ b, b = decide ((z) < 0) := ⟨_, rfl⟩
  rw [← hso]
  have HSO : Hid (so = decide ((z) < 0)) := hso
  clear hso
  clear HJ
  have HJ : Hid ((fun W' : World => W'.cell? ⟨gd, 0, none⟩ = some (.bool s) ∧ W'.cell? ⟨gd, 1, none⟩ = some (.slice q m c) ∧ W'.cell? ⟨gd, 2, none⟩ = some (.int .i64 e)) v6) := ⟨Xd.out.c0, Xd.out.c1, Xd.out.c2⟩
  refine hK _ _ HJ.out ?_
  clear hK
  refine wpJ_tk 4 (v := ?v20x4) rfl ?hy20x4 HJ.out ?_
  case hy20x4 => (intro W' hJ; obtain ⟨j0, j1, j2⟩ := hJ; go_simp; first | done | with_reducible rfl)
  refine wpJ_tk 5 (v := ?v21x5) rfl ?hy21x5 HJ.out ?_
  case hy21x5 => (intro W' hJ; obtain ⟨j0, j1, j2⟩ := hJ; go_simp; first | done | with_reducible rfl)
  obtain ⟨cr0, cr1, cr2, fr0, fr1, fr2⟩ := Xr.out
  have hner : gr < v6.heap.size := World.block_lt_of_cell? v6 _ cr0
  obtain ⟨cd0, cd1, cd2, fd0, fd1, fd2⟩ := Xd.out
  have hned : gd < v6.heap.size := World.block_lt_of_cell? v6 _ cd0
  obtain ⟨hgd0, hgd1⟩ := HGD.out
  refine wpJ_one (i := 6) (by kernel_rfl) rfl (by kernel_rfl) (fun KJ hK => ?_)
  go_simp
  have HJ2 : Hid ((fun W' : World => W'.cell? ⟨gd, 0, none⟩ = some (.bool s) ∧ W'.cell? ⟨gd, 1, none⟩ = some (.slice q m c) ∧ W'.cell? ⟨gd, 2, none⟩ = some (.int .i64 e)) (((v6.setCell ⟨gr, 0, none⟩ (.bool so)).setCell ⟨gr, 1, none⟩ (.slice p6 m6 m6)).setCell ⟨gr, 2, none⟩ (.int .i64 (e)))) := ⟨by go_simp, by go_simp, by go_simp⟩
  refine hK _ _ HJ2.out ?_
  clear hK HJ
  have HJ := HJ2
  clear HJ2
  refine wpJ_tk 7 (v := ?v22x7) rfl ?hy22x7 HJ.out ?_
  case hy22x7 => (intro W' hJ; obtain ⟨j0, j1, j2⟩ := hJ; go_simp; first | done | with_reducible rfl)
  refine wpJ_done (by kernel_rfl) ?_ _
  clear HJ
  go_wp2_with fail
  refine bodyPost_ret (v := .tuple #[DV so p6 m6 m6 (e), .int .i64 0]) (by rw [results_cell_tmp rfl]; go_simp) rfl ⟨_, rfl, ⟨p6, m6, z6, by rw [HSO.out], ?_, N6.out.1, N6.out.2⟩, ?_⟩
  · exact own_set3 O6.out HRL.out.1 HRL.out.2 _ _ _
  · exact bSet (bSet (bSet hbw _ _ _ HGr.out) _ _ _ HGr.out) _ _ _ HGr.out
set_option maxRecDepth 20000 in
set_option maxHeartbeats 8000000 in
theorem at_sd {q : Option Addr} {m c n : Nat} {w : World} {z e E : Int} {s : Bool} (h : DN w s q m c e z) (hz : z ≠ 0) (hE : e < E ∧ E ≤ 1048576) (hn : n = (E - e).toNat) (hT : Tab w) :
    Calls Tryz.prog 74 #[DV s q m c e, .int .i64 E] w fun en w' => MakeP w.heap.size w' en (rd false z (2 ^ n)) E ∧ Below w.heap.size w w' := by
  have H : Hid (DN w s q m c e z) := h
  have TB : Hid (Tab w) := hT
  have HZ : Hid (z ≠ 0 ∧ (e < E ∧ E ≤ 1048576) ∧ n = (E - e).toNat) := ⟨hz, hE, hn⟩
  clear h hz hE hn hT
  go_enter Tryz.func74, Tryz.ntmps74
  go_wp2_with fail
  obtain ⟨W0, hW0⟩ : ∃ W0, W0 = ((w.alloc (.cells #[.bool s, .slice q m c, .int .i64 e] 28)).alloc (.cells #[.bool false, .slice none 0 0, .int .i64 0] 28)) := ⟨_, rfl⟩
  have Xd : Hid (B3q W0 (w.heap.size) (.bool s) (.slice q m c) (.int .i64 e)) := by rw [hW0]; exact ⟨by go_simp, by go_simp, by go_simp, by go_simp, by go_simp, by go_simp⟩
  have Xr : Hid (B3q W0 (w.heap.size + 1) (.bool false) (.slice none 0 0) (.int .i64 0)) := by rw [hW0]; exact ⟨by go_simp, by go_simp, by go_simp, by go_simp, by go_simp, by go_simp⟩
  have hb0 : Below w.heap.size w W0 := by rw [hW0]; exact below2 w _ _
  rw [← hW0]
  clear hW0
  have hbw : Below w.heap.size w w := Below.refl _ _
  obtain ⟨gr, hgr⟩ : ∃ g, g = w.heap.size + 1 := ⟨_, rfl⟩
  have HGr : Hid (w.heap.size ≤ gr) := by rw [hgr]; show _ ≤ _; omega
  rw [← hgr] at Xr
  try rw [← hgr]
  obtain ⟨gd, hgd⟩ : ∃ g, g = w.heap.size := ⟨_, rfl⟩
  have HGd : Hid (w.heap.size ≤ gd) := by rw [hgd]; show _ ≤ _; omega
  rw [← hgd] at Xd
  try rw [← hgd]
  have HGD : Hid (gd ≠ gr ∧ gr ≠ gd) := by rw [hgd, hgr]; exact ⟨by omega, by omega⟩
  clear hgd hgr
  replace hbw := Below.on hbw hb0
  clear hb0
  obtain ⟨W1, hW1⟩ : ∃ W1, W1 = W0.drew := ⟨_, rfl⟩
  have hbd : Below W0.heap.size W0 W1 := by rw [hW1]; exact bDrew1 (Below.refl _ _)
  replace Xd : Hid _ := Xd.out.below hbd
  replace Xr : Hid _ := Xr.out.below hbd
  replace hbw := Below.on hbw hbd
  clear hbd
  have HJ : Hid ((fun W' : World => W'.cell? ⟨gd, 0, none⟩ = some (.bool s) ∧ W'.cell? ⟨gd, 1, none⟩ = some (.slice q m c) ∧ W'.cell? ⟨gd, 2, none⟩ = some (.int .i64 e)) W1) := ⟨Xd.out.c0, Xd.out.c1, Xd.out.c2⟩
  refine wp_region_J (fun W' => W'.cell? ⟨gd, 0, none⟩ = some (.bool s) ∧ W'.cell? ⟨gd, 1, none⟩ = some (.slice q m c) ∧ W'.cell? ⟨gd, 2, none⟩ = some (.int .i64 e)) (by kernel_rfl) ?_
  rw [← hW1]
  clear hW1
  refine wpJ_tk 1 (v := ?v23x1) rfl ?hy23x1 HJ.out ?_
  case hy23x1 => (intro W' hJ; obtain ⟨j0, j1, j2⟩ := hJ; go_simp; first | done | with_reducible rfl)
  refine wpJ_tk 2 (v := ?v24x2) rfl ?hy24x2 HJ.out ?_
  case hy24x2 => (intro W' hJ; obtain ⟨j0, j1, j2⟩ := hJ; go_simp; first | done | with_reducible rfl)
  refine wpJ_one (i := 0) (by kernel_rfl) rfl (by kernel_rfl) (fun KJ hK => ?_)
  go_simp
  refine (way_d _).mono ?_
  rintro e v1 ⟨rfl, hb1⟩
  replace Xd : Hid _ := Xd.out.below hb1
  replace Xr : Hid _ := Xr.out.below hb1
  replace hbw := Below.on hbw hb1
  clear hb1
  refine hK _ _ ⟨Xd.out.c0, Xd.out.c1, Xd.out.c2⟩ ?_
  clear hK
  refine wpJ_one (i := 3) (by kernel_rfl) rfl (by kernel_rfl) (fun KJ hK => ?_)
  go_simp
  have HRL : Hid (gr < v1.heap.size ∧ w.heap.size ≤ v1.heap.size) := ⟨Xr.out.lt, hbw.size⟩
  refine (tg_sd (H.out.below hbw) HZ.out.1 HZ.out.2.1 HZ.out.2.2 (TB.out.below hbw)).mono ?_
  rintro e2 v6 ⟨hv, hb6⟩
  obtain ⟨s6, p6, m6, eo, er, rfl, hmp⟩ := hv.open
  clear hv
  replace Xd : Hid _ := Xd.out.below hb6
  replace Xr : Hid _ := Xr.out.below hb6
  replace hbw := Below.on hbw hb6
  clear hb6
  have M6 : Hid (MP v1.heap.size v6 s6 p6 m6 eo er (rd false z (2 ^ n)) (E)) := hmp
  clear hmp
  clear HJ
  have HJ : Hid ((fun W' : World => W'.cell? ⟨gd, 0, none⟩ = some (.bool s) ∧ W'.cell? ⟨gd, 1, none⟩ = some (.slice q m c) ∧ W'.cell? ⟨gd, 2, none⟩ = some (.int .i64 e)) v6) := ⟨Xd.out.c0, Xd.out.c1, Xd.out.c2⟩
  refine hK _ _ HJ.out ?_
  clear hK
  refine wpJ_tk 4 (v := ?v25x4) rfl ?hy25x4 HJ.out ?_
  case hy25x4 => (intro W' hJ; obtain ⟨j0, j1, j2⟩ := hJ; go_simp; first | done | with_reducible rfl)
  refine wpJ_tk 5 (v := ?v26x5) rfl ?hy26x5 HJ.out ?_
  case hy26x5 => (intro W' hJ; obtain ⟨j0, j1, j2⟩ := hJ; go_simp; first | done | with_reducible rfl)
  obtain ⟨cr0, cr1, cr2, fr0, fr1, fr2⟩ := Xr.out
  have hner : gr < v6.heap.size := World.block_lt_of_cell? v6 _ cr0
  obtain ⟨cd0, cd1, cd2, fd0, fd1, fd2⟩ := Xd.out
  have hned : gd < v6.heap.size := World.block_lt_of_cell? v6 _ cd0
  obtain ⟨hgd0, hgd1⟩ := HGD.out
  refine wpJ_one (i := 6) (by kernel_rfl) rfl (by kernel_rfl) (fun KJ hK => ?_)
  go_simp
  have HJ2 : Hid ((fun W' : World => W'.cell? ⟨gd, 0, none⟩ = some (.bool s) ∧ W'.cell? ⟨gd, 1, none⟩ = some (.slice q m c) ∧ W'.cell? ⟨gd, 2, none⟩ = some (.int .i64 e)) (((v6.setCell ⟨gr, 0, none⟩ (.bool s6)).setCell ⟨gr, 1, none⟩ (.slice p6 m6 m6)).setCell ⟨gr, 2, none⟩ (.int .i64 eo))) := ⟨by go_simp, by go_simp, by go_simp⟩
  refine hK _ _ HJ2.out ?_
  clear hK HJ
  have HJ := HJ2
  clear HJ2
  refine wpJ_tk 7 (v := ?v27x7) rfl ?hy27x7 HJ.out ?_
  case hy27x7 => (intro W' hJ; obtain ⟨j0, j1, j2⟩ := hJ; go_simp; first | done | with_reducible rfl)
  refine wpJ_done (by kernel_rfl) ?_ _
  clear HJ
  go_wp2_with fail
  refine bodyPost_ret (v := .tuple #[DV s6 p6 m6 m6 eo, .int .i64 er]) (by rw [results_cell_tmp rfl]; go_simp) rfl ⟨(M6.out.set HRL.out.1 HRL.out.2 _ _ _).close, ?_⟩
  exact bSet (bSet (bSet hbw _ _ _ HGr.out) _ _ _ HGr.out) _ _ _ HGr.out
end Go.Proofs.YtoalblaklcekeaaGreatDoor
namespace Go.Proofs.YtoalblaklcekeaaGreatDoor
open Go.RowKit
theorem bwAlloc (w : World) (o : Obj) : Below w.heap.size w (w.alloc o) := (Below.refl _ _).alloc (Nat.le_refl _) o
theorem bwOn {w w1 w2 : World} (h : Below w.heap.size w w1) (k : Below w1.heap.size w1 w2) : Below w.heap.size w w2 := h.trans (k.mono h.size)
theorem bwDrew {B : Nat} {a w : World} (h : Below B a w) : Below B a w.drew := ⟨h.os, h.tape, h.output, h.size, h.block⟩
theorem bwSet {B : Nat} {a w : World} (h : Below B a w) (g o : Nat) (v : Value) (hB : B ≤ g) : Below B a (w.setCell ⟨g, o, none⟩ v) :=
  h.trans ((Wr.refl g o 1 w).setCell o ⟨by omega, by omega⟩ v |>.below hB)
theorem results_c1 {fn : Func} {p : Tmp} {ty : TypeId} (h : fn.results = #[.cell p ty]) (tmps : Array Value) (P : Program) (w : World) :
    (results fn tmps).run P w = ((asAddr (tmps.getD p undef)).run P w).andThen fun a w₁ => (loadVar ty a).run P w₁ := by
  simp only [results, h]
  simp [Sem.run_bind, Result.andThen]
theorem results_ct {fn : Func} {p q : Tmp} {ty : TypeId} (h : fn.results = #[.cell p ty, .tmp q]) (tmps : Array Value) (P : Program) (w : World) :
    (results fn tmps).run P w = ((asAddr (tmps.getD p undef)).run P w).andThen fun a w₁ => ((loadVar ty a).run P w₁).andThen fun v w₂ => .ok (.tuple #[v, tmps.getD q undef]) w₂ := by
  simp only [results, h]
  simp [Sem.run_bind, Result.andThen]

abbrev WV (p m l : Int) : Value := .agg #[.int .i64 p, .int .i64 m, .int .i64 l]
structure B3 (W : World) (g : Nat) (v0 v1 v2 : Value) : Prop where
  c0 : W.cell? ⟨g, 0, none⟩ = some v0
  c1 : W.cell? ⟨g, 1, none⟩ = some v1
  c2 : W.cell? ⟨g, 2, none⟩ = some v2
  f0 : W.frozen? ⟨g, 0, none⟩ = false
  f1 : W.frozen? ⟨g, 1, none⟩ = false
  f2 : W.frozen? ⟨g, 2, none⟩ = false
theorem B3.below {W W' : World} {g : Nat} {v0 v1 v2 : Value} (h : B3 W g v0 v1 v2) (hb : Below W.heap.size W W') : B3 W' g v0 v1 v2 := by
  have hl : g < W.heap.size := World.block_lt_of_cell? W _ h.c0
  exact ⟨(hb.cell (p := ⟨g, 0, none⟩) hl).trans h.c0, (hb.cell (p := ⟨g, 1, none⟩) hl).trans h.c1, (hb.cell (p := ⟨g, 2, none⟩) hl).trans h.c2,
    (hb.frozen (p := ⟨g, 0, none⟩) hl).trans h.f0, (hb.frozen (p := ⟨g, 1, none⟩) hl).trans h.f1, (hb.frozen (p := ⟨g, 2, none⟩) hl).trans h.f2⟩
theorem B3.new (w : World) (ty : TypeId) (v0 v1 v2 : Value) : B3 (w.alloc (.cells #[v0, v1, v2] ty)) w.heap.size v0 v1 v2 :=
  ⟨by go_simp, by go_simp, by go_simp, by go_simp, by go_simp, by go_simp⟩
theorem B3.lt {W : World} {g : Nat} {v0 v1 v2 : Value} (h : B3 W g v0 v1 v2) : g < W.heap.size := World.block_lt_of_cell? W _ h.c0

theorem widths_32 (w : World) : Calls Tryz.prog 100 #[.int .i64 32] w fun e w' => e = .returned (WV 32 24 (-149)) ∧ Below w.heap.size w w' := by
  go_enter Tryz.func100, Tryz.ntmps100
  go_wp2_with fail
  exact bodyPost_ret (v := WV 32 24 (-149)) (by rw [results_c1 rfl]; go_simp) rfl ⟨rfl, bwAlloc w _⟩
theorem widths_64 (w : World) : Calls Tryz.prog 100 #[.int .i64 64] w fun e w' => e = .returned (WV 64 53 (-1074)) ∧ Below w.heap.size w w' := by
  go_enter Tryz.func100, Tryz.ntmps100
  go_wp2_with fail
  exact bodyPost_ret (v := WV 64 53 (-1074)) (by rw [results_c1 rfl]; go_simp) rfl ⟨rfl, bwAlloc w _⟩
theorem widths_x (f : Int) (h1 : f ≠ 32) (h2 : f ≠ 64) (w : World) : Calls Tryz.prog 100 #[.int .i64 f] w fun e w' => e = .returned (WV 0 0 0) ∧ Below w.heap.size w w' := by
  have h1' : (f == 32) = false := by simp [h1]
  have h2' : (f == 64) = false := by simp [h2]
  go_enter Tryz.func100, Tryz.ntmps100
  go_wp2_with fail
  exact bodyPost_ret (v := WV 0 0 0) (by rw [results_c1 rfl]; go_simp) rfl ⟨rfl, bwAlloc w _⟩
set_option maxRecDepth 20000 in
theorem of_32 (w : World) : Calls Tryz.prog 55 #[.int .i64 32] w fun e w' => e = .returned (.tuple #[WV 32 24 (-149), .int .i64 0]) ∧ Below w.heap.size w w' := by
  go_enter Tryz.func55, Tryz.ntmps55
  go_wp2_with fail
  have X0 : B3 (w.alloc (.cells #[.int .i64 0, .int .i64 0, .int .i64 0] 103)) w.heap.size (.int .i64 0) (.int .i64 0) (.int .i64 0) := B3.new ..
  have hb0 : Below w.heap.size w (w.alloc (.cells #[.int .i64 0, .int .i64 0, .int .i64 0] 103)) := bwAlloc w _
  generalize w.alloc (.cells #[.int .i64 0, .int .i64 0, .int .i64 0] 103) = W at *
  obtain ⟨g, hg⟩ : ∃ g, g = w.heap.size := ⟨_, rfl⟩
  have HG : Hid (w.heap.size ≤ g) := by show _ ≤ _; omega
  rw [← hg] at X0 ⊢
  clear hg
  refine (widths_32 _).mono ?_
  rintro e w1 ⟨rfl, hb1⟩
  obtain ⟨d0, d1, d2, d3, d4, d5⟩ := X0.below hb1
  have hgl : g < w1.heap.size := (X0.below hb1).lt
  have HB : Hid (Below w.heap.size w w1) := bwOn hb0 hb1
  clear hb0 hb1 X0
  go_wp2_with fail
  refine bodyPost_ret (v := .tuple #[WV 32 24 (-149), .int .i64 0]) (by rw [results_ct rfl]; go_simp) rfl ⟨rfl, ?_⟩
  exact Below.alloc (bwSet (bwSet (bwSet HB.out _ _ _ HG.out) _ _ _ HG.out) _ _ _ HG.out) (by simpa using HB.out.size) _
set_option maxRecDepth 20000 in
theorem of_64 (w : World) : Calls Tryz.prog 55 #[.int .i64 64] w fun e w' => e = .returned (.tuple #[WV 64 53 (-1074), .int .i64 0]) ∧ Below w.heap.size w w' := by
  go_enter Tryz.func55, Tryz.ntmps55
  go_wp2_with fail
  have X0 : B3 (w.alloc (.cells #[.int .i64 0, .int .i64 0, .int .i64 0] 103)) w.heap.size (.int .i64 0) (.int .i64 0) (.int .i64 0) := B3.new ..
  have hb0 : Below w.heap.size w (w.alloc (.cells #[.int .i64 0, .int .i64 0, .int .i64 0] 103)) := bwAlloc w _
  generalize w.alloc (.cells #[.int .i64 0, .int .i64 0, .int .i64 0] 103) = W at *
  obtain ⟨g, hg⟩ : ∃ g, g = w.heap.size := ⟨_, rfl⟩
  have HG : Hid (w.heap.size ≤ g) := by show _ ≤ _; omega
  rw [← hg] at X0 ⊢
  clear hg
  refine (widths_64 _).mono ?_
  rintro e w1 ⟨rfl, hb1⟩
  obtain ⟨d0, d1, d2, d3, d4, d5⟩ := X0.below hb1
  have hgl : g < w1.heap.size := (X0.below hb1).lt
  have HB : Hid (Below w.heap.size w w1) := bwOn hb0 hb1
  clear hb0 hb1 X0
  go_wp2_with fail
  refine bodyPost_ret (v := .tuple #[WV 64 53 (-1074), .int .i64 0]) (by rw [results_ct rfl]; go_simp) rfl ⟨rfl, ?_⟩
  exact Below.alloc (bwSet (bwSet (bwSet HB.out _ _ _ HG.out) _ _ _ HG.out) _ _ _ HG.out) (by simpa using HB.out.size) _
set_option maxRecDepth 20000 in
theorem of_x (f : Int) (h1 : f ≠ 32) (h2 : f ≠ 64) (w : World) : Calls Tryz.prog 55 #[.int .i64 f] w fun e w' => e = .returned (.tuple #[WV 0 0 0, .int .i64 1]) ∧ Below w.heap.size w w' := by
  go_enter Tryz.func55, Tryz.ntmps55
  go_wp2_with fail
  have X0 : B3 (w.alloc (.cells #[.int .i64 0, .int .i64 0, .int .i64 0] 103)) w.heap.size (.int .i64 0) (.int .i64 0) (.int .i64 0) := B3.new ..
  have hb0 : Below w.heap.size w (w.alloc (.cells #[.int .i64 0, .int .i64 0, .int .i64 0] 103)) := bwAlloc w _
  generalize w.alloc (.cells #[.int .i64 0, .int .i64 0, .int .i64 0] 103) = W at *
  obtain ⟨g, hg⟩ : ∃ g, g = w.heap.size := ⟨_, rfl⟩
  have HG : Hid (w.heap.size ≤ g) := by show _ ≤ _; omega
  rw [← hg] at X0 ⊢
  clear hg
  refine (widths_x f h1 h2 _).mono ?_
  rintro e w1 ⟨rfl, hb1⟩
  obtain ⟨d0, d1, d2, d3, d4, d5⟩ := X0.below hb1
  have hgl : g < w1.heap.size := (X0.below hb1).lt
  have HB : Hid (Below w.heap.size w w1) := bwOn hb0 hb1
  clear hb0 hb1 X0
  go_wp2_with fail
  refine bodyPost_ret (v := .tuple #[WV 0 0 0, .int .i64 1]) (by rw [results_ct rfl]; go_simp) rfl ⟨rfl, ?_⟩
  exact Below.alloc (bwSet (bwSet (bwSet HB.out _ _ _ HG.out) _ _ _ HG.out) _ _ _ HG.out) (by simpa using HB.out.size) _
theorem stored_32 (w : World) : Calls Tryz.prog 101 #[WV 32 24 (-149)] w fun e w' => e = .returned (.int .i64 23) ∧ Below w.heap.size w w' := by
  go_enter Tryz.func101, Tryz.ntmps101
  go_wp2_with fail
  go_ret
  exact ⟨rfl, bwAlloc w _⟩
theorem sign_32 (w : World) : Calls Tryz.prog 104 #[WV 32 24 (-149)] w fun e w' => e = .returned (.int .u64 2147483648) ∧ Below w.heap.size w w' := by
  go_enter Tryz.func104, Tryz.ntmps104
  go_wp2_with fail
  go_ret
  exact ⟨rfl, bwAlloc w _⟩
set_option maxRecDepth 20000 in
theorem infinity_32 (w : World) : Calls Tryz.prog 98 #[WV 32 24 (-149)] w fun e w' => e = .returned (.int .u64 2139095040) ∧ Below w.heap.size w w' := by
  go_enter Tryz.func98, Tryz.ntmps98
  go_wp2_with fail
  have X0 : B3 (w.alloc (.cells #[.int .i64 32, .int .i64 24, .int .i64 (-149)] 103)) w.heap.size (.int .i64 32) (.int .i64 24) (.int .i64 (-149)) := B3.new ..
  have hb0 : Below w.heap.size w (w.alloc (.cells #[.int .i64 32, .int .i64 24, .int .i64 (-149)] 103)) := bwAlloc w _
  generalize w.alloc (.cells #[.int .i64 32, .int .i64 24, .int .i64 (-149)] 103) = W at *
  obtain ⟨g, hg⟩ : ∃ g, g = w.heap.size := ⟨_, rfl⟩
  have HG : Hid (w.heap.size ≤ g) := by show _ ≤ _; omega
  rw [← hg] at X0 ⊢
  clear hg
  have XB : Hid (B3 W.drew g (.int .i64 32) (.int .i64 24) (.int .i64 (-149))) := ⟨X0.c0, X0.c1, X0.c2, X0.f0, X0.f1, X0.f2⟩
  have HBW : Hid (Below w.heap.size w W.drew) := bwDrew hb0
  obtain ⟨c0, c1, c2, c3, c4, c5⟩ := X0
  clear hb0
  go_region_with (first
      | (go_at_call 104; (with_reducible refine (sign_32 _).mono ?_); rintro e w1 ⟨rfl, hb1⟩; obtain ⟨d0, d1, d2, d3, d4, d5⟩ := XB.out.below hb1; have HBW1 : Hid (Below w.heap.size w w1) := bwOn HBW.out hb1; clear hb1)
      | (go_at_call 101; (with_reducible refine (stored_32 _).mono ?_); rintro e w2 ⟨rfl, hb2⟩; have HBW2 : Hid (Below w.heap.size w w2) := bwOn HBW1.out hb2; clear hb2))
  all_goals
    (go_wp2_with fail
     go_ret
     exact ⟨rfl, HBW2.out⟩)
theorem stored_64 (w : World) : Calls Tryz.prog 101 #[WV 64 53 (-1074)] w fun e w' => e = .returned (.int .i64 52) ∧ Below w.heap.size w w' := by
  go_enter Tryz.func101, Tryz.ntmps101
  go_wp2_with fail
  go_ret
  exact ⟨rfl, bwAlloc w _⟩
theorem sign_64 (w : World) : Calls Tryz.prog 104 #[WV 64 53 (-1074)] w fun e w' => e = .returned (.int .u64 9223372036854775808) ∧ Below w.heap.size w w' := by
  go_enter Tryz.func104, Tryz.ntmps104
  go_wp2_with fail
  go_ret
  exact ⟨rfl, bwAlloc w _⟩
set_option maxRecDepth 20000 in
theorem infinity_64 (w : World) : Calls Tryz.prog 98 #[WV 64 53 (-1074)] w fun e w' => e = .returned (.int .u64 9218868437227405312) ∧ Below w.heap.size w w' := by
  go_enter Tryz.func98, Tryz.ntmps98
  go_wp2_with fail
  have X0 : B3 (w.alloc (.cells #[.int .i64 64, .int .i64 53, .int .i64 (-1074)] 103)) w.heap.size (.int .i64 64) (.int .i64 53) (.int .i64 (-1074)) := B3.new ..
  have hb0 : Below w.heap.size w (w.alloc (.cells #[.int .i64 64, .int .i64 53, .int .i64 (-1074)] 103)) := bwAlloc w _
  generalize w.alloc (.cells #[.int .i64 64, .int .i64 53, .int .i64 (-1074)] 103) = W at *
  obtain ⟨g, hg⟩ : ∃ g, g = w.heap.size := ⟨_, rfl⟩
  have HG : Hid (w.heap.size ≤ g) := by show _ ≤ _; omega
  rw [← hg] at X0 ⊢
  clear hg
  have XB : Hid (B3 W.drew g (.int .i64 64) (.int .i64 53) (.int .i64 (-1074))) := ⟨X0.c0, X0.c1, X0.c2, X0.f0, X0.f1, X0.f2⟩
  have HBW : Hid (Below w.heap.size w W.drew) := bwDrew hb0
  obtain ⟨c0, c1, c2, c3, c4, c5⟩ := X0
  clear hb0
  go_region_with (first
      | (go_at_call 104; (with_reducible refine (sign_64 _).mono ?_); rintro e w1 ⟨rfl, hb1⟩; obtain ⟨d0, d1, d2, d3, d4, d5⟩ := XB.out.below hb1; have HBW1 : Hid (Below w.heap.size w w1) := bwOn HBW.out hb1; clear hb1)
      | (go_at_call 101; (with_reducible refine (stored_64 _).mono ?_); rintro e w2 ⟨rfl, hb2⟩; have HBW2 : Hid (Below w.heap.size w w2) := bwOn HBW1.out hb2; clear hb2))
  all_goals
    (go_wp2_with fail
     go_ret
     exact ⟨rfl, HBW2.out⟩)
end Go.Proofs.YtoalblaklcekeaaGreatDoor
namespace Go.Proofs.YtoalblaklcekeaaGreatDoor
open Go.RowKit Go.Shelf
def bl_renLen : Ren := ⟨fun x => match x with | 129 => 134 | n => n, fun x => match x with | 53 => 22 | 3 => 3 | 4 => 4 | 46 => 226 | 5 => 5 | 9 => 9 | n => n, fun n => n⟩
theorem bl_laysLen : Lays.n129 Tryz.prog bl_renLen :=
  { mixed := by kernel_rfl, f129 := Tryz.func134.trans (congrArg some (by kernel_rfl)),
    t3 := Tryz.underlying3, a3 := Tryz.isAgg3, z3 := Tryz.sizeOf3, v3 := Tryz.zeroValue3, t4 := Tryz.underlying4, a4 := Tryz.isAgg4, z4 := Tryz.sizeOf4, v4 := Tryz.zeroValue4,
    t5 := Tryz.underlying5, a5 := Tryz.isAgg5, z5 := Tryz.sizeOf5, v5 := Tryz.zeroValue5, t9 := Tryz.underlying9, a9 := Tryz.isAgg9, z9 := Tryz.sizeOf9, v9 := Tryz.zeroValue9,
    t46 := Tryz.underlying226, a46 := Tryz.isAgg226, z46 := Tryz.sizeOf226, v46 := Tryz.zeroValue226, t53 := Tryz.underlying22, a53 := Tryz.isAgg22, z53 := Tryz.sizeOf22, v53 := Tryz.zeroValue22 }

def bl_bitsN (n : Nat) : Nat := if n = 0 then 0 else n.log2 + 1
theorem bl_bitsN_zero : bl_bitsN 0 = 0 := rfl
theorem bl_bitsN_lt (n : Nat) : n < 2 ^ bl_bitsN n := by
  unfold bl_bitsN
  split
  · rename_i h; subst h; decide
  · exact Nat.lt_log2_self
theorem bl_bitsN_le (n : Nat) (h : n ≠ 0) : 2 ^ (bl_bitsN n - 1) ≤ n := by
  unfold bl_bitsN
  rw [if_neg h, Nat.add_sub_cancel]
  exact Nat.log2_self_le h
theorem bl_bitsN_unique {n k : Nat} (h1 : n < 2 ^ k) (h2 : n ≠ 0 → 2 ^ (k - 1) ≤ n) (h3 : n = 0 → k = 0) : bl_bitsN n = k := by
  by_cases h0 : n = 0
  · subst h0; rw [h3 rfl]; rfl
  · have a1 := bl_bitsN_lt n
    have a2 := bl_bitsN_le n h0
    have b2 := h2 h0
    have c1 : bl_bitsN n - 1 < k := (Nat.pow_lt_pow_iff_right (by decide : 1 < 2)).1 (Nat.lt_of_le_of_lt a2 h1)
    have c2 : k - 1 < bl_bitsN n := (Nat.pow_lt_pow_iff_right (by decide : 1 < 2)).1 (Nat.lt_of_le_of_lt b2 a1)
    have c3 : bl_bitsN n ≠ 0 := by unfold bl_bitsN; rw [if_neg h0]; omega
    omega
theorem bl_bitsN_half (n : Nat) (h : n ≠ 0) : bl_bitsN n = 1 + bl_bitsN (n / 2) := by
  refine bl_bitsN_unique ?_ ?_ (fun e => absurd e h)
  · have := bl_bitsN_lt (n / 2)
    rw [Nat.add_comm, Nat.pow_succ]; omega
  · intro _
    by_cases h2 : n / 2 = 0
    · rw [h2]; simp [bl_bitsN]; omega
    · have a := bl_bitsN_le _ h2
      have c3 : bl_bitsN (n / 2) ≠ 0 := by unfold bl_bitsN; rw [if_neg h2]; omega
      have e : 1 + bl_bitsN (n / 2) - 1 = bl_bitsN (n / 2) - 1 + 1 := by omega
      rw [e, Nat.pow_succ]; omega
theorem bl_bitLen_eq : ∀ (k n : Nat), n < 2 ^ k → k ≤ 64 → Lib.bitLen n = bl_bitsN n := by
  intro k
  induction k with
  | zero => intro n h _; have : n = 0 := by simpa using h
            subst this; rfl
  | succ k ih =>
    intro n h hk
    by_cases h0 : n = 0
    · subst h0; rfl
    · rw [Lib.bitLen_half n h0 (Nat.lt_of_lt_of_le h (Nat.pow_le_pow_right (by decide) hk)), bl_bitsN_half n h0, ih (n / 2) (by rw [Nat.pow_succ] at h; omega) (by omega)]

theorem bl_len_any (x : Nat) (w : World) (hx : x < B64) : Calls Tryz.prog 134 #[U x] w fun e w' => e = .returned (.int .i64 (bl_bitsN x)) ∧ w' = w := by
  rw [B64_eq] at hx
  have h := Any.bits_Len64 bl_laysLen (x : Int) w (by omega) (by omega)
  rw [Int.toNat_natCast, bl_bitLen_eq 64 x hx (Nat.le_refl _)] at h
  exact h

theorem land_two_pow (b k : Nat) : b &&& 2 ^ k = if b / 2 ^ k % 2 = 1 then 2 ^ k else 0 := by
  refine Nat.eq_of_testBit_eq fun i => ?_
  rw [Nat.testBit_and, Nat.testBit_two_pow]
  by_cases h : k = i
  · subst h
    by_cases h2 : b / 2 ^ k % 2 = 1
    · rw [if_pos h2, Nat.testBit_two_pow_self]; simp [Nat.testBit_eq_decide_div_mod_eq, h2]
    · rw [if_neg h2]; simp [Nat.testBit_eq_decide_div_mod_eq, h2]
  · by_cases h2 : b / 2 ^ k % 2 = 1
    · rw [if_pos h2, Nat.testBit_two_pow]; simp [h]
    · rw [if_neg h2]; simp [h]
theorem sign_and (b S k : Nat) (hS : S = 2 ^ k) (hk : k < 64) (hb : b < 2 * S) : bits BinOp.and IntKind.u64 (b : Int) (S : Int) = ((if S ≤ b then S else 0 : Nat) : Int) := by
  have h1 : S ≤ 9223372036854775808 := by rw [hS]; exact Nat.le_trans (Nat.pow_le_pow_right (by decide) (by omega : k ≤ 63)) (by decide)
  rw [bits_and_u64_nat b S (by omega) (by omega)]
  congr 1
  rw [hS] at hb ⊢
  rw [land_two_pow]
  have hp := Nat.two_pow_pos k
  by_cases h : 2 ^ k ≤ b
  · have : b / 2 ^ k = 1 := by
      rw [Nat.div_eq_of_lt_le] <;> omega
    rw [this, if_pos rfl, if_pos h]
  · rw [Nat.div_eq_of_lt (by omega), if_neg (by decide), if_neg h]
theorem andNot_bv (b k : Nat) (hb : b < 2 ^ (k + 1)) (hk : k < 64) : (BitVec.ofNat 64 b &&& ~~~ BitVec.ofNat 64 (2 ^ k)) = BitVec.ofNat 64 (b % 2 ^ k) := by
  refine BitVec.eq_of_getLsbD_eq fun i hi => ?_
  simp only [BitVec.getLsbD_and, BitVec.getLsbD_not, BitVec.getLsbD_ofNat, Nat.testBit_two_pow, Nat.testBit_mod_two_pow, hi, decide_true, Bool.true_and]
  rcases Nat.lt_trichotomy i k with h | h | h
  · have h2 : ¬ k = i := by omega
    simp [h, h2]
  · subst h; simp
  · have h2 : b.testBit i = false := Nat.testBit_lt_two_pow (Nat.lt_of_lt_of_le hb (Nat.pow_le_pow_right (by decide) h))
    simp [h2]
theorem sign_andNot (b S k : Nat) (hS : S = 2 ^ k) (hk : k < 64) (hb : b < 2 * S) : bits BinOp.andNot IntKind.u64 (b : Int) (S : Int) = ((b % S : Nat) : Int) := by
  have h1 : S ≤ 9223372036854775808 := by rw [hS]; exact Nat.le_trans (Nat.pow_le_pow_right (by decide) (by omega : k ≤ 63)) (by decide)
  have hb2 : b < 2 ^ (k + 1) := by rw [Nat.pow_succ, ← hS]; omega
  show IntKind.u64.wrap ((BitVec.ofInt 64 (b : Int) &&& ~~~ BitVec.ofInt 64 (S : Int)).toNat : Int) = _
  rw [BitVec.ofInt_natCast, BitVec.ofInt_natCast, hS, andNot_bv b k hb2 hk, ← hS, BitVec.toNat_ofNat, IntKind.wrap_u64]
  have h2 : b % S < S := Nat.mod_lt _ (by rw [hS]; exact Nat.two_pow_pos k)
  omega
theorem sign_or (s S k : Nat) (hS : S = 2 ^ k) (hk : k < 64) (hs : s < S) : bits BinOp.or IntKind.u64 (S : Int) (s : Int) = ((S + s : Nat) : Int) := by
  have h1 : S ≤ 9223372036854775808 := by rw [hS]; exact Nat.le_trans (Nat.pow_le_pow_right (by decide) (by omega : k ≤ 63)) (by decide)
  have h2 := Nat.two_pow_add_eq_or_of_lt (i := k) (b := s) (hS ▸ hs) 1
  rw [Nat.mul_one] at h2
  rw [bits_or_u64_nat S s (by omega) (by omega), hS, ← h2]
theorem bl_gt32 {b : Nat} (h : 4294967296 ≤ b) : 32 < bl_bitsN b := by
  rcases Nat.lt_or_ge 32 (bl_bitsN b) with e | e
  · exact e
  · have h1 := bl_bitsN_lt b
    have h2 : 2 ^ bl_bitsN b ≤ 2 ^ 32 := Nat.pow_le_pow_right (by decide) e
    omega
theorem bl_le {b k : Nat} (h : b < 2 ^ k) : bl_bitsN b ≤ k := by
  by_cases h0 : b = 0
  · subst h0; rw [bl_bitsN_zero]; omega
  · have h1 := bl_bitsN_le b h0
    have h2 := (Nat.pow_lt_pow_iff_right (by decide : 1 < 2)).1 (Nat.lt_of_le_of_lt h1 h)
    omega
abbrev PV (p m l : Int) (s : Bool) (z : Nat) : Value := .agg #[.int .i64 p, .int .i64 m, .int .i64 l, .bool s, U z]
structure B5q (W : World) (g : Nat) (v0 v1 v2 v3 v4 : Value) : Prop where
  c0 : W.cell? ⟨g, 0, none⟩ = some v0
  c1 : W.cell? ⟨g, 1, none⟩ = some v1
  c2 : W.cell? ⟨g, 2, none⟩ = some v2
  c3 : W.cell? ⟨g, 3, none⟩ = some v3
  c4 : W.cell? ⟨g, 4, none⟩ = some v4
  f0 : W.frozen? ⟨g, 0, none⟩ = false
  f1 : W.frozen? ⟨g, 1, none⟩ = false
  f2 : W.frozen? ⟨g, 2, none⟩ = false
  f3 : W.frozen? ⟨g, 3, none⟩ = false
  f4 : W.frozen? ⟨g, 4, none⟩ = false
theorem B5q.below {W W' : World} {g : Nat} {v0 v1 v2 v3 v4 : Value} (h : B5q W g v0 v1 v2 v3 v4) (hb : Below W.heap.size W W') : B5q W' g v0 v1 v2 v3 v4 := by
  have hl : g < W.heap.size := World.block_lt_of_cell? W _ h.c0
  exact ⟨(hb.cell (p := ⟨g, 0, none⟩) hl).trans h.c0, (hb.cell (p := ⟨g, 1, none⟩) hl).trans h.c1, (hb.cell (p := ⟨g, 2, none⟩) hl).trans h.c2, (hb.cell (p := ⟨g, 3, none⟩) hl).trans h.c3, (hb.cell (p := ⟨g, 4, none⟩) hl).trans h.c4,
    (hb.frozen (p := ⟨g, 0, none⟩) hl).trans h.f0, (hb.frozen (p := ⟨g, 1, none⟩) hl).trans h.f1, (hb.frozen (p := ⟨g, 2, none⟩) hl).trans h.f2, (hb.frozen (p := ⟨g, 3, none⟩) hl).trans h.f3, (hb.frozen (p := ⟨g, 4, none⟩) hl).trans h.f4⟩
theorem B5q.new (w : World) (ty : TypeId) (v0 v1 v2 v3 v4 : Value) : B5q (w.alloc (.cells #[v0, v1, v2, v3, v4] ty)) w.heap.size v0 v1 v2 v3 v4 :=
  ⟨by go_simp, by go_simp, by go_simp, by go_simp, by go_simp, by go_simp, by go_simp, by go_simp, by go_simp, by go_simp⟩
theorem B5q.lt {W : World} {g : Nat} {v0 v1 v2 v3 v4 : Value} (h : B5q W g v0 v1 v2 v3 v4) : g < W.heap.size := World.block_lt_of_cell? W _ h.c0
theorem B5q.drew {W : World} {g : Nat} {v0 v1 v2 v3 v4 : Value} (h : B5q W g v0 v1 v2 v3 v4) : B5q W.drew g v0 v1 v2 v3 v4 := ⟨h.c0, h.c1, h.c2, h.c3, h.c4, h.f0, h.f1, h.f2, h.f3, h.f4⟩
theorem B3.drew {W : World} {g : Nat} {v0 v1 v2 : Value} (h : B3 W g v0 v1 v2) : B3 W.drew g v0 v1 v2 := ⟨h.c0, h.c1, h.c2, h.f0, h.f1, h.f2⟩
set_option maxRecDepth 20000 in
set_option maxHeartbeats 4000000 in
theorem beyond_64 (w : World) : Calls Tryz.prog 144 #[WV 64 53 (-1074)] w fun e w' => e = .returned (.int .i64 1024) ∧ Below w.heap.size w w' := by
  go_enter Tryz.func144, Tryz.ntmps144
  go_wp2_with fail
  have X0 : B3 (w.alloc (.cells #[.int .i64 64, .int .i64 53, .int .i64 (-1074)] 103)) w.heap.size (.int .i64 64) (.int .i64 53) (.int .i64 (-1074)) := B3.new ..
  have hb0 : Below w.heap.size w (w.alloc (.cells #[.int .i64 64, .int .i64 53, .int .i64 (-1074)] 103)) := bwAlloc w _
  generalize w.alloc (.cells #[.int .i64 64, .int .i64 53, .int .i64 (-1074)] 103) = W at *
  obtain ⟨g, hg⟩ : ∃ g, g = w.heap.size := ⟨_, rfl⟩
  rw [← hg] at X0 ⊢
  clear hg
  have XB : Hid (B3 W.drew g (.int .i64 64) (.int .i64 53) (.int .i64 (-1074))) := X0.drew
  have HBW : Hid (Below w.heap.size w W.drew) := bwDrew hb0
  have XW : Hid (B3 W g (.int .i64 64) (.int .i64 53) (.int .i64 (-1074))) := X0
  have HB0 : Hid (Below w.heap.size w W) := hb0
  clear X0 hb0
  refine wp_region_J (fun W' => B3 W' g (.int .i64 64) (.int .i64 53) (.int .i64 (-1074))) (by kernel_rfl) ?_
  refine wpJ_take (i := 0) (v := ?v1x0) rfl (by kernel_rfl) (by kernel_rfl) (by kernel_rfl) (fun _ _ _ h => h) (by rfl) ?hy1x0 XB.out ?rest1x0
  case hy1x0 => (intro W' hJ; obtain ⟨c0, c1, c2, c3, c4, c5⟩ := hJ; go_simp; first | done | with_reducible rfl)
  refine wpJ_take (i := 2) (v := ?v2x2) rfl (by kernel_rfl) (by kernel_rfl) (by kernel_rfl) (fun _ _ _ h => h) (by rfl) ?hy2x2 XB.out ?rest2x2
  case hy2x2 => (intro W' hJ; obtain ⟨c0, c1, c2, c3, c4, c5⟩ := hJ; go_simp; first | done | with_reducible rfl)
  refine wpJ_one (i := 1) (by kernel_rfl) rfl (by rfl) (fun K hK => ?_)
  go_simp
  refine (infinity_64 _).mono ?_
  rintro e w1 ⟨rfl, hb1⟩
  have Xw1 : Hid (B3 w1 g (.int .i64 64) (.int .i64 53) (.int .i64 (-1074))) := XB.out.below hb1
  have HBw1 : Hid (Below w.heap.size w w1) := bwOn HBW.out hb1
  clear hb1
  refine hK _ _ Xw1.out ?_
  clear hK
  refine wpJ_one (i := 3) (by kernel_rfl) rfl (by rfl) (fun K hK => ?_)
  go_simp
  refine (stored_64 _).mono ?_
  rintro e w2 ⟨rfl, hb2⟩
  have Xw2 : Hid (B3 w2 g (.int .i64 64) (.int .i64 53) (.int .i64 (-1074))) := Xw1.out.below hb2
  have HBw2 : Hid (Below w.heap.size w w2) := bwOn HBw1.out hb2
  clear hb2
  refine hK _ _ Xw2.out ?_
  clear hK
  refine wpJ_take (i := 4) (v := ?v3x4) rfl (by kernel_rfl) (by kernel_rfl) (by kernel_rfl) (fun _ _ _ h => h) (by rfl) ?hy3x4 Xw2.out ?rest3x4
  case hy3x4 => (intro W' hJ; obtain ⟨c0, c1, c2, c3, c4, c5⟩ := hJ; go_simp; first | done | with_reducible rfl)
  refine wpJ_take (i := 5) (v := ?v4x5) rfl (by kernel_rfl) (by kernel_rfl) (by kernel_rfl) (fun _ _ _ h => h) (by rfl) ?hy4x5 Xw2.out ?rest4x5
  case hy4x5 => (intro W' hJ; obtain ⟨c0, c1, c2, c3, c4, c5⟩ := hJ; go_simp; first | done | with_reducible rfl)
  refine wpJ_take (i := 6) (v := ?v5x6) rfl (by kernel_rfl) (by kernel_rfl) (by kernel_rfl) (fun _ _ _ h => h) (by rfl) ?hy5x6 Xw2.out ?rest5x6
  case hy5x6 => (intro W' hJ; obtain ⟨c0, c1, c2, c3, c4, c5⟩ := hJ; go_simp; first | done | with_reducible rfl)
  refine wpJ_done (by kernel_rfl) ?_ _
  clear XB HBW XW HB0 Xw1 HBw1
  have XB : Hid (B3 w2.drew g (.int .i64 64) (.int .i64 53) (.int .i64 (-1074))) := Xw2.out.drew
  have HBW : Hid (Below w.heap.size w w2.drew) := bwDrew HBw2.out
  have hwr : IntKind.i64.wrap 2047 = 2047 := by decide
  go_wp2_with fail
  refine wp_region_J (fun W' => B3 W' g (.int .i64 64) (.int .i64 53) (.int .i64 (-1074))) (by kernel_rfl) ?_
  refine wpJ_take (i := 0) (v := ?v6x0) rfl (by kernel_rfl) (by kernel_rfl) (by kernel_rfl) (fun _ _ _ h => h) (by rfl) ?hy6x0 XB.out ?rest6x0
  case hy6x0 => (intro W' hJ; obtain ⟨c0, c1, c2, c3, c4, c5⟩ := hJ; go_simp; first | done | with_reducible rfl)
  refine wpJ_take (i := 1) (v := ?v7x1) rfl (by kernel_rfl) (by kernel_rfl) (by kernel_rfl) (fun _ _ _ h => h) (by rfl) ?hy7x1 XB.out ?rest7x1
  case hy7x1 => (intro W' hJ; obtain ⟨c0, c1, c2, c3, c4, c5⟩ := hJ; go_simp; first | done | with_reducible rfl)
  refine wpJ_take (i := 2) (v := ?v8x2) rfl (by kernel_rfl) (by kernel_rfl) (by kernel_rfl) (fun _ _ _ h => h) (by rfl) ?hy8x2 XB.out ?rest8x2
  case hy8x2 => (intro W' hJ; obtain ⟨c0, c1, c2, c3, c4, c5⟩ := hJ; go_simp; first | done | with_reducible rfl)
  refine wpJ_take (i := 3) (v := ?v9x3) rfl (by kernel_rfl) (by kernel_rfl) (by kernel_rfl) (fun _ _ _ h => h) (by rfl) ?hy9x3 XB.out ?rest9x3
  case hy9x3 => (intro W' hJ; obtain ⟨c0, c1, c2, c3, c4, c5⟩ := hJ; go_simp; first | done | with_reducible rfl)
  refine wpJ_take (i := 4) (v := ?v10x4) rfl (by kernel_rfl) (by kernel_rfl) (by kernel_rfl) (fun _ _ _ h => h) (by rfl) ?hy10x4 XB.out ?rest10x4
  case hy10x4 => (intro W' hJ; obtain ⟨c0, c1, c2, c3, c4, c5⟩ := hJ; go_simp; first | done | with_reducible rfl)
  refine wpJ_take (i := 5) (v := ?v11x5) rfl (by kernel_rfl) (by kernel_rfl) (by kernel_rfl) (fun _ _ _ h => h) (by rfl) ?hy11x5 XB.out ?rest11x5
  case hy11x5 => (intro W' hJ; obtain ⟨c0, c1, c2, c3, c4, c5⟩ := hJ; go_simp; first | done | with_reducible rfl)
  refine wpJ_one (i := 6) (by kernel_rfl) rfl (by rfl) (fun K hK => ?_)
  go_simp
  refine (stored_64 _).mono ?_
  rintro e w3 ⟨rfl, hb3⟩
  have Xw3 : Hid (B3 w3 g (.int .i64 64) (.int .i64 53) (.int .i64 (-1074))) := XB.out.below hb3
  have HBw3 : Hid (Below w.heap.size w w3) := bwOn HBW.out hb3
  clear hb3
  refine hK _ _ Xw3.out ?_
  clear hK
  refine wpJ_take (i := 7) (v := ?v12x7) rfl (by kernel_rfl) (by kernel_rfl) (by kernel_rfl) (fun _ _ _ h => h) (by rfl) ?hy12x7 Xw3.out ?rest12x7
  case hy12x7 => (intro W' hJ; obtain ⟨c0, c1, c2, c3, c4, c5⟩ := hJ; go_simp; first | done | with_reducible rfl)
  refine wpJ_take (i := 8) (v := ?v13x8) rfl (by kernel_rfl) (by kernel_rfl) (by kernel_rfl) (fun _ _ _ h => h) (by rfl) ?hy13x8 Xw3.out ?rest13x8
  case hy13x8 => (intro W' hJ; obtain ⟨c0, c1, c2, c3, c4, c5⟩ := hJ; go_simp; first | done | with_reducible rfl)
  refine wpJ_done (by kernel_rfl) ?_ _
  go_wp2_with fail
  go_ret
  exact ⟨rfl, HBw3.out⟩
set_option maxRecDepth 20000 in
set_option maxHeartbeats 4000000 in
theorem size_64 (man q : Nat) (u : Int) (hu : u = (q : Int) - 1074) (hq : q < 2048) (hm : man ≤ 9007199254740992) (w : World) : Calls Tryz.prog 146 #[WV 64 53 (-1074), U man, .int .i64 u] w fun e w' => e = .returned (U (q * 4503599627370496 + man)) ∧ Below w.heap.size w w' := by
  obtain ⟨r, hr⟩ : ∃ r, r = q * 4503599627370496 + man := ⟨_, rfl⟩
  obtain ⟨y, hy⟩ : ∃ y, y = q * 4503599627370496 := ⟨_, rfl⟩
  rw [← hr]
  have e1 : IntKind.i64.wrap (u - -1074) = (q : Int) := by simp [IntKind.wrap, IntKind.signed, IntKind.bits]; omega
  have e1' : IntKind.i64.wrap (u + 1074) = (q : Int) := by simp [IntKind.wrap, IntKind.signed, IntKind.bits]; omega
  have e2 : IntKind.u64.wrap (q : Int) = (q : Int) := by rw [IntKind.wrap_u64]; omega
  have e3 : IntKind.u64.wrap ((q : Int) * 4503599627370496) = (y : Int) := by rw [IntKind.wrap_u64]; omega
  have e4 : IntKind.u64.wrap ((y : Int) + (man : Int)) = (r : Int) := by rw [IntKind.wrap_u64]; omega
  clear hr hy hq hm hu
  go_enter Tryz.func146, Tryz.ntmps146
  go_wp2_with fail
  have X0 : B3 (w.alloc (.cells #[.int .i64 64, .int .i64 53, .int .i64 (-1074)] 103)) w.heap.size (.int .i64 64) (.int .i64 53) (.int .i64 (-1074)) := B3.new ..
  have hb0 : Below w.heap.size w (w.alloc (.cells #[.int .i64 64, .int .i64 53, .int .i64 (-1074)] 103)) := bwAlloc w _
  generalize w.alloc (.cells #[.int .i64 64, .int .i64 53, .int .i64 (-1074)] 103) = W at *
  obtain ⟨g, hg⟩ : ∃ g, g = w.heap.size := ⟨_, rfl⟩
  rw [← hg] at X0 ⊢
  clear hg
  have XB : Hid (B3 W.drew g (.int .i64 64) (.int .i64 53) (.int .i64 (-1074))) := X0.drew
  have HBW : Hid (Below w.heap.size w W.drew) := bwDrew hb0
  have XW : Hid (B3 W g (.int .i64 64) (.int .i64 53) (.int .i64 (-1074))) := X0
  have HB0 : Hid (Below w.heap.size w W) := hb0
  clear X0 hb0
  refine wp_region_J (fun W' => B3 W' g (.int .i64 64) (.int .i64 53) (.int .i64 (-1074))) (by kernel_rfl) ?_
  refine wpJ_take (i := 0) (v := ?v21x0) rfl (by kernel_rfl) (by kernel_rfl) (by kernel_rfl) (fun _ _ _ h => h) (by rfl) ?hy21x0 XB.out ?rest21x0
  case hy21x0 => (intro W' hJ; obtain ⟨c0, c1, c2, c3, c4, c5⟩ := hJ; go_simp; first | done | with_reducible rfl)
  refine wpJ_take (i := 1) (v := ?v22x1) rfl (by kernel_rfl) (by kernel_rfl) (by kernel_rfl) (fun _ _ _ h => h) (by rfl) ?hy22x1 XB.out ?rest22x1
  case hy22x1 => (intro W' hJ; obtain ⟨c0, c1, c2, c3, c4, c5⟩ := hJ; go_simp; first | done | with_reducible rfl)
  refine wpJ_take (i := 2) (v := ?v23x2) rfl (by kernel_rfl) (by kernel_rfl) (by kernel_rfl) (fun _ _ _ h => h) (by rfl) ?hy23x2 XB.out ?rest23x2
  case hy23x2 => (intro W' hJ; obtain ⟨c0, c1, c2, c3, c4, c5⟩ := hJ; go_simp; first | done | with_reducible rfl)
  refine wpJ_take (i := 3) (v := ?v24x3) rfl (by kernel_rfl) (by kernel_rfl) (by kernel_rfl) (fun _ _ _ h => h) (by rfl) ?hy24x3 XB.out ?rest24x3
  case hy24x3 => (intro W' hJ; obtain ⟨c0, c1, c2, c3, c4, c5⟩ := hJ; go_simp; first | done | with_reducible rfl)
  refine wpJ_take (i := 4) (v := ?v25x4) rfl (by kernel_rfl) (by kernel_rfl) (by kernel_rfl) (fun _ _ _ h => h) (by rfl) ?hy25x4 XB.out ?rest25x4
  case hy25x4 => (intro W' hJ; obtain ⟨c0, c1, c2, c3, c4, c5⟩ := hJ; go_simp; first | done | with_reducible rfl)
  refine wpJ_take (i := 5) (v := ?v26x5) rfl (by kernel_rfl) (by kernel_rfl) (by kernel_rfl) (fun _ _ _ h => h) (by rfl) ?hy26x5 XB.out ?rest26x5
  case hy26x5 => (intro W' hJ; obtain ⟨c0, c1, c2, c3, c4, c5⟩ := hJ; go_simp; first | done | with_reducible rfl)
  refine wpJ_take (i := 8) (v := ?v27x8) rfl (by kernel_rfl) (by kernel_rfl) (by kernel_rfl) (fun _ _ _ h => h) (by rfl) ?hy27x8 XB.out ?rest27x8
  case hy27x8 => (intro W' hJ; obtain ⟨c0, c1, c2, c3, c4, c5⟩ := hJ; go_simp; first | done | with_reducible rfl)
  refine wpJ_one (i := 6) (by kernel_rfl) rfl (by rfl) (fun K hK => ?_)
  go_simp
  refine (stored_64 _).mono ?_
  rintro e w2 ⟨rfl, hb2⟩
  have Xw2 : Hid (B3 w2 g (.int .i64 64) (.int .i64 53) (.int .i64 (-1074))) := XB.out.below hb2
  have HBw2 : Hid (Below w.heap.size w w2) := bwOn HBW.out hb2
  clear hb2
  refine hK _ _ Xw2.out ?_
  clear hK
  refine wpJ_take (i := 7) (v := ?v28x7) rfl (by kernel_rfl) (by kernel_rfl) (by kernel_rfl) (fun _ _ _ h => h) (by rfl) ?hy28x7 Xw2.out ?rest28x7
  case hy28x7 => (intro W' hJ; obtain ⟨c0, c1, c2, c3, c4, c5⟩ := hJ; go_simp; first | done | with_reducible rfl)
  refine wpJ_take (i := 9) (v := ?v29x9) rfl (by kernel_rfl) (by kernel_rfl) (by kernel_rfl) (fun _ _ _ h => h) (by rfl) ?hy29x9 Xw2.out ?rest29x9
  case hy29x9 => (intro W' hJ; obtain ⟨c0, c1, c2, c3, c4, c5⟩ := hJ; go_simp; first | done | with_reducible rfl)
  refine wpJ_take (i := 10) (v := ?v30x10) rfl (by kernel_rfl) (by kernel_rfl) (by kernel_rfl) (fun _ _ _ h => h) (by rfl) ?hy30x10 Xw2.out ?rest30x10
  case hy30x10 => (intro W' hJ; obtain ⟨c0, c1, c2, c3, c4, c5⟩ := hJ; go_simp; first | done | with_reducible rfl)
  refine wpJ_done (by kernel_rfl) ?_ _
  clear XB HBW XW HB0
  go_wp2_with fail
  go_ret
  exact ⟨rfl, HBw2.out⟩
set_option maxRecDepth 20000 in
set_option maxHeartbeats 4000000 in
theorem parts_32 (s q m : Nat) (hq : q = s / 8388608 - 1) (hm : m = s - q * 8388608) (hs : s < 2147483648) (w : World) : Calls Tryz.prog 77 #[WV 32 24 (-149), U s] w fun e w' => e = .returned (.tuple #[U m, .int .i64 (-149 + (q : Int))]) ∧ Below w.heap.size w w' := by
  obtain ⟨r, hr⟩ : ∃ r : Int, r = -149 + (q : Int) := ⟨_, rfl⟩
  obtain ⟨y, hy⟩ : ∃ y, y = q * 8388608 := ⟨_, rfl⟩
  rw [← hr]
  have e0 : max ((s : Int) / 8388608 - 1) 0 = (q : Int) := by omega
  have e1 : IntKind.u64.wrap (q : Int) = (q : Int) := by rw [IntKind.wrap_u64]; omega
  have e2 : IntKind.u64.wrap ((q : Int) * 8388608) = (y : Int) := by rw [IntKind.wrap_u64]; omega
  have e3 : IntKind.u64.wrap ((s : Int) - (y : Int)) = (m : Int) := by rw [IntKind.wrap_u64]; omega
  have e4 : IntKind.i64.wrap (-149 + (q : Int)) = r := by rw [hr]; simp [IntKind.wrap, IntKind.signed, IntKind.bits]; omega
  have HS : Hid (s < 2147483648) := hs
  have hs31 : (s : Int) < 2147483648 := by omega
  clear hr hy hq hm hs
  go_enter Tryz.func77, Tryz.ntmps77
  go_wp2_with fail
  have X0 : B3 (w.alloc (.cells #[.int .i64 32, .int .i64 24, .int .i64 (-149)] 103)) w.heap.size (.int .i64 32) (.int .i64 24) (.int .i64 (-149)) := B3.new ..
  have hb0 : Below w.heap.size w (w.alloc (.cells #[.int .i64 32, .int .i64 24, .int .i64 (-149)] 103)) := bwAlloc w _
  generalize w.alloc (.cells #[.int .i64 32, .int .i64 24, .int .i64 (-149)] 103) = W at *
  obtain ⟨g, hg⟩ : ∃ g, g = w.heap.size := ⟨_, rfl⟩
  rw [← hg] at X0 ⊢
  clear hg
  have XB : Hid (B3 W.drew g (.int .i64 32) (.int .i64 24) (.int .i64 (-149))) := X0.drew
  have HBW : Hid (Below w.heap.size w W.drew) := bwDrew hb0
  have XW : Hid (B3 W g (.int .i64 32) (.int .i64 24) (.int .i64 (-149))) := X0
  have HB0 : Hid (Below w.heap.size w W) := hb0
  clear X0 hb0
  refine (stored_32 _).mono ?_
  rintro e w1 ⟨rfl, hb1⟩
  have Xw1 : Hid (B3 w1 g (.int .i64 32) (.int .i64 24) (.int .i64 (-149))) := XW.out.below hb1
  have HBw1 : Hid (Below w.heap.size w w1) := bwOn HB0.out hb1
  clear hb1
  have c6 := Xw1.out
  obtain ⟨c0, c1, c2, c3, c4, c5⟩ := c6
  go_wp2_with fail
  clear c0 c1 c2 c3 c4 c5 XB HBW XW HB0
  have XB : Hid (B3 w1.drew g (.int .i64 32) (.int .i64 24) (.int .i64 (-149))) := Xw1.out.drew
  have HBW : Hid (Below w.heap.size w w1.drew) := bwDrew HBw1.out
  refine wp_region_J (fun W' => B3 W' g (.int .i64 32) (.int .i64 24) (.int .i64 (-149))) (by kernel_rfl) ?_
  refine wpJ_take (i := 0) (v := ?v31x0) rfl (by kernel_rfl) (by kernel_rfl) (by kernel_rfl) (fun _ _ _ h => h) (by rfl) ?hy31x0 XB.out ?rest31x0
  case hy31x0 => (intro W' hJ; obtain ⟨c0, c1, c2, c3, c4, c5⟩ := hJ; go_simp; first | done | with_reducible rfl)
  refine wpJ_take (i := 1) (v := ?v32x1) rfl (by kernel_rfl) (by kernel_rfl) (by kernel_rfl) (fun _ _ _ h => h) (by rfl) ?hy32x1 XB.out ?rest32x1
  case hy32x1 => (intro W' hJ; obtain ⟨c0, c1, c2, c3, c4, c5⟩ := hJ; go_simp; first | done | with_reducible rfl)
  refine wpJ_take (i := 2) (v := ?v33x2) rfl (by kernel_rfl) (by kernel_rfl) (by kernel_rfl) (fun _ _ _ h => h) (by rfl) ?hy33x2 XB.out ?rest33x2
  case hy33x2 => (intro W' hJ; obtain ⟨c0, c1, c2, c3, c4, c5⟩ := hJ; go_simp; first | done | with_reducible rfl)
  refine wpJ_take (i := 3) (v := ?v34x3) rfl (by kernel_rfl) (by kernel_rfl) (by kernel_rfl) (fun _ _ _ h => h) (by rfl) ?hy34x3 XB.out ?rest34x3
  case hy34x3 => (intro W' hJ; obtain ⟨c0, c1, c2, c3, c4, c5⟩ := hJ; go_simp; first | done | with_reducible rfl)
  refine wpJ_take (i := 7) (v := ?v35x7) rfl (by kernel_rfl) (by kernel_rfl) (by kernel_rfl) (fun _ _ _ h => h) (by rfl) ?hy35x7 XB.out ?rest35x7
  case hy35x7 => (intro W' hJ; obtain ⟨c0, c1, c2, c3, c4, c5⟩ := hJ; go_simp; first | done | with_reducible rfl)
  refine wpJ_take (i := 8) (v := ?v36x8) rfl (by kernel_rfl) (by kernel_rfl) (by kernel_rfl) (fun _ _ _ h => h) (by rfl) ?hy36x8 XB.out ?rest36x8
  case hy36x8 => (intro W' hJ; obtain ⟨c0, c1, c2, c3, c4, c5⟩ := hJ; go_simp; first | done | with_reducible rfl)
  refine wpJ_take (i := 9) (v := ?v37x9) rfl (by kernel_rfl) (by kernel_rfl) (by kernel_rfl) (fun _ _ _ h => h) (by rfl) ?hy37x9 XB.out ?rest37x9
  case hy37x9 => (intro W' hJ; obtain ⟨c0, c1, c2, c3, c4, c5⟩ := hJ; go_simp; first | done | with_reducible rfl)
  refine wpJ_take (i := 10) (v := ?v38x10) rfl (by kernel_rfl) (by kernel_rfl) (by kernel_rfl) (fun _ _ _ h => h) (by rfl) ?hy38x10 XB.out ?rest38x10
  case hy38x10 => (intro W' hJ; obtain ⟨c0, c1, c2, c3, c4, c5⟩ := hJ; go_simp; first | done | with_reducible rfl)
  refine wpJ_one (i := 4) (by kernel_rfl) rfl (by rfl) (fun K hK => ?_)
  go_simp
  refine (stored_32 _).mono ?_
  rintro e w2 ⟨rfl, hb2⟩
  have Xw2 : Hid (B3 w2 g (.int .i64 32) (.int .i64 24) (.int .i64 (-149))) := XB.out.below hb2
  have HBw2 : Hid (Below w.heap.size w w2) := bwOn HBW.out hb2
  clear hb2
  refine hK _ _ Xw2.out ?_
  clear hK
  refine wpJ_take (i := 5) (v := ?v39x5) rfl (by kernel_rfl) (by kernel_rfl) (by kernel_rfl) (fun _ _ _ h => h) (by rfl) ?hy39x5 Xw2.out ?rest39x5
  case hy39x5 => (intro W' hJ; obtain ⟨c0, c1, c2, c3, c4, c5⟩ := hJ; go_simp; first | done | with_reducible rfl)
  refine wpJ_take (i := 6) (v := ?v40x6) rfl (by kernel_rfl) (by kernel_rfl) (by kernel_rfl) (fun _ _ _ h => h) (by rfl) ?hy40x6 Xw2.out ?rest40x6
  case hy40x6 => (intro W' hJ; obtain ⟨c0, c1, c2, c3, c4, c5⟩ := hJ; go_simp; first | done | with_reducible rfl)
  refine wpJ_take (i := 11) (v := ?v41x11) rfl (by kernel_rfl) (by kernel_rfl) (by kernel_rfl) (fun _ _ _ h => h) (by rfl) ?hy41x11 Xw2.out ?rest41x11
  case hy41x11 => (intro W' hJ; obtain ⟨c0, c1, c2, c3, c4, c5⟩ := hJ; go_simp; first | done | with_reducible rfl)
  refine wpJ_take (i := 12) (v := ?v42x12) rfl (by kernel_rfl) (by kernel_rfl) (by kernel_rfl) (fun _ _ _ h => h) (by rfl) ?hy42x12 Xw2.out ?rest42x12
  case hy42x12 => (intro W' hJ; obtain ⟨c0, c1, c2, c3, c4, c5⟩ := hJ; go_simp; first | done | with_reducible rfl)
  refine wpJ_done (by kernel_rfl) ?_ _
  go_wp2_with fail
  go_ret2
  exact ⟨rfl, HBw2.out⟩
end Go.Proofs.YtoalblaklcekeaaGreatDoor
