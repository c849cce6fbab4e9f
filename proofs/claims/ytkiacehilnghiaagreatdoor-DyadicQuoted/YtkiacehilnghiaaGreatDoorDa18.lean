import Derived.Test.YtkiacehilnghiaaGreatDoorJ18
namespace Go.Proofs.YtkiacehilnghiaaGreatDoor
open Go.RowKit Go.Shelf

def QAny (w w' : World) (en : Ending) : Prop := ∃ s p m eo er, en = .returned (.tuple #[DV s p m m eo, .int .i64 er]) ∧ Below w.heap.size w w'
theorem qany_d {p q : Option Addr} {m c n d : Nat} {xs ys : List Nat} {w : World} {e f Q : Int} (s t : Bool) (h : At w p m c xs) (k : At w q n d ys) (hQ : 1 ≤ Q ∧ Q ≤ 70000) (hT : Tab w) :
    Calls Tryz.prog 23 #[DV s p m c e, DV t q n d f, .int .i64 Q] w fun en w' => QAny w w' en := by
  have er : ∀ {en : Ending} {w' : World} {r : Int}, en = .returned (.tuple #[DV false none 0 0 0, .int .i64 r]) ∧ Below w.heap.size w w' → QAny w w' en := fun {en w' r} h => ⟨_, _, _, _, r, h.1, h.2⟩
  cases hf : formD s xs e
  · exact (qf_ad h hf hQ).mono fun _ _ h => er h
  have h0 := formD_dn h hf
  cases kf : formD t ys f
  · exact (qf_bd h0 k kf hQ).mono fun _ _ h => er h
  have k0 := formD_dn k kf
  by_cases hy : iv t (valB B64 ys) = 0
  · exact (qf_zd h0 k0 hy hQ).mono fun _ _ h => er h
  by_cases hm : 4096 < max m n
  · exact (qf_md h0 k0 hy hm hQ).mono fun _ _ h => er h
  obtain ⟨P, rfl⟩ : ∃ P : Nat, Q = P := ⟨Q.toNat, by omega⟩
  obtain ⟨X, Y, L, hw⟩ := wb_ex (iv s (valB B64 xs)) (iv t (valB B64 ys)) P
  refine (qf_od h0 k0 hy (by omega) (by omega) (by omega) hw rfl rfl hT).mono fun en w' ⟨h1, h2⟩ => ?_
  obtain ⟨s1, p1, m1, e1, r1, h3, _⟩ := h1.open
  exact ⟨s1, p1, m1, e1, r1, h3, h2⟩
theorem qany_u {p q : Option Addr} {m c n d : Nat} {xs ys : List Nat} {w : World} {e f Q : Int} (s t : Bool) (h : At w p m c xs) (k : At w q n d ys) (hQ : 1 ≤ Q ∧ Q ≤ 70000) (hT : Tab w) :
    Calls Tryz.prog 24 #[DV s p m c e, DV t q n d f, .int .i64 Q] w fun en w' => QAny w w' en := by
  have er : ∀ {en : Ending} {w' : World} {r : Int}, en = .returned (.tuple #[DV false none 0 0 0, .int .i64 r]) ∧ Below w.heap.size w w' → QAny w w' en := fun {en w' r} h => ⟨_, _, _, _, r, h.1, h.2⟩
  cases hf : formD s xs e
  · exact (qf_au h hf hQ).mono fun _ _ h => er h
  have h0 := formD_dn h hf
  cases kf : formD t ys f
  · exact (qf_bu h0 k kf hQ).mono fun _ _ h => er h
  have k0 := formD_dn k kf
  by_cases hy : iv t (valB B64 ys) = 0
  · exact (qf_zu h0 k0 hy hQ).mono fun _ _ h => er h
  by_cases hm : 4096 < max m n
  · exact (qf_mu h0 k0 hy hm hQ).mono fun _ _ h => er h
  obtain ⟨P, rfl⟩ : ∃ P : Nat, Q = P := ⟨Q.toNat, by omega⟩
  obtain ⟨X, Y, L, hw⟩ := wb_ex (iv s (valB B64 xs)) (iv t (valB B64 ys)) P
  refine (qf_ou h0 k0 hy (by omega) (by omega) (by omega) hw rfl rfl hT).mono fun en w' ⟨h1, h2⟩ => ?_
  obtain ⟨s1, p1, m1, e1, r1, h3, _⟩ := h1.open
  exact ⟨s1, p1, m1, e1, r1, h3, h2⟩
theorem small_len {w : World} {p : Option Addr} {m c : Nat} {xs : List Nat} {a : Nat} (h : Num w p m c xs a) (ha : a < 2 ^ 64) : m ≤ 4096 := by
  have h1 := (h.nf.len_le B64_one (k := 1)).2 (by rw [Nat.pow_one, B64_eq]; omega)
  rw [h.at_.len] at h1
  omega
theorem third : ∃ X Y L, WB 1 3 4 X Y L ∧ dv 5 (-4) = dv (rd false (qI false X Y) (2 ^ (bitsN (qI false X Y).natAbs - 4))) (0 - 0 - L + ((bitsN (qI false X Y).natAbs - 4 : Nat) : Int)) :=
  ⟨32, 3, 5, ⟨by decide, by decide, by decide⟩, by
    have h1 : qI false 32 3 = 10 := by decide
    rw [h1]
    have h2 : bitsN (10 : Int).natAbs - 4 = 0 := by decide
    rw [h2, show rd false 10 (2 ^ 0) = 10 from rfl, dv_shift (z := 5) (e := -4) (f := -5) (by decide) (by decide)]
    rfl⟩
def DApart (p : Option Addr) (m g : Nat) : Prop := m = 0 ∨ ∃ g0 off, p = some ⟨g0, off, none⟩ ∧ g0 ≠ g
theorem DN.apart {w : World} {s : Bool} {p : Option Addr} {m c : Nat} {e z : Int} (h : DN w s p m c e z) {g : Nat} (hg : w.heap.size ≤ g) : DApart p m g := by
  obtain ⟨xs, hX⟩ := h.zn.ex
  rcases hX.at_.cells with h0 | ⟨g0, off, hp, hc⟩
  · exact .inl h0
  · by_cases hm : m = 0
    · exact .inl hm
    · have h9 : g0 < w.heap.size := World.block_lt_of_cell? w _ (hc 0 (by omega))
      exact .inr ⟨g0, off, hp, by omega⟩
theorem DN.setA {w : World} {s : Bool} {p : Option Addr} {m c : Nat} {e z : Int} (h : DN w s p m c e z) {g : Nat} (ha : DApart p m g) (o : Nat) (v : Value) : DN (w.setCell ⟨g, o, none⟩ v) s p m c e z := by
  obtain ⟨xs, hX⟩ := h.zn.ex
  refine ⟨⟨⟨xs, ?_, hX.nf, hX.le⟩, h.zn.sg⟩, h.fm⟩
  rcases ha with h0 | ⟨g0, off, rfl, hne⟩
  · exact ⟨hX.at_.len, hX.at_.cap, hX.at_.big, hX.at_.dig, .inl h0⟩
  · exact hX.at_.setOther g o v hne
theorem AnsD.dnA {B : Nat} {w' : World} {v : Value} {z e : Int} (h : AnsD B w' v z e) (hf : DFm z e) {g : Nat} (hg : g < B) : ∃ s p m, v = DV s p m m e ∧ DN w' s p m m e z ∧ DApart p m g := by
  obtain ⟨p, m, zs, rfl, ho, hn, hm⟩ := h
  refine ⟨_, p, m, rfl, ⟨⟨⟨zs, Num.of ho hn hm⟩, rfl⟩, hf⟩, ?_⟩
  rcases ho.mem with h0 | ⟨g0, hp, hB, _⟩
  · exact .inl h0
  · exact .inr ⟨g0, 0, hp, by omega⟩
set_option maxRecDepth 20000 in
set_option maxHeartbeats 8000000 in
theorem dyadicQuoted_w {p q : Option Addr} {m c n d : Nat} {xs ys : List Nat} {w : World} {e f Q : Int} (s t : Bool) (h : At w p m c xs) (k : At w q n d ys) (hT : Tab w) :
    Calls Tryz.prog 5 #[DV s p m c e, DV t q n d f, .int .i64 Q] w fun en w' => en = .returned (.bool true) ∧ Below w.heap.size w w' := by
  have H : Hid (At w p m c xs) := h
  have K : Hid (At w q n d ys) := k
  have TB : Hid (Tab w) := hT
  obtain ⟨X3, Y3, L3, hw3, hv3⟩ := third
  have H3 : Hid (WB 1 3 4 X3 Y3 L3) := hw3
  have V3 : Hid (dv 5 (-4) = dv (rd false (qI false X3 Y3) (2 ^ (bitsN (qI false X3 Y3).natAbs - 4))) (0 - 0 - L3 + ((bitsN (qI false X3 Y3).natAbs - 4 : Nat) : Int))) := hv3
  clear h k hT hw3 hv3
  go_enter Tryz.func5, Tryz.ntmps5
  go_wp2_with fail
  obtain ⟨W0, hW0⟩ : ∃ W0, W0 = ((w.alloc (.cells #[.bool s, .slice p m c, .int .i64 e] 26)).alloc (.cells #[.bool t, .slice q n d, .int .i64 f] 26)) := ⟨_, rfl⟩
  have Xa : Hid (B3q W0 (w.heap.size) (.bool s) (.slice p m c) (.int .i64 e)) := by rw [hW0]; exact ⟨by go_simp, by go_simp, by go_simp, by go_simp, by go_simp, by go_simp⟩
  have Xb : Hid (B3q W0 (w.heap.size + 1) (.bool t) (.slice q n d) (.int .i64 f)) := by rw [hW0]; exact ⟨by go_simp, by go_simp, by go_simp, by go_simp, by go_simp, by go_simp⟩
  have hb0 : Below w.heap.size w W0 := by rw [hW0]; exact below2 w _ _
  rw [← hW0]
  clear hW0
  have hbw : Below w.heap.size w w := Below.refl _ _
  obtain ⟨gb, hgb⟩ : ∃ g, g = w.heap.size + 1 := ⟨_, rfl⟩
  have HGb : Hid (w.heap.size ≤ gb) := by rw [hgb]; show _ ≤ _; omega
  rw [← hgb] at Xb
  try rw [← hgb]
  obtain ⟨ga, hga⟩ : ∃ g, g = w.heap.size := ⟨_, rfl⟩
  have HGa : Hid (w.heap.size ≤ ga) := by rw [hga]; show _ ≤ _; omega
  rw [← hga] at Xa
  try rw [← hga]
  have HGD : Hid (ga ≠ gb ∧ gb ≠ ga) := by rw [hga, hgb]; exact ⟨by omega, by omega⟩
  clear hga hgb
  replace hbw := Below.on hbw hb0
  clear hb0
  have HDab : Hid (ga ≠ gb) := HGD.out.1
  refine (num5 (1) (0) (by decide) (by decide) (by decide)).mono ?_
  rintro e2 v1 ⟨s1, g1, m1, c1, rfl, _, hd1, hb1⟩
  replace Xa : Hid _ := Xa.out.below hb1
  replace Xb : Hid _ := Xb.out.below hb1
  replace hbw := Below.on hbw hb1
  clear hb1
  have D1 : Hid (DN v1 s1 (some ⟨g1, 0, none⟩) m1 c1 (0) (1)) := hd1
  clear hd1
  go_wp2_with fail
  refine (num5 (3) (0) (by decide) (by decide) (by decide)).mono ?_
  rintro e2 v2 ⟨s2, g2, m2, c2, rfl, _, hd2, hb2⟩
  replace Xa : Hid _ := Xa.out.below hb2
  replace Xb : Hid _ := Xb.out.below hb2
  replace D1 : Hid _ := D1.out.below hb2
  replace hbw := Below.on hbw hb2
  clear hb2
  have D2 : Hid (DN v2 s2 (some ⟨g2, 0, none⟩) m2 c2 (0) (3)) := hd2
  clear hd2
  go_wp2_with fail
  have hm1 : m1 ≤ 4096 ∧ m2 ≤ 4096 := by
    obtain ⟨xs1, hX1⟩ := D1.out.zn.ex
    obtain ⟨xs2, hX2⟩ := D2.out.zn.ex
    exact ⟨small_len hX1 (by decide), small_len hX2 (by decide)⟩
  have HM1 : Hid (m1 ≤ 4096 ∧ m2 ≤ 4096) := hm1
  clear hm1
  refine (qf_od (P := 4) D1.out D2.out (by decide) HM1.out.1 HM1.out.2 (by decide) H3.out rfl rfl (TB.out.below hbw)).mono ?_
  rintro e2 v3 ⟨hv, hb3⟩
  obtain ⟨v, rfl, hv2⟩ := hv.form (.inr ⟨by decide, by decide, by decide⟩) (V3.out)
  obtain ⟨s3, p3, m3, rfl, hd3⟩ := hv2.dn (.inr ⟨by decide, by decide, by decide⟩)
  clear hv hv2
  replace Xa : Hid _ := Xa.out.below hb3
  replace Xb : Hid _ := Xb.out.below hb3
  replace D1 : Hid _ := D1.out.below hb3
  replace D2 : Hid _ := D2.out.below hb3
  replace hbw := Below.on hbw hb3
  clear hb3
  have D3 : Hid (DN v3 s3 p3 m3 m3 (-4) (5)) := hd3
  clear hd3
  clear D1
  clear D2
  go_wp2_with fail
  have HDal : Hid (ga ≠ v3.heap.size) := Nat.ne_of_lt Xa.out.lt
  have HDbl : Hid (gb ≠ v3.heap.size) := Nat.ne_of_lt Xb.out.lt
  have Xl0 : Hid (B3q (v3.alloc (.cells #[.bool s3, .slice p3 m3 m3, .int .i64 (-4)] 26)) v3.heap.size (.bool s3) (.slice p3 m3 m3) (.int .i64 (-4))) := B3q.new v3 _ _ _ _
  have hbn : Below v3.heap.size v3 (v3.alloc (.cells #[.bool s3, .slice p3 m3 m3, .int .i64 (-4)] 26)) := below1 v3 _
  generalize v3.alloc (.cells #[.bool s3, .slice p3 m3 m3, .int .i64 (-4)] 26) = Wl at *
  have HGl : Hid (w.heap.size ≤ v3.heap.size) := hbw.size
  replace Xa : Hid _ := Xa.out.below hbn
  replace Xb : Hid _ := Xb.out.below hbn
  replace D3 : Hid _ := D3.out.below hbn
  replace hbw := Below.on hbw hbn
  clear hbn
  generalize v3.heap.size = gl at *
  have Xl := Xl0
  clear Xl0
  obtain ⟨Wr, hWr⟩ : ∃ W1, W1 = Wl.drew := ⟨_, rfl⟩
  have hbd : Below Wl.heap.size Wl Wr := by rw [hWr]; exact bDrew1 (Below.refl _ _)
  replace Xa : Hid _ := Xa.out.below hbd
  replace Xb : Hid _ := Xb.out.below hbd
  replace Xl : Hid _ := Xl.out.below hbd
  replace D3 : Hid _ := D3.out.below hbd
  replace hbw := Below.on hbw hbd
  clear hbd
  have HJ : Hid ((fun W' : World => W'.cell? ⟨gl, 0, none⟩ = some (.bool s3) ∧ W'.cell? ⟨gl, 1, none⟩ = some (.slice p3 m3 m3) ∧ W'.cell? ⟨gl, 2, none⟩ = some (.int .i64 (-4))) Wr) := ⟨Xl.out.c0, Xl.out.c1, Xl.out.c2⟩
  refine wp_region_J (fun W' => W'.cell? ⟨gl, 0, none⟩ = some (.bool s3) ∧ W'.cell? ⟨gl, 1, none⟩ = some (.slice p3 m3 m3) ∧ W'.cell? ⟨gl, 2, none⟩ = some (.int .i64 (-4))) (by kernel_rfl) ?_
  rw [← hWr]
  clear hWr
  refine wpJ_take (i := 0) (v := ?v1x0) rfl (by kernel_rfl) (by kernel_rfl) (by kernel_rfl) (fun _ _ _ h => h) (by kernel_rfl) ?hy1x0 HJ.out ?rest1x0
  case hy1x0 => (intro W' hJ; obtain ⟨j0, j1, j2⟩ := hJ; go_simp; first | done | with_reducible rfl)
  refine wpJ_take (i := 1) (v := ?v2x1) rfl (by kernel_rfl) (by kernel_rfl) (by kernel_rfl) (fun _ _ _ h => h) (by kernel_rfl) ?hy2x1 HJ.out ?rest2x1
  case hy2x1 => (intro W' hJ; obtain ⟨j0, j1, j2⟩ := hJ; go_simp; first | done | with_reducible rfl)
  refine wpJ_one (i := 2) (by kernel_rfl) rfl (by kernel_rfl) (fun KJ hK => ?_)
  go_simp
  refine (num5 (5) (-4) (by decide) (by decide) (by decide)).mono ?_
  rintro e2 v4 ⟨s4, g4, m4, c4, rfl, _, hd4, hb4⟩
  replace Xa : Hid _ := Xa.out.below hb4
  replace Xb : Hid _ := Xb.out.below hb4
  replace Xl : Hid _ := Xl.out.below hb4
  replace D3 : Hid _ := D3.out.below hb4
  replace hbw := Below.on hbw hb4
  clear hb4
  have D4 : Hid (DN v4 s4 (some ⟨g4, 0, none⟩) m4 c4 (-4) (5)) := hd4
  clear hd4
  refine hK _ _ ⟨Xl.out.c0, Xl.out.c1, Xl.out.c2⟩ ?_
  clear hK
  refine wpJ_one (i := 3) (by kernel_rfl) rfl (by kernel_rfl) (fun KJ hK => ?_)
  go_simp
  refine (same5 D3.out D4.out).mono ?_
  rintro e v5 ⟨rfl, hb5⟩
  replace Xa : Hid _ := Xa.out.below hb5
  replace Xb : Hid _ := Xb.out.below hb5
  replace Xl : Hid _ := Xl.out.below hb5
  replace D3 : Hid _ := D3.out.below hb5
  replace D4 : Hid _ := D4.out.below hb5
  replace hbw := Below.on hbw hb5
  clear hb5
  clear HJ
  have HJ : Hid ((fun W' : World => W'.cell? ⟨gl, 0, none⟩ = some (.bool s3) ∧ W'.cell? ⟨gl, 1, none⟩ = some (.slice p3 m3 m3) ∧ W'.cell? ⟨gl, 2, none⟩ = some (.int .i64 (-4))) v5) := ⟨Xl.out.c0, Xl.out.c1, Xl.out.c2⟩
  refine hK _ _ HJ.out ?_
  clear hK
  refine wpJ_take (i := 4) (v := ?v3x4) rfl (by kernel_rfl) (by kernel_rfl) (by kernel_rfl) (fun _ _ _ h => h) (by kernel_rfl) ?hy3x4 HJ.out ?rest3x4
  case hy3x4 => (intro W' hJ; obtain ⟨j0, j1, j2⟩ := hJ; go_simp; first | done | with_reducible rfl)
  refine wpJ_take (i := 5) (v := ?v4x5) rfl (by kernel_rfl) (by kernel_rfl) (by kernel_rfl) (fun _ _ _ h => h) (by kernel_rfl) ?hy4x5 HJ.out ?rest4x5
  case hy4x5 => (intro W' hJ; obtain ⟨j0, j1, j2⟩ := hJ; go_simp; first | done | with_reducible rfl)
  refine wpJ_one (i := 6) (by kernel_rfl) rfl (by kernel_rfl) (fun KJ hK => ?_)
  go_simp
  refine (awake5 _ (TB.out.below hbw)).mono ?_
  rintro e v6 ⟨rfl, hb6⟩
  replace Xa : Hid _ := Xa.out.below hb6
  replace Xb : Hid _ := Xb.out.below hb6
  replace Xl : Hid _ := Xl.out.below hb6
  replace D3 : Hid _ := D3.out.below hb6
  replace D4 : Hid _ := D4.out.below hb6
  replace hbw := Below.on hbw hb6
  clear hb6
  clear HJ
  have HJ : Hid ((fun W' : World => W'.cell? ⟨gl, 0, none⟩ = some (.bool s3) ∧ W'.cell? ⟨gl, 1, none⟩ = some (.slice p3 m3 m3) ∧ W'.cell? ⟨gl, 2, none⟩ = some (.int .i64 (-4))) v6) := ⟨Xl.out.c0, Xl.out.c1, Xl.out.c2⟩
  refine hK _ _ HJ.out ?_
  clear hK
  refine wpJ_take (i := 7) (v := ?v5x7) rfl (by kernel_rfl) (by kernel_rfl) (by kernel_rfl) (fun _ _ _ h => h) (by kernel_rfl) ?hy5x7 HJ.out ?rest5x7
  case hy5x7 => (intro W' hJ; obtain ⟨j0, j1, j2⟩ := hJ; go_simp; first | done | with_reducible rfl)
  refine wpJ_take (i := 8) (v := ?v6x8) rfl (by kernel_rfl) (by kernel_rfl) (by kernel_rfl) (fun _ _ _ h => h) (by kernel_rfl) ?hy6x8 HJ.out ?rest6x8
  case hy6x8 => (intro W' hJ; obtain ⟨j0, j1, j2⟩ := hJ; go_simp; first | done | with_reducible rfl)
  refine wpJ_done (by kernel_rfl) ?_ _
  clear HJ
  clear D3
  clear D4
  obtain ⟨ca0, ca1, ca2, fa0, fa1, fa2⟩ := Xa.out
  have hnea : ga < v6.heap.size := World.block_lt_of_cell? v6 _ ca0
  obtain ⟨cb0, cb1, cb2, fb0, fb1, fb2⟩ := Xb.out
  have hneb : gb < v6.heap.size := World.block_lt_of_cell? v6 _ cb0
  go_wp2_with fail
  clear ca0 ca1 ca2 fa0 fa1 fa2 hnea
  clear cb0 cb1 cb2 fb0 fb1 fb2 hneb
  by_cases hQ1 : Q < 1
  · have HQ1 : Hid (Q < 1) := hQ1
    refine (qf_ld HQ1.out).mono ?_
    rintro e v10 ⟨rfl, hb10⟩
    replace Xa : Hid _ := Xa.out.below hb10
    replace Xb : Hid _ := Xb.out.below hb10
    replace Xl : Hid _ := Xl.out.below hb10
    replace hbw := Below.on hbw hb10
    clear hb10
    obtain ⟨cl0, cl1, cl2, fl0, fl1, fl2⟩ := Xl.out
    have hnel : gl < v10.heap.size := World.block_lt_of_cell? v10 _ cl0
    obtain ⟨ca0, ca1, ca2, fa0, fa1, fa2⟩ := Xa.out
    have hnea : ga < v10.heap.size := World.block_lt_of_cell? v10 _ ca0
    obtain ⟨cb0, cb1, cb2, fb0, fb1, fb2⟩ := Xb.out
    have hneb : gb < v10.heap.size := World.block_lt_of_cell? v10 _ cb0
    have qaa : ga ≠ gl := HDal.out
    have qba : gl ≠ ga := fun h => qaa h.symm
    have qab : gb ≠ gl := HDbl.out
    have qbb : gl ≠ gb := fun h => qab h.symm
    go_wp2_with fail
    have Xl2 : Hid (B3q (((v10.setCell ⟨gl, 0, none⟩ (.bool false)).setCell ⟨gl, 1, none⟩ (.slice none 0 0)).setCell ⟨gl, 2, none⟩ (.int .i64 0)) gl (.bool false) (.slice none 0 0) (.int .i64 0)) := ⟨by go_simp, by go_simp, by go_simp, by go_simp, by go_simp, by go_simp⟩
    have Xa2 : Hid (B3q (((v10.setCell ⟨gl, 0, none⟩ (.bool false)).setCell ⟨gl, 1, none⟩ (.slice none 0 0)).setCell ⟨gl, 2, none⟩ (.int .i64 0)) ga (.bool s) (.slice p m c) (.int .i64 e)) := ⟨by go_simp, by go_simp, by go_simp, by go_simp, by go_simp, by go_simp⟩
    have Xb2 : Hid (B3q (((v10.setCell ⟨gl, 0, none⟩ (.bool false)).setCell ⟨gl, 1, none⟩ (.slice none 0 0)).setCell ⟨gl, 2, none⟩ (.int .i64 0)) gb (.bool t) (.slice q n d) (.int .i64 f)) := ⟨by go_simp, by go_simp, by go_simp, by go_simp, by go_simp, by go_simp⟩
    have hbw2 : Below w.heap.size w (((v10.setCell ⟨gl, 0, none⟩ (.bool false)).setCell ⟨gl, 1, none⟩ (.slice none 0 0)).setCell ⟨gl, 2, none⟩ (.int .i64 0)) := bSet (bSet (bSet hbw _ _ _ HGl.out) _ _ _ HGl.out) _ _ _ HGl.out
    clear cl0 cl1 cl2 fl0 fl1 fl2 hnel
    clear ca0 ca1 ca2 fa0 fa1 fa2 hnea
    clear cb0 cb1 cb2 fb0 fb1 fb2 hneb
    clear qaa qba qab qbb hbw Xl Xa Xb 
    generalize (((v10.setCell ⟨gl, 0, none⟩ (.bool false)).setCell ⟨gl, 1, none⟩ (.slice none 0 0)).setCell ⟨gl, 2, none⟩ (.int .i64 0)) = Wl2 at *
    have Xl := Xl2
    have Xa := Xa2
    have Xb := Xb2
    have hbw := hbw2
    clear hbw2 Xl2 Xa2 Xb2 
    refine (qf_lu HQ1.out).mono ?_
    rintro e v11 ⟨rfl, hb11⟩
    replace Xa : Hid _ := Xa.out.below hb11
    replace Xb : Hid _ := Xb.out.below hb11
    replace Xl : Hid _ := Xl.out.below hb11
    replace hbw := Below.on hbw hb11
    clear hb11
    obtain ⟨ca0, ca1, ca2, fa0, fa1, fa2⟩ := Xa.out
    have hnea : ga < v11.heap.size := World.block_lt_of_cell? v11 _ ca0
    obtain ⟨cb0, cb1, cb2, fb0, fb1, fb2⟩ := Xb.out
    have hneb : gb < v11.heap.size := World.block_lt_of_cell? v11 _ cb0
    obtain ⟨cl0, cl1, cl2, fl0, fl1, fl2⟩ := Xl.out
    have hnel : gl < v11.heap.size := World.block_lt_of_cell? v11 _ cl0
    go_wp2_with fail
    clear ca0 ca1 ca2 fa0 fa1 fa2 hnea
    clear cb0 cb1 cb2 fb0 fb1 fb2 hneb
    clear cl0 cl1 cl2 fl0 fl1 fl2 hnel
    go_ret
    exact ⟨rfl, Below.on hbw (below1 _ _)⟩
  · by_cases hQ2 : 70000 < Q
    · have HQ2 : Hid (70000 < Q) := hQ2
      refine (qf_gd HQ2.out).mono ?_
      rintro e v10 ⟨rfl, hb10⟩
      replace Xa : Hid _ := Xa.out.below hb10
      replace Xb : Hid _ := Xb.out.below hb10
      replace Xl : Hid _ := Xl.out.below hb10
      replace hbw := Below.on hbw hb10
      clear hb10
      obtain ⟨cl0, cl1, cl2, fl0, fl1, fl2⟩ := Xl.out
      have hnel : gl < v10.heap.size := World.block_lt_of_cell? v10 _ cl0
      obtain ⟨ca0, ca1, ca2, fa0, fa1, fa2⟩ := Xa.out
      have hnea : ga < v10.heap.size := World.block_lt_of_cell? v10 _ ca0
      obtain ⟨cb0, cb1, cb2, fb0, fb1, fb2⟩ := Xb.out
      have hneb : gb < v10.heap.size := World.block_lt_of_cell? v10 _ cb0
      have qaa : ga ≠ gl := HDal.out
      have qba : gl ≠ ga := fun h => qaa h.symm
      have qab : gb ≠ gl := HDbl.out
      have qbb : gl ≠ gb := fun h => qab h.symm
      go_wp2_with fail
      have Xl2 : Hid (B3q (((v10.setCell ⟨gl, 0, none⟩ (.bool false)).setCell ⟨gl, 1, none⟩ (.slice none 0 0)).setCell ⟨gl, 2, none⟩ (.int .i64 0)) gl (.bool false) (.slice none 0 0) (.int .i64 0)) := ⟨by go_simp, by go_simp, by go_simp, by go_simp, by go_simp, by go_simp⟩
      have Xa2 : Hid (B3q (((v10.setCell ⟨gl, 0, none⟩ (.bool false)).setCell ⟨gl, 1, none⟩ (.slice none 0 0)).setCell ⟨gl, 2, none⟩ (.int .i64 0)) ga (.bool s) (.slice p m c) (.int .i64 e)) := ⟨by go_simp, by go_simp, by go_simp, by go_simp, by go_simp, by go_simp⟩
      have Xb2 : Hid (B3q (((v10.setCell ⟨gl, 0, none⟩ (.bool false)).setCell ⟨gl, 1, none⟩ (.slice none 0 0)).setCell ⟨gl, 2, none⟩ (.int .i64 0)) gb (.bool t) (.slice q n d) (.int .i64 f)) := ⟨by go_simp, by go_simp, by go_simp, by go_simp, by go_simp, by go_simp⟩
      have hbw2 : Below w.heap.size w (((v10.setCell ⟨gl, 0, none⟩ (.bool false)).setCell ⟨gl, 1, none⟩ (.slice none 0 0)).setCell ⟨gl, 2, none⟩ (.int .i64 0)) := bSet (bSet (bSet hbw _ _ _ HGl.out) _ _ _ HGl.out) _ _ _ HGl.out
      clear cl0 cl1 cl2 fl0 fl1 fl2 hnel
      clear ca0 ca1 ca2 fa0 fa1 fa2 hnea
      clear cb0 cb1 cb2 fb0 fb1 fb2 hneb
      clear qaa qba qab qbb hbw Xl Xa Xb 
      generalize (((v10.setCell ⟨gl, 0, none⟩ (.bool false)).setCell ⟨gl, 1, none⟩ (.slice none 0 0)).setCell ⟨gl, 2, none⟩ (.int .i64 0)) = Wl2 at *
      have Xl := Xl2
      have Xa := Xa2
      have Xb := Xb2
      have hbw := hbw2
      clear hbw2 Xl2 Xa2 Xb2 
      refine (qf_gu HQ2.out).mono ?_
      rintro e v11 ⟨rfl, hb11⟩
      replace Xa : Hid _ := Xa.out.below hb11
      replace Xb : Hid _ := Xb.out.below hb11
      replace Xl : Hid _ := Xl.out.below hb11
      replace hbw := Below.on hbw hb11
      clear hb11
      obtain ⟨ca0, ca1, ca2, fa0, fa1, fa2⟩ := Xa.out
      have hnea : ga < v11.heap.size := World.block_lt_of_cell? v11 _ ca0
      obtain ⟨cb0, cb1, cb2, fb0, fb1, fb2⟩ := Xb.out
      have hneb : gb < v11.heap.size := World.block_lt_of_cell? v11 _ cb0
      obtain ⟨cl0, cl1, cl2, fl0, fl1, fl2⟩ := Xl.out
      have hnel : gl < v11.heap.size := World.block_lt_of_cell? v11 _ cl0
      go_wp2_with fail
      clear ca0 ca1 ca2 fa0 fa1 fa2 hnea
      clear cb0 cb1 cb2 fb0 fb1 fb2 hneb
      clear cl0 cl1 cl2 fl0 fl1 fl2 hnel
      go_ret
      exact ⟨rfl, Below.on hbw (below1 _ _)⟩
    · have HQ : Hid (1 ≤ Q ∧ Q ≤ 70000) := ⟨by omega, by omega⟩
      by_cases hab : (formD s xs e = true ∧ m ≤ 500 ∧ -20000 ≤ e ∧ e ≤ 20000) ∧ (formD t ys f = true ∧ n ≤ 500 ∧ -20000 ≤ f ∧ f ≤ 20000)
      · obtain ⟨hna, hnb⟩ := hab
        have HNA : Hid (formD s xs e = true ∧ m ≤ 500 ∧ -20000 ≤ e ∧ e ≤ 20000) := hna
        have HNB : Hid (formD t ys f = true ∧ n ≤ 500 ∧ -20000 ≤ f ∧ f ≤ 20000) := hnb
        obtain ⟨hda, hba⟩ := near_db H.out hna
        obtain ⟨hdb, hbb⟩ := near_db K.out hnb
        obtain ⟨x, hx⟩ : ∃ x, x = iv s (valB B64 xs) := ⟨_, rfl⟩
        obtain ⟨y, hy⟩ : ∃ y, y = iv t (valB B64 ys) := ⟨_, rfl⟩
        rw [← hx] at hda hba
        rw [← hy] at hdb hbb
        have HA0 : Hid (DN w s p m c e x) := hda
        have HB0 : Hid (DN w t q n d f y) := hdb
        have BA : Hid (DB x e 32000 20000) := hba
        have BB : Hid (DB y f 32000 20000) := hbb
        obtain ⟨P, hP⟩ : ∃ P : Nat, Q = P := ⟨Q.toNat, by omega⟩
        subst hP
        have HP : Hid (1 ≤ P ∧ P ≤ 70000) := ⟨by have := HQ.out; omega, by have := HQ.out; omega⟩
        have hnz : n = 0 ↔ y = 0 := by
          obtain ⟨vs, hV⟩ := hdb.zn.ex
          rw [hV.zero]
          exact Int.natAbs_eq_zero
        have HNZ : Hid (n = 0 ↔ y = 0) := hnz
        clear hna hnb hda hba hdb hbb hx hy hnz
        by_cases hy0 : y = 0
        · have HY0 : Hid (y = 0) := hy0
          have HN0 : Hid (n = 0) := HNZ.out.2 hy0
          clear hy0
          refine (qf_zd (HA0.out.below hbw) (HB0.out.below hbw) HY0.out HQ.out).mono ?_
          rintro e v10 ⟨rfl, hb10⟩
          replace Xa : Hid _ := Xa.out.below hb10
          replace Xb : Hid _ := Xb.out.below hb10
          replace Xl : Hid _ := Xl.out.below hb10
          replace hbw := Below.on hbw hb10
          clear hb10
          obtain ⟨cl0, cl1, cl2, fl0, fl1, fl2⟩ := Xl.out
          have hnel : gl < v10.heap.size := World.block_lt_of_cell? v10 _ cl0
          obtain ⟨ca0, ca1, ca2, fa0, fa1, fa2⟩ := Xa.out
          have hnea : ga < v10.heap.size := World.block_lt_of_cell? v10 _ ca0
          obtain ⟨cb0, cb1, cb2, fb0, fb1, fb2⟩ := Xb.out
          have hneb : gb < v10.heap.size := World.block_lt_of_cell? v10 _ cb0
          have qaa : ga ≠ gl := HDal.out
          have qba : gl ≠ ga := fun h => qaa h.symm
          have qab : gb ≠ gl := HDbl.out
          have qbb : gl ≠ gb := fun h => qab h.symm
          go_wp2_with fail
          have Xl2 : Hid (B3q (((v10.setCell ⟨gl, 0, none⟩ (.bool false)).setCell ⟨gl, 1, none⟩ (.slice none 0 0)).setCell ⟨gl, 2, none⟩ (.int .i64 0)) gl (.bool false) (.slice none 0 0) (.int .i64 0)) := ⟨by go_simp, by go_simp, by go_simp, by go_simp, by go_simp, by go_simp⟩
          have Xa2 : Hid (B3q (((v10.setCell ⟨gl, 0, none⟩ (.bool false)).setCell ⟨gl, 1, none⟩ (.slice none 0 0)).setCell ⟨gl, 2, none⟩ (.int .i64 0)) ga (.bool s) (.slice p m c) (.int .i64 e)) := ⟨by go_simp, by go_simp, by go_simp, by go_simp, by go_simp, by go_simp⟩
          have Xb2 : Hid (B3q (((v10.setCell ⟨gl, 0, none⟩ (.bool false)).setCell ⟨gl, 1, none⟩ (.slice none 0 0)).setCell ⟨gl, 2, none⟩ (.int .i64 0)) gb (.bool t) (.slice q n d) (.int .i64 f)) := ⟨by go_simp, by go_simp, by go_simp, by go_simp, by go_simp, by go_simp⟩
          have hbw2 : Below w.heap.size w (((v10.setCell ⟨gl, 0, none⟩ (.bool false)).setCell ⟨gl, 1, none⟩ (.slice none 0 0)).setCell ⟨gl, 2, none⟩ (.int .i64 0)) := bSet (bSet (bSet hbw _ _ _ HGl.out) _ _ _ HGl.out) _ _ _ HGl.out
          clear cl0 cl1 cl2 fl0 fl1 fl2 hnel
          clear ca0 ca1 ca2 fa0 fa1 fa2 hnea
          clear cb0 cb1 cb2 fb0 fb1 fb2 hneb
          clear qaa qba qab qbb hbw Xl Xa Xb 
          generalize (((v10.setCell ⟨gl, 0, none⟩ (.bool false)).setCell ⟨gl, 1, none⟩ (.slice none 0 0)).setCell ⟨gl, 2, none⟩ (.int .i64 0)) = Wl2 at *
          have Xl := Xl2
          have Xa := Xa2
          have Xb := Xb2
          have hbw := hbw2
          clear hbw2 Xl2 Xa2 Xb2 
          refine (qf_zu (HA0.out.below hbw) (HB0.out.below hbw) HY0.out HQ.out).mono ?_
          rintro e v11 ⟨rfl, hb11⟩
          replace Xa : Hid _ := Xa.out.below hb11
          replace Xb : Hid _ := Xb.out.below hb11
          replace Xl : Hid _ := Xl.out.below hb11
          replace hbw := Below.on hbw hb11
          clear hb11
          obtain ⟨ca0, ca1, ca2, fa0, fa1, fa2⟩ := Xa.out
          have hnea : ga < v11.heap.size := World.block_lt_of_cell? v11 _ ca0
          obtain ⟨cb0, cb1, cb2, fb0, fb1, fb2⟩ := Xb.out
          have hneb : gb < v11.heap.size := World.block_lt_of_cell? v11 _ cb0
          obtain ⟨cl0, cl1, cl2, fl0, fl1, fl2⟩ := Xl.out
          have hnel : gl < v11.heap.size := World.block_lt_of_cell? v11 _ cl0
          go_wp2_with fail
          clear ca0 ca1 ca2 fa0 fa1 fa2 hnea
          clear cb0 cb1 cb2 fb0 fb1 fb2 hneb
          clear cl0 cl1 cl2 fl0 fl1 fl2 hnel
          have HDah : Hid (ga ≠ v11.heap.size) := Nat.ne_of_lt Xa.out.lt
          have HDbh : Hid (gb ≠ v11.heap.size) := Nat.ne_of_lt Xb.out.lt
          have HDlh : Hid (gl ≠ v11.heap.size) := Nat.ne_of_lt Xl.out.lt
          have Xh0 : Hid (B3q (v11.alloc (.cells #[.bool false, .slice none 0 0, .int .i64 0] 26)) v11.heap.size (.bool false) (.slice none 0 0) (.int .i64 0)) := B3q.new v11 _ _ _ _
          have hbn : Below v11.heap.size v11 (v11.alloc (.cells #[.bool false, .slice none 0 0, .int .i64 0] 26)) := below1 v11 _
          generalize v11.alloc (.cells #[.bool false, .slice none 0 0, .int .i64 0] 26) = Wh at *
          have HGh : Hid (w.heap.size ≤ v11.heap.size) := hbw.size
          replace Xa : Hid _ := Xa.out.below hbn
          replace Xb : Hid _ := Xb.out.below hbn
          replace Xl : Hid _ := Xl.out.below hbn
          replace hbw := Below.on hbw hbn
          clear hbn
          generalize v11.heap.size = gh at *
          have Xh := Xh0
          clear Xh0
          refine (near5 s (H.out.below hbw)).mono ?_
          rintro e2 w12 ⟨⟨bo, rfl, hn12⟩, hb12⟩
          replace Xa : Hid _ := Xa.out.below hb12
          replace Xb : Hid _ := Xb.out.below hb12
          replace Xl : Hid _ := Xl.out.below hb12
          replace Xh : Hid _ := Xh.out.below hb12
          replace hbw := Below.on hbw hb12
          clear hb12
          cases bo
          · clear hn12
            go_wp2_with fail
            go_ret
            exact ⟨rfl, hbw⟩
          · have HN12 := hn12 rfl
            clear hn12
            clear HN12
            obtain ⟨cb0, cb1, cb2, fb0, fb1, fb2⟩ := Xb.out
            have hneb : gb < w12.heap.size := World.block_lt_of_cell? w12 _ cb0
            go_wp2_with fail
            clear cb0 cb1 cb2 fb0 fb1 fb2 hneb
            refine (near5 t (K.out.below hbw)).mono ?_
            rintro e2 w13 ⟨⟨bo, rfl, hn13⟩, hb13⟩
            replace Xa : Hid _ := Xa.out.below hb13
            replace Xb : Hid _ := Xb.out.below hb13
            replace Xl : Hid _ := Xl.out.below hb13
            replace Xh : Hid _ := Xh.out.below hb13
            replace hbw := Below.on hbw hb13
            clear hb13
            cases bo
            · clear hn13
              go_wp2_with fail
              go_ret
              exact ⟨rfl, hbw⟩
            · have HN13 := hn13 rfl
              clear hn13
              clear HN13
              obtain ⟨cb0, cb1, cb2, fb0, fb1, fb2⟩ := Xb.out
              have hneb : gb < w13.heap.size := World.block_lt_of_cell? w13 _ cb0
              go_wp2_with fail
              clear cb0 cb1 cb2 fb0 fb1 fb2 hneb
              refine (nought).mono ?_
              rintro e v14 ⟨rfl, hb14⟩
              rw [decide_eq_true HN0.out]
              replace Xa : Hid _ := Xa.out.below hb14
              replace Xb : Hid _ := Xb.out.below hb14
              replace Xl : Hid _ := Xl.out.below hb14
              replace Xh : Hid _ := Xh.out.below hb14
              replace hbw := Below.on hbw hb14
              clear hb14
              go_wp2_with fail
              go_ret
              exact ⟨rfl, hbw⟩
        · have HY0 : Hid (y ≠ 0) := hy0
          have HN0 : Hid (n ≠ 0) := fun h => hy0 (HNZ.out.1 h)
          obtain ⟨X, Yv, L, hw⟩ := wb_ex x y P
          have HW : Hid (WB x y P X Yv L) := hw
          obtain ⟨zl, el, zh, eh, hqf⟩ := qf_any BA.out BB.out hy0 HP.out hw
          have QQ : Hid (QF x e y f P X Yv L zl el zh eh) := hqf
          have HM : Hid (m ≤ 4096 ∧ n ≤ 4096) := ⟨by have := HNA.out; omega, by have := HNB.out; omega⟩
          clear hy0 hw hqf
          have HB1 : Hid (gl < v6.heap.size) := Xl.out.lt
          refine (qf_od (HA0.out.below hbw) (HB0.out.below hbw) HY0.out HM.out.1 HM.out.2 HP.out HW.out rfl rfl (TB.out.below hbw)).mono ?_
          rintro e2 v10 ⟨hv, hb10⟩
          obtain ⟨v, rfl, hv2⟩ := hv.form (QQ.out.fl) (QQ.out.vl)
          clear hv
          obtain ⟨p10, m10, z10s, rfl, ho10, hn10, hm10⟩ := hv2
          replace Xa : Hid _ := Xa.out.below hb10
          replace Xb : Hid _ := Xb.out.below hb10
          replace Xl : Hid _ := Xl.out.below hb10
          replace hbw := Below.on hbw hb10
          clear hb10
          have O10 : Hid (Own v6.heap.size v10 p10 m10 z10s) := ho10
          have N10 : Hid (Nf B64 z10s (zl).natAbs ∧ m10 ≤ 8192) := ⟨hn10, hm10⟩
          obtain ⟨s10, hs10⟩ : ∃ b, b = decide ((zl) < 0) := ⟨_, rfl⟩
          rw [← hs10]
          have HS10 : Hid (s10 = decide ((zl) < 0)) := hs10
          clear ho10 hn10 hm10 hs10
          obtain ⟨cl0, cl1, cl2, fl0, fl1, fl2⟩ := Xl.out
          have hnel : gl < v10.heap.size := World.block_lt_of_cell? v10 _ cl0
          obtain ⟨ca0, ca1, ca2, fa0, fa1, fa2⟩ := Xa.out
          have hnea : ga < v10.heap.size := World.block_lt_of_cell? v10 _ ca0
          obtain ⟨cb0, cb1, cb2, fb0, fb1, fb2⟩ := Xb.out
          have hneb : gb < v10.heap.size := World.block_lt_of_cell? v10 _ cb0
          have qaa : ga ≠ gl := HDal.out
          have qba : gl ≠ ga := fun h => qaa h.symm
          have qab : gb ≠ gl := HDbl.out
          have qbb : gl ≠ gb := fun h => qab h.symm
          go_wp2_with fail
          have Xl2 : Hid (B3q (((v10.setCell ⟨gl, 0, none⟩ (.bool s10)).setCell ⟨gl, 1, none⟩ (.slice p10 m10 m10)).setCell ⟨gl, 2, none⟩ (.int .i64 (el))) gl (.bool s10) (.slice p10 m10 m10) (.int .i64 (el))) := ⟨by go_simp, by go_simp, by go_simp, by go_simp, by go_simp, by go_simp⟩
          have Xa2 : Hid (B3q (((v10.setCell ⟨gl, 0, none⟩ (.bool s10)).setCell ⟨gl, 1, none⟩ (.slice p10 m10 m10)).setCell ⟨gl, 2, none⟩ (.int .i64 (el))) ga (.bool s) (.slice p m c) (.int .i64 e)) := ⟨by go_simp, by go_simp, by go_simp, by go_simp, by go_simp, by go_simp⟩
          have Xb2 : Hid (B3q (((v10.setCell ⟨gl, 0, none⟩ (.bool s10)).setCell ⟨gl, 1, none⟩ (.slice p10 m10 m10)).setCell ⟨gl, 2, none⟩ (.int .i64 (el))) gb (.bool t) (.slice q n d) (.int .i64 f)) := ⟨by go_simp, by go_simp, by go_simp, by go_simp, by go_simp, by go_simp⟩
          have O102 : Hid (Own v6.heap.size (((v10.setCell ⟨gl, 0, none⟩ (.bool s10)).setCell ⟨gl, 1, none⟩ (.slice p10 m10 m10)).setCell ⟨gl, 2, none⟩ (.int .i64 (el))) p10 m10 z10s) := own_set3 O10.out HB1.out (Nat.le_refl _) _ _ _
          have hbw2 : Below w.heap.size w (((v10.setCell ⟨gl, 0, none⟩ (.bool s10)).setCell ⟨gl, 1, none⟩ (.slice p10 m10 m10)).setCell ⟨gl, 2, none⟩ (.int .i64 (el))) := bSet (bSet (bSet hbw _ _ _ HGl.out) _ _ _ HGl.out) _ _ _ HGl.out
          clear cl0 cl1 cl2 fl0 fl1 fl2 hnel
          clear ca0 ca1 ca2 fa0 fa1 fa2 hnea
          clear cb0 cb1 cb2 fb0 fb1 fb2 hneb
          clear qaa qba qab qbb hbw Xl Xa Xb O10
          generalize (((v10.setCell ⟨gl, 0, none⟩ (.bool s10)).setCell ⟨gl, 1, none⟩ (.slice p10 m10 m10)).setCell ⟨gl, 2, none⟩ (.int .i64 (el))) = Wl2 at *
          have Xl := Xl2
          have Xa := Xa2
          have Xb := Xb2
          have O10 := O102
          have hbw := hbw2
          clear hbw2 Xl2 Xa2 Xb2 O102
          have D10 : Hid (DN Wl2 s10 p10 m10 m10 (el) (zl)) := ⟨⟨⟨z10s, Num.of O10.out N10.out.1 N10.out.2⟩, HS10.out⟩, QQ.out.fl⟩
          clear O10
          clear N10 HS10
          refine (qf_ou (HA0.out.below hbw) (HB0.out.below hbw) HY0.out HM.out.1 HM.out.2 HP.out HW.out rfl rfl (TB.out.below hbw)).mono ?_
          rintro e2 v11 ⟨hv, hb11⟩
          obtain ⟨v, rfl, hv2⟩ := hv.form (QQ.out.fh) (QQ.out.vh)
          obtain ⟨s11, p11, m11, rfl, hd11⟩ := hv2.dn (QQ.out.fh)
          clear hv hv2
          replace Xa : Hid _ := Xa.out.below hb11
          replace Xb : Hid _ := Xb.out.below hb11
          replace Xl : Hid _ := Xl.out.below hb11
          replace D10 : Hid _ := D10.out.below hb11
          replace hbw := Below.on hbw hb11
          clear hb11
          have D11 : Hid (DN v11 s11 p11 m11 m11 (eh) (zh)) := hd11
          clear hd11
          obtain ⟨ca0, ca1, ca2, fa0, fa1, fa2⟩ := Xa.out
          have hnea : ga < v11.heap.size := World.block_lt_of_cell? v11 _ ca0
          obtain ⟨cb0, cb1, cb2, fb0, fb1, fb2⟩ := Xb.out
          have hneb : gb < v11.heap.size := World.block_lt_of_cell? v11 _ cb0
          obtain ⟨cl0, cl1, cl2, fl0, fl1, fl2⟩ := Xl.out
          have hnel : gl < v11.heap.size := World.block_lt_of_cell? v11 _ cl0
          go_wp2_with fail
          clear ca0 ca1 ca2 fa0 fa1 fa2 hnea
          clear cb0 cb1 cb2 fb0 fb1 fb2 hneb
          clear cl0 cl1 cl2 fl0 fl1 fl2 hnel
          have HDah : Hid (ga ≠ v11.heap.size) := Nat.ne_of_lt Xa.out.lt
          have HDbh : Hid (gb ≠ v11.heap.size) := Nat.ne_of_lt Xb.out.lt
          have HDlh : Hid (gl ≠ v11.heap.size) := Nat.ne_of_lt Xl.out.lt
          have Xh0 : Hid (B3q (v11.alloc (.cells #[.bool s11, .slice p11 m11 m11, .int .i64 (eh)] 26)) v11.heap.size (.bool s11) (.slice p11 m11 m11) (.int .i64 (eh))) := B3q.new v11 _ _ _ _
          have hbn : Below v11.heap.size v11 (v11.alloc (.cells #[.bool s11, .slice p11 m11 m11, .int .i64 (eh)] 26)) := below1 v11 _
          generalize v11.alloc (.cells #[.bool s11, .slice p11 m11 m11, .int .i64 (eh)] 26) = Wh at *
          have HGh : Hid (w.heap.size ≤ v11.heap.size) := hbw.size
          replace Xa : Hid _ := Xa.out.below hbn
          replace Xb : Hid _ := Xb.out.below hbn
          replace Xl : Hid _ := Xl.out.below hbn
          replace D10 : Hid _ := D10.out.below hbn
          replace D11 : Hid _ := D11.out.below hbn
          replace hbw := Below.on hbw hbn
          clear hbn
          generalize v11.heap.size = gh at *
          have Xh := Xh0
          clear Xh0
          refine (near5 s (H.out.below hbw)).mono ?_
          rintro e2 w12 ⟨⟨bo, rfl, hn12⟩, hb12⟩
          replace Xa : Hid _ := Xa.out.below hb12
          replace Xb : Hid _ := Xb.out.below hb12
          replace Xl : Hid _ := Xl.out.below hb12
          replace Xh : Hid _ := Xh.out.below hb12
          replace D10 : Hid _ := D10.out.below hb12
          replace D11 : Hid _ := D11.out.below hb12
          replace hbw := Below.on hbw hb12
          clear hb12
          cases bo
          · clear hn12
            go_wp2_with fail
            go_ret
            exact ⟨rfl, hbw⟩
          · have HN12 := hn12 rfl
            clear hn12
            clear HN12
            obtain ⟨cb0, cb1, cb2, fb0, fb1, fb2⟩ := Xb.out
            have hneb : gb < w12.heap.size := World.block_lt_of_cell? w12 _ cb0
            go_wp2_with fail
            clear cb0 cb1 cb2 fb0 fb1 fb2 hneb
            refine (near5 t (K.out.below hbw)).mono ?_
            rintro e2 w13 ⟨⟨bo, rfl, hn13⟩, hb13⟩
            replace Xa : Hid _ := Xa.out.below hb13
            replace Xb : Hid _ := Xb.out.below hb13
            replace Xl : Hid _ := Xl.out.below hb13
            replace Xh : Hid _ := Xh.out.below hb13
            replace D10 : Hid _ := D10.out.below hb13
            replace D11 : Hid _ := D11.out.below hb13
            replace hbw := Below.on hbw hb13
            clear hb13
            cases bo
            · clear hn13
              go_wp2_with fail
              go_ret
              exact ⟨rfl, hbw⟩
            · have HN13 := hn13 rfl
              clear hn13
              clear HN13
              obtain ⟨cb0, cb1, cb2, fb0, fb1, fb2⟩ := Xb.out
              have hneb : gb < w13.heap.size := World.block_lt_of_cell? w13 _ cb0
              go_wp2_with fail
              clear cb0 cb1 cb2 fb0 fb1 fb2 hneb
              refine (nought).mono ?_
              rintro e v14 ⟨rfl, hb14⟩
              rw [decide_eq_false HN0.out]
              replace Xa : Hid _ := Xa.out.below hb14
              replace Xb : Hid _ := Xb.out.below hb14
              replace Xl : Hid _ := Xl.out.below hb14
              replace Xh : Hid _ := Xh.out.below hb14
              replace D10 : Hid _ := D10.out.below hb14
              replace D11 : Hid _ := D11.out.below hb14
              replace hbw := Below.on hbw hb14
              clear hb14
              obtain ⟨cl0, cl1, cl2, fl0, fl1, fl2⟩ := Xl.out
              have hnel : gl < v14.heap.size := World.block_lt_of_cell? v14 _ cl0
              obtain ⟨cb0, cb1, cb2, fb0, fb1, fb2⟩ := Xb.out
              have hneb : gb < v14.heap.size := World.block_lt_of_cell? v14 _ cb0
              go_wp2_with fail
              clear cl0 cl1 cl2 fl0 fl1 fl2 hnel
              clear cb0 cb1 cb2 fb0 fb1 fb2 hneb
              refine (dmul_b D10.out (HB0.out.below hbw) QQ.out.dl BB.out (by decide) (by decide) (TB.out.below hbw)).mono ?_
              rintro e2 v15 ⟨v, z15, e15, rfl, hv, hdb, hdv, hb15⟩
              obtain ⟨s15, p15, m15, rfl, hd15⟩ := hv.dn hdb.fm
              clear hv
              replace Xa : Hid _ := Xa.out.below hb15
              replace Xb : Hid _ := Xb.out.below hb15
              replace Xl : Hid _ := Xl.out.below hb15
              replace Xh : Hid _ := Xh.out.below hb15
              replace D10 : Hid _ := D10.out.below hb15
              replace D11 : Hid _ := D11.out.below hb15
              replace hbw := Below.on hbw hb15
              clear hb15
              have D15 : Hid (DN v15 s15 p15 m15 m15 e15 z15) := hd15
              have VV15 : Hid (dv z15 e15 = dv (zl * y) (el + f)) := hdv
              clear hd15 hdb hdv
              obtain ⟨ch0, ch1, ch2, fh0, fh1, fh2⟩ := Xh.out
              have hneh : gh < v15.heap.size := World.block_lt_of_cell? v15 _ ch0
              obtain ⟨cb0, cb1, cb2, fb0, fb1, fb2⟩ := Xb.out
              have hneb : gb < v15.heap.size := World.block_lt_of_cell? v15 _ cb0
              go_wp2_with fail
              clear ch0 ch1 ch2 fh0 fh1 fh2 hneh
              clear cb0 cb1 cb2 fb0 fb1 fb2 hneb
              have HAD10x : Hid (DApart p10 m10 v15.heap.size) := D10.out.apart (Nat.le_refl _)
              have HAD11x : Hid (DApart p11 m11 v15.heap.size) := D11.out.apart (Nat.le_refl _)
              have HAD15x : Hid (DApart p15 m15 v15.heap.size) := D15.out.apart (Nat.le_refl _)
              have HDax : Hid (ga ≠ v15.heap.size) := Nat.ne_of_lt Xa.out.lt
              have HDbx : Hid (gb ≠ v15.heap.size) := Nat.ne_of_lt Xb.out.lt
              have HDlx : Hid (gl ≠ v15.heap.size) := Nat.ne_of_lt Xl.out.lt
              have HDhx : Hid (gh ≠ v15.heap.size) := Nat.ne_of_lt Xh.out.lt
              have Xx0 : Hid (B3q (v15.alloc (.cells #[.bool s15, .slice p15 m15 m15, .int .i64 (e15)] 26)) v15.heap.size (.bool s15) (.slice p15 m15 m15) (.int .i64 (e15))) := B3q.new v15 _ _ _ _
              have hbn : Below v15.heap.size v15 (v15.alloc (.cells #[.bool s15, .slice p15 m15 m15, .int .i64 (e15)] 26)) := below1 v15 _
              generalize v15.alloc (.cells #[.bool s15, .slice p15 m15 m15, .int .i64 (e15)] 26) = Wx at *
              have HGx : Hid (w.heap.size ≤ v15.heap.size) := hbw.size
              replace Xa : Hid _ := Xa.out.below hbn
              replace Xb : Hid _ := Xb.out.below hbn
              replace Xl : Hid _ := Xl.out.below hbn
              replace Xh : Hid _ := Xh.out.below hbn
              replace D10 : Hid _ := D10.out.below hbn
              replace D11 : Hid _ := D11.out.below hbn
              replace D15 : Hid _ := D15.out.below hbn
              replace hbw := Below.on hbw hbn
              clear hbn
              generalize v15.heap.size = gx at *
              have Xx := Xx0
              clear Xx0
              have HGX : Hid (gx < Wx.heap.size) := Xx.out.lt
              refine (dmul_b D11.out (HB0.out.below hbw) QQ.out.dh BB.out (by decide) (by decide) (TB.out.below hbw)).mono ?_
              rintro e2 v16 ⟨v, z16, e16, rfl, hv, hdb, hdv, hb16⟩
              obtain ⟨s16, p16, m16, rfl, hd16, hap⟩ := hv.dnA hdb.fm HGX.out
              clear hv
              replace Xa : Hid _ := Xa.out.below hb16
              replace Xb : Hid _ := Xb.out.below hb16
              replace Xl : Hid _ := Xl.out.below hb16
              replace Xh : Hid _ := Xh.out.below hb16
              replace Xx : Hid _ := Xx.out.below hb16
              replace D10 : Hid _ := D10.out.below hb16
              replace D11 : Hid _ := D11.out.below hb16
              replace D15 : Hid _ := D15.out.below hb16
              replace hbw := Below.on hbw hb16
              clear hb16
              have D16 : Hid (DN v16 s16 p16 m16 m16 e16 z16) := hd16
              have VV16 : Hid (dv z16 e16 = dv (zh * y) (eh + f)) := hdv
              clear hd16 hdb hdv
              have HAD16x : Hid (DApart p16 m16 gx) := hap
              clear hap HGX
              rcases Bool.eq_false_or_eq_true t with ht | ht
              · obtain ⟨cx0, cx1, cx2, fx0, fx1, fx2⟩ := Xx.out
                have hnex : gx < v16.heap.size := World.block_lt_of_cell? v16 _ cx0
                obtain ⟨ca0, ca1, ca2, fa0, fa1, fa2⟩ := Xa.out
                have hnea : ga < v16.heap.size := World.block_lt_of_cell? v16 _ ca0
                obtain ⟨cb0, cb1, cb2, fb0, fb1, fb2⟩ := Xb.out
                have hneb : gb < v16.heap.size := World.block_lt_of_cell? v16 _ cb0
                obtain ⟨cl0, cl1, cl2, fl0, fl1, fl2⟩ := Xl.out
                have hnel : gl < v16.heap.size := World.block_lt_of_cell? v16 _ cl0
                obtain ⟨ch0, ch1, ch2, fh0, fh1, fh2⟩ := Xh.out
                have hneh : gh < v16.heap.size := World.block_lt_of_cell? v16 _ ch0
                have qaa : ga ≠ gx := HDax.out
                have qba : gx ≠ ga := fun h => qaa h.symm
                have qab : gb ≠ gx := HDbx.out
                have qbb : gx ≠ gb := fun h => qab h.symm
                have qal : gl ≠ gx := HDlx.out
                have qbl : gx ≠ gl := fun h => qal h.symm
                have qah : gh ≠ gx := HDhx.out
                have qbh : gx ≠ gh := fun h => qah h.symm
                have ra : ga ≠ v16.heap.size := Nat.ne_of_lt hnea
                have rb : v16.heap.size ≠ ga := fun h => ra h.symm
                have rx : gx ≠ v16.heap.size := Nat.ne_of_lt hnex
                have ry : v16.heap.size ≠ gx := fun h => rx h.symm
                go_wp2_with fail
                have Xx2 : Hid (B3q (((v16.setCell ⟨gx, 0, none⟩ (.bool s16)).setCell ⟨gx, 1, none⟩ (.slice p16 m16 m16)).setCell ⟨gx, 2, none⟩ (.int .i64 (e16))) gx (.bool s16) (.slice p16 m16 m16) (.int .i64 (e16))) := ⟨by go_simp, by go_simp, by go_simp, by go_simp, by go_simp, by go_simp⟩
                have Xa2 : Hid (B3q (((v16.setCell ⟨gx, 0, none⟩ (.bool s16)).setCell ⟨gx, 1, none⟩ (.slice p16 m16 m16)).setCell ⟨gx, 2, none⟩ (.int .i64 (e16))) ga (.bool s) (.slice p m c) (.int .i64 e)) := ⟨by go_simp, by go_simp, by go_simp, by go_simp, by go_simp, by go_simp⟩
                have Xb2 : Hid (B3q (((v16.setCell ⟨gx, 0, none⟩ (.bool s16)).setCell ⟨gx, 1, none⟩ (.slice p16 m16 m16)).setCell ⟨gx, 2, none⟩ (.int .i64 (e16))) gb (.bool t) (.slice q n d) (.int .i64 f)) := ⟨by go_simp, by go_simp, by go_simp, by go_simp, by go_simp, by go_simp⟩
                have Xl2 : Hid (B3q (((v16.setCell ⟨gx, 0, none⟩ (.bool s16)).setCell ⟨gx, 1, none⟩ (.slice p16 m16 m16)).setCell ⟨gx, 2, none⟩ (.int .i64 (e16))) gl (.bool s10) (.slice p10 m10 m10) (.int .i64 (el))) := ⟨by go_simp, by go_simp, by go_simp, by go_simp, by go_simp, by go_simp⟩
                have Xh2 : Hid (B3q (((v16.setCell ⟨gx, 0, none⟩ (.bool s16)).setCell ⟨gx, 1, none⟩ (.slice p16 m16 m16)).setCell ⟨gx, 2, none⟩ (.int .i64 (e16))) gh (.bool s11) (.slice p11 m11 m11) (.int .i64 (eh))) := ⟨by go_simp, by go_simp, by go_simp, by go_simp, by go_simp, by go_simp⟩
                have D102 : Hid (DN (((v16.setCell ⟨gx, 0, none⟩ (.bool s16)).setCell ⟨gx, 1, none⟩ (.slice p16 m16 m16)).setCell ⟨gx, 2, none⟩ (.int .i64 (e16))) s10 p10 m10 m10 (el) (zl)) := ((D10.out.setA HAD10x.out _ _).setA HAD10x.out _ _).setA HAD10x.out _ _
                have D112 : Hid (DN (((v16.setCell ⟨gx, 0, none⟩ (.bool s16)).setCell ⟨gx, 1, none⟩ (.slice p16 m16 m16)).setCell ⟨gx, 2, none⟩ (.int .i64 (e16))) s11 p11 m11 m11 (eh) (zh)) := ((D11.out.setA HAD11x.out _ _).setA HAD11x.out _ _).setA HAD11x.out _ _
                have D152 : Hid (DN (((v16.setCell ⟨gx, 0, none⟩ (.bool s16)).setCell ⟨gx, 1, none⟩ (.slice p16 m16 m16)).setCell ⟨gx, 2, none⟩ (.int .i64 (e16))) s15 p15 m15 m15 e15 z15) := ((D15.out.setA HAD15x.out _ _).setA HAD15x.out _ _).setA HAD15x.out _ _
                have D162 : Hid (DN (((v16.setCell ⟨gx, 0, none⟩ (.bool s16)).setCell ⟨gx, 1, none⟩ (.slice p16 m16 m16)).setCell ⟨gx, 2, none⟩ (.int .i64 (e16))) s16 p16 m16 m16 e16 z16) := ((D16.out.setA HAD16x.out _ _).setA HAD16x.out _ _).setA HAD16x.out _ _
                have hbw2 : Below w.heap.size w (((v16.setCell ⟨gx, 0, none⟩ (.bool s16)).setCell ⟨gx, 1, none⟩ (.slice p16 m16 m16)).setCell ⟨gx, 2, none⟩ (.int .i64 (e16))) := bSet (bSet (bSet hbw _ _ _ HGx.out) _ _ _ HGx.out) _ _ _ HGx.out
                rw [show v16.heap.size = (((v16.setCell ⟨gx, 0, none⟩ (.bool s16)).setCell ⟨gx, 1, none⟩ (.slice p16 m16 m16)).setCell ⟨gx, 2, none⟩ (.int .i64 (e16))).heap.size from by simp]
                clear cx0 cx1 cx2 fx0 fx1 fx2 hnex
                clear ca0 ca1 ca2 fa0 fa1 fa2 hnea
                clear cb0 cb1 cb2 fb0 fb1 fb2 hneb
                clear cl0 cl1 cl2 fl0 fl1 fl2 hnel
                clear ch0 ch1 ch2 fh0 fh1 fh2 hneh
                clear ra rb rx ry hbw Xx D10 D11 D15 D16 qaa qba Xa qab qbb Xb qal qbl Xl qah qbh Xh
                generalize (((v16.setCell ⟨gx, 0, none⟩ (.bool s16)).setCell ⟨gx, 1, none⟩ (.slice p16 m16 m16)).setCell ⟨gx, 2, none⟩ (.int .i64 (e16))) = Wz at *
                have Xx := Xx2
                have Xa := Xa2
                have Xb := Xb2
                have Xl := Xl2
                have Xh := Xh2
                have D10 := D102
                have D11 := D112
                have D15 := D152
                have D16 := D162
                have hbw := hbw2
                clear hbw2 Xx2 D102 D112 D152 D162 Xa2 Xb2 Xl2 Xh2
                have HDay : Hid (ga ≠ Wz.heap.size) := Nat.ne_of_lt Xa.out.lt
                have HDby : Hid (gb ≠ Wz.heap.size) := Nat.ne_of_lt Xb.out.lt
                have HDly : Hid (gl ≠ Wz.heap.size) := Nat.ne_of_lt Xl.out.lt
                have HDhy : Hid (gh ≠ Wz.heap.size) := Nat.ne_of_lt Xh.out.lt
                have HDxy : Hid (gx ≠ Wz.heap.size) := Nat.ne_of_lt Xx.out.lt
                have Xy0 : Hid (B3q (Wz.alloc (.cells #[.bool s15, .slice p15 m15 m15, .int .i64 (e15)] 26)) Wz.heap.size (.bool s15) (.slice p15 m15 m15) (.int .i64 (e15))) := B3q.new Wz _ _ _ _
                have hbn : Below Wz.heap.size Wz (Wz.alloc (.cells #[.bool s15, .slice p15 m15 m15, .int .i64 (e15)] 26)) := below1 Wz _
                generalize Wz.alloc (.cells #[.bool s15, .slice p15 m15 m15, .int .i64 (e15)] 26) = Wy at *
                have HGy : Hid (w.heap.size ≤ Wz.heap.size) := hbw.size
                replace Xa : Hid _ := Xa.out.below hbn
                replace Xb : Hid _ := Xb.out.below hbn
                replace Xl : Hid _ := Xl.out.below hbn
                replace Xh : Hid _ := Xh.out.below hbn
                replace Xx : Hid _ := Xx.out.below hbn
                replace D10 : Hid _ := D10.out.below hbn
                replace D11 : Hid _ := D11.out.below hbn
                replace D15 : Hid _ := D15.out.below hbn
                replace D16 : Hid _ := D16.out.below hbn
                replace hbw := Below.on hbw hbn
                clear hbn
                generalize Wz.heap.size = gy at *
                have Xy := Xy0
                clear Xy0
                have HT0 : Hid (t = true) := ht
                clear ht
                have hsy := HB0.out.zn.sg
                rw [HT0.out] at hsy
                have hyn : y < 0 := of_decide_eq_true hsy.symm
                have ORD : Hid (dv z16 e16 ≤ dv x e ∧ dv x e ≤ dv z15 e15) := by rw [VV15.out, VV16.out]; exact QQ.out.on hyn
                clear hyn hsy
                refine (between5 D16.out (HA0.out.below hbw) D15.out ORD.out.1 ORD.out.2).mono ?_
                rintro e v17 ⟨rfl, hb17⟩
                replace Xa : Hid _ := Xa.out.below hb17
                replace Xb : Hid _ := Xb.out.below hb17
                replace Xl : Hid _ := Xl.out.below hb17
                replace Xh : Hid _ := Xh.out.below hb17
                replace Xx : Hid _ := Xx.out.below hb17
                replace Xy : Hid _ := Xy.out.below hb17
                replace D10 : Hid _ := D10.out.below hb17
                replace D11 : Hid _ := D11.out.below hb17
                replace D15 : Hid _ := D15.out.below hb17
                replace D16 : Hid _ := D16.out.below hb17
                replace hbw := Below.on hbw hb17
                clear hb17
                obtain ⟨cl0, cl1, cl2, fl0, fl1, fl2⟩ := Xl.out
                have hnel : gl < v17.heap.size := World.block_lt_of_cell? v17 _ cl0
                go_wp2_with fail
                clear cl0 cl1 cl2 fl0 fl1 fl2 hnel
                refine (short5 D10.out HP.out QQ.out.bl (TB.out.below hbw)).mono ?_
                rintro e v18 ⟨rfl, hb18⟩
                replace Xa : Hid _ := Xa.out.below hb18
                replace Xb : Hid _ := Xb.out.below hb18
                replace Xl : Hid _ := Xl.out.below hb18
                replace Xh : Hid _ := Xh.out.below hb18
                replace Xx : Hid _ := Xx.out.below hb18
                replace Xy : Hid _ := Xy.out.below hb18
                replace D10 : Hid _ := D10.out.below hb18
                replace D11 : Hid _ := D11.out.below hb18
                replace D15 : Hid _ := D15.out.below hb18
                replace D16 : Hid _ := D16.out.below hb18
                replace hbw := Below.on hbw hb18
                clear hb18
                obtain ⟨ch0, ch1, ch2, fh0, fh1, fh2⟩ := Xh.out
                have hneh : gh < v18.heap.size := World.block_lt_of_cell? v18 _ ch0
                go_wp2_with fail
                clear ch0 ch1 ch2 fh0 fh1 fh2 hneh
                refine (short5 D11.out HP.out QQ.out.bh (TB.out.below hbw)).mono ?_
                rintro e v19 ⟨rfl, hb19⟩
                replace Xa : Hid _ := Xa.out.below hb19
                replace Xb : Hid _ := Xb.out.below hb19
                replace Xl : Hid _ := Xl.out.below hb19
                replace Xh : Hid _ := Xh.out.below hb19
                replace Xx : Hid _ := Xx.out.below hb19
                replace Xy : Hid _ := Xy.out.below hb19
                replace D10 : Hid _ := D10.out.below hb19
                replace D11 : Hid _ := D11.out.below hb19
                replace D15 : Hid _ := D15.out.below hb19
                replace D16 : Hid _ := D16.out.below hb19
                replace hbw := Below.on hbw hb19
                clear hb19
                obtain ⟨cl0, cl1, cl2, fl0, fl1, fl2⟩ := Xl.out
                have hnel : gl < v19.heap.size := World.block_lt_of_cell? v19 _ cl0
                obtain ⟨ch0, ch1, ch2, fh0, fh1, fh2⟩ := Xh.out
                have hneh : gh < v19.heap.size := World.block_lt_of_cell? v19 _ ch0
                go_wp2_with fail
                clear cl0 cl1 cl2 fl0 fl1 fl2 hnel
                clear ch0 ch1 ch2 fh0 fh1 fh2 hneh
                refine (sameD D10.out D11.out).mono ?_
                rintro e v20 ⟨rfl, hb20⟩
                replace Xa : Hid _ := Xa.out.below hb20
                replace Xb : Hid _ := Xb.out.below hb20
                replace Xl : Hid _ := Xl.out.below hb20
                replace Xh : Hid _ := Xh.out.below hb20
                replace Xx : Hid _ := Xx.out.below hb20
                replace Xy : Hid _ := Xy.out.below hb20
                replace D10 : Hid _ := D10.out.below hb20
                replace D11 : Hid _ := D11.out.below hb20
                replace D15 : Hid _ := D15.out.below hb20
                replace D16 : Hid _ := D16.out.below hb20
                replace hbw := Below.on hbw hb20
                clear hb20
                by_cases hq : zl = zh ∧ el = eh
                · have HQ9 : Hid (z16 = x ∧ e16 = e) := dv_inj D16.out.fm HA0.out.fm (by have h1 := ORD.out; have h2 := VV15.out; have h3 := VV16.out; rw [hq.1, hq.2] at h2; omega)
                  rw [decide_eq_true hq]
                  clear hq
                  obtain ⟨cx0, cx1, cx2, fx0, fx1, fx2⟩ := Xx.out
                  have hnex : gx < v20.heap.size := World.block_lt_of_cell? v20 _ cx0
                  obtain ⟨ca0, ca1, ca2, fa0, fa1, fa2⟩ := Xa.out
                  have hnea : ga < v20.heap.size := World.block_lt_of_cell? v20 _ ca0
                  go_wp2_with fail
                  clear cx0 cx1 cx2 fx0 fx1 fx2 hnex
                  clear ca0 ca1 ca2 fa0 fa1 fa2 hnea
                  refine (sameD D16.out (HA0.out.below hbw)).mono ?_
                  rintro e v21 ⟨rfl, hb21⟩
                  rw [decide_eq_true HQ9.out]
                  replace Xa : Hid _ := Xa.out.below hb21
                  replace Xb : Hid _ := Xb.out.below hb21
                  replace Xl : Hid _ := Xl.out.below hb21
                  replace Xh : Hid _ := Xh.out.below hb21
                  replace Xx : Hid _ := Xx.out.below hb21
                  replace Xy : Hid _ := Xy.out.below hb21
                  replace D10 : Hid _ := D10.out.below hb21
                  replace D11 : Hid _ := D11.out.below hb21
                  replace D15 : Hid _ := D15.out.below hb21
                  replace D16 : Hid _ := D16.out.below hb21
                  replace hbw := Below.on hbw hb21
                  clear hb21
                  go_wp2_with fail
                  go_ret
                  exact ⟨rfl, hbw⟩
                · obtain ⟨n1, n2, g, g1, g2, g3, g4, g5⟩ := QQ.out.gap hq
                  have GN : Hid (zl ≠ 0 ∧ zh ≠ 0) := ⟨n1, n2⟩
                  have GG : Hid (min (topI zl el) (topI zh eh) - P + 1 = g ∧ dv 1 g = dv zh eh - dv zl el ∧ (zh ≠ 0 → zl ≠ 0 → (zh * 2 ^ (eh - min eh el).toNat).natAbs < LIM ∧ (zl * 2 ^ (el - min eh el).toNat).natAbs < LIM ∧ (zh * 2 ^ (eh - min eh el).toNat - zl * 2 ^ (el - min eh el).toNat).natAbs < LIM)) := ⟨g1, g4, g5⟩
                  have HEK : Hid (-1048576 ≤ g ∧ g ≤ 1048576) := ⟨g2, g3⟩
                  rw [decide_eq_false hq]
                  clear hq n1 n2 g1 g2 g3 g4 g5
                  obtain ⟨cl0, cl1, cl2, fl0, fl1, fl2⟩ := Xl.out
                  have hnel : gl < v20.heap.size := World.block_lt_of_cell? v20 _ cl0
                  go_wp2_with fail
                  clear cl0 cl1 cl2 fl0 fl1 fl2 hnel
                  obtain ⟨t1, ht1⟩ : ∃ t1, t1 = topI zl el := ⟨_, rfl⟩
                  obtain ⟨t2, ht2⟩ : ∃ t2, t2 = topI zh eh := ⟨_, rfl⟩
                  have HTT : Hid (topI zl el = t1 ∧ topI zh eh = t2) := ⟨ht1.symm, ht2.symm⟩
                  clear ht1 ht2
                  refine (dTop D10.out GN.out.1).mono ?_
                  rintro e v22 ⟨rfl, hb22⟩
                  rw [HTT.out.1]
                  replace Xa : Hid _ := Xa.out.below hb22
                  replace Xb : Hid _ := Xb.out.below hb22
                  replace Xl : Hid _ := Xl.out.below hb22
                  replace Xh : Hid _ := Xh.out.below hb22
                  replace Xx : Hid _ := Xx.out.below hb22
                  replace Xy : Hid _ := Xy.out.below hb22
                  replace D10 : Hid _ := D10.out.below hb22
                  replace D11 : Hid _ := D11.out.below hb22
                  replace D15 : Hid _ := D15.out.below hb22
                  replace D16 : Hid _ := D16.out.below hb22
                  replace hbw := Below.on hbw hb22
                  clear hb22
                  obtain ⟨ch0, ch1, ch2, fh0, fh1, fh2⟩ := Xh.out
                  have hneh : gh < v22.heap.size := World.block_lt_of_cell? v22 _ ch0
                  go_wp2_with fail
                  clear ch0 ch1 ch2 fh0 fh1 fh2 hneh
                  refine (dTop D11.out GN.out.2).mono ?_
                  rintro e v23 ⟨rfl, hb23⟩
                  rw [HTT.out.2]
                  replace Xa : Hid _ := Xa.out.below hb23
                  replace Xb : Hid _ := Xb.out.below hb23
                  replace Xl : Hid _ := Xl.out.below hb23
                  replace Xh : Hid _ := Xh.out.below hb23
                  replace Xx : Hid _ := Xx.out.below hb23
                  replace Xy : Hid _ := Xy.out.below hb23
                  replace D10 : Hid _ := D10.out.below hb23
                  replace D11 : Hid _ := D11.out.below hb23
                  replace D15 : Hid _ := D15.out.below hb23
                  replace D16 : Hid _ := D16.out.below hb23
                  replace hbw := Below.on hbw hb23
                  clear hb23
                  obtain ⟨ch0, ch1, ch2, fh0, fh1, fh2⟩ := Xh.out
                  have hneh : gh < v23.heap.size := World.block_lt_of_cell? v23 _ ch0
                  obtain ⟨cl0, cl1, cl2, fl0, fl1, fl2⟩ := Xl.out
                  have hnel : gl < v23.heap.size := World.block_lt_of_cell? v23 _ cl0
                  go_wp2_with fail
                  clear ch0 ch1 ch2 fh0 fh1 fh2 hneh
                  clear cl0 cl1 cl2 fl0 fl1 fl2 hnel
                  refine (dsub_v D11.out D10.out (zt := 1) (et := g) (.inr ⟨by decide, HEK.out⟩) GG.out.2.1 GG.out.2.2 (TB.out.below hbw)).mono ?_
                  rintro e2 v24 ⟨v, rfl, hv, hb24⟩
                  obtain ⟨s24, p24, m24, rfl, hd24⟩ := hv.dn (.inr ⟨by decide, HEK.out⟩)
                  clear hv
                  replace Xa : Hid _ := Xa.out.below hb24
                  replace Xb : Hid _ := Xb.out.below hb24
                  replace Xl : Hid _ := Xl.out.below hb24
                  replace Xh : Hid _ := Xh.out.below hb24
                  replace Xx : Hid _ := Xx.out.below hb24
                  replace Xy : Hid _ := Xy.out.below hb24
                  replace D10 : Hid _ := D10.out.below hb24
                  replace D11 : Hid _ := D11.out.below hb24
                  replace D15 : Hid _ := D15.out.below hb24
                  replace D16 : Hid _ := D16.out.below hb24
                  replace hbw := Below.on hbw hb24
                  clear hb24
                  have D24 : Hid (DN v24 s24 p24 m24 m24 (g) (1)) := hd24
                  clear hd24
                  obtain ⟨tm, htm⟩ : ∃ tm, tm = min t1 t2 := ⟨_, rfl⟩
                  have hgg : tm - P + 1 = g := by have h1 := GG.out.1; rw [HTT.out.1, HTT.out.2, ← htm] at h1; exact h1
                  have f0 : min t1 t2 = tm := htm.symm
                  have f1 : wrap64 (tm - P) = tm - P := by have := HEK.out; have := HP.out; simp only [wrap64]; omega
                  have f2 : wrap64 (tm - P + 1) = g := by have := HEK.out; simp only [wrap64]; omega
                  clear htm hgg
                  go_wp2_with fail
                  clear f0 f1 f2
                  have HDag : Hid (ga ≠ v24.heap.size) := Nat.ne_of_lt Xa.out.lt
                  have HDbg : Hid (gb ≠ v24.heap.size) := Nat.ne_of_lt Xb.out.lt
                  have HDlg : Hid (gl ≠ v24.heap.size) := Nat.ne_of_lt Xl.out.lt
                  have HDhg : Hid (gh ≠ v24.heap.size) := Nat.ne_of_lt Xh.out.lt
                  have HDxg : Hid (gx ≠ v24.heap.size) := Nat.ne_of_lt Xx.out.lt
                  have HDyg : Hid (gy ≠ v24.heap.size) := Nat.ne_of_lt Xy.out.lt
                  have Xg0 : Hid (B3q (v24.alloc (.cells #[.bool s24, .slice p24 m24 m24, .int .i64 (g)] 26)) v24.heap.size (.bool s24) (.slice p24 m24 m24) (.int .i64 (g))) := B3q.new v24 _ _ _ _
                  have hbn : Below v24.heap.size v24 (v24.alloc (.cells #[.bool s24, .slice p24 m24 m24, .int .i64 (g)] 26)) := below1 v24 _
                  generalize v24.alloc (.cells #[.bool s24, .slice p24 m24 m24, .int .i64 (g)] 26) = Wg at *
                  have HGg : Hid (w.heap.size ≤ v24.heap.size) := hbw.size
                  replace Xa : Hid _ := Xa.out.below hbn
                  replace Xb : Hid _ := Xb.out.below hbn
                  replace Xl : Hid _ := Xl.out.below hbn
                  replace Xh : Hid _ := Xh.out.below hbn
                  replace Xx : Hid _ := Xx.out.below hbn
                  replace Xy : Hid _ := Xy.out.below hbn
                  replace D10 : Hid _ := D10.out.below hbn
                  replace D11 : Hid _ := D11.out.below hbn
                  replace D15 : Hid _ := D15.out.below hbn
                  replace D16 : Hid _ := D16.out.below hbn
                  replace D24 : Hid _ := D24.out.below hbn
                  replace hbw := Below.on hbw hbn
                  clear hbn
                  generalize v24.heap.size = gg at *
                  have Xg := Xg0
                  clear Xg0
                  refine (step5 HEK.out (TB.out.below hbw)).mono ?_
                  rintro e2 v25 ⟨v, rfl, hv, hb25⟩
                  obtain ⟨s25, p25, m25, rfl, hd25⟩ := hv.dn (.inr ⟨by decide, HEK.out⟩)
                  clear hv
                  replace Xa : Hid _ := Xa.out.below hb25
                  replace Xb : Hid _ := Xb.out.below hb25
                  replace Xl : Hid _ := Xl.out.below hb25
                  replace Xh : Hid _ := Xh.out.below hb25
                  replace Xx : Hid _ := Xx.out.below hb25
                  replace Xy : Hid _ := Xy.out.below hb25
                  replace Xg : Hid _ := Xg.out.below hb25
                  replace D10 : Hid _ := D10.out.below hb25
                  replace D11 : Hid _ := D11.out.below hb25
                  replace D15 : Hid _ := D15.out.below hb25
                  replace D16 : Hid _ := D16.out.below hb25
                  replace D24 : Hid _ := D24.out.below hb25
                  replace hbw := Below.on hbw hb25
                  clear hb25
                  have D25 : Hid (DN v25 s25 p25 m25 m25 (g) (1)) := hd25
                  clear hd25
                  obtain ⟨cg0, cg1, cg2, fg0, fg1, fg2⟩ := Xg.out
                  have hneg : gg < v25.heap.size := World.block_lt_of_cell? v25 _ cg0
                  go_wp2_with fail
                  clear cg0 cg1 cg2 fg0 fg1 fg2 hneg
                  have HDao : Hid (ga ≠ v25.heap.size) := Nat.ne_of_lt Xa.out.lt
                  have HDbo : Hid (gb ≠ v25.heap.size) := Nat.ne_of_lt Xb.out.lt
                  have HDlo : Hid (gl ≠ v25.heap.size) := Nat.ne_of_lt Xl.out.lt
                  have HDho : Hid (gh ≠ v25.heap.size) := Nat.ne_of_lt Xh.out.lt
                  have HDxo : Hid (gx ≠ v25.heap.size) := Nat.ne_of_lt Xx.out.lt
                  have HDyo : Hid (gy ≠ v25.heap.size) := Nat.ne_of_lt Xy.out.lt
                  have HDgo : Hid (gg ≠ v25.heap.size) := Nat.ne_of_lt Xg.out.lt
                  have Xo0 : Hid (B3q (v25.alloc (.cells #[.bool s25, .slice p25 m25 m25, .int .i64 (g)] 26)) v25.heap.size (.bool s25) (.slice p25 m25 m25) (.int .i64 (g))) := B3q.new v25 _ _ _ _
                  have hbn : Below v25.heap.size v25 (v25.alloc (.cells #[.bool s25, .slice p25 m25 m25, .int .i64 (g)] 26)) := below1 v25 _
                  generalize v25.alloc (.cells #[.bool s25, .slice p25 m25 m25, .int .i64 (g)] 26) = Wo at *
                  have HGo : Hid (w.heap.size ≤ v25.heap.size) := hbw.size
                  replace Xa : Hid _ := Xa.out.below hbn
                  replace Xb : Hid _ := Xb.out.below hbn
                  replace Xl : Hid _ := Xl.out.below hbn
                  replace Xh : Hid _ := Xh.out.below hbn
                  replace Xx : Hid _ := Xx.out.below hbn
                  replace Xy : Hid _ := Xy.out.below hbn
                  replace Xg : Hid _ := Xg.out.below hbn
                  replace D10 : Hid _ := D10.out.below hbn
                  replace D11 : Hid _ := D11.out.below hbn
                  replace D15 : Hid _ := D15.out.below hbn
                  replace D16 : Hid _ := D16.out.below hbn
                  replace D24 : Hid _ := D24.out.below hbn
                  replace D25 : Hid _ := D25.out.below hbn
                  replace hbw := Below.on hbw hbn
                  clear hbn
                  generalize v25.heap.size = go at *
                  have Xo := Xo0
                  clear Xo0
                  refine (same5 D24.out D25.out).mono ?_
                  rintro e v26 ⟨rfl, hb26⟩
                  replace Xa : Hid _ := Xa.out.below hb26
                  replace Xb : Hid _ := Xb.out.below hb26
                  replace Xl : Hid _ := Xl.out.below hb26
                  replace Xh : Hid _ := Xh.out.below hb26
                  replace Xx : Hid _ := Xx.out.below hb26
                  replace Xy : Hid _ := Xy.out.below hb26
                  replace Xg : Hid _ := Xg.out.below hb26
                  replace Xo : Hid _ := Xo.out.below hb26
                  replace D10 : Hid _ := D10.out.below hb26
                  replace D11 : Hid _ := D11.out.below hb26
                  replace D15 : Hid _ := D15.out.below hb26
                  replace D16 : Hid _ := D16.out.below hb26
                  replace D24 : Hid _ := D24.out.below hb26
                  replace D25 : Hid _ := D25.out.below hb26
                  replace hbw := Below.on hbw hb26
                  clear hb26
                  go_wp2_with fail
                  go_ret
                  exact ⟨rfl, hbw⟩
              · obtain ⟨cb0, cb1, cb2, fb0, fb1, fb2⟩ := Xb.out
                have hneb : gb < v16.heap.size := World.block_lt_of_cell? v16 _ cb0
                obtain ⟨ca0, ca1, ca2, fa0, fa1, fa2⟩ := Xa.out
                have hnea : ga < v16.heap.size := World.block_lt_of_cell? v16 _ ca0
                obtain ⟨cx0, cx1, cx2, fx0, fx1, fx2⟩ := Xx.out
                have hnex : gx < v16.heap.size := World.block_lt_of_cell? v16 _ cx0
                go_wp2_with fail
                clear cb0 cb1 cb2 fb0 fb1 fb2 hneb
                clear ca0 ca1 ca2 fa0 fa1 fa2 hnea
                clear cx0 cx1 cx2 fx0 fx1 fx2 hnex
                have HDay : Hid (ga ≠ v16.heap.size) := Nat.ne_of_lt Xa.out.lt
                have HDby : Hid (gb ≠ v16.heap.size) := Nat.ne_of_lt Xb.out.lt
                have HDly : Hid (gl ≠ v16.heap.size) := Nat.ne_of_lt Xl.out.lt
                have HDhy : Hid (gh ≠ v16.heap.size) := Nat.ne_of_lt Xh.out.lt
                have HDxy : Hid (gx ≠ v16.heap.size) := Nat.ne_of_lt Xx.out.lt
                have Xy0 : Hid (B3q (v16.alloc (.cells #[.bool s16, .slice p16 m16 m16, .int .i64 (e16)] 26)) v16.heap.size (.bool s16) (.slice p16 m16 m16) (.int .i64 (e16))) := B3q.new v16 _ _ _ _
                have hbn : Below v16.heap.size v16 (v16.alloc (.cells #[.bool s16, .slice p16 m16 m16, .int .i64 (e16)] 26)) := below1 v16 _
                generalize v16.alloc (.cells #[.bool s16, .slice p16 m16 m16, .int .i64 (e16)] 26) = Wy at *
                have HGy : Hid (w.heap.size ≤ v16.heap.size) := hbw.size
                replace Xa : Hid _ := Xa.out.below hbn
                replace Xb : Hid _ := Xb.out.below hbn
                replace Xl : Hid _ := Xl.out.below hbn
                replace Xh : Hid _ := Xh.out.below hbn
                replace Xx : Hid _ := Xx.out.below hbn
                replace D10 : Hid _ := D10.out.below hbn
                replace D11 : Hid _ := D11.out.below hbn
                replace D15 : Hid _ := D15.out.below hbn
                replace D16 : Hid _ := D16.out.below hbn
                replace hbw := Below.on hbw hbn
                clear hbn
                generalize v16.heap.size = gy at *
                have Xy := Xy0
                clear Xy0
                have HT0 : Hid (t = false) := ht
                clear ht
                have hsy := HB0.out.zn.sg
                rw [HT0.out] at hsy
                have hyn : 0 < y := by have h1 := of_decide_eq_false hsy.symm; have h2 := HY0.out; omega
                have ORD : Hid (dv z15 e15 ≤ dv x e ∧ dv x e ≤ dv z16 e16) := by rw [VV15.out, VV16.out]; exact QQ.out.op hyn
                clear hyn hsy
                refine (between5 D15.out (HA0.out.below hbw) D16.out ORD.out.1 ORD.out.2).mono ?_
                rintro e v17 ⟨rfl, hb17⟩
                replace Xa : Hid _ := Xa.out.below hb17
                replace Xb : Hid _ := Xb.out.below hb17
                replace Xl : Hid _ := Xl.out.below hb17
                replace Xh : Hid _ := Xh.out.below hb17
                replace Xx : Hid _ := Xx.out.below hb17
                replace Xy : Hid _ := Xy.out.below hb17
                replace D10 : Hid _ := D10.out.below hb17
                replace D11 : Hid _ := D11.out.below hb17
                replace D15 : Hid _ := D15.out.below hb17
                replace D16 : Hid _ := D16.out.below hb17
                replace hbw := Below.on hbw hb17
                clear hb17
                obtain ⟨cl0, cl1, cl2, fl0, fl1, fl2⟩ := Xl.out
                have hnel : gl < v17.heap.size := World.block_lt_of_cell? v17 _ cl0
                go_wp2_with fail
                clear cl0 cl1 cl2 fl0 fl1 fl2 hnel
                refine (short5 D10.out HP.out QQ.out.bl (TB.out.below hbw)).mono ?_
                rintro e v18 ⟨rfl, hb18⟩
                replace Xa : Hid _ := Xa.out.below hb18
                replace Xb : Hid _ := Xb.out.below hb18
                replace Xl : Hid _ := Xl.out.below hb18
                replace Xh : Hid _ := Xh.out.below hb18
                replace Xx : Hid _ := Xx.out.below hb18
                replace Xy : Hid _ := Xy.out.below hb18
                replace D10 : Hid _ := D10.out.below hb18
                replace D11 : Hid _ := D11.out.below hb18
                replace D15 : Hid _ := D15.out.below hb18
                replace D16 : Hid _ := D16.out.below hb18
                replace hbw := Below.on hbw hb18
                clear hb18
                obtain ⟨ch0, ch1, ch2, fh0, fh1, fh2⟩ := Xh.out
                have hneh : gh < v18.heap.size := World.block_lt_of_cell? v18 _ ch0
                go_wp2_with fail
                clear ch0 ch1 ch2 fh0 fh1 fh2 hneh
                refine (short5 D11.out HP.out QQ.out.bh (TB.out.below hbw)).mono ?_
                rintro e v19 ⟨rfl, hb19⟩
                replace Xa : Hid _ := Xa.out.below hb19
                replace Xb : Hid _ := Xb.out.below hb19
                replace Xl : Hid _ := Xl.out.below hb19
                replace Xh : Hid _ := Xh.out.below hb19
                replace Xx : Hid _ := Xx.out.below hb19
                replace Xy : Hid _ := Xy.out.below hb19
                replace D10 : Hid _ := D10.out.below hb19
                replace D11 : Hid _ := D11.out.below hb19
                replace D15 : Hid _ := D15.out.below hb19
                replace D16 : Hid _ := D16.out.below hb19
                replace hbw := Below.on hbw hb19
                clear hb19
                obtain ⟨cl0, cl1, cl2, fl0, fl1, fl2⟩ := Xl.out
                have hnel : gl < v19.heap.size := World.block_lt_of_cell? v19 _ cl0
                obtain ⟨ch0, ch1, ch2, fh0, fh1, fh2⟩ := Xh.out
                have hneh : gh < v19.heap.size := World.block_lt_of_cell? v19 _ ch0
                go_wp2_with fail
                clear cl0 cl1 cl2 fl0 fl1 fl2 hnel
                clear ch0 ch1 ch2 fh0 fh1 fh2 hneh
                refine (sameD D10.out D11.out).mono ?_
                rintro e v20 ⟨rfl, hb20⟩
                replace Xa : Hid _ := Xa.out.below hb20
                replace Xb : Hid _ := Xb.out.below hb20
                replace Xl : Hid _ := Xl.out.below hb20
                replace Xh : Hid _ := Xh.out.below hb20
                replace Xx : Hid _ := Xx.out.below hb20
                replace Xy : Hid _ := Xy.out.below hb20
                replace D10 : Hid _ := D10.out.below hb20
                replace D11 : Hid _ := D11.out.below hb20
                replace D15 : Hid _ := D15.out.below hb20
                replace D16 : Hid _ := D16.out.below hb20
                replace hbw := Below.on hbw hb20
                clear hb20
                by_cases hq : zl = zh ∧ el = eh
                · have HQ9 : Hid (z15 = x ∧ e15 = e) := dv_inj D15.out.fm HA0.out.fm (by have h1 := ORD.out; have h2 := VV15.out; have h3 := VV16.out; rw [hq.1, hq.2] at h2; omega)
                  rw [decide_eq_true hq]
                  clear hq
                  obtain ⟨cx0, cx1, cx2, fx0, fx1, fx2⟩ := Xx.out
                  have hnex : gx < v20.heap.size := World.block_lt_of_cell? v20 _ cx0
                  obtain ⟨ca0, ca1, ca2, fa0, fa1, fa2⟩ := Xa.out
                  have hnea : ga < v20.heap.size := World.block_lt_of_cell? v20 _ ca0
                  go_wp2_with fail
                  clear cx0 cx1 cx2 fx0 fx1 fx2 hnex
                  clear ca0 ca1 ca2 fa0 fa1 fa2 hnea
                  refine (sameD D15.out (HA0.out.below hbw)).mono ?_
                  rintro e v21 ⟨rfl, hb21⟩
                  rw [decide_eq_true HQ9.out]
                  replace Xa : Hid _ := Xa.out.below hb21
                  replace Xb : Hid _ := Xb.out.below hb21
                  replace Xl : Hid _ := Xl.out.below hb21
                  replace Xh : Hid _ := Xh.out.below hb21
                  replace Xx : Hid _ := Xx.out.below hb21
                  replace Xy : Hid _ := Xy.out.below hb21
                  replace D10 : Hid _ := D10.out.below hb21
                  replace D11 : Hid _ := D11.out.below hb21
                  replace D15 : Hid _ := D15.out.below hb21
                  replace D16 : Hid _ := D16.out.below hb21
                  replace hbw := Below.on hbw hb21
                  clear hb21
                  go_wp2_with fail
                  go_ret
                  exact ⟨rfl, hbw⟩
                · obtain ⟨n1, n2, g, g1, g2, g3, g4, g5⟩ := QQ.out.gap hq
                  have GN : Hid (zl ≠ 0 ∧ zh ≠ 0) := ⟨n1, n2⟩
                  have GG : Hid (min (topI zl el) (topI zh eh) - P + 1 = g ∧ dv 1 g = dv zh eh - dv zl el ∧ (zh ≠ 0 → zl ≠ 0 → (zh * 2 ^ (eh - min eh el).toNat).natAbs < LIM ∧ (zl * 2 ^ (el - min eh el).toNat).natAbs < LIM ∧ (zh * 2 ^ (eh - min eh el).toNat - zl * 2 ^ (el - min eh el).toNat).natAbs < LIM)) := ⟨g1, g4, g5⟩
                  have HEK : Hid (-1048576 ≤ g ∧ g ≤ 1048576) := ⟨g2, g3⟩
                  rw [decide_eq_false hq]
                  clear hq n1 n2 g1 g2 g3 g4 g5
                  obtain ⟨cl0, cl1, cl2, fl0, fl1, fl2⟩ := Xl.out
                  have hnel : gl < v20.heap.size := World.block_lt_of_cell? v20 _ cl0
                  go_wp2_with fail
                  clear cl0 cl1 cl2 fl0 fl1 fl2 hnel
                  obtain ⟨t1, ht1⟩ : ∃ t1, t1 = topI zl el := ⟨_, rfl⟩
                  obtain ⟨t2, ht2⟩ : ∃ t2, t2 = topI zh eh := ⟨_, rfl⟩
                  have HTT : Hid (topI zl el = t1 ∧ topI zh eh = t2) := ⟨ht1.symm, ht2.symm⟩
                  clear ht1 ht2
                  refine (dTop D10.out GN.out.1).mono ?_
                  rintro e v22 ⟨rfl, hb22⟩
                  rw [HTT.out.1]
                  replace Xa : Hid _ := Xa.out.below hb22
                  replace Xb : Hid _ := Xb.out.below hb22
                  replace Xl : Hid _ := Xl.out.below hb22
                  replace Xh : Hid _ := Xh.out.below hb22
                  replace Xx : Hid _ := Xx.out.below hb22
                  replace Xy : Hid _ := Xy.out.below hb22
                  replace D10 : Hid _ := D10.out.below hb22
                  replace D11 : Hid _ := D11.out.below hb22
                  replace D15 : Hid _ := D15.out.below hb22
                  replace D16 : Hid _ := D16.out.below hb22
                  replace hbw := Below.on hbw hb22
                  clear hb22
                  obtain ⟨ch0, ch1, ch2, fh0, fh1, fh2⟩ := Xh.out
                  have hneh : gh < v22.heap.size := World.block_lt_of_cell? v22 _ ch0
                  go_wp2_with fail
                  clear ch0 ch1 ch2 fh0 fh1 fh2 hneh
                  refine (dTop D11.out GN.out.2).mono ?_
                  rintro e v23 ⟨rfl, hb23⟩
                  rw [HTT.out.2]
                  replace Xa : Hid _ := Xa.out.below hb23
                  replace Xb : Hid _ := Xb.out.below hb23
                  replace Xl : Hid _ := Xl.out.below hb23
                  replace Xh : Hid _ := Xh.out.below hb23
                  replace Xx : Hid _ := Xx.out.below hb23
                  replace Xy : Hid _ := Xy.out.below hb23
                  replace D10 : Hid _ := D10.out.below hb23
                  replace D11 : Hid _ := D11.out.below hb23
                  replace D15 : Hid _ := D15.out.below hb23
                  replace D16 : Hid _ := D16.out.below hb23
                  replace hbw := Below.on hbw hb23
                  clear hb23
                  obtain ⟨ch0, ch1, ch2, fh0, fh1, fh2⟩ := Xh.out
                  have hneh : gh < v23.heap.size := World.block_lt_of_cell? v23 _ ch0
                  obtain ⟨cl0, cl1, cl2, fl0, fl1, fl2⟩ := Xl.out
                  have hnel : gl < v23.heap.size := World.block_lt_of_cell? v23 _ cl0
                  go_wp2_with fail
                  clear ch0 ch1 ch2 fh0 fh1 fh2 hneh
                  clear cl0 cl1 cl2 fl0 fl1 fl2 hnel
                  refine (dsub_v D11.out D10.out (zt := 1) (et := g) (.inr ⟨by decide, HEK.out⟩) GG.out.2.1 GG.out.2.2 (TB.out.below hbw)).mono ?_
                  rintro e2 v24 ⟨v, rfl, hv, hb24⟩
                  obtain ⟨s24, p24, m24, rfl, hd24⟩ := hv.dn (.inr ⟨by decide, HEK.out⟩)
                  clear hv
                  replace Xa : Hid _ := Xa.out.below hb24
                  replace Xb : Hid _ := Xb.out.below hb24
                  replace Xl : Hid _ := Xl.out.below hb24
                  replace Xh : Hid _ := Xh.out.below hb24
                  replace Xx : Hid _ := Xx.out.below hb24
                  replace Xy : Hid _ := Xy.out.below hb24
                  replace D10 : Hid _ := D10.out.below hb24
                  replace D11 : Hid _ := D11.out.below hb24
                  replace D15 : Hid _ := D15.out.below hb24
                  replace D16 : Hid _ := D16.out.below hb24
                  replace hbw := Below.on hbw hb24
                  clear hb24
                  have D24 : Hid (DN v24 s24 p24 m24 m24 (g) (1)) := hd24
                  clear hd24
                  obtain ⟨tm, htm⟩ : ∃ tm, tm = min t1 t2 := ⟨_, rfl⟩
                  have hgg : tm - P + 1 = g := by have h1 := GG.out.1; rw [HTT.out.1, HTT.out.2, ← htm] at h1; exact h1
                  have f0 : min t1 t2 = tm := htm.symm
                  have f1 : wrap64 (tm - P) = tm - P := by have := HEK.out; have := HP.out; simp only [wrap64]; omega
                  have f2 : wrap64 (tm - P + 1) = g := by have := HEK.out; simp only [wrap64]; omega
                  clear htm hgg
                  go_wp2_with fail
                  clear f0 f1 f2
                  have HDag : Hid (ga ≠ v24.heap.size) := Nat.ne_of_lt Xa.out.lt
                  have HDbg : Hid (gb ≠ v24.heap.size) := Nat.ne_of_lt Xb.out.lt
                  have HDlg : Hid (gl ≠ v24.heap.size) := Nat.ne_of_lt Xl.out.lt
                  have HDhg : Hid (gh ≠ v24.heap.size) := Nat.ne_of_lt Xh.out.lt
                  have HDxg : Hid (gx ≠ v24.heap.size) := Nat.ne_of_lt Xx.out.lt
                  have HDyg : Hid (gy ≠ v24.heap.size) := Nat.ne_of_lt Xy.out.lt
                  have Xg0 : Hid (B3q (v24.alloc (.cells #[.bool s24, .slice p24 m24 m24, .int .i64 (g)] 26)) v24.heap.size (.bool s24) (.slice p24 m24 m24) (.int .i64 (g))) := B3q.new v24 _ _ _ _
                  have hbn : Below v24.heap.size v24 (v24.alloc (.cells #[.bool s24, .slice p24 m24 m24, .int .i64 (g)] 26)) := below1 v24 _
                  generalize v24.alloc (.cells #[.bool s24, .slice p24 m24 m24, .int .i64 (g)] 26) = Wg at *
                  have HGg : Hid (w.heap.size ≤ v24.heap.size) := hbw.size
                  replace Xa : Hid _ := Xa.out.below hbn
                  replace Xb : Hid _ := Xb.out.below hbn
                  replace Xl : Hid _ := Xl.out.below hbn
                  replace Xh : Hid _ := Xh.out.below hbn
                  replace Xx : Hid _ := Xx.out.below hbn
                  replace Xy : Hid _ := Xy.out.below hbn
                  replace D10 : Hid _ := D10.out.below hbn
                  replace D11 : Hid _ := D11.out.below hbn
                  replace D15 : Hid _ := D15.out.below hbn
                  replace D16 : Hid _ := D16.out.below hbn
                  replace D24 : Hid _ := D24.out.below hbn
                  replace hbw := Below.on hbw hbn
                  clear hbn
                  generalize v24.heap.size = gg at *
                  have Xg := Xg0
                  clear Xg0
                  refine (step5 HEK.out (TB.out.below hbw)).mono ?_
                  rintro e2 v25 ⟨v, rfl, hv, hb25⟩
                  obtain ⟨s25, p25, m25, rfl, hd25⟩ := hv.dn (.inr ⟨by decide, HEK.out⟩)
                  clear hv
                  replace Xa : Hid _ := Xa.out.below hb25
                  replace Xb : Hid _ := Xb.out.below hb25
                  replace Xl : Hid _ := Xl.out.below hb25
                  replace Xh : Hid _ := Xh.out.below hb25
                  replace Xx : Hid _ := Xx.out.below hb25
                  replace Xy : Hid _ := Xy.out.below hb25
                  replace Xg : Hid _ := Xg.out.below hb25
                  replace D10 : Hid _ := D10.out.below hb25
                  replace D11 : Hid _ := D11.out.below hb25
                  replace D15 : Hid _ := D15.out.below hb25
                  replace D16 : Hid _ := D16.out.below hb25
                  replace D24 : Hid _ := D24.out.below hb25
                  replace hbw := Below.on hbw hb25
                  clear hb25
                  have D25 : Hid (DN v25 s25 p25 m25 m25 (g) (1)) := hd25
                  clear hd25
                  obtain ⟨cg0, cg1, cg2, fg0, fg1, fg2⟩ := Xg.out
                  have hneg : gg < v25.heap.size := World.block_lt_of_cell? v25 _ cg0
                  go_wp2_with fail
                  clear cg0 cg1 cg2 fg0 fg1 fg2 hneg
                  have HDao : Hid (ga ≠ v25.heap.size) := Nat.ne_of_lt Xa.out.lt
                  have HDbo : Hid (gb ≠ v25.heap.size) := Nat.ne_of_lt Xb.out.lt
                  have HDlo : Hid (gl ≠ v25.heap.size) := Nat.ne_of_lt Xl.out.lt
                  have HDho : Hid (gh ≠ v25.heap.size) := Nat.ne_of_lt Xh.out.lt
                  have HDxo : Hid (gx ≠ v25.heap.size) := Nat.ne_of_lt Xx.out.lt
                  have HDyo : Hid (gy ≠ v25.heap.size) := Nat.ne_of_lt Xy.out.lt
                  have HDgo : Hid (gg ≠ v25.heap.size) := Nat.ne_of_lt Xg.out.lt
                  have Xo0 : Hid (B3q (v25.alloc (.cells #[.bool s25, .slice p25 m25 m25, .int .i64 (g)] 26)) v25.heap.size (.bool s25) (.slice p25 m25 m25) (.int .i64 (g))) := B3q.new v25 _ _ _ _
                  have hbn : Below v25.heap.size v25 (v25.alloc (.cells #[.bool s25, .slice p25 m25 m25, .int .i64 (g)] 26)) := below1 v25 _
                  generalize v25.alloc (.cells #[.bool s25, .slice p25 m25 m25, .int .i64 (g)] 26) = Wo at *
                  have HGo : Hid (w.heap.size ≤ v25.heap.size) := hbw.size
                  replace Xa : Hid _ := Xa.out.below hbn
                  replace Xb : Hid _ := Xb.out.below hbn
                  replace Xl : Hid _ := Xl.out.below hbn
                  replace Xh : Hid _ := Xh.out.below hbn
                  replace Xx : Hid _ := Xx.out.below hbn
                  replace Xy : Hid _ := Xy.out.below hbn
                  replace Xg : Hid _ := Xg.out.below hbn
                  replace D10 : Hid _ := D10.out.below hbn
                  replace D11 : Hid _ := D11.out.below hbn
                  replace D15 : Hid _ := D15.out.below hbn
                  replace D16 : Hid _ := D16.out.below hbn
                  replace D24 : Hid _ := D24.out.below hbn
                  replace D25 : Hid _ := D25.out.below hbn
                  replace hbw := Below.on hbw hbn
                  clear hbn
                  generalize v25.heap.size = go at *
                  have Xo := Xo0
                  clear Xo0
                  refine (same5 D24.out D25.out).mono ?_
                  rintro e v26 ⟨rfl, hb26⟩
                  replace Xa : Hid _ := Xa.out.below hb26
                  replace Xb : Hid _ := Xb.out.below hb26
                  replace Xl : Hid _ := Xl.out.below hb26
                  replace Xh : Hid _ := Xh.out.below hb26
                  replace Xx : Hid _ := Xx.out.below hb26
                  replace Xy : Hid _ := Xy.out.below hb26
                  replace Xg : Hid _ := Xg.out.below hb26
                  replace Xo : Hid _ := Xo.out.below hb26
                  replace D10 : Hid _ := D10.out.below hb26
                  replace D11 : Hid _ := D11.out.below hb26
                  replace D15 : Hid _ := D15.out.below hb26
                  replace D16 : Hid _ := D16.out.below hb26
                  replace D24 : Hid _ := D24.out.below hb26
                  replace D25 : Hid _ := D25.out.below hb26
                  replace hbw := Below.on hbw hb26
                  clear hb26
                  go_wp2_with fail
                  go_ret
                  exact ⟨rfl, hbw⟩
      · have HAB : Hid (¬ ((formD s xs e = true ∧ m ≤ 500 ∧ -20000 ≤ e ∧ e ≤ 20000) ∧ (formD t ys f = true ∧ n ≤ 500 ∧ -20000 ≤ f ∧ f ≤ 20000))) := hab
        clear hab
        refine (qany_d s t (H.out.below hbw) (K.out.below hbw) HQ.out (TB.out.below hbw)).mono ?_
        rintro e2 v10 ⟨s10, p10, m10, o10, er10, rfl, hb10⟩
        replace Xa : Hid _ := Xa.out.below hb10
        replace Xb : Hid _ := Xb.out.below hb10
        replace Xl : Hid _ := Xl.out.below hb10
        replace hbw := Below.on hbw hb10
        clear hb10
        obtain ⟨cl0, cl1, cl2, fl0, fl1, fl2⟩ := Xl.out
        have hnel : gl < v10.heap.size := World.block_lt_of_cell? v10 _ cl0
        obtain ⟨ca0, ca1, ca2, fa0, fa1, fa2⟩ := Xa.out
        have hnea : ga < v10.heap.size := World.block_lt_of_cell? v10 _ ca0
        obtain ⟨cb0, cb1, cb2, fb0, fb1, fb2⟩ := Xb.out
        have hneb : gb < v10.heap.size := World.block_lt_of_cell? v10 _ cb0
        have qaa : ga ≠ gl := HDal.out
        have qba : gl ≠ ga := fun h => qaa h.symm
        have qab : gb ≠ gl := HDbl.out
        have qbb : gl ≠ gb := fun h => qab h.symm
        go_wp2_with fail
        have Xl2 : Hid (B3q (((v10.setCell ⟨gl, 0, none⟩ (.bool s10)).setCell ⟨gl, 1, none⟩ (.slice p10 m10 m10)).setCell ⟨gl, 2, none⟩ (.int .i64 (o10))) gl (.bool s10) (.slice p10 m10 m10) (.int .i64 (o10))) := ⟨by go_simp, by go_simp, by go_simp, by go_simp, by go_simp, by go_simp⟩
        have Xa2 : Hid (B3q (((v10.setCell ⟨gl, 0, none⟩ (.bool s10)).setCell ⟨gl, 1, none⟩ (.slice p10 m10 m10)).setCell ⟨gl, 2, none⟩ (.int .i64 (o10))) ga (.bool s) (.slice p m c) (.int .i64 e)) := ⟨by go_simp, by go_simp, by go_simp, by go_simp, by go_simp, by go_simp⟩
        have Xb2 : Hid (B3q (((v10.setCell ⟨gl, 0, none⟩ (.bool s10)).setCell ⟨gl, 1, none⟩ (.slice p10 m10 m10)).setCell ⟨gl, 2, none⟩ (.int .i64 (o10))) gb (.bool t) (.slice q n d) (.int .i64 f)) := ⟨by go_simp, by go_simp, by go_simp, by go_simp, by go_simp, by go_simp⟩
        have hbw2 : Below w.heap.size w (((v10.setCell ⟨gl, 0, none⟩ (.bool s10)).setCell ⟨gl, 1, none⟩ (.slice p10 m10 m10)).setCell ⟨gl, 2, none⟩ (.int .i64 (o10))) := bSet (bSet (bSet hbw _ _ _ HGl.out) _ _ _ HGl.out) _ _ _ HGl.out
        clear cl0 cl1 cl2 fl0 fl1 fl2 hnel
        clear ca0 ca1 ca2 fa0 fa1 fa2 hnea
        clear cb0 cb1 cb2 fb0 fb1 fb2 hneb
        clear qaa qba qab qbb hbw Xl Xa Xb 
        generalize (((v10.setCell ⟨gl, 0, none⟩ (.bool s10)).setCell ⟨gl, 1, none⟩ (.slice p10 m10 m10)).setCell ⟨gl, 2, none⟩ (.int .i64 (o10))) = Wl2 at *
        have Xl := Xl2
        have Xa := Xa2
        have Xb := Xb2
        have hbw := hbw2
        clear hbw2 Xl2 Xa2 Xb2 
        refine (qany_u s t (H.out.below hbw) (K.out.below hbw) HQ.out (TB.out.below hbw)).mono ?_
        rintro e2 v11 ⟨s11, p11, m11, o11, er11, rfl, hb11⟩
        replace Xa : Hid _ := Xa.out.below hb11
        replace Xb : Hid _ := Xb.out.below hb11
        replace Xl : Hid _ := Xl.out.below hb11
        replace hbw := Below.on hbw hb11
        clear hb11
        obtain ⟨ca0, ca1, ca2, fa0, fa1, fa2⟩ := Xa.out
        have hnea : ga < v11.heap.size := World.block_lt_of_cell? v11 _ ca0
        obtain ⟨cb0, cb1, cb2, fb0, fb1, fb2⟩ := Xb.out
        have hneb : gb < v11.heap.size := World.block_lt_of_cell? v11 _ cb0
        obtain ⟨cl0, cl1, cl2, fl0, fl1, fl2⟩ := Xl.out
        have hnel : gl < v11.heap.size := World.block_lt_of_cell? v11 _ cl0
        go_wp2_with fail
        clear ca0 ca1 ca2 fa0 fa1 fa2 hnea
        clear cb0 cb1 cb2 fb0 fb1 fb2 hneb
        clear cl0 cl1 cl2 fl0 fl1 fl2 hnel
        have HDah : Hid (ga ≠ v11.heap.size) := Nat.ne_of_lt Xa.out.lt
        have HDbh : Hid (gb ≠ v11.heap.size) := Nat.ne_of_lt Xb.out.lt
        have HDlh : Hid (gl ≠ v11.heap.size) := Nat.ne_of_lt Xl.out.lt
        have Xh0 : Hid (B3q (v11.alloc (.cells #[.bool s11, .slice p11 m11 m11, .int .i64 (o11)] 26)) v11.heap.size (.bool s11) (.slice p11 m11 m11) (.int .i64 (o11))) := B3q.new v11 _ _ _ _
        have hbn : Below v11.heap.size v11 (v11.alloc (.cells #[.bool s11, .slice p11 m11 m11, .int .i64 (o11)] 26)) := below1 v11 _
        generalize v11.alloc (.cells #[.bool s11, .slice p11 m11 m11, .int .i64 (o11)] 26) = Wh at *
        have HGh : Hid (w.heap.size ≤ v11.heap.size) := hbw.size
        replace Xa : Hid _ := Xa.out.below hbn
        replace Xb : Hid _ := Xb.out.below hbn
        replace Xl : Hid _ := Xl.out.below hbn
        replace hbw := Below.on hbw hbn
        clear hbn
        generalize v11.heap.size = gh at *
        have Xh := Xh0
        clear Xh0
        refine (near5 s (H.out.below hbw)).mono ?_
        rintro e2 w12 ⟨⟨bo, rfl, hn12⟩, hb12⟩
        replace Xa : Hid _ := Xa.out.below hb12
        replace Xb : Hid _ := Xb.out.below hb12
        replace Xl : Hid _ := Xl.out.below hb12
        replace Xh : Hid _ := Xh.out.below hb12
        replace hbw := Below.on hbw hb12
        clear hb12
        cases bo
        · clear hn12
          go_wp2_with fail
          go_ret
          exact ⟨rfl, hbw⟩
        · have HN12 := hn12 rfl
          clear hn12
          have HN1 : Hid (formD s xs e = true ∧ m ≤ 500 ∧ -20000 ≤ e ∧ e ≤ 20000) := HN12
          clear HN12
          obtain ⟨cb0, cb1, cb2, fb0, fb1, fb2⟩ := Xb.out
          have hneb : gb < w12.heap.size := World.block_lt_of_cell? w12 _ cb0
          go_wp2_with fail
          clear cb0 cb1 cb2 fb0 fb1 fb2 hneb
          refine (near5 t (K.out.below hbw)).mono ?_
          rintro e2 w13 ⟨⟨bo, rfl, hn13⟩, hb13⟩
          replace Xa : Hid _ := Xa.out.below hb13
          replace Xb : Hid _ := Xb.out.below hb13
          replace Xl : Hid _ := Xl.out.below hb13
          replace Xh : Hid _ := Xh.out.below hb13
          replace hbw := Below.on hbw hb13
          clear hb13
          cases bo
          · clear hn13
            go_wp2_with fail
            go_ret
            exact ⟨rfl, hbw⟩
          · have HN13 := hn13 rfl
            clear hn13
            exact absurd ⟨HN1.out, HN13⟩ HAB.out
end Go.Proofs.YtkiacehilnghiaaGreatDoor

