import Derived.Test.YtmkglkdhnbjjhaaTop1
import Derived.Test.YtmkglkdhnbjjhaaTop2
import Derived.Test.YtmkglkdhnbjjhaaTop3
import Derived.Test.YtmkglkdhnbjjhaaTop4
namespace Go.Proofs.Ytmkglkdhnbjjhaa
open Go.RowKit Go.Shelf

/-- The law's struct where it lies in memory. -/
structure RB (W : World) (g : Nat) (v0 v1 v2 v3 v4 v5 v6 v7 : Value) : Prop where
  c0 : W.cell? ⟨g, 0, none⟩ = some v0
  c1 : W.cell? ⟨g, 1, none⟩ = some v1
  c2 : W.cell? ⟨g, 2, none⟩ = some v2
  c3 : W.cell? ⟨g, 3, none⟩ = some v3
  c4 : W.cell? ⟨g, 4, none⟩ = some v4
  c5 : W.cell? ⟨g, 5, none⟩ = some v5
  c6 : W.cell? ⟨g, 6, none⟩ = some v6
  c7 : W.cell? ⟨g, 7, none⟩ = some v7
theorem RB.below {W W' : World} {g : Nat} {v0 v1 v2 v3 v4 v5 v6 v7 : Value} (h : RB W g v0 v1 v2 v3 v4 v5 v6 v7) (hb : Below W.heap.size W W') : RB W' g v0 v1 v2 v3 v4 v5 v6 v7 := by
  have hl : g < W.heap.size := World.block_lt_of_cell? W _ h.c0
  exact ⟨(hb.cell (p := ⟨g, 0, none⟩) hl).trans h.c0, (hb.cell (p := ⟨g, 1, none⟩) hl).trans h.c1, (hb.cell (p := ⟨g, 2, none⟩) hl).trans h.c2, (hb.cell (p := ⟨g, 3, none⟩) hl).trans h.c3,
    (hb.cell (p := ⟨g, 4, none⟩) hl).trans h.c4, (hb.cell (p := ⟨g, 5, none⟩) hl).trans h.c5, (hb.cell (p := ⟨g, 6, none⟩) hl).trans h.c6, (hb.cell (p := ⟨g, 7, none⟩) hl).trans h.c7⟩
theorem RB.new (w : World) (ty : TypeId) (v0 v1 v2 v3 v4 v5 v6 v7 : Value) : RB (w.alloc (.cells #[v0, v1, v2, v3, v4, v5, v6, v7] ty)) w.heap.size v0 v1 v2 v3 v4 v5 v6 v7 :=
  ⟨World.cell?_alloc_new .., World.cell?_alloc_new .., World.cell?_alloc_new .., World.cell?_alloc_new .., World.cell?_alloc_new .., World.cell?_alloc_new .., World.cell?_alloc_new .., World.cell?_alloc_new ..⟩
theorem am260 : (0 : Int) < 260 ∧ (260 : Int) ≤ 1000000 := ⟨by decide, by decide⟩
theorem am20000 : (0 : Int) < 20000 ∧ (20000 : Int) ≤ 1000000 := ⟨by decide, by decide⟩
theorem wrap_one {u : Nat} (h : (u : Int) < 260) : ∃ z : Nat, IntKind.i64.wrap ((1 : Int) + (u : Int)) = (z : Int) ∧ 1 ≤ z ∧ z ≤ 260 := by
  refine ⟨1 + u, ?_, by omega, by omega⟩
  simp [IntKind.wrap, IntKind.signed, IntKind.bits]; omega
theorem tmod40 (x : Nat) : (x : Int).tmod 40 = ((x % 40 : Nat) : Int) := by
  rw [Int.tmod_eq_emod_of_nonneg (Int.natCast_nonneg x)]; omega
theorem lit15 : 3 * 5 < LIM := Nat.lt_of_lt_of_le (show 3 * 5 < B64 by decide) (by
  obtain ⟨K, hK⟩ : ∃ K, K = 8192 := ⟨8192, rfl⟩
  rw [LIM_eq K hK]; exact Nat.le_trans (Nat.le_of_eq (Nat.pow_one B64).symm) (Nat.pow_le_pow_right B64_pos (by omega)))

set_option maxRecDepth 20000 in
set_option maxHeartbeats 12000000 in
theorem whole_walk {p q r : Option Addr} {n m l c d f : Nat} {xs ys zs : List Nat} {w : World} (h : At w p n c xs) (k : At w q m d ys) (t : At w r l f zs) (v : Nat) (hv : v < B64)
    (kk nn : Int) (hkk : -9223372036854775808 ≤ kk ∧ kk ≤ 9223372036854775807) (hnn : -9223372036854775808 ≤ nn ∧ nn ≤ 9223372036854775807) (ii jj : Nat) (hii : ii < 256) (hjj : jj < 256) :
    Calls Try.prog 4 #[.agg #[.slice p n c, .slice q m d, .slice r l f, U v, .int .i64 kk, .int .i64 nn, .int .u8 ii, .int .u8 jj]] w fun e w' => e = .returned (.bool true) ∧ Below w.heap.size w w' := by
  obtain ⟨i, hi⟩ : ∃ i, i = 250 := ⟨_, rfl⟩
  have HI : Hid (i = 250) := hi
  have A0 : Hid (At w p n c xs) := h
  have B0 : Hid (At w q m d ys) := k
  have C0 : Hid (At w r l f zs) := t
  have HV : Hid (v < B64) := hv
  clear hi h k t hv
  go_enter Try.func4, Try.ntmps4
  go_wp2_with fail
  obtain ⟨W0, hW0⟩ : ∃ W0, W0 = w.alloc (.cells #[.slice p n c, .slice q m d, .slice r l f, U v, .int .i64 kk, .int .i64 nn, .int .u8 ii, .int .u8 jj] 35) := ⟨_, rfl⟩
  have hsz : W0.heap.size = w.heap.size + 1 := by rw [hW0]; simp
  have hb0 : Below w.heap.size w W0 := by rw [hW0]; exact below1 _ _
  have R0 : Hid (RB W0 w.heap.size (.slice p n c) (.slice q m d) (.slice r l f) (U v) (.int .i64 kk) (.int .i64 nn) (.int .u8 ii) (.int .u8 jj)) := by rw [hW0]; exact RB.new ..
  obtain ⟨g, hg⟩ : ∃ g, g = w.heap.size := ⟨_, rfl⟩
  have R : Hid (RB W0 g (.slice p n c) (.slice q m d) (.slice r l f) (U v) (.int .i64 kk) (.int .i64 nn) (.int .u8 ii) (.int .u8 jj)) := by rw [hg]; exact R0
  rw [← hW0, ← hsz, ← hg]
  clear hsz hW0 R0 hg
  have A0x : Hid (At W0 p n c xs) := A0.out.below hb0
  clear A0
  have A0 := A0x
  clear A0x
  have B0x : Hid (At W0 q m d ys) := B0.out.below hb0
  clear B0
  have B0 := B0x
  clear B0x
  have C0x : Hid (At W0 r l f zs) := C0.out.below hb0
  clear C0
  have C0 := C0x
  clear C0x
  have hbw := hb0
  clear hb0
  refine (mul_any ((lit_at W0 _ [3] 1 rfl rfl (dig1 (by decide)) (by omega)).alloc _) (lit_at1 W0 _ _ [5] 1 rfl rfl (dig1 (by decide)) (by omega)) (nf_one (x := 3) (by decide) (by decide)) (nf_one (x := 5) (by decide) (by decide)) (by omega) (by omega)).mono ?_
  rintro e v1 ⟨ha1, hb1q⟩
  obtain ⟨r1, t1, y1, rfl, ho1, hn1, hm1⟩ := ha1.ok lit15
  obtain rfl : y1 = [15] := hn1.inj B64_one (nf_one (x := 15) (by decide) (by decide))
  have T : Hid (At v1 r1 t1 t1 [15]) := ho1.at_ hm1
  have hb1 := Below.on (below2 W0 _ _) hb1q
  clear ha1 ho1 hn1 hb1q
  have A0x : Hid (At v1 p n c xs) := A0.out.below hb1
  clear A0
  have A0 := A0x
  clear A0x
  have B0x : Hid (At v1 q m d ys) := B0.out.below hb1
  clear B0
  have B0 := B0x
  clear B0x
  have C0x : Hid (At v1 r l f zs) := C0.out.below hb1
  clear C0
  have C0 := C0x
  clear C0x
  have Rx : Hid (RB v1 g (.slice p n c) (.slice q m d) (.slice r l f) (U v) (.int .i64 kk) (.int .i64 nn) (.int .u8 ii) (.int .u8 jj)) := R.out.below hb1
  clear R
  have R := Rx
  clear Rx
  have hbwy := Below.on hbw hb1
  clear hbw
  have hbw := hbwy
  clear hbwy
  clear hb1
  go_wp2_with fail
  refine (tsame_t (T.out.alloc _) (lit_at v1 _ [15] 1 rfl rfl (dig1 (by decide)) (by omega))).mono ?_
  rintro e v2 ⟨rfl, hb2⟩
  have hbq2 := Below.on (below1 v1 _) hb2
  clear hb2
  have hb2 := hbq2
  clear hbq2
  have A0x : Hid (At v2 p n c xs) := A0.out.below hb2
  clear A0
  have A0 := A0x
  clear A0x
  have B0x : Hid (At v2 q m d ys) := B0.out.below hb2
  clear B0
  have B0 := B0x
  clear B0x
  have C0x : Hid (At v2 r l f zs) := C0.out.below hb2
  clear C0
  have C0 := C0x
  clear C0x
  have Rx : Hid (RB v2 g (.slice p n c) (.slice q m d) (.slice r l f) (U v) (.int .i64 kk) (.int .i64 nn) (.int .u8 ii) (.int .u8 jj)) := R.out.below hb2
  clear R
  have R := Rx
  clear Rx
  have Tx : Hid (At v2 r1 t1 t1 [15]) := T.out.below hb2
  clear T
  have T := Tx
  clear Tx
  have hbwy := Below.on hbw hb2
  clear hbw
  have hbw := hbwy
  clear hbwy
  clear hb2
  clear T
  have hcell := R.out.c0
  go_wp2_with fail
  clear hcell
  refine (natural_any A0.out i HI.out).mono ?_
  rintro e v3 ⟨r3, k3, N3, y3, a3, rfl, hN3, hl3, hb3⟩
  have A : Hid (Num v3 r3 k3 N3 y3 a3) := hN3
  have LA : Hid (a3 < B64 ^ i) := hl3
  clear hN3 hl3
  have A0x : Hid (At v3 p n c xs) := A0.out.below hb3
  clear A0
  have A0 := A0x
  clear A0x
  have B0x : Hid (At v3 q m d ys) := B0.out.below hb3
  clear B0
  have B0 := B0x
  clear B0x
  have C0x : Hid (At v3 r l f zs) := C0.out.below hb3
  clear C0
  have C0 := C0x
  clear C0x
  have Rx : Hid (RB v3 g (.slice p n c) (.slice q m d) (.slice r l f) (U v) (.int .i64 kk) (.int .i64 nn) (.int .u8 ii) (.int .u8 jj)) := R.out.below hb3
  clear R
  have R := Rx
  clear Rx
  have hbwy := Below.on hbw hb3
  clear hbw
  have hbw := hbwy
  clear hbwy
  clear hb3
  clear A0
  have hcell := R.out.c1
  go_wp2_with fail
  clear hcell
  refine (natural_any B0.out i HI.out).mono ?_
  rintro e v4 ⟨r4, k4, N4, y4, a4, rfl, hN4, hl4, hb4⟩
  have B : Hid (Num v4 r4 k4 N4 y4 a4) := hN4
  have LB : Hid (a4 < B64 ^ i) := hl4
  clear hN4 hl4
  have B0x : Hid (At v4 q m d ys) := B0.out.below hb4
  clear B0
  have B0 := B0x
  clear B0x
  have C0x : Hid (At v4 r l f zs) := C0.out.below hb4
  clear C0
  have C0 := C0x
  clear C0x
  have Rx : Hid (RB v4 g (.slice p n c) (.slice q m d) (.slice r l f) (U v) (.int .i64 kk) (.int .i64 nn) (.int .u8 ii) (.int .u8 jj)) := R.out.below hb4
  clear R
  have R := Rx
  clear Rx
  have Ax : Hid (Num v4 r3 k3 N3 y3 a3) := A.out.below hb4
  clear A
  have A := Ax
  clear Ax
  have hbwy := Below.on hbw hb4
  clear hbw
  have hbw := hbwy
  clear hbwy
  clear hb4
  clear B0
  have hcell := R.out.c2
  go_wp2_with fail
  clear hcell
  refine (natural_any C0.out i HI.out).mono ?_
  rintro e v5 ⟨r5, k5, N5, y5, a5, rfl, hN5, hl5, hb5⟩
  have C : Hid (Num v5 r5 k5 N5 y5 a5) := hN5
  have LC : Hid (a5 < B64 ^ i) := hl5
  clear hN5 hl5
  have C0x : Hid (At v5 r l f zs) := C0.out.below hb5
  clear C0
  have C0 := C0x
  clear C0x
  have Rx : Hid (RB v5 g (.slice p n c) (.slice q m d) (.slice r l f) (U v) (.int .i64 kk) (.int .i64 nn) (.int .u8 ii) (.int .u8 jj)) := R.out.below hb5
  clear R
  have R := Rx
  clear Rx
  have Ax : Hid (Num v5 r3 k3 N3 y3 a3) := A.out.below hb5
  clear A
  have A := Ax
  clear Ax
  have Bx : Hid (Num v5 r4 k4 N4 y4 a4) := B.out.below hb5
  clear B
  have B := Bx
  clear Bx
  have hbwy := Below.on hbw hb5
  clear hbw
  have hbw := hbwy
  clear hbwy
  clear hb5
  clear C0
  go_wp2_with fail
  have hbd : Below v5.heap.size v5 v5.drew := bDrew (Below.refl _ _)
  have Rx : Hid (RB v5.drew g (.slice p n c) (.slice q m d) (.slice r l f) (U v) (.int .i64 kk) (.int .i64 nn) (.int .u8 ii) (.int .u8 jj)) := R.out.below hbd
  clear R
  have R := Rx
  clear Rx
  have Ax : Hid (Num v5.drew r3 k3 N3 y3 a3) := A.out.below hbd
  clear A
  have A := Ax
  clear Ax
  have Bx : Hid (Num v5.drew r4 k4 N4 y4 a4) := B.out.below hbd
  clear B
  have B := Bx
  clear Bx
  have Cx : Hid (Num v5.drew r5 k5 N5 y5 a5) := C.out.below hbd
  clear C
  have C := Cx
  clear Cx
  have hbwy := Below.on hbw hbd
  clear hbw
  have hbw := hbwy
  clear hbwy
  clear hbd
  obtain ⟨i4, hi4⟩ : ∃ x, x = ii % 40 := ⟨_, rfl⟩
  obtain ⟨j4, hj4⟩ : ∃ x, x = jj % 40 := ⟨_, rfl⟩
  have hmi : ((ii : Int).tmod 40) = (i4 : Int) := by rw [hi4]; exact tmod40 ii
  have hmj : ((jj : Int).tmod 40) = (j4 : Int) := by rw [hj4]; exact tmod40 jj
  have HI5 : Hid (i4 < 40) := by show _ < _; omega
  have HJ5 : Hid (j4 < 40) := by show _ < _; omega
  have hwi : IntKind.i64.wrap (ii : Int) = (ii : Int) := by simp [IntKind.wrap, IntKind.signed, IntKind.bits]; omega
  have hwj : IntKind.i64.wrap (jj : Int) = (jj : Int) := by simp [IntKind.wrap, IntKind.signed, IntKind.bits]; omega
  have HKK : Hid (-9223372036854775808 ≤ kk ∧ kk ≤ 9223372036854775807) := hkk
  have HNN : Hid (-9223372036854775808 ≤ nn ∧ nn ≤ 9223372036854775807) := hnn
  clear hi4 hj4 hkk hnn hii hjj
  obtain ⟨-, -, -, c3, c4, c5, c6, c7⟩ := R.out
  (go_region_with (first
      | (go_at_call 14; refine (ringsums_any HI.out A.out B.out C.out LA.out LB.out LC.out).mono ?_; rintro e v6 ⟨rfl, hb6⟩; clear c3 c4 c5 c6 c7; have Rx : Hid (RB v6 g (.slice p n c) (.slice q m d) (.slice r l f) (U v) (.int .i64 kk) (.int .i64 nn) (.int .u8 ii) (.int .u8 jj)) := R.out.below hb6; clear R; have R := Rx; clear Rx; have Ax : Hid (Num v6 r3 k3 N3 y3 a3) := A.out.below hb6; clear A; have A := Ax; clear Ax; have Bx : Hid (Num v6 r4 k4 N4 y4 a4) := B.out.below hb6; clear B; have B := Bx; clear Bx; have Cx : Hid (Num v6 r5 k5 N5 y5 a5) := C.out.below hb6; clear C; have C := Cx; clear Cx; have hbwy := Below.on hbw hb6; clear hbw; have hbw := hbwy; clear hbwy; clear hb6; obtain ⟨-, -, -, c3, c4, c5, c6, c7⟩ := R.out)
      | (go_at_call 15; refine (ringproducts_any HI.out A.out B.out C.out LA.out LB.out LC.out).mono ?_; rintro e v7 ⟨rfl, hb7⟩; clear c3 c4 c5 c6 c7; have Rx : Hid (RB v7 g (.slice p n c) (.slice q m d) (.slice r l f) (U v) (.int .i64 kk) (.int .i64 nn) (.int .u8 ii) (.int .u8 jj)) := R.out.below hb7; clear R; have R := Rx; clear Rx; have Ax : Hid (Num v7 r3 k3 N3 y3 a3) := A.out.below hb7; clear A; have A := Ax; clear Ax; have Bx : Hid (Num v7 r4 k4 N4 y4 a4) := B.out.below hb7; clear B; have B := Bx; clear Bx; have Cx : Hid (Num v7 r5 k5 N5 y5 a5) := C.out.below hb7; clear C; have C := Cx; clear Cx; have hbwy := Below.on hbw hb7; clear hbw; have hbw := hbwy; clear hbwy; clear hb7; obtain ⟨-, -, -, c3, c4, c5, c6, c7⟩ := R.out)
      | (go_at_call 17; refine (among_any nn 20000 v8 HNN.out am20000).mono ?_; rintro e w' ⟨u2, rfl, hu2, hw⟩; obtain rfl := hw.symm; clear hw; have HU2 : Hid (u2 < 20000) := Int.ofNat_lt.1 hu2; clear hu2)
      | (go_at_call 17; refine (among_any kk 260 _ HKK.out am260).mono ?_; rintro e w' ⟨u2, rfl, hu2, hw⟩; obtain rfl := hw.symm; clear hw; obtain ⟨z1, hw1, hz1⟩ := wrap_one hu2; have HZ1 : Hid (1 ≤ z1 ∧ z1 ≤ 260) := hz1; clear hz1 hu2)
      | (go_at_call 16; refine (ringparts_any HI.out A.out B.out LA.out LB.out z1 HZ1.out.1 HZ1.out.2).mono ?_; rintro e v8 ⟨rfl, hb8⟩; clear c3 c4 c5 c6 c7; have Rx : Hid (RB v8 g (.slice p n c) (.slice q m d) (.slice r l f) (U v) (.int .i64 kk) (.int .i64 nn) (.int .u8 ii) (.int .u8 jj)) := R.out.below hb8; clear R; have R := Rx; clear Rx; have Ax : Hid (Num v8 r3 k3 N3 y3 a3) := A.out.below hb8; clear A; have A := Ax; clear Ax; have Bx : Hid (Num v8 r4 k4 N4 y4 a4) := B.out.below hb8; clear B; have B := Bx; clear Bx; have Cx : Hid (Num v8 r5 k5 N5 y5 a5) := C.out.below hb8; clear C; have C := Cx; clear Cx; have hbwy := Below.on hbw hb8; clear hbw; have hbw := hbwy; clear hbwy; clear hb8; obtain ⟨-, -, -, c3, c4, c5, c6, c7⟩ := R.out)
      | (go_at_call 18; refine (ringwords_any HI.out A.out LA.out v HV.out u2 HU2.out).mono ?_; rintro e v9 ⟨rfl, hb9⟩; clear c3 c4 c5 c6 c7; have Rx : Hid (RB v9 g (.slice p n c) (.slice q m d) (.slice r l f) (U v) (.int .i64 kk) (.int .i64 nn) (.int .u8 ii) (.int .u8 jj)) := R.out.below hb9; clear R; have R := Rx; clear Rx; have Ax : Hid (Num v9 r3 k3 N3 y3 a3) := A.out.below hb9; clear A; have A := Ax; clear Ax; have Bx : Hid (Num v9 r4 k4 N4 y4 a4) := B.out.below hb9; clear B; have B := Bx; clear Bx; have Cx : Hid (Num v9 r5 k5 N5 y5 a5) := C.out.below hb9; clear C; have C := Cx; clear Cx; have hbwy := Below.on hbw hb9; clear hbw; have hbw := hbwy; clear hbwy; clear hb9; obtain ⟨-, -, -, c3, c4, c5, c6, c7⟩ := R.out)
      | (go_at_call 19; refine (ringpowers_any v HV.out i4 j4 HI5.out HJ5.out _).mono ?_; rintro e v10 ⟨rfl, hb10⟩; clear c3 c4 c5 c6 c7; have Rx : Hid (RB v10 g (.slice p n c) (.slice q m d) (.slice r l f) (U v) (.int .i64 kk) (.int .i64 nn) (.int .u8 ii) (.int .u8 jj)) := R.out.below hb10; clear R; have R := Rx; clear Rx; have Ax : Hid (Num v10 r3 k3 N3 y3 a3) := A.out.below hb10; clear A; have A := Ax; clear Ax; have Bx : Hid (Num v10 r4 k4 N4 y4 a4) := B.out.below hb10; clear B; have B := Bx; clear Bx; have Cx : Hid (Num v10 r5 k5 N5 y5 a5) := C.out.below hb10; clear C; have C := Cx; clear Cx; have hbwy := Below.on hbw hb10; clear hbw; have hbw := hbwy; clear hbwy; clear hb10; obtain ⟨-, -, -, c3, c4, c5, c6, c7⟩ := R.out)))
  all_goals
    (go_wp2_with fail
     go_ret
     exact ⟨rfl, hbw⟩)
end Go.Proofs.Ytmkglkdhnbjjhaa
