import Derived.Test.YtmkglkdhnbjjhaaTop0
namespace Go.Proofs.Ytmkglkdhnbjjhaa
open Go.RowKit Go.Shelf

theorem lists3 {p q r : Option Addr} {n m l c d f : Nat} {xs ys zs : List Nat} {a b cc : Nat} {w : World} (ty : TypeId) (h : Num w p n c xs a) (k : Num w q m d ys b) (t : Num w r l f zs cc) :
    Lists (w.alloc (.cells #[.slice p n c, .slice q m d, .slice r l f] ty)) (some ⟨w.heap.size, 0, none⟩) 3 3 [⟨p, n, c, xs, a⟩, ⟨q, m, d, ys, b⟩, ⟨r, l, f, zs, cc⟩] := by
  refine ⟨rfl, Nat.le_refl _, by unfold maxLen; omega, .inr ⟨_, 0, rfl, ?_⟩, ?_⟩
  · intro j hj
    rw [Nat.zero_add, World.cell?_alloc_new]
    match j, hj with
    | 0, _ => rfl
    | 1, _ => rfl
    | 2, _ => rfl
    | j + 3, hj => simp at hj; omega
  · intro t' ht
    simp only [List.mem_cons, List.not_mem_nil, or_false] at ht
    rcases ht with rfl | rfl | rfl
    · exact h.below (below1 _ _)
    · exact k.below (below1 _ _)
    · exact t.below (below1 _ _)

set_option maxRecDepth 20000 in
set_option maxHeartbeats 4000000 in
theorem ringproducts_any {p q r : Option Addr} {n m l c d f : Nat} {xs ys zs : List Nat} {a b cc i : Nat} {w : World} (hi : i = 250) (h : Num w p n c xs a) (k : Num w q m d ys b) (t : Num w r l f zs cc) (ha : a < B64 ^ i) (hb : b < B64 ^ i) (hc : cc < B64 ^ i) :
    Calls Try.prog 15 #[.slice p n c, .slice q m d, .slice r l f] w fun e w' => e = .returned (.bool true) ∧ Below w.heap.size w w' := by
  have HI : Hid (i = 250) := hi
  have A : Hid (Num w p n c xs a) := h
  have B : Hid (Num w q m d ys b) := k
  have C : Hid (Num w r l f zs cc) := t
  have LA : Hid (a < B64 ^ i) := ha
  have LB : Hid (b < B64 ^ i) := hb
  have LC : Hid (cc < B64 ^ i) := hc
  clear hi h k t ha hb hc
  go_enter Try.func15, Try.ntmps15
  have L1 : Hid (a * b < LIM) := lim_of (i + i) (lim_mul i i LA.out LB.out) (by have := HI.out; omega)
  have L2 : Hid (b * a < LIM) := lim_of (i + i) (lim_mul i i LB.out LA.out) (by have := HI.out; omega)
  have L3 : Hid (b * cc < LIM) := lim_of (i + i) (lim_mul i i LB.out LC.out) (by have := HI.out; omega)
  have L4 : Hid (a * cc < LIM) := lim_of (i + i) (lim_mul i i LA.out LC.out) (by have := HI.out; omega)
  have L5 : Hid (a * b * cc < LIM) := lim_of (i + i + i) (lim_mul (i + i) i (lim_mul i i LA.out LB.out) LC.out) (by have := HI.out; omega)
  have L6 : Hid (a * (b * cc) < LIM) := lim_of (i + (i + i)) (lim_mul i (i + i) LA.out (lim_mul i i LB.out LC.out)) (by have := HI.out; omega)
  have L7 : Hid (a + b < LIM) := lim_of (i + 1) (lim_add LA.out LB.out) (by have := HI.out; omega)
  have L8 : Hid ((a + b) * cc < LIM) := lim_of (i + 1 + i) (lim_mul (i + 1) i (lim_add LA.out LB.out) LC.out) (by have := HI.out; omega)
  have L9 : Hid (a * cc + b * cc < LIM) := lim_of (i + i + 1) (lim_add (lim_mul i i LA.out LC.out) (lim_mul i i LB.out LC.out)) (by have := HI.out; omega)
  have L10 : Hid ((a + b) * (a + b) < LIM) := lim_of (i + 1 + (i + 1)) (lim_mul (i + 1) (i + 1) (lim_add LA.out LB.out) (lim_add LA.out LB.out)) (by have := HI.out; omega)
  have L11 : Hid (a * a < LIM) := lim_of (i + i) (lim_mul i i LA.out LA.out) (by have := HI.out; omega)
  have L12 : Hid (b * b < LIM) := lim_of (i + i) (lim_mul i i LB.out LB.out) (by have := HI.out; omega)
  have L13 : Hid (a * b * 2 < LIM) := lim_of (i + i + 1) (lim_mul (i + i) 1 (lim_mul i i LA.out LB.out) (by decide)) (by have := HI.out; omega)
  have L14 : Hid (a * a + b * b < LIM) := lim_of (i + i + 1) (lim_add (lim_mul i i LA.out LA.out) (lim_mul i i LB.out LB.out)) (by have := HI.out; omega)
  have EQ : Hid (a * a + b * b + a * b * 2 = (a + b) * (a + b)) := by
    show _ = _
    simp only [Nat.mul_add, Nat.add_mul, Nat.mul_comm b a]; omega
  have L15 : Hid (a * a + b * b + a * b * 2 < LIM) := by
    show _ < _
    rw [EQ.out]; exact L10.out
  go_wp2_with fail
  refine (mul_any A.out.at_ B.out.at_ A.out.nf B.out.nf A.out.le B.out.le).mono ?_
  rintro e v1 ⟨ha1, hb1⟩
  obtain ⟨r1, t1, y1, rfl, ho1, hn1, hm1⟩ := ha1.ok L1.out
  have P1 : Hid (Num v1 r1 t1 t1 y1 (a * b)) := Num.of ho1 hn1 hm1
  clear ha1 ho1 hn1
  have Ax : Hid (Num v1 p n c xs a) := A.out.below hb1
  clear A
  have A := Ax
  clear Ax
  have Bx : Hid (Num v1 q m d ys b) := B.out.below hb1
  clear B
  have B := Bx
  clear Bx
  have Cx : Hid (Num v1 r l f zs cc) := C.out.below hb1
  clear C
  have C := Cx
  clear Cx
  have hbw := hb1
  clear hb1
  go_wp2_with fail
  refine (mul_any B.out.at_ A.out.at_ B.out.nf A.out.nf B.out.le A.out.le).mono ?_
  rintro e v2 ⟨ha2, hb2⟩
  obtain ⟨r2, t2, y2, rfl, ho2, hn2, hm2⟩ := ha2.ok L2.out
  have P2 : Hid (Num v2 r2 t2 t2 y2 (b * a)) := Num.of ho2 hn2 hm2
  clear ha2 ho2 hn2
  have Ax : Hid (Num v2 p n c xs a) := A.out.below hb2
  clear A
  have A := Ax
  clear Ax
  have Bx : Hid (Num v2 q m d ys b) := B.out.below hb2
  clear B
  have B := Bx
  clear Bx
  have Cx : Hid (Num v2 r l f zs cc) := C.out.below hb2
  clear C
  have C := Cx
  clear Cx
  have P1x : Hid (Num v2 r1 t1 t1 y1 (a * b)) := P1.out.below hb2
  clear P1
  have P1 := P1x
  clear P1x
  have hbwy := Below.on hbw hb2
  clear hbw
  have hbw := hbwy
  clear hbwy
  clear hb2
  go_wp2_with fail
  refine (mul_any B.out.at_ C.out.at_ B.out.nf C.out.nf B.out.le C.out.le).mono ?_
  rintro e v3 ⟨ha3, hb3⟩
  obtain ⟨r3, t3, y3, rfl, ho3, hn3, hm3⟩ := ha3.ok L3.out
  have P3 : Hid (Num v3 r3 t3 t3 y3 (b * cc)) := Num.of ho3 hn3 hm3
  clear ha3 ho3 hn3
  have Ax : Hid (Num v3 p n c xs a) := A.out.below hb3
  clear A
  have A := Ax
  clear Ax
  have Bx : Hid (Num v3 q m d ys b) := B.out.below hb3
  clear B
  have B := Bx
  clear Bx
  have Cx : Hid (Num v3 r l f zs cc) := C.out.below hb3
  clear C
  have C := Cx
  clear Cx
  have P1x : Hid (Num v3 r1 t1 t1 y1 (a * b)) := P1.out.below hb3
  clear P1
  have P1 := P1x
  clear P1x
  have P2x : Hid (Num v3 r2 t2 t2 y2 (b * a)) := P2.out.below hb3
  clear P2
  have P2 := P2x
  clear P2x
  have hbwy := Below.on hbw hb3
  clear hbw
  have hbw := hbwy
  clear hbwy
  clear hb3
  go_wp2_with fail
  refine (mul_any A.out.at_ C.out.at_ A.out.nf C.out.nf A.out.le C.out.le).mono ?_
  rintro e v4 ⟨ha4, hb4⟩
  obtain ⟨r4, t4, y4, rfl, ho4, hn4, hm4⟩ := ha4.ok L4.out
  have P4 : Hid (Num v4 r4 t4 t4 y4 (a * cc)) := Num.of ho4 hn4 hm4
  clear ha4 ho4 hn4
  have Ax : Hid (Num v4 p n c xs a) := A.out.below hb4
  clear A
  have A := Ax
  clear Ax
  have Bx : Hid (Num v4 q m d ys b) := B.out.below hb4
  clear B
  have B := Bx
  clear Bx
  have Cx : Hid (Num v4 r l f zs cc) := C.out.below hb4
  clear C
  have C := Cx
  clear Cx
  have P1x : Hid (Num v4 r1 t1 t1 y1 (a * b)) := P1.out.below hb4
  clear P1
  have P1 := P1x
  clear P1x
  have P2x : Hid (Num v4 r2 t2 t2 y2 (b * a)) := P2.out.below hb4
  clear P2
  have P2 := P2x
  clear P2x
  have P3x : Hid (Num v4 r3 t3 t3 y3 (b * cc)) := P3.out.below hb4
  clear P3
  have P3 := P3x
  clear P3x
  have hbwy := Below.on hbw hb4
  clear hbw
  have hbw := hbwy
  clear hbwy
  clear hb4
  go_wp2_with fail
  refine (mul_any P1.out.at_ C.out.at_ P1.out.nf C.out.nf P1.out.le C.out.le).mono ?_
  rintro e v5 ⟨ha5, hb5⟩
  obtain ⟨r5, t5, y5, rfl, ho5, hn5, hm5⟩ := ha5.ok L5.out
  have P5 : Hid (Num v5 r5 t5 t5 y5 (a * b * cc)) := Num.of ho5 hn5 hm5
  clear ha5 ho5 hn5
  have Ax : Hid (Num v5 p n c xs a) := A.out.below hb5
  clear A
  have A := Ax
  clear Ax
  have Bx : Hid (Num v5 q m d ys b) := B.out.below hb5
  clear B
  have B := Bx
  clear Bx
  have Cx : Hid (Num v5 r l f zs cc) := C.out.below hb5
  clear C
  have C := Cx
  clear Cx
  have P1x : Hid (Num v5 r1 t1 t1 y1 (a * b)) := P1.out.below hb5
  clear P1
  have P1 := P1x
  clear P1x
  have P2x : Hid (Num v5 r2 t2 t2 y2 (b * a)) := P2.out.below hb5
  clear P2
  have P2 := P2x
  clear P2x
  have P3x : Hid (Num v5 r3 t3 t3 y3 (b * cc)) := P3.out.below hb5
  clear P3
  have P3 := P3x
  clear P3x
  have P4x : Hid (Num v5 r4 t4 t4 y4 (a * cc)) := P4.out.below hb5
  clear P4
  have P4 := P4x
  clear P4x
  have hbwy := Below.on hbw hb5
  clear hbw
  have hbw := hbwy
  clear hbwy
  clear hb5
  go_wp2_with fail
  refine (mul_any A.out.at_ P3.out.at_ A.out.nf P3.out.nf A.out.le P3.out.le).mono ?_
  rintro e v6 ⟨ha6, hb6⟩
  obtain ⟨r6, t6, y6, rfl, ho6, hn6, hm6⟩ := ha6.ok L6.out
  have P6 : Hid (Num v6 r6 t6 t6 y6 (a * (b * cc))) := Num.of ho6 hn6 hm6
  clear ha6 ho6 hn6
  have Ax : Hid (Num v6 p n c xs a) := A.out.below hb6
  clear A
  have A := Ax
  clear Ax
  have Bx : Hid (Num v6 q m d ys b) := B.out.below hb6
  clear B
  have B := Bx
  clear Bx
  have Cx : Hid (Num v6 r l f zs cc) := C.out.below hb6
  clear C
  have C := Cx
  clear Cx
  have P1x : Hid (Num v6 r1 t1 t1 y1 (a * b)) := P1.out.below hb6
  clear P1
  have P1 := P1x
  clear P1x
  have P2x : Hid (Num v6 r2 t2 t2 y2 (b * a)) := P2.out.below hb6
  clear P2
  have P2 := P2x
  clear P2x
  have P3x : Hid (Num v6 r3 t3 t3 y3 (b * cc)) := P3.out.below hb6
  clear P3
  have P3 := P3x
  clear P3x
  have P4x : Hid (Num v6 r4 t4 t4 y4 (a * cc)) := P4.out.below hb6
  clear P4
  have P4 := P4x
  clear P4x
  have P5x : Hid (Num v6 r5 t5 t5 y5 (a * b * cc)) := P5.out.below hb6
  clear P5
  have P5 := P5x
  clear P5x
  have hbwy := Below.on hbw hb6
  clear hbw
  have hbw := hbwy
  clear hbwy
  clear hb6
  go_wp2_with fail
  refine (product_any (lists3 _ A.out B.out C.out)).mono ?_
  rintro e v7 ⟨ha7, hb7⟩
  rw [show prodI [⟨p, n, c, xs, a⟩, ⟨q, m, d, ys, b⟩, ⟨r, l, f, zs, cc⟩] = a * (b * cc) by simp [prodI]] at ha7
  obtain ⟨r7, t7, y7, rfl, ho7, hn7, hm7⟩ := ha7.ok L6.out
  have P7 : Hid (Num v7 r7 t7 t7 y7 (a * (b * cc))) := Num.of ho7 hn7 hm7
  clear ha7 ho7 hn7
  have hbq7 := Below.on (below1 _ _) hb7
  clear hb7
  have hb7 := hbq7
  clear hbq7
  have Ax : Hid (Num v7 p n c xs a) := A.out.below hb7
  clear A
  have A := Ax
  clear Ax
  have Bx : Hid (Num v7 q m d ys b) := B.out.below hb7
  clear B
  have B := Bx
  clear Bx
  have Cx : Hid (Num v7 r l f zs cc) := C.out.below hb7
  clear C
  have C := Cx
  clear Cx
  have P1x : Hid (Num v7 r1 t1 t1 y1 (a * b)) := P1.out.below hb7
  clear P1
  have P1 := P1x
  clear P1x
  have P2x : Hid (Num v7 r2 t2 t2 y2 (b * a)) := P2.out.below hb7
  clear P2
  have P2 := P2x
  clear P2x
  have P3x : Hid (Num v7 r3 t3 t3 y3 (b * cc)) := P3.out.below hb7
  clear P3
  have P3 := P3x
  clear P3x
  have P4x : Hid (Num v7 r4 t4 t4 y4 (a * cc)) := P4.out.below hb7
  clear P4
  have P4 := P4x
  clear P4x
  have P5x : Hid (Num v7 r5 t5 t5 y5 (a * b * cc)) := P5.out.below hb7
  clear P5
  have P5 := P5x
  clear P5x
  have P6x : Hid (Num v7 r6 t6 t6 y6 (a * (b * cc))) := P6.out.below hb7
  clear P6
  have P6 := P6x
  clear P6x
  have hbwy := Below.on hbw hb7
  clear hbw
  have hbw := hbwy
  clear hbwy
  clear hb7
  obtain rfl : y1 = y2 := by
    have h := P2.out.nf
    rw [Nat.mul_comm] at h
    exact P1.out.nf.inj B64_one h
  go_wp2_with fail
  refine (tsame_t P1.out.at_ P2.out.at_).mono ?_
  rintro e v8 ⟨rfl, hb8⟩
  have Ax : Hid (Num v8 p n c xs a) := A.out.below hb8
  clear A
  have A := Ax
  clear Ax
  have Bx : Hid (Num v8 q m d ys b) := B.out.below hb8
  clear B
  have B := Bx
  clear Bx
  have Cx : Hid (Num v8 r l f zs cc) := C.out.below hb8
  clear C
  have C := Cx
  clear Cx
  have P1x : Hid (Num v8 r1 t1 t1 y1 (a * b)) := P1.out.below hb8
  clear P1
  have P1 := P1x
  clear P1x
  have P2x : Hid (Num v8 r2 t2 t2 y1 (b * a)) := P2.out.below hb8
  clear P2
  have P2 := P2x
  clear P2x
  have P3x : Hid (Num v8 r3 t3 t3 y3 (b * cc)) := P3.out.below hb8
  clear P3
  have P3 := P3x
  clear P3x
  have P4x : Hid (Num v8 r4 t4 t4 y4 (a * cc)) := P4.out.below hb8
  clear P4
  have P4 := P4x
  clear P4x
  have P5x : Hid (Num v8 r5 t5 t5 y5 (a * b * cc)) := P5.out.below hb8
  clear P5
  have P5 := P5x
  clear P5x
  have P6x : Hid (Num v8 r6 t6 t6 y6 (a * (b * cc))) := P6.out.below hb8
  clear P6
  have P6 := P6x
  clear P6x
  have P7x : Hid (Num v8 r7 t7 t7 y7 (a * (b * cc))) := P7.out.below hb8
  clear P7
  have P7 := P7x
  clear P7x
  have hbwy := Below.on hbw hb8
  clear hbw
  have hbw := hbwy
  clear hbwy
  clear hb8
  clear P2
  obtain rfl : y5 = y6 := by
    have h := P6.out.nf
    rw [← Nat.mul_assoc] at h
    exact P5.out.nf.inj B64_one h
  go_wp2_with fail
  refine (tsame_t P5.out.at_ P6.out.at_).mono ?_
  rintro e v9 ⟨rfl, hb9⟩
  have Ax : Hid (Num v9 p n c xs a) := A.out.below hb9
  clear A
  have A := Ax
  clear Ax
  have Bx : Hid (Num v9 q m d ys b) := B.out.below hb9
  clear B
  have B := Bx
  clear Bx
  have Cx : Hid (Num v9 r l f zs cc) := C.out.below hb9
  clear C
  have C := Cx
  clear Cx
  have P1x : Hid (Num v9 r1 t1 t1 y1 (a * b)) := P1.out.below hb9
  clear P1
  have P1 := P1x
  clear P1x
  have P3x : Hid (Num v9 r3 t3 t3 y3 (b * cc)) := P3.out.below hb9
  clear P3
  have P3 := P3x
  clear P3x
  have P4x : Hid (Num v9 r4 t4 t4 y4 (a * cc)) := P4.out.below hb9
  clear P4
  have P4 := P4x
  clear P4x
  have P5x : Hid (Num v9 r5 t5 t5 y5 (a * b * cc)) := P5.out.below hb9
  clear P5
  have P5 := P5x
  clear P5x
  have P6x : Hid (Num v9 r6 t6 t6 y5 (a * (b * cc))) := P6.out.below hb9
  clear P6
  have P6 := P6x
  clear P6x
  have P7x : Hid (Num v9 r7 t7 t7 y7 (a * (b * cc))) := P7.out.below hb9
  clear P7
  have P7 := P7x
  clear P7x
  have hbwy := Below.on hbw hb9
  clear hbw
  have hbw := hbwy
  clear hbwy
  clear hb9
  obtain rfl : y5 = y7 := P6.out.nf.inj B64_one P7.out.nf
  go_wp2_with fail
  refine (tsame_t P7.out.at_ P5.out.at_).mono ?_
  rintro e v10 ⟨rfl, hb10⟩
  have Ax : Hid (Num v10 p n c xs a) := A.out.below hb10
  clear A
  have A := Ax
  clear Ax
  have Bx : Hid (Num v10 q m d ys b) := B.out.below hb10
  clear B
  have B := Bx
  clear Bx
  have Cx : Hid (Num v10 r l f zs cc) := C.out.below hb10
  clear C
  have C := Cx
  clear Cx
  have P1x : Hid (Num v10 r1 t1 t1 y1 (a * b)) := P1.out.below hb10
  clear P1
  have P1 := P1x
  clear P1x
  have P3x : Hid (Num v10 r3 t3 t3 y3 (b * cc)) := P3.out.below hb10
  clear P3
  have P3 := P3x
  clear P3x
  have P4x : Hid (Num v10 r4 t4 t4 y4 (a * cc)) := P4.out.below hb10
  clear P4
  have P4 := P4x
  clear P4x
  have P5x : Hid (Num v10 r5 t5 t5 y5 (a * b * cc)) := P5.out.below hb10
  clear P5
  have P5 := P5x
  clear P5x
  have P6x : Hid (Num v10 r6 t6 t6 y5 (a * (b * cc))) := P6.out.below hb10
  clear P6
  have P6 := P6x
  clear P6x
  have P7x : Hid (Num v10 r7 t7 t7 y5 (a * (b * cc))) := P7.out.below hb10
  clear P7
  have P7 := P7x
  clear P7x
  have hbwy := Below.on hbw hb10
  clear hbw
  have hbw := hbwy
  clear hbwy
  clear hb10
  clear P5
  clear P6
  clear P7
  go_wp2_with fail
  refine (add_ord A.out.at_ B.out.at_ A.out.nf B.out.nf A.out.le B.out.le).mono ?_
  rintro e v11 ⟨ha11, hb11⟩
  obtain ⟨r11, t11, y11, rfl, ho11, hn11, hm11⟩ := ha11.ok L7.out
  have S : Hid (Num v11 r11 t11 t11 y11 (a + b)) := Num.of ho11 hn11 hm11
  clear ha11 ho11 hn11
  have Ax : Hid (Num v11 p n c xs a) := A.out.below hb11
  clear A
  have A := Ax
  clear Ax
  have Bx : Hid (Num v11 q m d ys b) := B.out.below hb11
  clear B
  have B := Bx
  clear Bx
  have Cx : Hid (Num v11 r l f zs cc) := C.out.below hb11
  clear C
  have C := Cx
  clear Cx
  have P1x : Hid (Num v11 r1 t1 t1 y1 (a * b)) := P1.out.below hb11
  clear P1
  have P1 := P1x
  clear P1x
  have P3x : Hid (Num v11 r3 t3 t3 y3 (b * cc)) := P3.out.below hb11
  clear P3
  have P3 := P3x
  clear P3x
  have P4x : Hid (Num v11 r4 t4 t4 y4 (a * cc)) := P4.out.below hb11
  clear P4
  have P4 := P4x
  clear P4x
  have hbwy := Below.on hbw hb11
  clear hbw
  have hbw := hbwy
  clear hbwy
  clear hb11
  go_wp2_with fail
  refine (mul_any S.out.at_ C.out.at_ S.out.nf C.out.nf S.out.le C.out.le).mono ?_
  rintro e v12 ⟨ha12, hb12⟩
  obtain ⟨r12, t12, y12, rfl, ho12, hn12, hm12⟩ := ha12.ok L8.out
  have WI : Hid (Num v12 r12 t12 t12 y12 ((a + b) * cc)) := Num.of ho12 hn12 hm12
  clear ha12 ho12 hn12
  have Ax : Hid (Num v12 p n c xs a) := A.out.below hb12
  clear A
  have A := Ax
  clear Ax
  have Bx : Hid (Num v12 q m d ys b) := B.out.below hb12
  clear B
  have B := Bx
  clear Bx
  have Cx : Hid (Num v12 r l f zs cc) := C.out.below hb12
  clear C
  have C := Cx
  clear Cx
  have P1x : Hid (Num v12 r1 t1 t1 y1 (a * b)) := P1.out.below hb12
  clear P1
  have P1 := P1x
  clear P1x
  have P3x : Hid (Num v12 r3 t3 t3 y3 (b * cc)) := P3.out.below hb12
  clear P3
  have P3 := P3x
  clear P3x
  have P4x : Hid (Num v12 r4 t4 t4 y4 (a * cc)) := P4.out.below hb12
  clear P4
  have P4 := P4x
  clear P4x
  have Sx : Hid (Num v12 r11 t11 t11 y11 (a + b)) := S.out.below hb12
  clear S
  have S := Sx
  clear Sx
  have hbwy := Below.on hbw hb12
  clear hbw
  have hbw := hbwy
  clear hbwy
  clear hb12
  go_wp2_with fail
  refine (add_ord P4.out.at_ P3.out.at_ P4.out.nf P3.out.nf P4.out.le P3.out.le).mono ?_
  rintro e v13 ⟨ha13, hb13⟩
  obtain ⟨r13, t13, y13, rfl, ho13, hn13, hm13⟩ := ha13.ok L9.out
  have TW : Hid (Num v13 r13 t13 t13 y13 (a * cc + b * cc)) := Num.of ho13 hn13 hm13
  clear ha13 ho13 hn13
  have Ax : Hid (Num v13 p n c xs a) := A.out.below hb13
  clear A
  have A := Ax
  clear Ax
  have Bx : Hid (Num v13 q m d ys b) := B.out.below hb13
  clear B
  have B := Bx
  clear Bx
  have Cx : Hid (Num v13 r l f zs cc) := C.out.below hb13
  clear C
  have C := Cx
  clear Cx
  have P1x : Hid (Num v13 r1 t1 t1 y1 (a * b)) := P1.out.below hb13
  clear P1
  have P1 := P1x
  clear P1x
  have P3x : Hid (Num v13 r3 t3 t3 y3 (b * cc)) := P3.out.below hb13
  clear P3
  have P3 := P3x
  clear P3x
  have P4x : Hid (Num v13 r4 t4 t4 y4 (a * cc)) := P4.out.below hb13
  clear P4
  have P4 := P4x
  clear P4x
  have Sx : Hid (Num v13 r11 t11 t11 y11 (a + b)) := S.out.below hb13
  clear S
  have S := Sx
  clear Sx
  have WIx : Hid (Num v13 r12 t12 t12 y12 ((a + b) * cc)) := WI.out.below hb13
  clear WI
  have WI := WIx
  clear WIx
  have hbwy := Below.on hbw hb13
  clear hbw
  have hbw := hbwy
  clear hbwy
  clear hb13
  clear P3
  clear P4
  clear C
  go_wp2_with fail
  refine (sqr_any S.out.at_ S.out.nf S.out.le).mono ?_
  rintro e v14 ⟨ha14, hb14⟩
  obtain ⟨r14, t14, y14, rfl, ho14, hn14, hm14⟩ := ha14.ok L10.out
  have SQ : Hid (Num v14 r14 t14 t14 y14 ((a + b) * (a + b))) := Num.of ho14 hn14 hm14
  clear ha14 ho14 hn14
  have Ax : Hid (Num v14 p n c xs a) := A.out.below hb14
  clear A
  have A := Ax
  clear Ax
  have Bx : Hid (Num v14 q m d ys b) := B.out.below hb14
  clear B
  have B := Bx
  clear Bx
  have P1x : Hid (Num v14 r1 t1 t1 y1 (a * b)) := P1.out.below hb14
  clear P1
  have P1 := P1x
  clear P1x
  have Sx : Hid (Num v14 r11 t11 t11 y11 (a + b)) := S.out.below hb14
  clear S
  have S := Sx
  clear Sx
  have WIx : Hid (Num v14 r12 t12 t12 y12 ((a + b) * cc)) := WI.out.below hb14
  clear WI
  have WI := WIx
  clear WIx
  have TWx : Hid (Num v14 r13 t13 t13 y13 (a * cc + b * cc)) := TW.out.below hb14
  clear TW
  have TW := TWx
  clear TWx
  have hbwy := Below.on hbw hb14
  clear hbw
  have hbw := hbwy
  clear hbwy
  clear hb14
  clear S
  go_wp2_with fail
  refine (sqr_any A.out.at_ A.out.nf A.out.le).mono ?_
  rintro e v15 ⟨ha15, hb15⟩
  obtain ⟨r15, t15, y15, rfl, ho15, hn15, hm15⟩ := ha15.ok L11.out
  have AA : Hid (Num v15 r15 t15 t15 y15 (a * a)) := Num.of ho15 hn15 hm15
  clear ha15 ho15 hn15
  have Ax : Hid (Num v15 p n c xs a) := A.out.below hb15
  clear A
  have A := Ax
  clear Ax
  have Bx : Hid (Num v15 q m d ys b) := B.out.below hb15
  clear B
  have B := Bx
  clear Bx
  have P1x : Hid (Num v15 r1 t1 t1 y1 (a * b)) := P1.out.below hb15
  clear P1
  have P1 := P1x
  clear P1x
  have WIx : Hid (Num v15 r12 t12 t12 y12 ((a + b) * cc)) := WI.out.below hb15
  clear WI
  have WI := WIx
  clear WIx
  have TWx : Hid (Num v15 r13 t13 t13 y13 (a * cc + b * cc)) := TW.out.below hb15
  clear TW
  have TW := TWx
  clear TWx
  have SQx : Hid (Num v15 r14 t14 t14 y14 ((a + b) * (a + b))) := SQ.out.below hb15
  clear SQ
  have SQ := SQx
  clear SQx
  have hbwy := Below.on hbw hb15
  clear hbw
  have hbw := hbwy
  clear hbwy
  clear hb15
  clear A
  go_wp2_with fail
  refine (sqr_any B.out.at_ B.out.nf B.out.le).mono ?_
  rintro e v16 ⟨ha16, hb16⟩
  obtain ⟨r16, t16, y16, rfl, ho16, hn16, hm16⟩ := ha16.ok L12.out
  have BB : Hid (Num v16 r16 t16 t16 y16 (b * b)) := Num.of ho16 hn16 hm16
  clear ha16 ho16 hn16
  have Bx : Hid (Num v16 q m d ys b) := B.out.below hb16
  clear B
  have B := Bx
  clear Bx
  have P1x : Hid (Num v16 r1 t1 t1 y1 (a * b)) := P1.out.below hb16
  clear P1
  have P1 := P1x
  clear P1x
  have WIx : Hid (Num v16 r12 t12 t12 y12 ((a + b) * cc)) := WI.out.below hb16
  clear WI
  have WI := WIx
  clear WIx
  have TWx : Hid (Num v16 r13 t13 t13 y13 (a * cc + b * cc)) := TW.out.below hb16
  clear TW
  have TW := TWx
  clear TWx
  have SQx : Hid (Num v16 r14 t14 t14 y14 ((a + b) * (a + b))) := SQ.out.below hb16
  clear SQ
  have SQ := SQx
  clear SQx
  have AAx : Hid (Num v16 r15 t15 t15 y15 (a * a)) := AA.out.below hb16
  clear AA
  have AA := AAx
  clear AAx
  have hbwy := Below.on hbw hb16
  clear hbw
  have hbw := hbwy
  clear hbwy
  clear hb16
  clear B
  go_wp2_with fail
  try rw [show Value.int IntKind.u64 2 = U 2 from rfl]
  refine (mulw_nf P1.out.at_ P1.out.nf P1.out.le 2 (by decide)).mono ?_
  rintro e v17 ⟨ha17, hb17⟩
  obtain ⟨r17, t17, y17, rfl, ho17, hn17, hm17⟩ := ha17.ok L13.out
  have DD : Hid (Num v17 r17 t17 t17 y17 (a * b * 2)) := Num.of ho17 hn17 hm17
  clear ha17 ho17 hn17
  have P1x : Hid (Num v17 r1 t1 t1 y1 (a * b)) := P1.out.below hb17
  clear P1
  have P1 := P1x
  clear P1x
  have WIx : Hid (Num v17 r12 t12 t12 y12 ((a + b) * cc)) := WI.out.below hb17
  clear WI
  have WI := WIx
  clear WIx
  have TWx : Hid (Num v17 r13 t13 t13 y13 (a * cc + b * cc)) := TW.out.below hb17
  clear TW
  have TW := TWx
  clear TWx
  have SQx : Hid (Num v17 r14 t14 t14 y14 ((a + b) * (a + b))) := SQ.out.below hb17
  clear SQ
  have SQ := SQx
  clear SQx
  have AAx : Hid (Num v17 r15 t15 t15 y15 (a * a)) := AA.out.below hb17
  clear AA
  have AA := AAx
  clear AAx
  have BBx : Hid (Num v17 r16 t16 t16 y16 (b * b)) := BB.out.below hb17
  clear BB
  have BB := BBx
  clear BBx
  have hbwy := Below.on hbw hb17
  clear hbw
  have hbw := hbwy
  clear hbwy
  clear hb17
  clear P1
  go_wp2_with fail
  refine (add_ord AA.out.at_ BB.out.at_ AA.out.nf BB.out.nf AA.out.le BB.out.le).mono ?_
  rintro e v18 ⟨ha18, hb18⟩
  obtain ⟨r18, t18, y18, rfl, ho18, hn18, hm18⟩ := ha18.ok L14.out
  have S2 : Hid (Num v18 r18 t18 t18 y18 (a * a + b * b)) := Num.of ho18 hn18 hm18
  clear ha18 ho18 hn18
  have WIx : Hid (Num v18 r12 t12 t12 y12 ((a + b) * cc)) := WI.out.below hb18
  clear WI
  have WI := WIx
  clear WIx
  have TWx : Hid (Num v18 r13 t13 t13 y13 (a * cc + b * cc)) := TW.out.below hb18
  clear TW
  have TW := TWx
  clear TWx
  have SQx : Hid (Num v18 r14 t14 t14 y14 ((a + b) * (a + b))) := SQ.out.below hb18
  clear SQ
  have SQ := SQx
  clear SQx
  have AAx : Hid (Num v18 r15 t15 t15 y15 (a * a)) := AA.out.below hb18
  clear AA
  have AA := AAx
  clear AAx
  have BBx : Hid (Num v18 r16 t16 t16 y16 (b * b)) := BB.out.below hb18
  clear BB
  have BB := BBx
  clear BBx
  have DDx : Hid (Num v18 r17 t17 t17 y17 (a * b * 2)) := DD.out.below hb18
  clear DD
  have DD := DDx
  clear DDx
  have hbwy := Below.on hbw hb18
  clear hbw
  have hbw := hbwy
  clear hbwy
  clear hb18
  clear AA
  clear BB
  go_wp2_with fail
  refine (add_ord S2.out.at_ DD.out.at_ S2.out.nf DD.out.nf S2.out.le DD.out.le).mono ?_
  rintro e v19 ⟨ha19, hb19⟩
  obtain ⟨r19, t19, y19, rfl, ho19, hn19, hm19⟩ := ha19.ok L15.out
  have TT : Hid (Num v19 r19 t19 t19 y19 (a * a + b * b + a * b * 2)) := Num.of ho19 hn19 hm19
  clear ha19 ho19 hn19
  have WIx : Hid (Num v19 r12 t12 t12 y12 ((a + b) * cc)) := WI.out.below hb19
  clear WI
  have WI := WIx
  clear WIx
  have TWx : Hid (Num v19 r13 t13 t13 y13 (a * cc + b * cc)) := TW.out.below hb19
  clear TW
  have TW := TWx
  clear TWx
  have SQx : Hid (Num v19 r14 t14 t14 y14 ((a + b) * (a + b))) := SQ.out.below hb19
  clear SQ
  have SQ := SQx
  clear SQx
  have DDx : Hid (Num v19 r17 t17 t17 y17 (a * b * 2)) := DD.out.below hb19
  clear DD
  have DD := DDx
  clear DDx
  have S2x : Hid (Num v19 r18 t18 t18 y18 (a * a + b * b)) := S2.out.below hb19
  clear S2
  have S2 := S2x
  clear S2x
  have hbwy := Below.on hbw hb19
  clear hbw
  have hbw := hbwy
  clear hbwy
  clear hb19
  clear S2
  clear DD
  obtain rfl : y12 = y13 := by
    have h := TW.out.nf
    rw [← Nat.add_mul] at h
    exact WI.out.nf.inj B64_one h
  go_wp2_with fail
  refine (tsame_t WI.out.at_ TW.out.at_).mono ?_
  rintro e v20 ⟨rfl, hb20⟩
  have WIx : Hid (Num v20 r12 t12 t12 y12 ((a + b) * cc)) := WI.out.below hb20
  clear WI
  have WI := WIx
  clear WIx
  have TWx : Hid (Num v20 r13 t13 t13 y12 (a * cc + b * cc)) := TW.out.below hb20
  clear TW
  have TW := TWx
  clear TWx
  have SQx : Hid (Num v20 r14 t14 t14 y14 ((a + b) * (a + b))) := SQ.out.below hb20
  clear SQ
  have SQ := SQx
  clear SQx
  have TTx : Hid (Num v20 r19 t19 t19 y19 (a * a + b * b + a * b * 2)) := TT.out.below hb20
  clear TT
  have TT := TTx
  clear TTx
  have hbwy := Below.on hbw hb20
  clear hbw
  have hbw := hbwy
  clear hbwy
  clear hb20
  clear WI
  clear TW
  obtain rfl : y14 = y19 := by
    have h := TT.out.nf
    rw [EQ.out] at h
    exact SQ.out.nf.inj B64_one h
  go_wp2_with fail
  refine (tsame_t SQ.out.at_ TT.out.at_).mono ?_
  rintro e v21 ⟨rfl, hb21⟩
  have SQx : Hid (Num v21 r14 t14 t14 y14 ((a + b) * (a + b))) := SQ.out.below hb21
  clear SQ
  have SQ := SQx
  clear SQx
  have TTx : Hid (Num v21 r19 t19 t19 y14 (a * a + b * b + a * b * 2)) := TT.out.below hb21
  clear TT
  have TT := TTx
  clear TTx
  have hbwy := Below.on hbw hb21
  clear hbw
  have hbw := hbwy
  clear hbwy
  clear hb21
  clear SQ
  clear TT
  go_wp2_with fail
  go_ret
  exact ⟨rfl, hbw⟩
end Go.Proofs.Ytmkglkdhnbjjhaa
