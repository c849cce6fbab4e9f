import Derived.Test.YtmkglkdhnbjjhaaTop0
namespace Go.Proofs.Ytmkglkdhnbjjhaa
open Go.RowKit Go.Shelf

theorem sub_okT {p q : Option Addr} {n m c d : Nat} {xs ys : List Nat} {a b : Nat} {w : World} (h : Num w p n c xs a) (k : Num w q m d ys b) (hle : b ≤ a) :
    Calls Try.prog 34 #[.slice p n c, .slice q m d] w fun e w' => (∃ p m zs, e = .returned (.tuple #[.slice p m m, .int .i64 0]) ∧ Own w.heap.size w' p m zs ∧ Nf B64 zs (a - b) ∧ m ≤ 8192) ∧ Below w.heap.size w w' := by
  refine (sub_nf h.at_ k.at_ h.nf k.nf h.le k.le).mono ?_
  rintro e w' ⟨h1 | h1, hb⟩
  · exact ⟨h1.2, hb⟩
  · exact absurd h1.1 (by omega)
theorem sub_noT {p q : Option Addr} {n m c d : Nat} {xs ys : List Nat} {a b : Nat} {w : World} (h : Num w p n c xs a) (k : Num w q m d ys b) (hlt : a < b) :
    Calls Try.prog 34 #[.slice p n c, .slice q m d] w fun e w' => e = .returned (.tuple #[.slice none 0 0, .int .i64 3]) ∧ Below w.heap.size w w' := by
  refine (sub_nf h.at_ k.at_ h.nf k.nf h.le k.le).mono ?_
  rintro e w' ⟨h1 | h1, hb⟩
  · exact absurd h1.1 (by omega)
  · exact ⟨h1.2, hb⟩
theorem cmp_T {p q : Option Addr} {n m c d : Nat} {xs ys : List Nat} {a b : Nat} {w : World} (h : Num w p n c xs a) (k : Num w q m d ys b) :
    Calls Try.prog 35 #[.slice p n c, .slice q m d] w fun e w' => e = .returned (.int .i64 (cmpN a b)) ∧ Below w.heap.size w w' := by
  have := cmp_w h.at_ k.at_
  rw [h.nf.val, k.nf.val] at this; exact this

set_option maxRecDepth 20000 in
set_option maxHeartbeats 4000000 in
theorem ringsums_any {p q r : Option Addr} {n m l c d f : Nat} {xs ys zs : List Nat} {a b cc i : Nat} {w : World} (hi : i = 250) (h : Num w p n c xs a) (k : Num w q m d ys b) (t : Num w r l f zs cc) (ha : a < B64 ^ i) (hb : b < B64 ^ i) (hc : cc < B64 ^ i) :
    Calls Try.prog 14 #[.slice p n c, .slice q m d, .slice r l f] w fun e w' => e = .returned (.bool true) ∧ Below w.heap.size w w' := by
  have HI : Hid (i = 250) := hi
  have A : Hid (Num w p n c xs a) := h
  have B : Hid (Num w q m d ys b) := k
  have C : Hid (Num w r l f zs cc) := t
  have LA : Hid (a < B64 ^ i) := ha
  have LB : Hid (b < B64 ^ i) := hb
  have LC : Hid (cc < B64 ^ i) := hc
  clear hi h k t ha hb hc
  go_enter Try.func14, Try.ntmps14
  have L1 : Hid (a + b < LIM) := lim_of (i + 1) (lim_add LA.out LB.out) (by have := HI.out; omega)
  have L2 : Hid (b + a < LIM) := lim_of (i + 1) (lim_add LB.out LA.out) (by have := HI.out; omega)
  have L3 : Hid (a + b + cc < LIM) := lim_of (i + 1 + 1) (lim_add (lim_add LA.out LB.out) (lim_up LC.out (Nat.le_succ _))) (by have := HI.out; omega)
  have L4 : Hid (b + cc < LIM) := lim_of (i + 1) (lim_add LB.out LC.out) (by have := HI.out; omega)
  have L5 : Hid (a + (b + cc) < LIM) := lim_of (i + 1 + 1) (lim_add (lim_up LA.out (Nat.le_succ _)) (lim_add LB.out LC.out)) (by have := HI.out; omega)
  go_wp2_with fail
  refine (add_ord A.out.at_ B.out.at_ A.out.nf B.out.nf A.out.le B.out.le).mono ?_
  rintro e v1 ⟨ha1, hb1⟩
  obtain ⟨r1, t1, y1, rfl, ho1, hn1, hm1⟩ := ha1.ok L1.out
  have S1 : Hid (Num v1 r1 t1 t1 y1 (a + b)) := Num.of ho1 hn1 hm1
  clear ha1 ho1 hn1
  have Ax : Hid (Num v1 p n c xs a) := A.out.below hb1
  clear A
  have A := Ax
  clear Ax
  have Bx : Hid (Num v1 q m d ys b) := B.out.below hb1
  clear B
  have B := Bx
  clear Bx
  have Cx : Hid (Num v1 r l f zs cc) := C.out.below hb1
  clear C
  have C := Cx
  clear Cx
  have hbw := hb1
  clear hb1
  go_wp2_with fail
  refine (add_ord B.out.at_ A.out.at_ B.out.nf A.out.nf B.out.le A.out.le).mono ?_
  rintro e v2 ⟨ha2, hb2⟩
  obtain ⟨r2, t2, y2, rfl, ho2, hn2, hm2⟩ := ha2.ok L2.out
  have S2 : Hid (Num v2 r2 t2 t2 y2 (b + a)) := Num.of ho2 hn2 hm2
  clear ha2 ho2 hn2
  have Ax : Hid (Num v2 p n c xs a) := A.out.below hb2
  clear A
  have A := Ax
  clear Ax
  have Bx : Hid (Num v2 q m d ys b) := B.out.below hb2
  clear B
  have B := Bx
  clear Bx
  have Cx : Hid (Num v2 r l f zs cc) := C.out.below hb2
  clear C
  have C := Cx
  clear Cx
  have S1x : Hid (Num v2 r1 t1 t1 y1 (a + b)) := S1.out.below hb2
  clear S1
  have S1 := S1x
  clear S1x
  have hbwy := Below.on hbw hb2
  clear hbw
  have hbw := hbwy
  clear hbwy
  clear hb2
  go_wp2_with fail
  refine (sub_okT S1.out B.out (Nat.le_add_left _ _)).mono ?_
  rintro e v3 ⟨⟨r3, t3, y3, rfl, ho3, hn3, hm3⟩, hb3⟩
  have S3 : Hid (Num v3 r3 t3 t3 y3 (a + b - b)) := Num.of ho3 hn3 hm3
  clear ho3 hn3
  have Ax : Hid (Num v3 p n c xs a) := A.out.below hb3
  clear A
  have A := Ax
  clear Ax
  have Bx : Hid (Num v3 q m d ys b) := B.out.below hb3
  clear B
  have B := Bx
  clear Bx
  have Cx : Hid (Num v3 r l f zs cc) := C.out.below hb3
  clear C
  have C := Cx
  clear Cx
  have S1x : Hid (Num v3 r1 t1 t1 y1 (a + b)) := S1.out.below hb3
  clear S1
  have S1 := S1x
  clear S1x
  have S2x : Hid (Num v3 r2 t2 t2 y2 (b + a)) := S2.out.below hb3
  clear S2
  have S2 := S2x
  clear S2x
  have hbwy := Below.on hbw hb3
  clear hbw
  have hbw := hbwy
  clear hbwy
  clear hb3
  go_wp2_with fail
  refine (add_ord S1.out.at_ C.out.at_ S1.out.nf C.out.nf S1.out.le C.out.le).mono ?_
  rintro e v4 ⟨ha4, hb4⟩
  obtain ⟨r4, t4, y4, rfl, ho4, hn4, hm4⟩ := ha4.ok L3.out
  have S4 : Hid (Num v4 r4 t4 t4 y4 (a + b + cc)) := Num.of ho4 hn4 hm4
  clear ha4 ho4 hn4
  have Ax : Hid (Num v4 p n c xs a) := A.out.below hb4
  clear A
  have A := Ax
  clear Ax
  have Bx : Hid (Num v4 q m d ys b) := B.out.below hb4
  clear B
  have B := Bx
  clear Bx
  have Cx : Hid (Num v4 r l f zs cc) := C.out.below hb4
  clear C
  have C := Cx
  clear Cx
  have S1x : Hid (Num v4 r1 t1 t1 y1 (a + b)) := S1.out.below hb4
  clear S1
  have S1 := S1x
  clear S1x
  have S2x : Hid (Num v4 r2 t2 t2 y2 (b + a)) := S2.out.below hb4
  clear S2
  have S2 := S2x
  clear S2x
  have S3x : Hid (Num v4 r3 t3 t3 y3 (a + b - b)) := S3.out.below hb4
  clear S3
  have S3 := S3x
  clear S3x
  have hbwy := Below.on hbw hb4
  clear hbw
  have hbw := hbwy
  clear hbwy
  clear hb4
  go_wp2_with fail
  refine (add_ord B.out.at_ C.out.at_ B.out.nf C.out.nf B.out.le C.out.le).mono ?_
  rintro e v5 ⟨ha5, hb5⟩
  obtain ⟨r5, t5, y5, rfl, ho5, hn5, hm5⟩ := ha5.ok L4.out
  have S5 : Hid (Num v5 r5 t5 t5 y5 (b + cc)) := Num.of ho5 hn5 hm5
  clear ha5 ho5 hn5
  have Ax : Hid (Num v5 p n c xs a) := A.out.below hb5
  clear A
  have A := Ax
  clear Ax
  have Bx : Hid (Num v5 q m d ys b) := B.out.below hb5
  clear B
  have B := Bx
  clear Bx
  have Cx : Hid (Num v5 r l f zs cc) := C.out.below hb5
  clear C
  have C := Cx
  clear Cx
  have S1x : Hid (Num v5 r1 t1 t1 y1 (a + b)) := S1.out.below hb5
  clear S1
  have S1 := S1x
  clear S1x
  have S2x : Hid (Num v5 r2 t2 t2 y2 (b + a)) := S2.out.below hb5
  clear S2
  have S2 := S2x
  clear S2x
  have S3x : Hid (Num v5 r3 t3 t3 y3 (a + b - b)) := S3.out.below hb5
  clear S3
  have S3 := S3x
  clear S3x
  have S4x : Hid (Num v5 r4 t4 t4 y4 (a + b + cc)) := S4.out.below hb5
  clear S4
  have S4 := S4x
  clear S4x
  have hbwy := Below.on hbw hb5
  clear hbw
  have hbw := hbwy
  clear hbwy
  clear hb5
  go_wp2_with fail
  refine (add_ord A.out.at_ S5.out.at_ A.out.nf S5.out.nf A.out.le S5.out.le).mono ?_
  rintro e v6 ⟨ha6, hb6⟩
  obtain ⟨r6, t6, y6, rfl, ho6, hn6, hm6⟩ := ha6.ok L5.out
  have S6 : Hid (Num v6 r6 t6 t6 y6 (a + (b + cc))) := Num.of ho6 hn6 hm6
  clear ha6 ho6 hn6
  have Ax : Hid (Num v6 p n c xs a) := A.out.below hb6
  clear A
  have A := Ax
  clear Ax
  have Bx : Hid (Num v6 q m d ys b) := B.out.below hb6
  clear B
  have B := Bx
  clear Bx
  have Cx : Hid (Num v6 r l f zs cc) := C.out.below hb6
  clear C
  have C := Cx
  clear Cx
  have S1x : Hid (Num v6 r1 t1 t1 y1 (a + b)) := S1.out.below hb6
  clear S1
  have S1 := S1x
  clear S1x
  have S2x : Hid (Num v6 r2 t2 t2 y2 (b + a)) := S2.out.below hb6
  clear S2
  have S2 := S2x
  clear S2x
  have S3x : Hid (Num v6 r3 t3 t3 y3 (a + b - b)) := S3.out.below hb6
  clear S3
  have S3 := S3x
  clear S3x
  have S4x : Hid (Num v6 r4 t4 t4 y4 (a + b + cc)) := S4.out.below hb6
  clear S4
  have S4 := S4x
  clear S4x
  have S5x : Hid (Num v6 r5 t5 t5 y5 (b + cc)) := S5.out.below hb6
  clear S5
  have S5 := S5x
  clear S5x
  have hbwy := Below.on hbw hb6
  clear hbw
  have hbw := hbwy
  clear hbwy
  clear hb6
  obtain rfl : y1 = y2 := by
    have h := S2.out.nf
    rw [Nat.add_comm] at h
    exact S1.out.nf.inj B64_one h
  go_wp2_with fail
  refine (tsame_t S1.out.at_ S2.out.at_).mono ?_
  rintro e v7 ⟨rfl, hb7⟩
  have Ax : Hid (Num v7 p n c xs a) := A.out.below hb7
  clear A
  have A := Ax
  clear Ax
  have Bx : Hid (Num v7 q m d ys b) := B.out.below hb7
  clear B
  have B := Bx
  clear Bx
  have Cx : Hid (Num v7 r l f zs cc) := C.out.below hb7
  clear C
  have C := Cx
  clear Cx
  have S1x : Hid (Num v7 r1 t1 t1 y1 (a + b)) := S1.out.below hb7
  clear S1
  have S1 := S1x
  clear S1x
  have S2x : Hid (Num v7 r2 t2 t2 y1 (b + a)) := S2.out.below hb7
  clear S2
  have S2 := S2x
  clear S2x
  have S3x : Hid (Num v7 r3 t3 t3 y3 (a + b - b)) := S3.out.below hb7
  clear S3
  have S3 := S3x
  clear S3x
  have S4x : Hid (Num v7 r4 t4 t4 y4 (a + b + cc)) := S4.out.below hb7
  clear S4
  have S4 := S4x
  clear S4x
  have S5x : Hid (Num v7 r5 t5 t5 y5 (b + cc)) := S5.out.below hb7
  clear S5
  have S5 := S5x
  clear S5x
  have S6x : Hid (Num v7 r6 t6 t6 y6 (a + (b + cc))) := S6.out.below hb7
  clear S6
  have S6 := S6x
  clear S6x
  have hbwy := Below.on hbw hb7
  clear hbw
  have hbw := hbwy
  clear hbwy
  clear hb7
  clear S2
  obtain rfl : y3 = xs := by
    have h := S3.out.nf
    rw [Nat.add_sub_cancel] at h
    exact h.inj B64_one A.out.nf
  go_wp2_with fail
  refine (tsame_t S3.out.at_ A.out.at_).mono ?_
  rintro e v8 ⟨rfl, hb8⟩
  have Ax : Hid (Num v8 p n c y3 a) := A.out.below hb8
  clear A
  have A := Ax
  clear Ax
  have Bx : Hid (Num v8 q m d ys b) := B.out.below hb8
  clear B
  have B := Bx
  clear Bx
  have Cx : Hid (Num v8 r l f zs cc) := C.out.below hb8
  clear C
  have C := Cx
  clear Cx
  have S1x : Hid (Num v8 r1 t1 t1 y1 (a + b)) := S1.out.below hb8
  clear S1
  have S1 := S1x
  clear S1x
  have S3x : Hid (Num v8 r3 t3 t3 y3 (a + b - b)) := S3.out.below hb8
  clear S3
  have S3 := S3x
  clear S3x
  have S4x : Hid (Num v8 r4 t4 t4 y4 (a + b + cc)) := S4.out.below hb8
  clear S4
  have S4 := S4x
  clear S4x
  have S5x : Hid (Num v8 r5 t5 t5 y5 (b + cc)) := S5.out.below hb8
  clear S5
  have S5 := S5x
  clear S5x
  have S6x : Hid (Num v8 r6 t6 t6 y6 (a + (b + cc))) := S6.out.below hb8
  clear S6
  have S6 := S6x
  clear S6x
  have hbwy := Below.on hbw hb8
  clear hbw
  have hbw := hbwy
  clear hbwy
  clear hb8
  clear S3
  obtain rfl : y4 = y6 := by
    have h := S6.out.nf
    rw [← Nat.add_assoc] at h
    exact S4.out.nf.inj B64_one h
  go_wp2_with fail
  refine (tsame_t S4.out.at_ S6.out.at_).mono ?_
  rintro e v9 ⟨rfl, hb9⟩
  have Ax : Hid (Num v9 p n c y3 a) := A.out.below hb9
  clear A
  have A := Ax
  clear Ax
  have Bx : Hid (Num v9 q m d ys b) := B.out.below hb9
  clear B
  have B := Bx
  clear Bx
  have Cx : Hid (Num v9 r l f zs cc) := C.out.below hb9
  clear C
  have C := Cx
  clear Cx
  have S1x : Hid (Num v9 r1 t1 t1 y1 (a + b)) := S1.out.below hb9
  clear S1
  have S1 := S1x
  clear S1x
  have S4x : Hid (Num v9 r4 t4 t4 y4 (a + b + cc)) := S4.out.below hb9
  clear S4
  have S4 := S4x
  clear S4x
  have S5x : Hid (Num v9 r5 t5 t5 y5 (b + cc)) := S5.out.below hb9
  clear S5
  have S5 := S5x
  clear S5x
  have S6x : Hid (Num v9 r6 t6 t6 y4 (a + (b + cc))) := S6.out.below hb9
  clear S6
  have S6 := S6x
  clear S6x
  have hbwy := Below.on hbw hb9
  clear hbw
  have hbw := hbwy
  clear hbwy
  clear hb9
  clear S4
  clear S6
  clear S5
  clear S1
  clear C
  by_cases hlt : a < b
  · have HLT : Hid (a < b) := hlt
    clear hlt
    go_wp2_with fail
    refine (sub_noT A.out B.out HLT.out).mono ?_
    rintro e v10 ⟨rfl, hb10⟩
    have Ax : Hid (Num v10 p n c y3 a) := A.out.below hb10
    clear A
    have A := Ax
    clear Ax
    have Bx : Hid (Num v10 q m d ys b) := B.out.below hb10
    clear B
    have B := Bx
    clear Bx
    have hbwy := Below.on hbw hb10
    clear hbw
    have hbw := hbwy
    clear hbwy
    clear hb10
    go_wp2_with fail
    refine (cmp_T A.out B.out).mono ?_
    rintro e v11 ⟨rfl, hb11⟩
    rw [cmpN_lt HLT.out]
    have Ax : Hid (Num v11 p n c y3 a) := A.out.below hb11
    clear A
    have A := Ax
    clear Ax
    have Bx : Hid (Num v11 q m d ys b) := B.out.below hb11
    clear B
    have B := Bx
    clear Bx
    have hbwy := Below.on hbw hb11
    clear hbw
    have hbw := hbwy
    clear hbwy
    clear hb11
    go_wp2_with fail
    refine (cmp_T B.out A.out).mono ?_
    rintro e v12 ⟨rfl, hb12⟩
    rw [cmpN_gt HLT.out]
    have Ax : Hid (Num v12 p n c y3 a) := A.out.below hb12
    clear A
    have A := Ax
    clear Ax
    have Bx : Hid (Num v12 q m d ys b) := B.out.below hb12
    clear B
    have B := Bx
    clear Bx
    have hbwy := Below.on hbw hb12
    clear hbw
    have hbw := hbwy
    clear hbwy
    clear hb12
    go_wp2_with fail
    go_ret
    exact ⟨rfl, hbw⟩
  · have HGE : Hid (b ≤ a) := by show _ ≤ _; omega
    go_wp2_with fail
    refine (sub_okT A.out B.out HGE.out).mono ?_
    rintro e v10 ⟨⟨r10, t10, y10, rfl, ho10, hn10, hm10⟩, hb10⟩
    have S10 : Hid (Num v10 r10 t10 t10 y10 (a - b)) := Num.of ho10 hn10 hm10
    clear ho10 hn10
    have Ax : Hid (Num v10 p n c y3 a) := A.out.below hb10
    clear A
    have A := Ax
    clear Ax
    have Bx : Hid (Num v10 q m d ys b) := B.out.below hb10
    clear B
    have B := Bx
    clear Bx
    have hbwy := Below.on hbw hb10
    clear hbw
    have hbw := hbwy
    clear hbwy
    clear hb10
    clear S10
    by_cases heq : a = b
    · have HEQ : Hid (a = b) := heq
      clear hlt heq
      go_wp2_with fail
      refine (cmp_T A.out B.out).mono ?_
      rintro e v11 ⟨rfl, hb11⟩
      rw [cmpN_eq HEQ.out]
      have Ax : Hid (Num v11 p n c y3 a) := A.out.below hb11
      clear A
      have A := Ax
      clear Ax
      have Bx : Hid (Num v11 q m d ys b) := B.out.below hb11
      clear B
      have B := Bx
      clear Bx
      have hbwy := Below.on hbw hb11
      clear hbw
      have hbw := hbwy
      clear hbwy
      clear hb11
      obtain rfl : y3 = ys := by
        have h := B.out.nf
        rw [← HEQ.out] at h
        exact A.out.nf.inj B64_one h
      go_wp2_with fail
      refine (tsame_t A.out.at_ B.out.at_).mono ?_
      rintro e v12 ⟨rfl, hb12⟩
      have Ax : Hid (Num v12 p n c y3 a) := A.out.below hb12
      clear A
      have A := Ax
      clear Ax
      have Bx : Hid (Num v12 q m d y3 b) := B.out.below hb12
      clear B
      have B := Bx
      clear Bx
      have hbwy := Below.on hbw hb12
      clear hbw
      have hbw := hbwy
      clear hbwy
      clear hb12
      go_wp2_with fail
      go_ret
      exact ⟨rfl, hbw⟩
    · have HGT : Hid (b < a) := by show _ < _; omega
      have HNE : Hid (¬ y3 = ys) := fun e => heq (A.out.nf.ext B.out.nf e)
      clear hlt heq
      go_wp2_with fail
      refine (cmp_T A.out B.out).mono ?_
      rintro e v11 ⟨rfl, hb11⟩
      rw [cmpN_gt HGT.out]
      have Ax : Hid (Num v11 p n c y3 a) := A.out.below hb11
      clear A
      have A := Ax
      clear Ax
      have Bx : Hid (Num v11 q m d ys b) := B.out.below hb11
      clear B
      have B := Bx
      clear Bx
      have hbwy := Below.on hbw hb11
      clear hbw
      have hbw := hbwy
      clear hbwy
      clear hb11
      go_wp2_with fail
      refine (tsame_any A.out.at_ B.out.at_).mono ?_
      rintro e v12 ⟨rfl, r12, hw12⟩
      rw [decide_eq_false HNE.out]
      have hb12 : Below v11.heap.size v11 v12 := by rw [hw12]; exact bDrewN (Below.refl _ _) r12
      clear hw12
      have Ax : Hid (Num v12 p n c y3 a) := A.out.below hb12
      clear A
      have A := Ax
      clear Ax
      have Bx : Hid (Num v12 q m d ys b) := B.out.below hb12
      clear B
      have B := Bx
      clear Bx
      have hbwy := Below.on hbw hb12
      clear hbw
      have hbw := hbwy
      clear hbwy
      clear hb12
      go_wp2_with fail
      go_ret
      exact ⟨rfl, hbw⟩
end Go.Proofs.Ytmkglkdhnbjjhaa
