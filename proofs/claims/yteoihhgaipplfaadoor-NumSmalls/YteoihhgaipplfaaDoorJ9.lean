import Derived.Test.YteoihhgaipplfaaDoorJ7
import Derived.Test.YteoihhgaipplfaaDoorJ8
import Derived.Test.YteoihhgaipplfaaDoorJ5
namespace Go.Proofs.YteoihhgaipplfaaDoor
open Go.RowKit Go.Shelf

/-- A whole number in form, as a value in the world. -/
structure ZN (w : World) (s : Bool) (p : Option Addr) (m c : Nat) (z : Int) : Prop where
  ex : ∃ xs, Num w p m c xs z.natAbs
  sg : s = decide (z < 0)
theorem ZN.below {w w' : World} {s : Bool} {p : Option Addr} {m c : Nat} {z : Int} (h : ZN w s p m c z) (hb : Below w.heap.size w w') : ZN w' s p m c z := by
  obtain ⟨xs, hx⟩ := h.ex
  exact ⟨⟨xs, hx.below hb⟩, h.sg⟩
theorem ZN.iv {w : World} {s : Bool} {p : Option Addr} {m c : Nat} {z : Int} (h : ZN w s p m c z) : iv s z.natAbs = z := by rw [h.sg]; exact iv_abs z
theorem ZN.pos {w : World} {s : Bool} {p : Option Addr} {m c : Nat} {z : Int} (h : ZN w s p m c z) : s = true → 0 < z.natAbs := by rw [h.sg]; exact sgn_pos z
theorem ZN.lim {w : World} {s : Bool} {p : Option Addr} {m c : Nat} {z : Int} (h : ZN w s p m c z) : z.natAbs < LIM := by
  obtain ⟨xs, hx⟩ := h.ex
  exact hx.lim
theorem ZN.le {w : World} {s : Bool} {p : Option Addr} {m c : Nat} {z : Int} (h : ZN w s p m c z) : m ≤ 8192 := by
  obtain ⟨xs, hx⟩ := h.ex
  exact hx.le
theorem ZN.cast {w : World} {s : Bool} {p : Option Addr} {m c : Nat} {z z' : Int} (h : ZN w s p m c z) (e : z = z') : ZN w s p m c z' := e ▸ h
theorem ZN.of {w : World} {p : Option Addr} {m c : Nat} {xs : List Nat} {a : Nat} {t : Bool} (h : Num w p m c xs a) (ht : t = true → 0 < a) : ZN w t p m c (Go.Proofs.YteoihhgaipplfaaDoor.iv t a) :=
  ⟨⟨xs, by rw [iv_natAbs]; exact h⟩, by
    cases t
    · rw [iv_f]; exact (decide_eq_false (Int.not_lt.2 (Int.natCast_nonneg _))).symm
    · rw [iv_t]; have := ht rfl; exact (decide_eq_true (by omega)).symm⟩
/-- The answer is that number, with no error. -/
def Got (w' : World) (e : Ending) (z : Int) : Prop := ∃ s p m, e = .returned (.tuple #[ZV s p m m, .int .i64 0]) ∧ ZN w' s p m m z
theorem AnsZ.zn {B : Nat} {w' : World} {v : Value} {z : Int} (h : AnsZ B w' v z) : ∃ s p m, v = ZV s p m m ∧ ZN w' s p m m z := by
  obtain ⟨p, m, zs, rfl, ho, hn, hm⟩ := h
  exact ⟨_, p, m, rfl, ⟨zs, Num.of ho hn hm⟩, rfl⟩
theorem AnsI.zn {B : Nat} {w' : World} {e : Ending} {z : Int} (h : AnsI B w' e z) : (z.natAbs < LIM ∧ Got w' e z) ∨ (LIM ≤ z.natAbs ∧ e = .returned (.tuple #[ZV false none 0 0, .int .i64 5])) := by
  rcases h with ⟨hl, p, m, zs, rfl, ho, hn, hm⟩ | ⟨hl, rfl⟩
  · exact .inl ⟨hl, _, p, m, rfl, ⟨zs, Num.of ho hn hm⟩, rfl⟩
  · exact .inr ⟨hl, rfl⟩
theorem AnsI.got {B : Nat} {w' : World} {e : Ending} {z : Int} (h : AnsI B w' e z) (hz : z.natAbs < LIM) : Got w' e z := by
  rcases h.zn with ⟨_, k⟩ | ⟨k, _⟩
  · exact k
  · omega
variable {w : World} {s t : Bool} {p q : Option Addr} {m c n d : Nat} {x y : Int}
theorem zadd (h : ZN w s p m c x) (k : ZN w t q n d y) : Calls Tryd.prog 19 #[ZV s p m c, ZV t q n d] w fun e w' => AnsI w.heap.size w' e (x + y) ∧ Below w.heap.size w w' := by
  obtain ⟨xs, hx⟩ := h.ex
  obtain ⟨ys, hy⟩ := k.ex
  have := nadd_any s t hx hy h.pos k.pos
  rwa [h.iv, k.iv] at this
theorem zsub (h : ZN w s p m c x) (k : ZN w t q n d y) : Calls Tryd.prog 31 #[ZV s p m c, ZV t q n d] w fun e w' => AnsI w.heap.size w' e (x - y) ∧ Below w.heap.size w w' := by
  obtain ⟨xs, hx⟩ := h.ex
  obtain ⟨ys, hy⟩ := k.ex
  have := nsub_any s t hx hy h.pos k.pos
  rwa [h.iv, k.iv] at this
theorem zmul (h : ZN w s p m c x) (k : ZN w t q n d y) : Calls Tryd.prog 30 #[ZV s p m c, ZV t q n d] w fun e w' => AnsI w.heap.size w' e (x * y) ∧ Below w.heap.size w w' := by
  obtain ⟨xs, hx⟩ := h.ex
  obtain ⟨ys, hy⟩ := k.ex
  have := nmul_any s t hx hy h.pos k.pos
  rwa [h.iv, k.iv] at this
theorem zcmp (h : ZN w s p m c x) (k : ZN w t q n d y) : Calls Tryd.prog 18 #[ZV s p m c, ZV t q n d] w fun e w' => e = .returned (.tuple #[.int .i64 (cmpI x y), .int .i64 0]) ∧ Below w.heap.size w w' := by
  obtain ⟨xs, hx⟩ := h.ex
  obtain ⟨ys, hy⟩ := k.ex
  have := ncmp_any s t hx h.pos hy k.pos
  rwa [h.iv, k.iv] at this
theorem zneg (h : ZN w s p m c x) : Calls Tryd.prog 22 #[ZV s p m c] w fun e w' => Got w' e (-x) ∧ Below w.heap.size w w' := by
  obtain ⟨xs, hx⟩ := h.ex
  have := neg_any s hx h.pos
  rw [iv_not, h.iv] at this
  exact this.mono fun e w' ⟨v, he, hv, hb⟩ => by
    obtain ⟨s', p', m', rfl, hz⟩ := hv.zn
    exact ⟨⟨s', p', m', he, hz⟩, hb⟩
theorem zshl (h : ZN w s p m c x) (k : Nat) (hk : k ≤ 9223372036854775807) : Calls Tryd.prog 33 #[ZV s p m c, .int .i64 k] w fun e w' => AnsI w.heap.size w' e (x * 2 ^ k) ∧ Below w.heap.size w w' := by
  obtain ⟨xs, hx⟩ := h.ex
  have := nshl_any s hx h.pos k hk
  rwa [show Go.Proofs.YteoihhgaipplfaaDoor.iv s (2 ^ k * x.natAbs) = x * 2 ^ k from by
    have e := h.iv
    rw [show Go.Proofs.YteoihhgaipplfaaDoor.iv s (2 ^ k * x.natAbs) = Go.Proofs.YteoihhgaipplfaaDoor.iv s x.natAbs * 2 ^ k from by cases s <;> simp [Go.Proofs.YteoihhgaipplfaaDoor.iv, Int.mul_comm, Int.neg_mul], e]] at this
theorem zsign (h : ZN w s p m c x) : Calls Tryd.prog 17 #[ZV s p m c] w fun e w' => e = .returned (.int .i64 (sgnI x)) ∧ Below w.heap.size w w' := by
  obtain ⟨xs, hx⟩ := h.ex
  have := sign_any s hx
  rwa [h.iv] at this
theorem zsmall (h : ZN w s p m c x) : Calls Tryd.prog 15 #[ZV s p m c] w fun e w' => e = .returned (if -9223372036854775808 ≤ x ∧ x ≤ 9223372036854775807 then .tuple #[.int .i64 x, .int .i64 0] else .tuple #[.int .i64 0, .int .i64 5]) ∧ Below w.heap.size w w' := by
  obtain ⟨xs, hx⟩ := h.ex
  have := small_full s hx h.pos
  rwa [h.iv] at this
theorem zform (h : ZN w s p m c x) : Calls Tryd.prog 16 #[ZV s p m c] w fun e w' => e = .returned (.bool true) ∧ Below w.heap.size w w' := by
  obtain ⟨xs, hx⟩ := h.ex
  exact numform_t s hx h.pos
theorem zsame (h : ZN w s p m c x) (k : ZN w t q n d y) : Calls Tryd.prog 23 #[ZV s p m c, ZV t q n d] w fun e w' => e = .returned (.bool (decide (x = y))) ∧ Below w.heap.size w w' := by
  obtain ⟨xs, hx⟩ := h.ex
  obtain ⟨ys, hy⟩ := k.ex
  have := nsame_any s t hx.at_ hy.at_ hx.nf hy.nf h.pos k.pos
  rwa [h.iv, k.iv] at this
theorem zof (z : Int) (w : World) (h0 : -9223372036854775808 ≤ z) (h1 : z ≤ 9223372036854775807) : Calls Tryd.prog 14 #[.int .i64 z] w fun e w' => ∃ s p m, e = .returned (ZV s p m m) ∧ ZN w' s p m m z ∧ Below w.heap.size w w' :=
  (of_full z w h0 h1).mono fun e w' ⟨v, he, hv, hb⟩ => by
    obtain ⟨s', p', m', rfl, hz⟩ := hv.zn
    exact ⟨s', p', m', he, hz, hb⟩
theorem zdocof (z : Int) (w : World) (h0 : -9223372036854775808 ≤ z) (h1 : z ≤ 9223372036854775807) : Calls Tryd.prog 32 #[.int .i64 z] w fun e w' => ∃ s p m c, e = .returned (ZV s p m c) ∧ ZN w' s p m c z ∧ Below w.heap.size w w' :=
  (docof_any z w h0 h1).mono fun e w' ⟨s, g, k, N, us, he, hs, hA, hN, hb⟩ => by
    refine ⟨s, _, k, N, he, ⟨⟨us, hA, hN, ?_⟩, hs⟩, hb⟩
    have := (hN.len_le B64_one (k := 1)).2 (by rw [Nat.pow_one, B64_eq]; omega)
    rw [hA.len] at this
    omega
theorem zfshr (h : ZN w s p m c x) (k : Nat) (hk : k ≤ 9223372036854775807) (hT : Tab w) : Calls Tryd.prog 24 #[ZV s p m c, .int .i64 k] w fun e w' => Got w' e (fl (decide (x < 0)) x.natAbs (2 ^ k)) ∧ Below w.heap.size w w' := by
  obtain ⟨xs, hx⟩ := h.ex
  rw [← h.sg]
  exact (fshr_any s hx h.pos k hk hT).mono fun e w' ⟨v, he, hv, hb⟩ => by
    obtain ⟨s', p', m', rfl, hz⟩ := hv.zn
    exact ⟨⟨s', p', m', he, hz⟩, hb⟩
theorem zcshr (h : ZN w s p m c x) (k : Nat) (hk : k ≤ 9223372036854775807) (hT : Tab w) : Calls Tryd.prog 25 #[ZV s p m c, .int .i64 k] w fun e w' => Got w' e (ce (decide (x < 0)) x.natAbs (2 ^ k)) ∧ Below w.heap.size w w' := by
  obtain ⟨xs, hx⟩ := h.ex
  rw [← h.sg]
  exact (cshr_any s hx h.pos k hk hT).mono fun e w' ⟨v, he, hv, hb⟩ => by
    obtain ⟨s', p', m', rfl, hz⟩ := hv.zn
    exact ⟨⟨s', p', m', he, hz⟩, hb⟩
theorem zrshr (h : ZN w s p m c x) (k : Nat) (hk : k ≤ 9223372036854775807) (hT : Tab w) : Calls Tryd.prog 26 #[ZV s p m c, .int .i64 k] w fun e w' => Got w' e (ne (decide (x < 0)) x.natAbs (2 ^ k)) ∧ Below w.heap.size w w' := by
  obtain ⟨xs, hx⟩ := h.ex
  rw [← h.sg]
  exact (rshr_any s hx h.pos k hk hT).mono fun e w' ⟨v, he, hv, hb⟩ => by
    obtain ⟨s', p', m', rfl, hz⟩ := hv.zn
    exact ⟨⟨s', p', m', he, hz⟩, hb⟩
theorem zfdiv (h : ZN w s p m c x) (k : ZN w t q n d y) (hy0 : y ≠ 0) : Calls Tryd.prog 20 #[ZV s p m c, ZV t q n d] w fun e w' => Got w' e (fl (decide (x < 0) != decide (y < 0)) x.natAbs y.natAbs) ∧ Below w.heap.size w w' := by
  obtain ⟨xs, hx⟩ := h.ex
  obtain ⟨ys, hy⟩ := k.ex
  rw [← h.sg, ← k.sg]
  exact (fdiv_any s t hx h.pos hy k.pos (by omega)).mono fun e w' ⟨v, he, hv, hb⟩ => by
    obtain ⟨s', p', m', rfl, hz⟩ := hv.zn
    exact ⟨⟨s', p', m', he, hz⟩, hb⟩
theorem zcdiv (h : ZN w s p m c x) (k : ZN w t q n d y) (hy0 : y ≠ 0) : Calls Tryd.prog 27 #[ZV s p m c, ZV t q n d] w fun e w' => Got w' e (ce (decide (x < 0) != decide (y < 0)) x.natAbs y.natAbs) ∧ Below w.heap.size w w' := by
  obtain ⟨xs, hx⟩ := h.ex
  obtain ⟨ys, hy⟩ := k.ex
  rw [← h.sg, ← k.sg]
  exact (cdiv_any s t hx h.pos hy k.pos (by omega)).mono fun e w' ⟨v, he, hv, hb⟩ => by
    obtain ⟨s', p', m', rfl, hz⟩ := hv.zn
    exact ⟨⟨s', p', m', he, hz⟩, hb⟩
theorem zrdiv (h : ZN w s p m c x) (k : ZN w t q n d y) (hy0 : y ≠ 0) : Calls Tryd.prog 28 #[ZV s p m c, ZV t q n d] w fun e w' => Got w' e (ne (decide (x < 0) != decide (y < 0)) x.natAbs y.natAbs) ∧ Below w.heap.size w w' := by
  obtain ⟨xs, hx⟩ := h.ex
  obtain ⟨ys, hy⟩ := k.ex
  rw [← h.sg, ← k.sg]
  exact (rdiv_any s t hx h.pos hy k.pos (by omega)).mono fun e w' ⟨v, he, hv, hb⟩ => by
    obtain ⟨s', p', m', rfl, hz⟩ := hv.zn
    exact ⟨⟨s', p', m', he, hz⟩, hb⟩
theorem zmod (h : ZN w s p m c x) (k : ZN w t q n d y) (hy0 : y ≠ 0) : Calls Tryd.prog 29 #[ZV s p m c, ZV t q n d] w fun e w' => Got w' e (mo (decide (x < 0)) (decide (y < 0)) x.natAbs y.natAbs) ∧ Below w.heap.size w w' := by
  obtain ⟨xs, hx⟩ := h.ex
  obtain ⟨ys, hy⟩ := k.ex
  rw [← h.sg, ← k.sg]
  exact (mod_any s t hx h.pos hy k.pos (by omega)).mono fun e w' ⟨v, he, hv, hb⟩ => by
    obtain ⟨s', p', m', rfl, hz⟩ := hv.zn
    exact ⟨⟨s', p', m', he, hz⟩, hb⟩
theorem zfdiv0 (h : ZN w s p m c x) (k : ZN w t q n d y) (hy0 : y = 0) : Calls Tryd.prog 20 #[ZV s p m c, ZV t q n d] w fun e w' => ∃ s' p' m', e = .returned (.tuple #[ZV s' p' m' m', .int .i64 4]) ∧ ZN w' s' p' m' m' 0 ∧ Below w.heap.size w w' := by
  obtain ⟨xs, hx⟩ := h.ex
  obtain ⟨ys, hy⟩ := k.ex
  exact (fdiv_zero s t hx h.pos hy k.pos (by omega)).mono fun e w' ⟨v, he, hv, hb⟩ => by
    obtain ⟨s', p', m', rfl, hz⟩ := hv.zn
    exact ⟨s', p', m', he, hz, hb⟩
theorem zcdiv0 (h : ZN w s p m c x) (k : ZN w t q n d y) (hy0 : y = 0) : Calls Tryd.prog 27 #[ZV s p m c, ZV t q n d] w fun e w' => ∃ s' p' m', e = .returned (.tuple #[ZV s' p' m' m', .int .i64 4]) ∧ ZN w' s' p' m' m' 0 ∧ Below w.heap.size w w' := by
  obtain ⟨xs, hx⟩ := h.ex
  obtain ⟨ys, hy⟩ := k.ex
  exact (cdiv_zero s t hx h.pos hy k.pos (by omega)).mono fun e w' ⟨v, he, hv, hb⟩ => by
    obtain ⟨s', p', m', rfl, hz⟩ := hv.zn
    exact ⟨s', p', m', he, hz, hb⟩
end Go.Proofs.YteoihhgaipplfaaDoor

namespace Go.Proofs.YteoihhgaipplfaaDoor
open Go.RowKit Go.Shelf

set_option maxRecDepth 20000 in
set_option maxHeartbeats 8000000 in
theorem halves_any (w : World) (hT : Tab w) : Calls Tryd.prog 13 #[] w fun e w' => e = .returned (.bool true) ∧ Below w.heap.size w w' := by
  have HT : Hid (Tab w) := hT
  clear hT
  go_enter Tryd.func13, Tryd.ntmps13
  go_wp2_with fail
  have hbw : Below w.heap.size w w := Below.refl _ _
  refine (zof (-7) w (by omega) (by omega)).mono ?_
  rintro e v1 ⟨s1, p1, m1, rfl, hz, hb1⟩
  have HT' : Hid (Tab v1) := HT.out.below hb1
  clear HT
  have HT := HT'
  clear HT'
  have hbw' := Below.on hbw hb1
  clear hbw
  have hbw := hbw'
  clear hbw'
  clear hb1
  have Za : Hid (ZN v1 s1 p1 m1 m1 (-7)) := hz
  clear hz
  go_wp2_with fail
  refine (zof (2) v1 (by omega) (by omega)).mono ?_
  rintro e v2 ⟨s2, p2, m2, rfl, hz, hb2⟩
  have HT' : Hid (Tab v2) := HT.out.below hb2
  clear HT
  have HT := HT'
  clear HT'
  have Za' : Hid (ZN v2 s1 p1 m1 m1 (-7)) := Za.out.below hb2
  clear Za
  have Za := Za'
  clear Za'
  have hbw' := Below.on hbw hb2
  clear hbw
  have hbw := hbw'
  clear hbw'
  clear hb2
  have Zb : Hid (ZN v2 s2 p2 m2 m2 (2)) := hz
  clear hz
  go_wp2_with fail
  refine (zfdiv Za.out Zb.out (by decide)).mono ?_
  rintro e v3 ⟨⟨s3, p3, m3, rfl, hz⟩, hb3⟩
  have HT' : Hid (Tab v3) := HT.out.below hb3
  clear HT
  have HT := HT'
  clear HT'
  have Za' : Hid (ZN v3 s1 p1 m1 m1 (-7)) := Za.out.below hb3
  clear Za
  have Za := Za'
  clear Za'
  have Zb' : Hid (ZN v3 s2 p2 m2 m2 (2)) := Zb.out.below hb3
  clear Zb
  have Zb := Zb'
  clear Zb'
  have hbw' := Below.on hbw hb3
  clear hbw
  have hbw := hbw'
  clear hbw'
  clear hb3
  have hz := hz.cast (z' := -4) (by decide)
  have Zx : Hid (ZN v3 s3 p3 m3 m3 (-4)) := hz
  clear hz
  clear Za
  clear Zb
  go_wp2_with fail
  have Xx0 : Hid (Box (v3.alloc (.cells #[.bool s3, .slice p3 m3 m3] 35)) v3.heap.size (.bool s3) (.slice p3 m3 m3)) := Box.new v3 _ _ _
  have hbn : Below v3.heap.size v3 (v3.alloc (.cells #[.bool s3, .slice p3 m3 m3] 35)) := below1 v3 _
  generalize v3.alloc (.cells #[.bool s3, .slice p3 m3 m3] 35) = W3 at *
  have HGx : Hid (w.heap.size ≤ v3.heap.size) := hbw.size
  have HT' : Hid (Tab W3) := HT.out.below hbn
  clear HT
  have HT := HT'
  clear HT'
  have Zx' : Hid (ZN W3 s3 p3 m3 m3 (-4)) := Zx.out.below hbn
  clear Zx
  have Zx := Zx'
  clear Zx'
  have hbw' := Below.on hbw hbn
  clear hbw
  have hbw := hbw'
  clear hbw'
  clear hbn
  generalize v3.heap.size = gx at *
  have Xx := Xx0
  clear Xx0
  refine (zof (7) W3 (by omega) (by omega)).mono ?_
  rintro e v4 ⟨s4, p4, m4, rfl, hz, hb4⟩
  have Yx : Hid (Box v4 gx (.bool s3) (.slice p3 m3 m3)) := Xx.out.below hb4
  clear Xx
  have Xx := Yx
  clear Yx
  have HT' : Hid (Tab v4) := HT.out.below hb4
  clear HT
  have HT := HT'
  clear HT'
  have Zx' : Hid (ZN v4 s3 p3 m3 m3 (-4)) := Zx.out.below hb4
  clear Zx
  have Zx := Zx'
  clear Zx'
  have hbw' := Below.on hbw hb4
  clear hbw
  have hbw := hbw'
  clear hbw'
  clear hb4
  have Za : Hid (ZN v4 s4 p4 m4 m4 (7)) := hz
  clear hz
  go_wp2_with fail
  rw [show Value.int IntKind.i64 1 = .int .i64 ((1 : Nat) : Int) from rfl]
  refine (zrshr Za.out 1 (by omega) HT.out).mono ?_
  rintro e v5 ⟨⟨s5, p5, m5, rfl, hz⟩, hb5⟩
  have Yx : Hid (Box v5 gx (.bool s3) (.slice p3 m3 m3)) := Xx.out.below hb5
  clear Xx
  have Xx := Yx
  clear Yx
  have HT' : Hid (Tab v5) := HT.out.below hb5
  clear HT
  have HT := HT'
  clear HT'
  have Zx' : Hid (ZN v5 s3 p3 m3 m3 (-4)) := Zx.out.below hb5
  clear Zx
  have Zx := Zx'
  clear Zx'
  have Za' : Hid (ZN v5 s4 p4 m4 m4 (7)) := Za.out.below hb5
  clear Za
  have Za := Za'
  clear Za'
  have hbw' := Below.on hbw hb5
  clear hbw
  have hbw := hbw'
  clear hbw'
  clear hb5
  have hz := hz.cast (z' := 4) (by decide)
  have Zy : Hid (ZN v5 s5 p5 m5 m5 (4)) := hz
  clear hz
  clear Za
  go_wp2_with fail
  have Xy0 : Hid (Box (v5.alloc (.cells #[.bool s5, .slice p5 m5 m5] 35)) v5.heap.size (.bool s5) (.slice p5 m5 m5)) := Box.new v5 _ _ _
  have hbn : Below v5.heap.size v5 (v5.alloc (.cells #[.bool s5, .slice p5 m5 m5] 35)) := below1 v5 _
  generalize v5.alloc (.cells #[.bool s5, .slice p5 m5 m5] 35) = W5 at *
  have HGy : Hid (w.heap.size ≤ v5.heap.size) := hbw.size
  have Yx : Hid (Box W5 gx (.bool s3) (.slice p3 m3 m3)) := Xx.out.below hbn
  clear Xx
  have Xx := Yx
  clear Yx
  have HT' : Hid (Tab W5) := HT.out.below hbn
  clear HT
  have HT := HT'
  clear HT'
  have Zx' : Hid (ZN W5 s3 p3 m3 m3 (-4)) := Zx.out.below hbn
  clear Zx
  have Zx := Zx'
  clear Zx'
  have Zy' : Hid (ZN W5 s5 p5 m5 m5 (4)) := Zy.out.below hbn
  clear Zy
  have Zy := Zy'
  clear Zy'
  have hbw' := Below.on hbw hbn
  clear hbw
  have hbw := hbw'
  clear hbw'
  clear hbn
  generalize v5.heap.size = gy at *
  have Xy := Xy0
  clear Xy0
  refine (zof (-7) W5 (by omega) (by omega)).mono ?_
  rintro e v6 ⟨s6, p6, m6, rfl, hz, hb6⟩
  have Yx : Hid (Box v6 gx (.bool s3) (.slice p3 m3 m3)) := Xx.out.below hb6
  clear Xx
  have Xx := Yx
  clear Yx
  have Yy : Hid (Box v6 gy (.bool s5) (.slice p5 m5 m5)) := Xy.out.below hb6
  clear Xy
  have Xy := Yy
  clear Yy
  have HT' : Hid (Tab v6) := HT.out.below hb6
  clear HT
  have HT := HT'
  clear HT'
  have Zx' : Hid (ZN v6 s3 p3 m3 m3 (-4)) := Zx.out.below hb6
  clear Zx
  have Zx := Zx'
  clear Zx'
  have Zy' : Hid (ZN v6 s5 p5 m5 m5 (4)) := Zy.out.below hb6
  clear Zy
  have Zy := Zy'
  clear Zy'
  have hbw' := Below.on hbw hb6
  clear hbw
  have hbw := hbw'
  clear hbw'
  clear hb6
  have Za : Hid (ZN v6 s6 p6 m6 m6 (-7)) := hz
  clear hz
  go_wp2_with fail
  refine (zof (3) v6 (by omega) (by omega)).mono ?_
  rintro e v7 ⟨s7, p7, m7, rfl, hz, hb7⟩
  have Yx : Hid (Box v7 gx (.bool s3) (.slice p3 m3 m3)) := Xx.out.below hb7
  clear Xx
  have Xx := Yx
  clear Yx
  have Yy : Hid (Box v7 gy (.bool s5) (.slice p5 m5 m5)) := Xy.out.below hb7
  clear Xy
  have Xy := Yy
  clear Yy
  have HT' : Hid (Tab v7) := HT.out.below hb7
  clear HT
  have HT := HT'
  clear HT'
  have Zx' : Hid (ZN v7 s3 p3 m3 m3 (-4)) := Zx.out.below hb7
  clear Zx
  have Zx := Zx'
  clear Zx'
  have Zy' : Hid (ZN v7 s5 p5 m5 m5 (4)) := Zy.out.below hb7
  clear Zy
  have Zy := Zy'
  clear Zy'
  have Za' : Hid (ZN v7 s6 p6 m6 m6 (-7)) := Za.out.below hb7
  clear Za
  have Za := Za'
  clear Za'
  have hbw' := Below.on hbw hb7
  clear hbw
  have hbw := hbw'
  clear hbw'
  clear hb7
  have Zb : Hid (ZN v7 s7 p7 m7 m7 (3)) := hz
  clear hz
  go_wp2_with fail
  refine (zmod Za.out Zb.out (by decide)).mono ?_
  rintro e v8 ⟨⟨s8, p8, m8, rfl, hz⟩, hb8⟩
  have Yx : Hid (Box v8 gx (.bool s3) (.slice p3 m3 m3)) := Xx.out.below hb8
  clear Xx
  have Xx := Yx
  clear Yx
  have Yy : Hid (Box v8 gy (.bool s5) (.slice p5 m5 m5)) := Xy.out.below hb8
  clear Xy
  have Xy := Yy
  clear Yy
  have HT' : Hid (Tab v8) := HT.out.below hb8
  clear HT
  have HT := HT'
  clear HT'
  have Zx' : Hid (ZN v8 s3 p3 m3 m3 (-4)) := Zx.out.below hb8
  clear Zx
  have Zx := Zx'
  clear Zx'
  have Zy' : Hid (ZN v8 s5 p5 m5 m5 (4)) := Zy.out.below hb8
  clear Zy
  have Zy := Zy'
  clear Zy'
  have Za' : Hid (ZN v8 s6 p6 m6 m6 (-7)) := Za.out.below hb8
  clear Za
  have Za := Za'
  clear Za'
  have Zb' : Hid (ZN v8 s7 p7 m7 m7 (3)) := Zb.out.below hb8
  clear Zb
  have Zb := Zb'
  clear Zb'
  have hbw' := Below.on hbw hb8
  clear hbw
  have hbw := hbw'
  clear hbw'
  clear hb8
  have hz := hz.cast (z' := 2) (by decide)
  have Zz : Hid (ZN v8 s8 p8 m8 m8 (2)) := hz
  clear hz
  clear Za
  clear Zb
  go_wp2_with fail
  have Xz0 : Hid (Box (v8.alloc (.cells #[.bool s8, .slice p8 m8 m8] 35)) v8.heap.size (.bool s8) (.slice p8 m8 m8)) := Box.new v8 _ _ _
  have hbn : Below v8.heap.size v8 (v8.alloc (.cells #[.bool s8, .slice p8 m8 m8] 35)) := below1 v8 _
  generalize v8.alloc (.cells #[.bool s8, .slice p8 m8 m8] 35) = W8 at *
  have HGz : Hid (w.heap.size ≤ v8.heap.size) := hbw.size
  have Yx : Hid (Box W8 gx (.bool s3) (.slice p3 m3 m3)) := Xx.out.below hbn
  clear Xx
  have Xx := Yx
  clear Yx
  have Yy : Hid (Box W8 gy (.bool s5) (.slice p5 m5 m5)) := Xy.out.below hbn
  clear Xy
  have Xy := Yy
  clear Yy
  have HT' : Hid (Tab W8) := HT.out.below hbn
  clear HT
  have HT := HT'
  clear HT'
  have Zx' : Hid (ZN W8 s3 p3 m3 m3 (-4)) := Zx.out.below hbn
  clear Zx
  have Zx := Zx'
  clear Zx'
  have Zy' : Hid (ZN W8 s5 p5 m5 m5 (4)) := Zy.out.below hbn
  clear Zy
  have Zy := Zy'
  clear Zy'
  have Zz' : Hid (ZN W8 s8 p8 m8 m8 (2)) := Zz.out.below hbn
  clear Zz
  have Zz := Zz'
  clear Zz'
  have hbw' := Below.on hbw hbn
  clear hbw
  have hbw := hbw'
  clear hbw'
  clear hbn
  generalize v8.heap.size = gz at *
  have Xz := Xz0
  clear Xz0
  obtain ⟨W9, hW9⟩ : ∃ W1, W1 = W8.drew := ⟨_, rfl⟩
  have hbd : Below W8.heap.size W8 W9 := by rw [hW9]; exact bDrew1 (Below.refl _ _)
  have Yx : Hid (Box W9 gx (.bool s3) (.slice p3 m3 m3)) := Xx.out.below hbd
  clear Xx
  have Xx := Yx
  clear Yx
  have Yy : Hid (Box W9 gy (.bool s5) (.slice p5 m5 m5)) := Xy.out.below hbd
  clear Xy
  have Xy := Yy
  clear Yy
  have Yz : Hid (Box W9 gz (.bool s8) (.slice p8 m8 m8)) := Xz.out.below hbd
  clear Xz
  have Xz := Yz
  clear Yz
  have HT' : Hid (Tab W9) := HT.out.below hbd
  clear HT
  have HT := HT'
  clear HT'
  have Zx' : Hid (ZN W9 s3 p3 m3 m3 (-4)) := Zx.out.below hbd
  clear Zx
  have Zx := Zx'
  clear Zx'
  have Zy' : Hid (ZN W9 s5 p5 m5 m5 (4)) := Zy.out.below hbd
  clear Zy
  have Zy := Zy'
  clear Zy'
  have Zz' : Hid (ZN W9 s8 p8 m8 m8 (2)) := Zz.out.below hbd
  clear Zz
  have Zz := Zz'
  clear Zz'
  have hbw' := Below.on hbw hbd
  clear hbw
  have hbw := hbw'
  clear hbw'
  clear hbd
  have HJ : Hid ((fun W' : World => W'.cell? ⟨gx, 0, none⟩ = some (.bool s3) ∧ W'.cell? ⟨gx, 1, none⟩ = some (.slice p3 m3 m3) ∧ W'.cell? ⟨gy, 0, none⟩ = some (.bool s5) ∧ W'.cell? ⟨gy, 1, none⟩ = some (.slice p5 m5 m5) ∧ W'.cell? ⟨gz, 0, none⟩ = some (.bool s8) ∧ W'.cell? ⟨gz, 1, none⟩ = some (.slice p8 m8 m8)) W9) := ⟨Xx.out.c0, Xx.out.c1, Xy.out.c0, Xy.out.c1, Xz.out.c0, Xz.out.c1⟩
  refine wp_region_J (fun W' => W'.cell? ⟨gx, 0, none⟩ = some (.bool s3) ∧ W'.cell? ⟨gx, 1, none⟩ = some (.slice p3 m3 m3) ∧ W'.cell? ⟨gy, 0, none⟩ = some (.bool s5) ∧ W'.cell? ⟨gy, 1, none⟩ = some (.slice p5 m5 m5) ∧ W'.cell? ⟨gz, 0, none⟩ = some (.bool s8) ∧ W'.cell? ⟨gz, 1, none⟩ = some (.slice p8 m8 m8)) (by kernel_rfl) ?_
  rw [← hW9]
  clear hW9
  refine wpJ_take (i := 0) (v := ?v1x0) rfl (by kernel_rfl) (by kernel_rfl) (by kernel_rfl) (fun _ _ _ h => h) (by kernel_rfl) ?hy1x0 HJ.out ?rest1x0
  case hy1x0 => (intro W' hJ; obtain ⟨j0, j1, j2, j3, j4, j5⟩ := hJ; go_simp; first | done | with_reducible rfl)
  refine wpJ_take (i := 1) (v := ?v2x1) rfl (by kernel_rfl) (by kernel_rfl) (by kernel_rfl) (fun _ _ _ h => h) (by kernel_rfl) ?hy2x1 HJ.out ?rest2x1
  case hy2x1 => (intro W' hJ; obtain ⟨j0, j1, j2, j3, j4, j5⟩ := hJ; go_simp; first | done | with_reducible rfl)
  refine wpJ_take (i := 2) (v := ?v3x2) rfl (by kernel_rfl) (by kernel_rfl) (by kernel_rfl) (fun _ _ _ h => h) (by kernel_rfl) ?hy3x2 HJ.out ?rest3x2
  case hy3x2 => (intro W' hJ; obtain ⟨j0, j1, j2, j3, j4, j5⟩ := hJ; go_simp; first | done | with_reducible rfl)
  refine wpJ_take (i := 3) (v := ?v4x3) rfl (by kernel_rfl) (by kernel_rfl) (by kernel_rfl) (fun _ _ _ h => h) (by kernel_rfl) ?hy4x3 HJ.out ?rest4x3
  case hy4x3 => (intro W' hJ; obtain ⟨j0, j1, j2, j3, j4, j5⟩ := hJ; go_simp; first | done | with_reducible rfl)
  refine wpJ_take (i := 4) (v := ?v5x4) rfl (by kernel_rfl) (by kernel_rfl) (by kernel_rfl) (fun _ _ _ h => h) (by kernel_rfl) ?hy5x4 HJ.out ?rest5x4
  case hy5x4 => (intro W' hJ; obtain ⟨j0, j1, j2, j3, j4, j5⟩ := hJ; go_simp; first | done | with_reducible rfl)
  refine wpJ_take (i := 5) (v := ?v6x5) rfl (by kernel_rfl) (by kernel_rfl) (by kernel_rfl) (fun _ _ _ h => h) (by kernel_rfl) ?hy6x5 HJ.out ?rest6x5
  case hy6x5 => (intro W' hJ; obtain ⟨j0, j1, j2, j3, j4, j5⟩ := hJ; go_simp; first | done | with_reducible rfl)
  refine wpJ_take (i := 6) (v := ?v7x6) rfl (by kernel_rfl) (by kernel_rfl) (by kernel_rfl) (fun _ _ _ h => h) (by kernel_rfl) ?hy7x6 HJ.out ?rest7x6
  case hy7x6 => (intro W' hJ; obtain ⟨j0, j1, j2, j3, j4, j5⟩ := hJ; go_simp; first | done | with_reducible rfl)
  refine wpJ_take (i := 7) (v := ?v8x7) rfl (by kernel_rfl) (by kernel_rfl) (by kernel_rfl) (fun _ _ _ h => h) (by kernel_rfl) ?hy8x7 HJ.out ?rest8x7
  case hy8x7 => (intro W' hJ; obtain ⟨j0, j1, j2, j3, j4, j5⟩ := hJ; go_simp; first | done | with_reducible rfl)
  refine wpJ_take (i := 8) (v := ?v9x8) rfl (by kernel_rfl) (by kernel_rfl) (by kernel_rfl) (fun _ _ _ h => h) (by kernel_rfl) ?hy9x8 HJ.out ?rest9x8
  case hy9x8 => (intro W' hJ; obtain ⟨j0, j1, j2, j3, j4, j5⟩ := hJ; go_simp; first | done | with_reducible rfl)
  refine wpJ_take (i := 9) (v := ?v10x9) rfl (by kernel_rfl) (by kernel_rfl) (by kernel_rfl) (fun _ _ _ h => h) (by kernel_rfl) ?hy10x9 HJ.out ?rest10x9
  case hy10x9 => (intro W' hJ; obtain ⟨j0, j1, j2, j3, j4, j5⟩ := hJ; go_simp; first | done | with_reducible rfl)
  refine wpJ_take (i := 10) (v := ?v11x10) rfl (by kernel_rfl) (by kernel_rfl) (by kernel_rfl) (fun _ _ _ h => h) (by kernel_rfl) ?hy11x10 HJ.out ?rest11x10
  case hy11x10 => (intro W' hJ; obtain ⟨j0, j1, j2, j3, j4, j5⟩ := hJ; go_simp; first | done | with_reducible rfl)
  refine wpJ_take (i := 11) (v := ?v12x11) rfl (by kernel_rfl) (by kernel_rfl) (by kernel_rfl) (fun _ _ _ h => h) (by kernel_rfl) ?hy12x11 HJ.out ?rest12x11
  case hy12x11 => (intro W' hJ; obtain ⟨j0, j1, j2, j3, j4, j5⟩ := hJ; go_simp; first | done | with_reducible rfl)
  refine wpJ_one (i := 12) (by kernel_rfl) rfl (by kernel_rfl) (fun KJ hK => ?_)
  go_simp
  refine (zdocof (-4) W9 (by omega) (by omega)).mono ?_
  rintro e v10 ⟨s10, p10, m10, c10, rfl, hz, hb10⟩
  have Yx : Hid (Box v10 gx (.bool s3) (.slice p3 m3 m3)) := Xx.out.below hb10
  clear Xx
  have Xx := Yx
  clear Yx
  have Yy : Hid (Box v10 gy (.bool s5) (.slice p5 m5 m5)) := Xy.out.below hb10
  clear Xy
  have Xy := Yy
  clear Yy
  have Yz : Hid (Box v10 gz (.bool s8) (.slice p8 m8 m8)) := Xz.out.below hb10
  clear Xz
  have Xz := Yz
  clear Yz
  have HT' : Hid (Tab v10) := HT.out.below hb10
  clear HT
  have HT := HT'
  clear HT'
  have Zx' : Hid (ZN v10 s3 p3 m3 m3 (-4)) := Zx.out.below hb10
  clear Zx
  have Zx := Zx'
  clear Zx'
  have Zy' : Hid (ZN v10 s5 p5 m5 m5 (4)) := Zy.out.below hb10
  clear Zy
  have Zy := Zy'
  clear Zy'
  have Zz' : Hid (ZN v10 s8 p8 m8 m8 (2)) := Zz.out.below hb10
  clear Zz
  have Zz := Zz'
  clear Zz'
  have hbw' := Below.on hbw hb10
  clear hbw
  have hbw := hbw'
  clear hbw'
  clear hb10
  have Zd : Hid (ZN v10 s10 p10 m10 c10 (-4)) := hz
  clear hz
  clear HJ
  have HJ : Hid ((fun W' : World => W'.cell? ⟨gx, 0, none⟩ = some (.bool s3) ∧ W'.cell? ⟨gx, 1, none⟩ = some (.slice p3 m3 m3) ∧ W'.cell? ⟨gy, 0, none⟩ = some (.bool s5) ∧ W'.cell? ⟨gy, 1, none⟩ = some (.slice p5 m5 m5) ∧ W'.cell? ⟨gz, 0, none⟩ = some (.bool s8) ∧ W'.cell? ⟨gz, 1, none⟩ = some (.slice p8 m8 m8)) v10) := ⟨Xx.out.c0, Xx.out.c1, Xy.out.c0, Xy.out.c1, Xz.out.c0, Xz.out.c1⟩
  refine hK _ _ HJ.out ?_
  clear hK
  refine wpJ_one (i := 13) (by kernel_rfl) rfl (by kernel_rfl) (fun KJ hK => ?_)
  go_simp
  refine (zsame Zx.out Zd.out).mono ?_
  rintro e v11 ⟨rfl, hb11⟩
  rw [decide_eq_true rfl]
  have Yx : Hid (Box v11 gx (.bool s3) (.slice p3 m3 m3)) := Xx.out.below hb11
  clear Xx
  have Xx := Yx
  clear Yx
  have Yy : Hid (Box v11 gy (.bool s5) (.slice p5 m5 m5)) := Xy.out.below hb11
  clear Xy
  have Xy := Yy
  clear Yy
  have Yz : Hid (Box v11 gz (.bool s8) (.slice p8 m8 m8)) := Xz.out.below hb11
  clear Xz
  have Xz := Yz
  clear Yz
  have HT' : Hid (Tab v11) := HT.out.below hb11
  clear HT
  have HT := HT'
  clear HT'
  have Zx' : Hid (ZN v11 s3 p3 m3 m3 (-4)) := Zx.out.below hb11
  clear Zx
  have Zx := Zx'
  clear Zx'
  have Zy' : Hid (ZN v11 s5 p5 m5 m5 (4)) := Zy.out.below hb11
  clear Zy
  have Zy := Zy'
  clear Zy'
  have Zz' : Hid (ZN v11 s8 p8 m8 m8 (2)) := Zz.out.below hb11
  clear Zz
  have Zz := Zz'
  clear Zz'
  have Zd' : Hid (ZN v11 s10 p10 m10 c10 (-4)) := Zd.out.below hb11
  clear Zd
  have Zd := Zd'
  clear Zd'
  have hbw' := Below.on hbw hb11
  clear hbw
  have hbw := hbw'
  clear hbw'
  clear hb11
  clear HJ
  have HJ : Hid ((fun W' : World => W'.cell? ⟨gx, 0, none⟩ = some (.bool s3) ∧ W'.cell? ⟨gx, 1, none⟩ = some (.slice p3 m3 m3) ∧ W'.cell? ⟨gy, 0, none⟩ = some (.bool s5) ∧ W'.cell? ⟨gy, 1, none⟩ = some (.slice p5 m5 m5) ∧ W'.cell? ⟨gz, 0, none⟩ = some (.bool s8) ∧ W'.cell? ⟨gz, 1, none⟩ = some (.slice p8 m8 m8)) v11) := ⟨Xx.out.c0, Xx.out.c1, Xy.out.c0, Xy.out.c1, Xz.out.c0, Xz.out.c1⟩
  refine hK _ _ HJ.out ?_
  clear hK
  refine wpJ_take (i := 14) (v := ?v13x14) rfl (by kernel_rfl) (by kernel_rfl) (by kernel_rfl) (fun _ _ _ h => h) (by kernel_rfl) ?hy13x14 HJ.out ?rest13x14
  case hy13x14 => (intro W' hJ; obtain ⟨j0, j1, j2, j3, j4, j5⟩ := hJ; go_simp; first | done | with_reducible rfl)
  refine wpJ_take (i := 15) (v := ?v14x15) rfl (by kernel_rfl) (by kernel_rfl) (by kernel_rfl) (fun _ _ _ h => h) (by kernel_rfl) ?hy14x15 HJ.out ?rest14x15
  case hy14x15 => (intro W' hJ; obtain ⟨j0, j1, j2, j3, j4, j5⟩ := hJ; go_simp; first | done | with_reducible rfl)
  refine wpJ_take (i := 16) (v := ?v15x16) rfl (by kernel_rfl) (by kernel_rfl) (by kernel_rfl) (fun _ _ _ h => h) (by kernel_rfl) ?hy15x16 HJ.out ?rest15x16
  case hy15x16 => (intro W' hJ; obtain ⟨j0, j1, j2, j3, j4, j5⟩ := hJ; go_simp; first | done | with_reducible rfl)
  refine wpJ_one (i := 17) (by kernel_rfl) rfl (by kernel_rfl) (fun KJ hK => ?_)
  go_simp
  refine (zdocof (4) v11 (by omega) (by omega)).mono ?_
  rintro e v12 ⟨s12, p12, m12, c12, rfl, hz, hb12⟩
  have Yx : Hid (Box v12 gx (.bool s3) (.slice p3 m3 m3)) := Xx.out.below hb12
  clear Xx
  have Xx := Yx
  clear Yx
  have Yy : Hid (Box v12 gy (.bool s5) (.slice p5 m5 m5)) := Xy.out.below hb12
  clear Xy
  have Xy := Yy
  clear Yy
  have Yz : Hid (Box v12 gz (.bool s8) (.slice p8 m8 m8)) := Xz.out.below hb12
  clear Xz
  have Xz := Yz
  clear Yz
  have HT' : Hid (Tab v12) := HT.out.below hb12
  clear HT
  have HT := HT'
  clear HT'
  have Zx' : Hid (ZN v12 s3 p3 m3 m3 (-4)) := Zx.out.below hb12
  clear Zx
  have Zx := Zx'
  clear Zx'
  have Zy' : Hid (ZN v12 s5 p5 m5 m5 (4)) := Zy.out.below hb12
  clear Zy
  have Zy := Zy'
  clear Zy'
  have Zz' : Hid (ZN v12 s8 p8 m8 m8 (2)) := Zz.out.below hb12
  clear Zz
  have Zz := Zz'
  clear Zz'
  have Zd' : Hid (ZN v12 s10 p10 m10 c10 (-4)) := Zd.out.below hb12
  clear Zd
  have Zd := Zd'
  clear Zd'
  have hbw' := Below.on hbw hb12
  clear hbw
  have hbw := hbw'
  clear hbw'
  clear hb12
  have Ze : Hid (ZN v12 s12 p12 m12 c12 (4)) := hz
  clear hz
  clear HJ
  have HJ : Hid ((fun W' : World => W'.cell? ⟨gx, 0, none⟩ = some (.bool s3) ∧ W'.cell? ⟨gx, 1, none⟩ = some (.slice p3 m3 m3) ∧ W'.cell? ⟨gy, 0, none⟩ = some (.bool s5) ∧ W'.cell? ⟨gy, 1, none⟩ = some (.slice p5 m5 m5) ∧ W'.cell? ⟨gz, 0, none⟩ = some (.bool s8) ∧ W'.cell? ⟨gz, 1, none⟩ = some (.slice p8 m8 m8)) v12) := ⟨Xx.out.c0, Xx.out.c1, Xy.out.c0, Xy.out.c1, Xz.out.c0, Xz.out.c1⟩
  refine hK _ _ HJ.out ?_
  clear hK
  refine wpJ_one (i := 18) (by kernel_rfl) rfl (by kernel_rfl) (fun KJ hK => ?_)
  go_simp
  refine (zsame Zy.out Ze.out).mono ?_
  rintro e v13 ⟨rfl, hb13⟩
  rw [decide_eq_true rfl]
  have Yx : Hid (Box v13 gx (.bool s3) (.slice p3 m3 m3)) := Xx.out.below hb13
  clear Xx
  have Xx := Yx
  clear Yx
  have Yy : Hid (Box v13 gy (.bool s5) (.slice p5 m5 m5)) := Xy.out.below hb13
  clear Xy
  have Xy := Yy
  clear Yy
  have Yz : Hid (Box v13 gz (.bool s8) (.slice p8 m8 m8)) := Xz.out.below hb13
  clear Xz
  have Xz := Yz
  clear Yz
  have HT' : Hid (Tab v13) := HT.out.below hb13
  clear HT
  have HT := HT'
  clear HT'
  have Zx' : Hid (ZN v13 s3 p3 m3 m3 (-4)) := Zx.out.below hb13
  clear Zx
  have Zx := Zx'
  clear Zx'
  have Zy' : Hid (ZN v13 s5 p5 m5 m5 (4)) := Zy.out.below hb13
  clear Zy
  have Zy := Zy'
  clear Zy'
  have Zz' : Hid (ZN v13 s8 p8 m8 m8 (2)) := Zz.out.below hb13
  clear Zz
  have Zz := Zz'
  clear Zz'
  have Zd' : Hid (ZN v13 s10 p10 m10 c10 (-4)) := Zd.out.below hb13
  clear Zd
  have Zd := Zd'
  clear Zd'
  have Ze' : Hid (ZN v13 s12 p12 m12 c12 (4)) := Ze.out.below hb13
  clear Ze
  have Ze := Ze'
  clear Ze'
  have hbw' := Below.on hbw hb13
  clear hbw
  have hbw := hbw'
  clear hbw'
  clear hb13
  clear HJ
  have HJ : Hid ((fun W' : World => W'.cell? ⟨gx, 0, none⟩ = some (.bool s3) ∧ W'.cell? ⟨gx, 1, none⟩ = some (.slice p3 m3 m3) ∧ W'.cell? ⟨gy, 0, none⟩ = some (.bool s5) ∧ W'.cell? ⟨gy, 1, none⟩ = some (.slice p5 m5 m5) ∧ W'.cell? ⟨gz, 0, none⟩ = some (.bool s8) ∧ W'.cell? ⟨gz, 1, none⟩ = some (.slice p8 m8 m8)) v13) := ⟨Xx.out.c0, Xx.out.c1, Xy.out.c0, Xy.out.c1, Xz.out.c0, Xz.out.c1⟩
  refine hK _ _ HJ.out ?_
  clear hK
  refine wpJ_take (i := 19) (v := ?v16x19) rfl (by kernel_rfl) (by kernel_rfl) (by kernel_rfl) (fun _ _ _ h => h) (by kernel_rfl) ?hy16x19 HJ.out ?rest16x19
  case hy16x19 => (intro W' hJ; obtain ⟨j0, j1, j2, j3, j4, j5⟩ := hJ; go_simp; first | done | with_reducible rfl)
  refine wpJ_take (i := 20) (v := ?v17x20) rfl (by kernel_rfl) (by kernel_rfl) (by kernel_rfl) (fun _ _ _ h => h) (by kernel_rfl) ?hy17x20 HJ.out ?rest17x20
  case hy17x20 => (intro W' hJ; obtain ⟨j0, j1, j2, j3, j4, j5⟩ := hJ; go_simp; first | done | with_reducible rfl)
  refine wpJ_take (i := 21) (v := ?v18x21) rfl (by kernel_rfl) (by kernel_rfl) (by kernel_rfl) (fun _ _ _ h => h) (by kernel_rfl) ?hy18x21 HJ.out ?rest18x21
  case hy18x21 => (intro W' hJ; obtain ⟨j0, j1, j2, j3, j4, j5⟩ := hJ; go_simp; first | done | with_reducible rfl)
  refine wpJ_one (i := 22) (by kernel_rfl) rfl (by kernel_rfl) (fun KJ hK => ?_)
  go_simp
  refine (zdocof (2) v13 (by omega) (by omega)).mono ?_
  rintro e v14 ⟨s14, p14, m14, c14, rfl, hz, hb14⟩
  have Yx : Hid (Box v14 gx (.bool s3) (.slice p3 m3 m3)) := Xx.out.below hb14
  clear Xx
  have Xx := Yx
  clear Yx
  have Yy : Hid (Box v14 gy (.bool s5) (.slice p5 m5 m5)) := Xy.out.below hb14
  clear Xy
  have Xy := Yy
  clear Yy
  have Yz : Hid (Box v14 gz (.bool s8) (.slice p8 m8 m8)) := Xz.out.below hb14
  clear Xz
  have Xz := Yz
  clear Yz
  have HT' : Hid (Tab v14) := HT.out.below hb14
  clear HT
  have HT := HT'
  clear HT'
  have Zx' : Hid (ZN v14 s3 p3 m3 m3 (-4)) := Zx.out.below hb14
  clear Zx
  have Zx := Zx'
  clear Zx'
  have Zy' : Hid (ZN v14 s5 p5 m5 m5 (4)) := Zy.out.below hb14
  clear Zy
  have Zy := Zy'
  clear Zy'
  have Zz' : Hid (ZN v14 s8 p8 m8 m8 (2)) := Zz.out.below hb14
  clear Zz
  have Zz := Zz'
  clear Zz'
  have Zd' : Hid (ZN v14 s10 p10 m10 c10 (-4)) := Zd.out.below hb14
  clear Zd
  have Zd := Zd'
  clear Zd'
  have Ze' : Hid (ZN v14 s12 p12 m12 c12 (4)) := Ze.out.below hb14
  clear Ze
  have Ze := Ze'
  clear Ze'
  have hbw' := Below.on hbw hb14
  clear hbw
  have hbw := hbw'
  clear hbw'
  clear hb14
  have Zf : Hid (ZN v14 s14 p14 m14 c14 (2)) := hz
  clear hz
  clear HJ
  have HJ : Hid ((fun W' : World => W'.cell? ⟨gx, 0, none⟩ = some (.bool s3) ∧ W'.cell? ⟨gx, 1, none⟩ = some (.slice p3 m3 m3) ∧ W'.cell? ⟨gy, 0, none⟩ = some (.bool s5) ∧ W'.cell? ⟨gy, 1, none⟩ = some (.slice p5 m5 m5) ∧ W'.cell? ⟨gz, 0, none⟩ = some (.bool s8) ∧ W'.cell? ⟨gz, 1, none⟩ = some (.slice p8 m8 m8)) v14) := ⟨Xx.out.c0, Xx.out.c1, Xy.out.c0, Xy.out.c1, Xz.out.c0, Xz.out.c1⟩
  refine hK _ _ HJ.out ?_
  clear hK
  refine wpJ_one (i := 23) (by kernel_rfl) rfl (by kernel_rfl) (fun KJ hK => ?_)
  go_simp
  refine (zsame Zz.out Zf.out).mono ?_
  rintro e v15 ⟨rfl, hb15⟩
  rw [decide_eq_true rfl]
  have Yx : Hid (Box v15 gx (.bool s3) (.slice p3 m3 m3)) := Xx.out.below hb15
  clear Xx
  have Xx := Yx
  clear Yx
  have Yy : Hid (Box v15 gy (.bool s5) (.slice p5 m5 m5)) := Xy.out.below hb15
  clear Xy
  have Xy := Yy
  clear Yy
  have Yz : Hid (Box v15 gz (.bool s8) (.slice p8 m8 m8)) := Xz.out.below hb15
  clear Xz
  have Xz := Yz
  clear Yz
  have HT' : Hid (Tab v15) := HT.out.below hb15
  clear HT
  have HT := HT'
  clear HT'
  have Zx' : Hid (ZN v15 s3 p3 m3 m3 (-4)) := Zx.out.below hb15
  clear Zx
  have Zx := Zx'
  clear Zx'
  have Zy' : Hid (ZN v15 s5 p5 m5 m5 (4)) := Zy.out.below hb15
  clear Zy
  have Zy := Zy'
  clear Zy'
  have Zz' : Hid (ZN v15 s8 p8 m8 m8 (2)) := Zz.out.below hb15
  clear Zz
  have Zz := Zz'
  clear Zz'
  have Zd' : Hid (ZN v15 s10 p10 m10 c10 (-4)) := Zd.out.below hb15
  clear Zd
  have Zd := Zd'
  clear Zd'
  have Ze' : Hid (ZN v15 s12 p12 m12 c12 (4)) := Ze.out.below hb15
  clear Ze
  have Ze := Ze'
  clear Ze'
  have Zf' : Hid (ZN v15 s14 p14 m14 c14 (2)) := Zf.out.below hb15
  clear Zf
  have Zf := Zf'
  clear Zf'
  have hbw' := Below.on hbw hb15
  clear hbw
  have hbw := hbw'
  clear hbw'
  clear hb15
  clear HJ
  have HJ : Hid ((fun W' : World => W'.cell? ⟨gx, 0, none⟩ = some (.bool s3) ∧ W'.cell? ⟨gx, 1, none⟩ = some (.slice p3 m3 m3) ∧ W'.cell? ⟨gy, 0, none⟩ = some (.bool s5) ∧ W'.cell? ⟨gy, 1, none⟩ = some (.slice p5 m5 m5) ∧ W'.cell? ⟨gz, 0, none⟩ = some (.bool s8) ∧ W'.cell? ⟨gz, 1, none⟩ = some (.slice p8 m8 m8)) v15) := ⟨Xx.out.c0, Xx.out.c1, Xy.out.c0, Xy.out.c1, Xz.out.c0, Xz.out.c1⟩
  refine hK _ _ HJ.out ?_
  clear hK
  refine wpJ_take (i := 24) (v := ?v19x24) rfl (by kernel_rfl) (by kernel_rfl) (by kernel_rfl) (fun _ _ _ h => h) (by kernel_rfl) ?hy19x24 HJ.out ?rest19x24
  case hy19x24 => (intro W' hJ; obtain ⟨j0, j1, j2, j3, j4, j5⟩ := hJ; go_simp; first | done | with_reducible rfl)
  refine wpJ_take (i := 25) (v := ?v20x25) rfl (by kernel_rfl) (by kernel_rfl) (by kernel_rfl) (fun _ _ _ h => h) (by kernel_rfl) ?hy20x25 HJ.out ?rest20x25
  case hy20x25 => (intro W' hJ; obtain ⟨j0, j1, j2, j3, j4, j5⟩ := hJ; go_simp; first | done | with_reducible rfl)
  refine wpJ_done (by kernel_rfl) ?_ _
  clear HJ
  go_wp2_with fail
  go_ret
  exact ⟨rfl, hbw⟩
end Go.Proofs.YteoihhgaipplfaaDoor

namespace Go.Proofs.YteoihhgaipplfaaDoor
open Go.RowKit Go.Shelf

theorem tdiv_iv (s t : Bool) (a b : Nat) : (iv s a).tdiv (iv t b) = iv (s != t) (a / b) := by
  cases s <;> cases t <;> simp [iv, Int.neg_tdiv, Int.tdiv_neg]
theorem tmod_iv (s t : Bool) (a b : Nat) : (iv s a).tmod (iv t b) = iv s (a % b) := by
  cases s <;> cases t <;> simp [iv, Int.neg_tmod, Int.tmod_neg, Int.tmod_eq_emod_of_nonneg]
theorem fl_want (i j : Int) : fl (decide (i < 0) != decide (j < 0)) i.natAbs j.natAbs = i.tdiv j - (if i.tmod j ≠ 0 ∧ ¬ (decide (i < 0) = decide (j < 0)) then 1 else 0) := by
  have e1 : i.tdiv j = iv (decide (i < 0) != decide (j < 0)) (i.natAbs / j.natAbs) := by
    have := tdiv_iv (decide (i < 0)) (decide (j < 0)) i.natAbs j.natAbs
    rwa [iv_abs, iv_abs] at this
  have e2 : i.tmod j = iv (decide (i < 0)) (i.natAbs % j.natAbs) := by
    have := tmod_iv (decide (i < 0)) (decide (j < 0)) i.natAbs j.natAbs
    rwa [iv_abs, iv_abs] at this
  rw [e1, e2]
  have e3 : iv (decide (i < 0)) (i.natAbs % j.natAbs) ≠ 0 ↔ i.natAbs % j.natAbs ≠ 0 := by
    cases decide (i < 0) <;> simp [iv] <;> omega
  unfold fl
  generalize i.natAbs / j.natAbs = q
  generalize i.natAbs % j.natAbs = r at *
  by_cases hr : r = 0
  · rw [if_neg (by rw [e3]; simp [hr])]
    simp [hr]
  · generalize decide (i < 0) = s at *
    generalize decide (j < 0) = t at *
    cases s <;> cases t <;> simp [iv, hr] <;> omega
theorem fl_abs (s : Bool) (a d : Nat) : (fl s a d).natAbs ≤ a := by
  have h1 : (fl s a d).natAbs = a / d + (s && decide (a % d ≠ 0)).toNat := by unfold fl; cases s <;> simp only [iv, if_true, Bool.false_eq_true, if_false, Int.natAbs_neg, Int.natAbs_natCast]
  rw [h1]
  by_cases hr : a % d = 0
  · rw [hr]; simp; exact Nat.div_le_self a d
  · have : a / d + 1 ≤ a := ce_le hr
    have := Bool.toNat_le (s && decide (a % d ≠ 0))
    omega
theorem small_lim2 {k : Nat} (h : k ≤ B64) : k < LIM := by
  refine Nat.lt_of_le_of_lt h ?_
  obtain ⟨K, hK⟩ : ∃ K, K = 8192 := ⟨8192, rfl⟩
  rw [LIM_eq K hK]
  refine Nat.lt_of_lt_of_le ?_ (Nat.pow_le_pow_right B64_pos (show 2 ≤ K by omega))
  decide
set_option maxRecDepth 20000 in
set_option maxHeartbeats 8000000 in
theorem numsmalls_walk (i j : Int) (w : World) (hi0 : -9223372036854775808 ≤ i) (hi1 : i ≤ 9223372036854775807) (hj0 : -9223372036854775808 ≤ j) (hj1 : j ≤ 9223372036854775807) (hT : Tab w) :
    Calls Tryd.prog 4 #[.int .i64 i, .int .i64 j] w fun e w' => e = .returned (.bool true) ∧ Below w.heap.size w w' := by
  have HT : Hid (Tab w) := hT
  have HI : Hid (-9223372036854775808 ≤ i ∧ i ≤ 9223372036854775807) := ⟨hi0, hi1⟩
  have HJ0 : Hid (-9223372036854775808 ≤ j ∧ j ≤ 9223372036854775807) := ⟨hj0, hj1⟩
  clear hT hi0 hi1 hj0 hj1
  go_enter Tryd.func4, Tryd.ntmps4
  go_wp2_with fail
  have hbw : Below w.heap.size w w := Below.refl _ _
  refine (awake4_any w).mono ?_
  rintro e v1 ⟨rfl, hb1⟩
  have HT' : Hid (Tab v1) := HT.out.below hb1
  clear HT
  have HT := HT'
  clear HT'
  have hbw' := Below.on hbw hb1
  clear hbw
  have hbw := hbw'
  clear hbw'
  clear hb1
  go_wp2_with fail
  refine (halves_any v1 HT.out).mono ?_
  rintro e v2 ⟨rfl, hb2⟩
  have HT' : Hid (Tab v2) := HT.out.below hb2
  clear HT
  have HT := HT'
  clear HT'
  have hbw' := Below.on hbw hb2
  clear hbw
  have hbw := hbw'
  clear hbw'
  clear hb2
  go_wp2_with fail
  refine (zof i v2 HI.out.1 HI.out.2).mono ?_
  rintro e v3 ⟨s3, p3, m3, rfl, hz, hb3⟩
  have HT' : Hid (Tab v3) := HT.out.below hb3
  clear HT
  have HT := HT'
  clear HT'
  have hbw' := Below.on hbw hb3
  clear hbw
  have hbw := hbw'
  clear hbw'
  clear hb3
  have Zx : Hid (ZN v3 s3 p3 m3 m3 (i)) := hz
  clear hz
  go_wp2_with fail
  refine (zof j v3 HJ0.out.1 HJ0.out.2).mono ?_
  rintro e v4 ⟨s4, p4, m4, rfl, hz, hb4⟩
  have HT' : Hid (Tab v4) := HT.out.below hb4
  clear HT
  have HT := HT'
  clear HT'
  have Zx' : Hid (ZN v4 s3 p3 m3 m3 (i)) := Zx.out.below hb4
  clear Zx
  have Zx := Zx'
  clear Zx'
  have hbw' := Below.on hbw hb4
  clear hbw
  have hbw := hbw'
  clear hbw'
  clear hb4
  have Zy : Hid (ZN v4 s4 p4 m4 m4 (j)) := hz
  clear hz
  go_wp2_with fail
  rw [show v4.heap.size + 1 = (v4.alloc (.cells #[.bool s3, .slice p3 m3 m3] 35)).heap.size from by simp]
  have Xx0 : Hid (Box (v4.alloc (.cells #[.bool s3, .slice p3 m3 m3] 35)) v4.heap.size (.bool s3) (.slice p3 m3 m3)) := Box.new v4 _ _ _
  have hbn : Below v4.heap.size v4 (v4.alloc (.cells #[.bool s3, .slice p3 m3 m3] 35)) := below1 v4 _
  generalize v4.alloc (.cells #[.bool s3, .slice p3 m3 m3] 35) = W4 at *
  have HGx : Hid (w.heap.size ≤ v4.heap.size) := hbw.size
  have HT' : Hid (Tab W4) := HT.out.below hbn
  clear HT
  have HT := HT'
  clear HT'
  have Zx' : Hid (ZN W4 s3 p3 m3 m3 (i)) := Zx.out.below hbn
  clear Zx
  have Zx := Zx'
  clear Zx'
  have Zy' : Hid (ZN W4 s4 p4 m4 m4 (j)) := Zy.out.below hbn
  clear Zy
  have Zy := Zy'
  clear Zy'
  have hbw' := Below.on hbw hbn
  clear hbw
  have hbw := hbw'
  clear hbw'
  clear hbn
  generalize v4.heap.size = gx at *
  have Xx := Xx0
  clear Xx0
  have Xy0 : Hid (Box (W4.alloc (.cells #[.bool s4, .slice p4 m4 m4] 35)) W4.heap.size (.bool s4) (.slice p4 m4 m4)) := Box.new W4 _ _ _
  have hbn : Below W4.heap.size W4 (W4.alloc (.cells #[.bool s4, .slice p4 m4 m4] 35)) := below1 W4 _
  generalize W4.alloc (.cells #[.bool s4, .slice p4 m4 m4] 35) = W5 at *
  have HGy : Hid (w.heap.size ≤ W4.heap.size) := hbw.size
  have Yx : Hid (Box W5 gx (.bool s3) (.slice p3 m3 m3)) := Xx.out.below hbn
  clear Xx
  have Xx := Yx
  clear Yx
  have HT' : Hid (Tab W5) := HT.out.below hbn
  clear HT
  have HT := HT'
  clear HT'
  have Zx' : Hid (ZN W5 s3 p3 m3 m3 (i)) := Zx.out.below hbn
  clear Zx
  have Zx := Zx'
  clear Zx'
  have Zy' : Hid (ZN W5 s4 p4 m4 m4 (j)) := Zy.out.below hbn
  clear Zy
  have Zy := Zy'
  clear Zy'
  have hbw' := Below.on hbw hbn
  clear hbw
  have hbw := hbw'
  clear hbw'
  clear hbn
  generalize W4.heap.size = gy at *
  have Xy := Xy0
  clear Xy0
  refine (zsmall Zx.out).mono ?_
  rintro e v6 ⟨rfl, hb6⟩
  rw [if_pos HI.out]
  have Yx : Hid (Box v6 gx (.bool s3) (.slice p3 m3 m3)) := Xx.out.below hb6
  clear Xx
  have Xx := Yx
  clear Yx
  have Yy : Hid (Box v6 gy (.bool s4) (.slice p4 m4 m4)) := Xy.out.below hb6
  clear Xy
  have Xy := Yy
  clear Yy
  have HT' : Hid (Tab v6) := HT.out.below hb6
  clear HT
  have HT := HT'
  clear HT'
  have Zx' : Hid (ZN v6 s3 p3 m3 m3 (i)) := Zx.out.below hb6
  clear Zx
  have Zx := Zx'
  clear Zx'
  have Zy' : Hid (ZN v6 s4 p4 m4 m4 (j)) := Zy.out.below hb6
  clear Zy
  have Zy := Zy'
  clear Zy'
  have hbw' := Below.on hbw hb6
  clear hbw
  have hbw := hbw'
  clear hbw'
  clear hb6
  obtain ⟨cx0, cx1, fx0, fx1⟩ := Xx.out
  have hnex : gx < v6.heap.size := World.block_lt_of_cell? v6 _ cx0
  go_wp2_with fail
  clear cx0 cx1 fx0 fx1 hnex
  refine (zform Zx.out).mono ?_
  rintro e v7 ⟨rfl, hb7⟩
  have Yx : Hid (Box v7 gx (.bool s3) (.slice p3 m3 m3)) := Xx.out.below hb7
  clear Xx
  have Xx := Yx
  clear Yx
  have Yy : Hid (Box v7 gy (.bool s4) (.slice p4 m4 m4)) := Xy.out.below hb7
  clear Xy
  have Xy := Yy
  clear Yy
  have HT' : Hid (Tab v7) := HT.out.below hb7
  clear HT
  have HT := HT'
  clear HT'
  have Zx' : Hid (ZN v7 s3 p3 m3 m3 (i)) := Zx.out.below hb7
  clear Zx
  have Zx := Zx'
  clear Zx'
  have Zy' : Hid (ZN v7 s4 p4 m4 m4 (j)) := Zy.out.below hb7
  clear Zy
  have Zy := Zy'
  clear Zy'
  have hbw' := Below.on hbw hb7
  clear hbw
  have hbw := hbw'
  clear hbw'
  clear hb7
  obtain ⟨cx0, cx1, fx0, fx1⟩ := Xx.out
  have hnex : gx < v7.heap.size := World.block_lt_of_cell? v7 _ cx0
  go_wp2_with fail
  clear cx0 cx1 fx0 fx1 hnex
  obtain ⟨b0, hb0⟩ : ∃ b0, b0 = decide (i < 0) := ⟨_, rfl⟩
  obtain ⟨b1, hb1⟩ : ∃ b1, b1 = decide (0 < i) := ⟨_, rfl⟩
  have HB : Hid (b0 = decide (i < 0) ∧ b1 = decide (0 < i)) := ⟨hb0, hb1⟩
  have k0 := hb0.symm
  have k1 := hb1.symm
  clear hb0 hb1
  obtain ⟨sg, hsg⟩ : ∃ sg, sg = sgnI i := ⟨_, rfl⟩
  have s0 : decide (sg < 0) = b0 := by rw [HB.out.1, hsg]; unfold sgnI; split; (simp; omega); split <;> simp <;> omega
  have s1 : decide (0 < sg) = b1 := by rw [HB.out.2, hsg]; unfold sgnI; split; (simp; omega); split <;> simp <;> omega
  have HSG : Hid (sg = sgnI i) := hsg
  clear hsg
  have bb0 : (b0 == b0) = true := by simp
  have bb1 : (b1 == b1) = true := by simp
  refine (zsign Zx.out).mono ?_
  rintro e v8 ⟨rfl, hb8⟩
  rw [← HSG.out]
  have Yx : Hid (Box v8 gx (.bool s3) (.slice p3 m3 m3)) := Xx.out.below hb8
  clear Xx
  have Xx := Yx
  clear Yx
  have Yy : Hid (Box v8 gy (.bool s4) (.slice p4 m4 m4)) := Xy.out.below hb8
  clear Xy
  have Xy := Yy
  clear Yy
  have HT' : Hid (Tab v8) := HT.out.below hb8
  clear HT
  have HT := HT'
  clear HT'
  have Zx' : Hid (ZN v8 s3 p3 m3 m3 (i)) := Zx.out.below hb8
  clear Zx
  have Zx := Zx'
  clear Zx'
  have Zy' : Hid (ZN v8 s4 p4 m4 m4 (j)) := Zy.out.below hb8
  clear Zy
  have Zy := Zy'
  clear Zy'
  have hbw' := Below.on hbw hb8
  clear hbw
  have hbw := hbw'
  clear hbw'
  clear hb8
  obtain ⟨cx0, cx1, fx0, fx1⟩ := Xx.out
  have hnex : gx < v8.heap.size := World.block_lt_of_cell? v8 _ cx0
  go_wp2_with fail
  clear cx0 cx1 fx0 fx1 hnex
  refine (zsign Zx.out).mono ?_
  rintro e v9 ⟨rfl, hb9⟩
  rw [← HSG.out]
  have Yx : Hid (Box v9 gx (.bool s3) (.slice p3 m3 m3)) := Xx.out.below hb9
  clear Xx
  have Xx := Yx
  clear Yx
  have Yy : Hid (Box v9 gy (.bool s4) (.slice p4 m4 m4)) := Xy.out.below hb9
  clear Xy
  have Xy := Yy
  clear Yy
  have HT' : Hid (Tab v9) := HT.out.below hb9
  clear HT
  have HT := HT'
  clear HT'
  have Zx' : Hid (ZN v9 s3 p3 m3 m3 (i)) := Zx.out.below hb9
  clear Zx
  have Zx := Zx'
  clear Zx'
  have Zy' : Hid (ZN v9 s4 p4 m4 m4 (j)) := Zy.out.below hb9
  clear Zy
  have Zy := Zy'
  clear Zy'
  have hbw' := Below.on hbw hb9
  clear hbw
  have hbw := hbw'
  clear hbw'
  clear hb9
  obtain ⟨cx0, cx1, fx0, fx1⟩ := Xx.out
  have hnex : gx < v9.heap.size := World.block_lt_of_cell? v9 _ cx0
  obtain ⟨cy0, cy1, fy0, fy1⟩ := Xy.out
  have hney : gy < v9.heap.size := World.block_lt_of_cell? v9 _ cy0
  go_wp2_with fail
  clear cx0 cx1 fx0 fx1 hnex
  clear cy0 cy1 fy0 fy1 hney
  clear s0 s1 bb0 bb1 k0 k1 HSG
  obtain ⟨c0, hc0⟩ : ∃ c0, c0 = decide (i < j) := ⟨_, rfl⟩
  obtain ⟨c1, hc1⟩ : ∃ c1, c1 = decide (j < i) := ⟨_, rfl⟩
  have HC : Hid (c0 = decide (i < j) ∧ c1 = decide (j < i)) := ⟨hc0, hc1⟩
  have k0 := hc0.symm
  have k1 := hc1.symm
  clear hc0 hc1
  obtain ⟨cm, hcm⟩ : ∃ cm, cm = cmpI i j := ⟨_, rfl⟩
  have s0 : decide (cm < 0) = c0 := by rw [HC.out.1, hcm]; unfold cmpI; split; (simp; omega); split <;> simp <;> omega
  have s1 : decide (0 < cm) = c1 := by rw [HC.out.2, hcm]; unfold cmpI; split; (simp; omega); split <;> simp <;> omega
  have HCM : Hid (cm = cmpI i j) := hcm
  clear hcm
  have bb0 : (c0 == c0) = true := by simp
  have bb1 : (c1 == c1) = true := by simp
  refine (zcmp Zx.out Zy.out).mono ?_
  rintro e v10 ⟨rfl, hb10⟩
  rw [← HCM.out]
  have Yx : Hid (Box v10 gx (.bool s3) (.slice p3 m3 m3)) := Xx.out.below hb10
  clear Xx
  have Xx := Yx
  clear Yx
  have Yy : Hid (Box v10 gy (.bool s4) (.slice p4 m4 m4)) := Xy.out.below hb10
  clear Xy
  have Xy := Yy
  clear Yy
  have HT' : Hid (Tab v10) := HT.out.below hb10
  clear HT
  have HT := HT'
  clear HT'
  have Zx' : Hid (ZN v10 s3 p3 m3 m3 (i)) := Zx.out.below hb10
  clear Zx
  have Zx := Zx'
  clear Zx'
  have Zy' : Hid (ZN v10 s4 p4 m4 m4 (j)) := Zy.out.below hb10
  clear Zy
  have Zy := Zy'
  clear Zy'
  have hbw' := Below.on hbw hb10
  clear hbw
  have hbw := hbw'
  clear hbw'
  clear hb10
  obtain ⟨cx0, cx1, fx0, fx1⟩ := Xx.out
  have hnex : gx < v10.heap.size := World.block_lt_of_cell? v10 _ cx0
  obtain ⟨cy0, cy1, fy0, fy1⟩ := Xy.out
  have hney : gy < v10.heap.size := World.block_lt_of_cell? v10 _ cy0
  go_wp2_with fail
  clear cx0 cx1 fx0 fx1 hnex
  clear cy0 cy1 fy0 fy1 hney
  clear s0 s1 bb0 bb1 k0 k1 HCM
  refine (zadd Zx.out Zy.out).mono ?_
  rintro e v11 ⟨ha, hb11⟩
  obtain ⟨s11, p11, m11, rfl, hz⟩ := ha.got (small_lim2 (by rw [B64_eq]; have := HI.out; have := HJ0.out; omega))
  clear ha
  have Yx : Hid (Box v11 gx (.bool s3) (.slice p3 m3 m3)) := Xx.out.below hb11
  clear Xx
  have Xx := Yx
  clear Yx
  have Yy : Hid (Box v11 gy (.bool s4) (.slice p4 m4 m4)) := Xy.out.below hb11
  clear Xy
  have Xy := Yy
  clear Yy
  have HT' : Hid (Tab v11) := HT.out.below hb11
  clear HT
  have HT := HT'
  clear HT'
  have Zx' : Hid (ZN v11 s3 p3 m3 m3 (i)) := Zx.out.below hb11
  clear Zx
  have Zx := Zx'
  clear Zx'
  have Zy' : Hid (ZN v11 s4 p4 m4 m4 (j)) := Zy.out.below hb11
  clear Zy
  have Zy := Zy'
  clear Zy'
  have hbw' := Below.on hbw hb11
  clear hbw
  have hbw := hbw'
  clear hbw'
  clear hb11
  have Zs : Hid (ZN v11 s11 p11 m11 m11 (i + j)) := hz
  clear hz
  go_wp2_with fail
  have Xs0 : Hid (Box (v11.alloc (.cells #[.bool s11, .slice p11 m11 m11] 35)) v11.heap.size (.bool s11) (.slice p11 m11 m11)) := Box.new v11 _ _ _
  have hbn : Below v11.heap.size v11 (v11.alloc (.cells #[.bool s11, .slice p11 m11 m11] 35)) := below1 v11 _
  generalize v11.alloc (.cells #[.bool s11, .slice p11 m11 m11] 35) = W11 at *
  have HGs : Hid (w.heap.size ≤ v11.heap.size) := hbw.size
  have Yx : Hid (Box W11 gx (.bool s3) (.slice p3 m3 m3)) := Xx.out.below hbn
  clear Xx
  have Xx := Yx
  clear Yx
  have Yy : Hid (Box W11 gy (.bool s4) (.slice p4 m4 m4)) := Xy.out.below hbn
  clear Xy
  have Xy := Yy
  clear Yy
  have HT' : Hid (Tab W11) := HT.out.below hbn
  clear HT
  have HT := HT'
  clear HT'
  have Zx' : Hid (ZN W11 s3 p3 m3 m3 (i)) := Zx.out.below hbn
  clear Zx
  have Zx := Zx'
  clear Zx'
  have Zy' : Hid (ZN W11 s4 p4 m4 m4 (j)) := Zy.out.below hbn
  clear Zy
  have Zy := Zy'
  clear Zy'
  have Zs' : Hid (ZN W11 s11 p11 m11 m11 (i + j)) := Zs.out.below hbn
  clear Zs
  have Zs := Zs'
  clear Zs'
  have hbw' := Below.on hbw hbn
  clear hbw
  have hbw := hbw'
  clear hbw'
  clear hbn
  generalize v11.heap.size = gs at *
  have Xs := Xs0
  clear Xs0
  have hi0 := HI.out.1
  have hi1 := HI.out.2
  have hj0 := HJ0.out.1
  have hj1 := HJ0.out.2
  rcases (by omega : j = 0 ∨ (0 < j ∧ i + j ≤ 9223372036854775807) ∨ (0 < j ∧ 9223372036854775807 < i + j) ∨ (j < 0 ∧ -9223372036854775808 ≤ i + j) ∨ (j < 0 ∧ i + j < -9223372036854775808)) with hc | hc | hc | hc | hc
  · refine (zsmall Zs.out).mono ?_
    rintro e v12 ⟨rfl, hb12⟩
    rw [if_pos (by omega)]
    have Yx : Hid (Box v12 gx (.bool s3) (.slice p3 m3 m3)) := Xx.out.below hb12
    clear Xx
    have Xx := Yx
    clear Yx
    have Yy : Hid (Box v12 gy (.bool s4) (.slice p4 m4 m4)) := Xy.out.below hb12
    clear Xy
    have Xy := Yy
    clear Yy
    have Ys : Hid (Box v12 gs (.bool s11) (.slice p11 m11 m11)) := Xs.out.below hb12
    clear Xs
    have Xs := Ys
    clear Ys
    have HT' : Hid (Tab v12) := HT.out.below hb12
    clear HT
    have HT := HT'
    clear HT'
    have Zx' : Hid (ZN v12 s3 p3 m3 m3 (i)) := Zx.out.below hb12
    clear Zx
    have Zx := Zx'
    clear Zx'
    have Zy' : Hid (ZN v12 s4 p4 m4 m4 (j)) := Zy.out.below hb12
    clear Zy
    have Zy := Zy'
    clear Zy'
    have Zs' : Hid (ZN v12 s11 p11 m11 m11 (i + j)) := Zs.out.below hb12
    clear Zs
    have Zs := Zs'
    clear Zs'
    have hbw' := Below.on hbw hb12
    clear hbw
    have hbw := hbw'
    clear hbw'
    clear hb12
    have j0 : decide (0 < j) = false := decide_eq_false (by omega)
    have j1 : decide (j < 0) = false := decide_eq_false (by omega)
    have jn : (j == 0) = true := by simp; omega
    have js : wrap64 (i + j) = i + j := by simp only [wrap64]; omega
    clear hi0 hi1 hj0 hj1 hc
    go_wp2_with fail
    go_ret
    exact ⟨rfl, hbw⟩
  · refine (zsmall Zs.out).mono ?_
    rintro e v12 ⟨rfl, hb12⟩
    rw [if_pos (by omega)]
    have Yx : Hid (Box v12 gx (.bool s3) (.slice p3 m3 m3)) := Xx.out.below hb12
    clear Xx
    have Xx := Yx
    clear Yx
    have Yy : Hid (Box v12 gy (.bool s4) (.slice p4 m4 m4)) := Xy.out.below hb12
    clear Xy
    have Xy := Yy
    clear Yy
    have Ys : Hid (Box v12 gs (.bool s11) (.slice p11 m11 m11)) := Xs.out.below hb12
    clear Xs
    have Xs := Ys
    clear Ys
    have HT' : Hid (Tab v12) := HT.out.below hb12
    clear HT
    have HT := HT'
    clear HT'
    have Zx' : Hid (ZN v12 s3 p3 m3 m3 (i)) := Zx.out.below hb12
    clear Zx
    have Zx := Zx'
    clear Zx'
    have Zy' : Hid (ZN v12 s4 p4 m4 m4 (j)) := Zy.out.below hb12
    clear Zy
    have Zy := Zy'
    clear Zy'
    have Zs' : Hid (ZN v12 s11 p11 m11 m11 (i + j)) := Zs.out.below hb12
    clear Zs
    have Zs := Zs'
    clear Zs'
    have hbw' := Below.on hbw hb12
    clear hbw
    have hbw := hbw'
    clear hbw'
    clear hb12
    have j0 : decide (0 < j) = true := decide_eq_true (by omega)
    have j1 : decide (j < 0) = false := decide_eq_false (by omega)
    have jw0 : wrap64 (9223372036854775807 - j) = 9223372036854775807 - j := by simp only [wrap64]; omega
    have jo : decide (9223372036854775807 - j < i) = false := decide_eq_false (by omega)
    have jn : (j == 0) = false := by simp; omega
    have jn2 : ¬ j = 0 := by omega
    have HJN : Hid (j ≠ 0) := jn2
    have js : wrap64 (i + j) = i + j := by simp only [wrap64]; omega
    by_cases him : i = -9223372036854775808
    · have im : (i == -9223372036854775808) = true := by simpa using him
      clear hi0 hi1 hj0 hj1 hc him
      go_wp2_with fail
      go_ret
      exact ⟨rfl, hbw⟩
    · have im : (i == -9223372036854775808) = false := by simpa using him
      have HIM : Hid (i ≠ -9223372036854775808) := him
      have hjs : 0 < j := by omega
      have HJS : Hid (0 < j) := hjs
      clear hjs
      clear hi0 hi1 hj0 hj1 hc him
      obtain ⟨cx0, cx1, fx0, fx1⟩ := Xx.out
      have hnex : gx < v12.heap.size := World.block_lt_of_cell? v12 _ cx0
      obtain ⟨cy0, cy1, fy0, fy1⟩ := Xy.out
      have hney : gy < v12.heap.size := World.block_lt_of_cell? v12 _ cy0
      go_wp2_with fail
      clear cx0 cx1 fx0 fx1 hnex
      clear cy0 cy1 fy0 fy1 hney
      clear jn jn2 im jo jw0 j0 j1 js
      obtain ⟨Q, hQ⟩ : ∃ Q, Q = fl (decide (i < 0) != decide (j < 0)) i.natAbs j.natAbs := ⟨_, rfl⟩
      have HQ : Hid (Q = fl (decide (i < 0) != decide (j < 0)) i.natAbs j.natAbs) := hQ
      clear hQ
      refine (zfdiv Zx.out Zy.out HJN.out).mono ?_
      rintro e v13 ⟨⟨s13, p13, m13, rfl, hz⟩, hb13⟩
      have Yx : Hid (Box v13 gx (.bool s3) (.slice p3 m3 m3)) := Xx.out.below hb13
      clear Xx
      have Xx := Yx
      clear Yx
      have Yy : Hid (Box v13 gy (.bool s4) (.slice p4 m4 m4)) := Xy.out.below hb13
      clear Xy
      have Xy := Yy
      clear Yy
      have Ys : Hid (Box v13 gs (.bool s11) (.slice p11 m11 m11)) := Xs.out.below hb13
      clear Xs
      have Xs := Ys
      clear Ys
      have HT' : Hid (Tab v13) := HT.out.below hb13
      clear HT
      have HT := HT'
      clear HT'
      have Zx' : Hid (ZN v13 s3 p3 m3 m3 (i)) := Zx.out.below hb13
      clear Zx
      have Zx := Zx'
      clear Zx'
      have Zy' : Hid (ZN v13 s4 p4 m4 m4 (j)) := Zy.out.below hb13
      clear Zy
      have Zy := Zy'
      clear Zy'
      have Zs' : Hid (ZN v13 s11 p11 m11 m11 (i + j)) := Zs.out.below hb13
      clear Zs
      have Zs := Zs'
      clear Zs'
      have hbw' := Below.on hbw hb13
      clear hbw
      have hbw := hbw'
      clear hbw'
      clear hb13
      have hz := hz.cast (z' := Q) (HQ.out.symm)
      have Zq : Hid (ZN v13 s13 p13 m13 m13 (Q)) := hz
      clear hz
      go_wp2_with fail
      have Xq0 : Hid (Box (v13.alloc (.cells #[.bool s13, .slice p13 m13 m13] 35)) v13.heap.size (.bool s13) (.slice p13 m13 m13)) := Box.new v13 _ _ _
      have hbn : Below v13.heap.size v13 (v13.alloc (.cells #[.bool s13, .slice p13 m13 m13] 35)) := below1 v13 _
      generalize v13.alloc (.cells #[.bool s13, .slice p13 m13 m13] 35) = W13 at *
      have HGq : Hid (w.heap.size ≤ v13.heap.size) := hbw.size
      have Yx : Hid (Box W13 gx (.bool s3) (.slice p3 m3 m3)) := Xx.out.below hbn
      clear Xx
      have Xx := Yx
      clear Yx
      have Yy : Hid (Box W13 gy (.bool s4) (.slice p4 m4 m4)) := Xy.out.below hbn
      clear Xy
      have Xy := Yy
      clear Yy
      have Ys : Hid (Box W13 gs (.bool s11) (.slice p11 m11 m11)) := Xs.out.below hbn
      clear Xs
      have Xs := Ys
      clear Ys
      have HT' : Hid (Tab W13) := HT.out.below hbn
      clear HT
      have HT := HT'
      clear HT'
      have Zx' : Hid (ZN W13 s3 p3 m3 m3 (i)) := Zx.out.below hbn
      clear Zx
      have Zx := Zx'
      clear Zx'
      have Zy' : Hid (ZN W13 s4 p4 m4 m4 (j)) := Zy.out.below hbn
      clear Zy
      have Zy := Zy'
      clear Zy'
      have Zs' : Hid (ZN W13 s11 p11 m11 m11 (i + j)) := Zs.out.below hbn
      clear Zs
      have Zs := Zs'
      clear Zs'
      have Zq' : Hid (ZN W13 s13 p13 m13 m13 (Q)) := Zq.out.below hbn
      clear Zq
      have Zq := Zq'
      clear Zq'
      have hbw' := Below.on hbw hbn
      clear hbw
      have hbw := hbw'
      clear hbw'
      clear hbn
      generalize v13.heap.size = gq at *
      have Xq := Xq0
      clear Xq0
      refine (zsmall Zq.out).mono ?_
      rintro e v14 ⟨rfl, hb14⟩
      have hqa : Q.natAbs ≤ i.natAbs := by rw [HQ.out]; exact fl_abs _ _ _
      have hq1 := HI.out
      have hq2 := HIM.out
      rw [if_pos (by omega)]
      clear hqa hq1 hq2
      have Yx : Hid (Box v14 gx (.bool s3) (.slice p3 m3 m3)) := Xx.out.below hb14
      clear Xx
      have Xx := Yx
      clear Yx
      have Yy : Hid (Box v14 gy (.bool s4) (.slice p4 m4 m4)) := Xy.out.below hb14
      clear Xy
      have Xy := Yy
      clear Yy
      have Ys : Hid (Box v14 gs (.bool s11) (.slice p11 m11 m11)) := Xs.out.below hb14
      clear Xs
      have Xs := Ys
      clear Ys
      have Yq : Hid (Box v14 gq (.bool s13) (.slice p13 m13 m13)) := Xq.out.below hb14
      clear Xq
      have Xq := Yq
      clear Yq
      have HT' : Hid (Tab v14) := HT.out.below hb14
      clear HT
      have HT := HT'
      clear HT'
      have Zx' : Hid (ZN v14 s3 p3 m3 m3 (i)) := Zx.out.below hb14
      clear Zx
      have Zx := Zx'
      clear Zx'
      have Zy' : Hid (ZN v14 s4 p4 m4 m4 (j)) := Zy.out.below hb14
      clear Zy
      have Zy := Zy'
      clear Zy'
      have Zs' : Hid (ZN v14 s11 p11 m11 m11 (i + j)) := Zs.out.below hb14
      clear Zs
      have Zs := Zs'
      clear Zs'
      have Zq' : Hid (ZN v14 s13 p13 m13 m13 (Q)) := Zq.out.below hb14
      clear Zq
      have Zq := Zq'
      clear Zq'
      have hbw' := Below.on hbw hb14
      clear hbw
      have hbw := hbw'
      clear hbw'
      clear hb14
      have hw0 := HQ.out
      rw [fl_want] at hw0
      have hta : (i.tdiv j).natAbs ≤ i.natAbs := by rw [Int.natAbs_tdiv]; exact Nat.div_le_self _ _
      have htm : (i.tmod j).natAbs ≤ i.natAbs := by rw [Int.natAbs_tmod]; exact Nat.mod_le _ _
      have hq1 := HI.out
      have hq2 := HIM.out
      have hqa : Q.natAbs ≤ i.natAbs := by rw [HQ.out]; exact fl_abs _ _ _
      have tw : wrap64 (i.tdiv j) = i.tdiv j := by simp only [wrap64]; omega
      have tm : wrap64 (i.tmod j) = i.tmod j := by simp only [wrap64]; omega
      have j1 : decide (j < 0) = false := decide_eq_false (by have := HJN.out; have := HJS.out; omega)
      rw [j1] at hw0
      rcases (by omega : i.tmod j = 0 ∨ (i.tmod j ≠ 0 ∧ i < 0) ∨ (i.tmod j ≠ 0 ∧ ¬ i < 0)) with hr | ⟨hr, hs⟩ | ⟨hr, hs⟩
      · have rm : (i.tmod j == 0) = true := by simpa using hr
        have rm2 : (i.tmod j != 0) = false := by simpa using hr
        rw [if_neg (fun h => h.1 hr)] at hw0
        have qt : (Q == i.tdiv j) = true := by simp only [beq_iff_eq]; omega
        have jn2 : ¬ j = 0 := HJN.out
        have jn : (j == 0) = false := by simpa using jn2
        clear hw0 hta htm hq1 hq2 hqa
        go_wp2_with fail
        go_ret
        first | exact ⟨rfl, hbw⟩ | exact ⟨congrArg (fun b => Ending.returned (Value.bool b)) qt, hbw⟩
      · have rm : (i.tmod j == 0) = false := by simpa using hr
        have rm2 : (i.tmod j != 0) = true := by simpa using hr
        have i1 : decide (i < 0) = true := decide_eq_true hs
        rw [i1] at hw0
        rw [if_pos ⟨hr, by decide⟩] at hw0
        have tv : wrap64 (i.tdiv j - 1) = i.tdiv j - 1 := by rw [← hw0]; simp only [wrap64]; omega
        have qt : (Q == i.tdiv j - 1) = true := by simp only [beq_iff_eq]; omega
        have jn2 : ¬ j = 0 := HJN.out
        have jn : (j == 0) = false := by simpa using jn2
        clear hw0 hta htm hq1 hq2 hqa
        go_wp2_with fail
        go_ret
        first | exact ⟨rfl, hbw⟩ | exact ⟨congrArg (fun b => Ending.returned (Value.bool b)) qt, hbw⟩
      · have rm : (i.tmod j == 0) = false := by simpa using hr
        have rm2 : (i.tmod j != 0) = true := by simpa using hr
        have i1 : decide (i < 0) = false := decide_eq_false hs
        rw [i1] at hw0
        rw [if_neg (fun h => h.2 rfl)] at hw0
        have qt : (Q == i.tdiv j) = true := by simp only [beq_iff_eq]; omega
        have jn2 : ¬ j = 0 := HJN.out
        have jn : (j == 0) = false := by simpa using jn2
        clear hw0 hta htm hq1 hq2 hqa hs
        go_wp2_with fail
        go_ret
        first | exact ⟨rfl, hbw⟩ | exact ⟨congrArg (fun b => Ending.returned (Value.bool b)) qt, hbw⟩
  · refine (zsmall Zs.out).mono ?_
    rintro e v12 ⟨rfl, hb12⟩
    rw [if_neg (by omega)]
    have Yx : Hid (Box v12 gx (.bool s3) (.slice p3 m3 m3)) := Xx.out.below hb12
    clear Xx
    have Xx := Yx
    clear Yx
    have Yy : Hid (Box v12 gy (.bool s4) (.slice p4 m4 m4)) := Xy.out.below hb12
    clear Xy
    have Xy := Yy
    clear Yy
    have Ys : Hid (Box v12 gs (.bool s11) (.slice p11 m11 m11)) := Xs.out.below hb12
    clear Xs
    have Xs := Ys
    clear Ys
    have HT' : Hid (Tab v12) := HT.out.below hb12
    clear HT
    have HT := HT'
    clear HT'
    have Zx' : Hid (ZN v12 s3 p3 m3 m3 (i)) := Zx.out.below hb12
    clear Zx
    have Zx := Zx'
    clear Zx'
    have Zy' : Hid (ZN v12 s4 p4 m4 m4 (j)) := Zy.out.below hb12
    clear Zy
    have Zy := Zy'
    clear Zy'
    have Zs' : Hid (ZN v12 s11 p11 m11 m11 (i + j)) := Zs.out.below hb12
    clear Zs
    have Zs := Zs'
    clear Zs'
    have hbw' := Below.on hbw hb12
    clear hbw
    have hbw := hbw'
    clear hbw'
    clear hb12
    have j0 : decide (0 < j) = true := decide_eq_true (by omega)
    have j1 : decide (j < 0) = false := decide_eq_false (by omega)
    have jw0 : wrap64 (9223372036854775807 - j) = 9223372036854775807 - j := by simp only [wrap64]; omega
    have jo : decide (9223372036854775807 - j < i) = true := decide_eq_true (by omega)
    have jn : (j == 0) = false := by simp; omega
    have jn2 : ¬ j = 0 := by omega
    have HJN : Hid (j ≠ 0) := jn2
    by_cases him : i = -9223372036854775808
    · have im : (i == -9223372036854775808) = true := by simpa using him
      clear hi0 hi1 hj0 hj1 hc him
      go_wp2_with fail
      go_ret
      exact ⟨rfl, hbw⟩
    · have im : (i == -9223372036854775808) = false := by simpa using him
      have HIM : Hid (i ≠ -9223372036854775808) := him
      have hjs : 0 < j := by omega
      have HJS : Hid (0 < j) := hjs
      clear hjs
      clear hi0 hi1 hj0 hj1 hc him
      obtain ⟨cx0, cx1, fx0, fx1⟩ := Xx.out
      have hnex : gx < v12.heap.size := World.block_lt_of_cell? v12 _ cx0
      obtain ⟨cy0, cy1, fy0, fy1⟩ := Xy.out
      have hney : gy < v12.heap.size := World.block_lt_of_cell? v12 _ cy0
      go_wp2_with fail
      clear cx0 cx1 fx0 fx1 hnex
      clear cy0 cy1 fy0 fy1 hney
      clear jn jn2 im jo jw0 j0 j1
      obtain ⟨Q, hQ⟩ : ∃ Q, Q = fl (decide (i < 0) != decide (j < 0)) i.natAbs j.natAbs := ⟨_, rfl⟩
      have HQ : Hid (Q = fl (decide (i < 0) != decide (j < 0)) i.natAbs j.natAbs) := hQ
      clear hQ
      refine (zfdiv Zx.out Zy.out HJN.out).mono ?_
      rintro e v13 ⟨⟨s13, p13, m13, rfl, hz⟩, hb13⟩
      have Yx : Hid (Box v13 gx (.bool s3) (.slice p3 m3 m3)) := Xx.out.below hb13
      clear Xx
      have Xx := Yx
      clear Yx
      have Yy : Hid (Box v13 gy (.bool s4) (.slice p4 m4 m4)) := Xy.out.below hb13
      clear Xy
      have Xy := Yy
      clear Yy
      have Ys : Hid (Box v13 gs (.bool s11) (.slice p11 m11 m11)) := Xs.out.below hb13
      clear Xs
      have Xs := Ys
      clear Ys
      have HT' : Hid (Tab v13) := HT.out.below hb13
      clear HT
      have HT := HT'
      clear HT'
      have Zx' : Hid (ZN v13 s3 p3 m3 m3 (i)) := Zx.out.below hb13
      clear Zx
      have Zx := Zx'
      clear Zx'
      have Zy' : Hid (ZN v13 s4 p4 m4 m4 (j)) := Zy.out.below hb13
      clear Zy
      have Zy := Zy'
      clear Zy'
      have Zs' : Hid (ZN v13 s11 p11 m11 m11 (i + j)) := Zs.out.below hb13
      clear Zs
      have Zs := Zs'
      clear Zs'
      have hbw' := Below.on hbw hb13
      clear hbw
      have hbw := hbw'
      clear hbw'
      clear hb13
      have hz := hz.cast (z' := Q) (HQ.out.symm)
      have Zq : Hid (ZN v13 s13 p13 m13 m13 (Q)) := hz
      clear hz
      go_wp2_with fail
      have Xq0 : Hid (Box (v13.alloc (.cells #[.bool s13, .slice p13 m13 m13] 35)) v13.heap.size (.bool s13) (.slice p13 m13 m13)) := Box.new v13 _ _ _
      have hbn : Below v13.heap.size v13 (v13.alloc (.cells #[.bool s13, .slice p13 m13 m13] 35)) := below1 v13 _
      generalize v13.alloc (.cells #[.bool s13, .slice p13 m13 m13] 35) = W13 at *
      have HGq : Hid (w.heap.size ≤ v13.heap.size) := hbw.size
      have Yx : Hid (Box W13 gx (.bool s3) (.slice p3 m3 m3)) := Xx.out.below hbn
      clear Xx
      have Xx := Yx
      clear Yx
      have Yy : Hid (Box W13 gy (.bool s4) (.slice p4 m4 m4)) := Xy.out.below hbn
      clear Xy
      have Xy := Yy
      clear Yy
      have Ys : Hid (Box W13 gs (.bool s11) (.slice p11 m11 m11)) := Xs.out.below hbn
      clear Xs
      have Xs := Ys
      clear Ys
      have HT' : Hid (Tab W13) := HT.out.below hbn
      clear HT
      have HT := HT'
      clear HT'
      have Zx' : Hid (ZN W13 s3 p3 m3 m3 (i)) := Zx.out.below hbn
      clear Zx
      have Zx := Zx'
      clear Zx'
      have Zy' : Hid (ZN W13 s4 p4 m4 m4 (j)) := Zy.out.below hbn
      clear Zy
      have Zy := Zy'
      clear Zy'
      have Zs' : Hid (ZN W13 s11 p11 m11 m11 (i + j)) := Zs.out.below hbn
      clear Zs
      have Zs := Zs'
      clear Zs'
      have Zq' : Hid (ZN W13 s13 p13 m13 m13 (Q)) := Zq.out.below hbn
      clear Zq
      have Zq := Zq'
      clear Zq'
      have hbw' := Below.on hbw hbn
      clear hbw
      have hbw := hbw'
      clear hbw'
      clear hbn
      generalize v13.heap.size = gq at *
      have Xq := Xq0
      clear Xq0
      refine (zsmall Zq.out).mono ?_
      rintro e v14 ⟨rfl, hb14⟩
      have hqa : Q.natAbs ≤ i.natAbs := by rw [HQ.out]; exact fl_abs _ _ _
      have hq1 := HI.out
      have hq2 := HIM.out
      rw [if_pos (by omega)]
      clear hqa hq1 hq2
      have Yx : Hid (Box v14 gx (.bool s3) (.slice p3 m3 m3)) := Xx.out.below hb14
      clear Xx
      have Xx := Yx
      clear Yx
      have Yy : Hid (Box v14 gy (.bool s4) (.slice p4 m4 m4)) := Xy.out.below hb14
      clear Xy
      have Xy := Yy
      clear Yy
      have Ys : Hid (Box v14 gs (.bool s11) (.slice p11 m11 m11)) := Xs.out.below hb14
      clear Xs
      have Xs := Ys
      clear Ys
      have Yq : Hid (Box v14 gq (.bool s13) (.slice p13 m13 m13)) := Xq.out.below hb14
      clear Xq
      have Xq := Yq
      clear Yq
      have HT' : Hid (Tab v14) := HT.out.below hb14
      clear HT
      have HT := HT'
      clear HT'
      have Zx' : Hid (ZN v14 s3 p3 m3 m3 (i)) := Zx.out.below hb14
      clear Zx
      have Zx := Zx'
      clear Zx'
      have Zy' : Hid (ZN v14 s4 p4 m4 m4 (j)) := Zy.out.below hb14
      clear Zy
      have Zy := Zy'
      clear Zy'
      have Zs' : Hid (ZN v14 s11 p11 m11 m11 (i + j)) := Zs.out.below hb14
      clear Zs
      have Zs := Zs'
      clear Zs'
      have Zq' : Hid (ZN v14 s13 p13 m13 m13 (Q)) := Zq.out.below hb14
      clear Zq
      have Zq := Zq'
      clear Zq'
      have hbw' := Below.on hbw hb14
      clear hbw
      have hbw := hbw'
      clear hbw'
      clear hb14
      have hw0 := HQ.out
      rw [fl_want] at hw0
      have hta : (i.tdiv j).natAbs ≤ i.natAbs := by rw [Int.natAbs_tdiv]; exact Nat.div_le_self _ _
      have htm : (i.tmod j).natAbs ≤ i.natAbs := by rw [Int.natAbs_tmod]; exact Nat.mod_le _ _
      have hq1 := HI.out
      have hq2 := HIM.out
      have hqa : Q.natAbs ≤ i.natAbs := by rw [HQ.out]; exact fl_abs _ _ _
      have tw : wrap64 (i.tdiv j) = i.tdiv j := by simp only [wrap64]; omega
      have tm : wrap64 (i.tmod j) = i.tmod j := by simp only [wrap64]; omega
      have j1 : decide (j < 0) = false := decide_eq_false (by have := HJN.out; have := HJS.out; omega)
      rw [j1] at hw0
      rcases (by omega : i.tmod j = 0 ∨ (i.tmod j ≠ 0 ∧ i < 0) ∨ (i.tmod j ≠ 0 ∧ ¬ i < 0)) with hr | ⟨hr, hs⟩ | ⟨hr, hs⟩
      · have rm : (i.tmod j == 0) = true := by simpa using hr
        have rm2 : (i.tmod j != 0) = false := by simpa using hr
        rw [if_neg (fun h => h.1 hr)] at hw0
        have qt : (Q == i.tdiv j) = true := by simp only [beq_iff_eq]; omega
        have jn2 : ¬ j = 0 := HJN.out
        have jn : (j == 0) = false := by simpa using jn2
        clear hw0 hta htm hq1 hq2 hqa
        go_wp2_with fail
        go_ret
        first | exact ⟨rfl, hbw⟩ | exact ⟨congrArg (fun b => Ending.returned (Value.bool b)) qt, hbw⟩
      · have rm : (i.tmod j == 0) = false := by simpa using hr
        have rm2 : (i.tmod j != 0) = true := by simpa using hr
        have i1 : decide (i < 0) = true := decide_eq_true hs
        rw [i1] at hw0
        rw [if_pos ⟨hr, by decide⟩] at hw0
        have tv : wrap64 (i.tdiv j - 1) = i.tdiv j - 1 := by rw [← hw0]; simp only [wrap64]; omega
        have qt : (Q == i.tdiv j - 1) = true := by simp only [beq_iff_eq]; omega
        have jn2 : ¬ j = 0 := HJN.out
        have jn : (j == 0) = false := by simpa using jn2
        clear hw0 hta htm hq1 hq2 hqa
        go_wp2_with fail
        go_ret
        first | exact ⟨rfl, hbw⟩ | exact ⟨congrArg (fun b => Ending.returned (Value.bool b)) qt, hbw⟩
      · have rm : (i.tmod j == 0) = false := by simpa using hr
        have rm2 : (i.tmod j != 0) = true := by simpa using hr
        have i1 : decide (i < 0) = false := decide_eq_false hs
        rw [i1] at hw0
        rw [if_neg (fun h => h.2 rfl)] at hw0
        have qt : (Q == i.tdiv j) = true := by simp only [beq_iff_eq]; omega
        have jn2 : ¬ j = 0 := HJN.out
        have jn : (j == 0) = false := by simpa using jn2
        clear hw0 hta htm hq1 hq2 hqa hs
        go_wp2_with fail
        go_ret
        first | exact ⟨rfl, hbw⟩ | exact ⟨congrArg (fun b => Ending.returned (Value.bool b)) qt, hbw⟩
  · refine (zsmall Zs.out).mono ?_
    rintro e v12 ⟨rfl, hb12⟩
    rw [if_pos (by omega)]
    have Yx : Hid (Box v12 gx (.bool s3) (.slice p3 m3 m3)) := Xx.out.below hb12
    clear Xx
    have Xx := Yx
    clear Yx
    have Yy : Hid (Box v12 gy (.bool s4) (.slice p4 m4 m4)) := Xy.out.below hb12
    clear Xy
    have Xy := Yy
    clear Yy
    have Ys : Hid (Box v12 gs (.bool s11) (.slice p11 m11 m11)) := Xs.out.below hb12
    clear Xs
    have Xs := Ys
    clear Ys
    have HT' : Hid (Tab v12) := HT.out.below hb12
    clear HT
    have HT := HT'
    clear HT'
    have Zx' : Hid (ZN v12 s3 p3 m3 m3 (i)) := Zx.out.below hb12
    clear Zx
    have Zx := Zx'
    clear Zx'
    have Zy' : Hid (ZN v12 s4 p4 m4 m4 (j)) := Zy.out.below hb12
    clear Zy
    have Zy := Zy'
    clear Zy'
    have Zs' : Hid (ZN v12 s11 p11 m11 m11 (i + j)) := Zs.out.below hb12
    clear Zs
    have Zs := Zs'
    clear Zs'
    have hbw' := Below.on hbw hb12
    clear hbw
    have hbw := hbw'
    clear hbw'
    clear hb12
    have j0 : decide (0 < j) = false := decide_eq_false (by omega)
    have j1 : decide (j < 0) = true := decide_eq_true (by omega)
    have jw1 : wrap64 (-9223372036854775808 - j) = -9223372036854775808 - j := by simp only [wrap64]; omega
    have jo : decide (i < -9223372036854775808 - j) = false := decide_eq_false (by omega)
    have jn : (j == 0) = false := by simp; omega
    have jn2 : ¬ j = 0 := by omega
    have HJN : Hid (j ≠ 0) := jn2
    have js : wrap64 (i + j) = i + j := by simp only [wrap64]; omega
    by_cases him : i = -9223372036854775808
    · have im : (i == -9223372036854775808) = true := by simpa using him
      clear hi0 hi1 hj0 hj1 hc him
      go_wp2_with fail
      go_ret
      exact ⟨rfl, hbw⟩
    · have im : (i == -9223372036854775808) = false := by simpa using him
      have HIM : Hid (i ≠ -9223372036854775808) := him
      have hjs : j < 0 := by omega
      have HJS : Hid (j < 0) := hjs
      clear hjs
      clear hi0 hi1 hj0 hj1 hc him
      obtain ⟨cx0, cx1, fx0, fx1⟩ := Xx.out
      have hnex : gx < v12.heap.size := World.block_lt_of_cell? v12 _ cx0
      obtain ⟨cy0, cy1, fy0, fy1⟩ := Xy.out
      have hney : gy < v12.heap.size := World.block_lt_of_cell? v12 _ cy0
      go_wp2_with fail
      clear cx0 cx1 fx0 fx1 hnex
      clear cy0 cy1 fy0 fy1 hney
      clear jn jn2 im jo jw1 j0 j1 js
      obtain ⟨Q, hQ⟩ : ∃ Q, Q = fl (decide (i < 0) != decide (j < 0)) i.natAbs j.natAbs := ⟨_, rfl⟩
      have HQ : Hid (Q = fl (decide (i < 0) != decide (j < 0)) i.natAbs j.natAbs) := hQ
      clear hQ
      refine (zfdiv Zx.out Zy.out HJN.out).mono ?_
      rintro e v13 ⟨⟨s13, p13, m13, rfl, hz⟩, hb13⟩
      have Yx : Hid (Box v13 gx (.bool s3) (.slice p3 m3 m3)) := Xx.out.below hb13
      clear Xx
      have Xx := Yx
      clear Yx
      have Yy : Hid (Box v13 gy (.bool s4) (.slice p4 m4 m4)) := Xy.out.below hb13
      clear Xy
      have Xy := Yy
      clear Yy
      have Ys : Hid (Box v13 gs (.bool s11) (.slice p11 m11 m11)) := Xs.out.below hb13
      clear Xs
      have Xs := Ys
      clear Ys
      have HT' : Hid (Tab v13) := HT.out.below hb13
      clear HT
      have HT := HT'
      clear HT'
      have Zx' : Hid (ZN v13 s3 p3 m3 m3 (i)) := Zx.out.below hb13
      clear Zx
      have Zx := Zx'
      clear Zx'
      have Zy' : Hid (ZN v13 s4 p4 m4 m4 (j)) := Zy.out.below hb13
      clear Zy
      have Zy := Zy'
      clear Zy'
      have Zs' : Hid (ZN v13 s11 p11 m11 m11 (i + j)) := Zs.out.below hb13
      clear Zs
      have Zs := Zs'
      clear Zs'
      have hbw' := Below.on hbw hb13
      clear hbw
      have hbw := hbw'
      clear hbw'
      clear hb13
      have hz := hz.cast (z' := Q) (HQ.out.symm)
      have Zq : Hid (ZN v13 s13 p13 m13 m13 (Q)) := hz
      clear hz
      go_wp2_with fail
      have Xq0 : Hid (Box (v13.alloc (.cells #[.bool s13, .slice p13 m13 m13] 35)) v13.heap.size (.bool s13) (.slice p13 m13 m13)) := Box.new v13 _ _ _
      have hbn : Below v13.heap.size v13 (v13.alloc (.cells #[.bool s13, .slice p13 m13 m13] 35)) := below1 v13 _
      generalize v13.alloc (.cells #[.bool s13, .slice p13 m13 m13] 35) = W13 at *
      have HGq : Hid (w.heap.size ≤ v13.heap.size) := hbw.size
      have Yx : Hid (Box W13 gx (.bool s3) (.slice p3 m3 m3)) := Xx.out.below hbn
      clear Xx
      have Xx := Yx
      clear Yx
      have Yy : Hid (Box W13 gy (.bool s4) (.slice p4 m4 m4)) := Xy.out.below hbn
      clear Xy
      have Xy := Yy
      clear Yy
      have Ys : Hid (Box W13 gs (.bool s11) (.slice p11 m11 m11)) := Xs.out.below hbn
      clear Xs
      have Xs := Ys
      clear Ys
      have HT' : Hid (Tab W13) := HT.out.below hbn
      clear HT
      have HT := HT'
      clear HT'
      have Zx' : Hid (ZN W13 s3 p3 m3 m3 (i)) := Zx.out.below hbn
      clear Zx
      have Zx := Zx'
      clear Zx'
      have Zy' : Hid (ZN W13 s4 p4 m4 m4 (j)) := Zy.out.below hbn
      clear Zy
      have Zy := Zy'
      clear Zy'
      have Zs' : Hid (ZN W13 s11 p11 m11 m11 (i + j)) := Zs.out.below hbn
      clear Zs
      have Zs := Zs'
      clear Zs'
      have Zq' : Hid (ZN W13 s13 p13 m13 m13 (Q)) := Zq.out.below hbn
      clear Zq
      have Zq := Zq'
      clear Zq'
      have hbw' := Below.on hbw hbn
      clear hbw
      have hbw := hbw'
      clear hbw'
      clear hbn
      generalize v13.heap.size = gq at *
      have Xq := Xq0
      clear Xq0
      refine (zsmall Zq.out).mono ?_
      rintro e v14 ⟨rfl, hb14⟩
      have hqa : Q.natAbs ≤ i.natAbs := by rw [HQ.out]; exact fl_abs _ _ _
      have hq1 := HI.out
      have hq2 := HIM.out
      rw [if_pos (by omega)]
      clear hqa hq1 hq2
      have Yx : Hid (Box v14 gx (.bool s3) (.slice p3 m3 m3)) := Xx.out.below hb14
      clear Xx
      have Xx := Yx
      clear Yx
      have Yy : Hid (Box v14 gy (.bool s4) (.slice p4 m4 m4)) := Xy.out.below hb14
      clear Xy
      have Xy := Yy
      clear Yy
      have Ys : Hid (Box v14 gs (.bool s11) (.slice p11 m11 m11)) := Xs.out.below hb14
      clear Xs
      have Xs := Ys
      clear Ys
      have Yq : Hid (Box v14 gq (.bool s13) (.slice p13 m13 m13)) := Xq.out.below hb14
      clear Xq
      have Xq := Yq
      clear Yq
      have HT' : Hid (Tab v14) := HT.out.below hb14
      clear HT
      have HT := HT'
      clear HT'
      have Zx' : Hid (ZN v14 s3 p3 m3 m3 (i)) := Zx.out.below hb14
      clear Zx
      have Zx := Zx'
      clear Zx'
      have Zy' : Hid (ZN v14 s4 p4 m4 m4 (j)) := Zy.out.below hb14
      clear Zy
      have Zy := Zy'
      clear Zy'
      have Zs' : Hid (ZN v14 s11 p11 m11 m11 (i + j)) := Zs.out.below hb14
      clear Zs
      have Zs := Zs'
      clear Zs'
      have Zq' : Hid (ZN v14 s13 p13 m13 m13 (Q)) := Zq.out.below hb14
      clear Zq
      have Zq := Zq'
      clear Zq'
      have hbw' := Below.on hbw hb14
      clear hbw
      have hbw := hbw'
      clear hbw'
      clear hb14
      have hw0 := HQ.out
      rw [fl_want] at hw0
      have hta : (i.tdiv j).natAbs ≤ i.natAbs := by rw [Int.natAbs_tdiv]; exact Nat.div_le_self _ _
      have htm : (i.tmod j).natAbs ≤ i.natAbs := by rw [Int.natAbs_tmod]; exact Nat.mod_le _ _
      have hq1 := HI.out
      have hq2 := HIM.out
      have hqa : Q.natAbs ≤ i.natAbs := by rw [HQ.out]; exact fl_abs _ _ _
      have tw : wrap64 (i.tdiv j) = i.tdiv j := by simp only [wrap64]; omega
      have tm : wrap64 (i.tmod j) = i.tmod j := by simp only [wrap64]; omega
      have j1 : decide (j < 0) = true := decide_eq_true (by have := HJN.out; have := HJS.out; omega)
      rw [j1] at hw0
      rcases (by omega : i.tmod j = 0 ∨ (i.tmod j ≠ 0 ∧ i < 0) ∨ (i.tmod j ≠ 0 ∧ ¬ i < 0)) with hr | ⟨hr, hs⟩ | ⟨hr, hs⟩
      · have rm : (i.tmod j == 0) = true := by simpa using hr
        have rm2 : (i.tmod j != 0) = false := by simpa using hr
        rw [if_neg (fun h => h.1 hr)] at hw0
        have qt : (Q == i.tdiv j) = true := by simp only [beq_iff_eq]; omega
        have jn2 : ¬ j = 0 := HJN.out
        have jn : (j == 0) = false := by simpa using jn2
        clear hw0 hta htm hq1 hq2 hqa
        go_wp2_with fail
        go_ret
        first | exact ⟨rfl, hbw⟩ | exact ⟨congrArg (fun b => Ending.returned (Value.bool b)) qt, hbw⟩
      · have rm : (i.tmod j == 0) = false := by simpa using hr
        have rm2 : (i.tmod j != 0) = true := by simpa using hr
        have i1 : decide (i < 0) = true := decide_eq_true hs
        rw [i1] at hw0
        rw [if_neg (fun h => h.2 rfl)] at hw0
        have qt : (Q == i.tdiv j) = true := by simp only [beq_iff_eq]; omega
        have jn2 : ¬ j = 0 := HJN.out
        have jn : (j == 0) = false := by simpa using jn2
        clear hw0 hta htm hq1 hq2 hqa
        go_wp2_with fail
        go_ret
        first | exact ⟨rfl, hbw⟩ | exact ⟨congrArg (fun b => Ending.returned (Value.bool b)) qt, hbw⟩
      · have rm : (i.tmod j == 0) = false := by simpa using hr
        have rm2 : (i.tmod j != 0) = true := by simpa using hr
        have i1 : decide (i < 0) = false := decide_eq_false hs
        rw [i1] at hw0
        rw [if_pos ⟨hr, by decide⟩] at hw0
        have tv : wrap64 (i.tdiv j - 1) = i.tdiv j - 1 := by rw [← hw0]; simp only [wrap64]; omega
        have qt : (Q == i.tdiv j - 1) = true := by simp only [beq_iff_eq]; omega
        have jn2 : ¬ j = 0 := HJN.out
        have jn : (j == 0) = false := by simpa using jn2
        clear hw0 hta htm hq1 hq2 hqa hs
        go_wp2_with fail
        go_ret
        first | exact ⟨rfl, hbw⟩ | exact ⟨congrArg (fun b => Ending.returned (Value.bool b)) qt, hbw⟩
  · refine (zsmall Zs.out).mono ?_
    rintro e v12 ⟨rfl, hb12⟩
    rw [if_neg (by omega)]
    have Yx : Hid (Box v12 gx (.bool s3) (.slice p3 m3 m3)) := Xx.out.below hb12
    clear Xx
    have Xx := Yx
    clear Yx
    have Yy : Hid (Box v12 gy (.bool s4) (.slice p4 m4 m4)) := Xy.out.below hb12
    clear Xy
    have Xy := Yy
    clear Yy
    have Ys : Hid (Box v12 gs (.bool s11) (.slice p11 m11 m11)) := Xs.out.below hb12
    clear Xs
    have Xs := Ys
    clear Ys
    have HT' : Hid (Tab v12) := HT.out.below hb12
    clear HT
    have HT := HT'
    clear HT'
    have Zx' : Hid (ZN v12 s3 p3 m3 m3 (i)) := Zx.out.below hb12
    clear Zx
    have Zx := Zx'
    clear Zx'
    have Zy' : Hid (ZN v12 s4 p4 m4 m4 (j)) := Zy.out.below hb12
    clear Zy
    have Zy := Zy'
    clear Zy'
    have Zs' : Hid (ZN v12 s11 p11 m11 m11 (i + j)) := Zs.out.below hb12
    clear Zs
    have Zs := Zs'
    clear Zs'
    have hbw' := Below.on hbw hb12
    clear hbw
    have hbw := hbw'
    clear hbw'
    clear hb12
    have j0 : decide (0 < j) = false := decide_eq_false (by omega)
    have j1 : decide (j < 0) = true := decide_eq_true (by omega)
    have jw1 : wrap64 (-9223372036854775808 - j) = -9223372036854775808 - j := by simp only [wrap64]; omega
    have jo : decide (i < -9223372036854775808 - j) = true := decide_eq_true (by omega)
    have jn : (j == 0) = false := by simp; omega
    have jn2 : ¬ j = 0 := by omega
    have HJN : Hid (j ≠ 0) := jn2
    by_cases him : i = -9223372036854775808
    · have im : (i == -9223372036854775808) = true := by simpa using him
      clear hi0 hi1 hj0 hj1 hc him
      go_wp2_with fail
      go_ret
      exact ⟨rfl, hbw⟩
    · have im : (i == -9223372036854775808) = false := by simpa using him
      have HIM : Hid (i ≠ -9223372036854775808) := him
      have hjs : j < 0 := by omega
      have HJS : Hid (j < 0) := hjs
      clear hjs
      clear hi0 hi1 hj0 hj1 hc him
      obtain ⟨cx0, cx1, fx0, fx1⟩ := Xx.out
      have hnex : gx < v12.heap.size := World.block_lt_of_cell? v12 _ cx0
      obtain ⟨cy0, cy1, fy0, fy1⟩ := Xy.out
      have hney : gy < v12.heap.size := World.block_lt_of_cell? v12 _ cy0
      go_wp2_with fail
      clear cx0 cx1 fx0 fx1 hnex
      clear cy0 cy1 fy0 fy1 hney
      clear jn jn2 im jo jw1 j0 j1
      obtain ⟨Q, hQ⟩ : ∃ Q, Q = fl (decide (i < 0) != decide (j < 0)) i.natAbs j.natAbs := ⟨_, rfl⟩
      have HQ : Hid (Q = fl (decide (i < 0) != decide (j < 0)) i.natAbs j.natAbs) := hQ
      clear hQ
      refine (zfdiv Zx.out Zy.out HJN.out).mono ?_
      rintro e v13 ⟨⟨s13, p13, m13, rfl, hz⟩, hb13⟩
      have Yx : Hid (Box v13 gx (.bool s3) (.slice p3 m3 m3)) := Xx.out.below hb13
      clear Xx
      have Xx := Yx
      clear Yx
      have Yy : Hid (Box v13 gy (.bool s4) (.slice p4 m4 m4)) := Xy.out.below hb13
      clear Xy
      have Xy := Yy
      clear Yy
      have Ys : Hid (Box v13 gs (.bool s11) (.slice p11 m11 m11)) := Xs.out.below hb13
      clear Xs
      have Xs := Ys
      clear Ys
      have HT' : Hid (Tab v13) := HT.out.below hb13
      clear HT
      have HT := HT'
      clear HT'
      have Zx' : Hid (ZN v13 s3 p3 m3 m3 (i)) := Zx.out.below hb13
      clear Zx
      have Zx := Zx'
      clear Zx'
      have Zy' : Hid (ZN v13 s4 p4 m4 m4 (j)) := Zy.out.below hb13
      clear Zy
      have Zy := Zy'
      clear Zy'
      have Zs' : Hid (ZN v13 s11 p11 m11 m11 (i + j)) := Zs.out.below hb13
      clear Zs
      have Zs := Zs'
      clear Zs'
      have hbw' := Below.on hbw hb13
      clear hbw
      have hbw := hbw'
      clear hbw'
      clear hb13
      have hz := hz.cast (z' := Q) (HQ.out.symm)
      have Zq : Hid (ZN v13 s13 p13 m13 m13 (Q)) := hz
      clear hz
      go_wp2_with fail
      have Xq0 : Hid (Box (v13.alloc (.cells #[.bool s13, .slice p13 m13 m13] 35)) v13.heap.size (.bool s13) (.slice p13 m13 m13)) := Box.new v13 _ _ _
      have hbn : Below v13.heap.size v13 (v13.alloc (.cells #[.bool s13, .slice p13 m13 m13] 35)) := below1 v13 _
      generalize v13.alloc (.cells #[.bool s13, .slice p13 m13 m13] 35) = W13 at *
      have HGq : Hid (w.heap.size ≤ v13.heap.size) := hbw.size
      have Yx : Hid (Box W13 gx (.bool s3) (.slice p3 m3 m3)) := Xx.out.below hbn
      clear Xx
      have Xx := Yx
      clear Yx
      have Yy : Hid (Box W13 gy (.bool s4) (.slice p4 m4 m4)) := Xy.out.below hbn
      clear Xy
      have Xy := Yy
      clear Yy
      have Ys : Hid (Box W13 gs (.bool s11) (.slice p11 m11 m11)) := Xs.out.below hbn
      clear Xs
      have Xs := Ys
      clear Ys
      have HT' : Hid (Tab W13) := HT.out.below hbn
      clear HT
      have HT := HT'
      clear HT'
      have Zx' : Hid (ZN W13 s3 p3 m3 m3 (i)) := Zx.out.below hbn
      clear Zx
      have Zx := Zx'
      clear Zx'
      have Zy' : Hid (ZN W13 s4 p4 m4 m4 (j)) := Zy.out.below hbn
      clear Zy
      have Zy := Zy'
      clear Zy'
      have Zs' : Hid (ZN W13 s11 p11 m11 m11 (i + j)) := Zs.out.below hbn
      clear Zs
      have Zs := Zs'
      clear Zs'
      have Zq' : Hid (ZN W13 s13 p13 m13 m13 (Q)) := Zq.out.below hbn
      clear Zq
      have Zq := Zq'
      clear Zq'
      have hbw' := Below.on hbw hbn
      clear hbw
      have hbw := hbw'
      clear hbw'
      clear hbn
      generalize v13.heap.size = gq at *
      have Xq := Xq0
      clear Xq0
      refine (zsmall Zq.out).mono ?_
      rintro e v14 ⟨rfl, hb14⟩
      have hqa : Q.natAbs ≤ i.natAbs := by rw [HQ.out]; exact fl_abs _ _ _
      have hq1 := HI.out
      have hq2 := HIM.out
      rw [if_pos (by omega)]
      clear hqa hq1 hq2
      have Yx : Hid (Box v14 gx (.bool s3) (.slice p3 m3 m3)) := Xx.out.below hb14
      clear Xx
      have Xx := Yx
      clear Yx
      have Yy : Hid (Box v14 gy (.bool s4) (.slice p4 m4 m4)) := Xy.out.below hb14
      clear Xy
      have Xy := Yy
      clear Yy
      have Ys : Hid (Box v14 gs (.bool s11) (.slice p11 m11 m11)) := Xs.out.below hb14
      clear Xs
      have Xs := Ys
      clear Ys
      have Yq : Hid (Box v14 gq (.bool s13) (.slice p13 m13 m13)) := Xq.out.below hb14
      clear Xq
      have Xq := Yq
      clear Yq
      have HT' : Hid (Tab v14) := HT.out.below hb14
      clear HT
      have HT := HT'
      clear HT'
      have Zx' : Hid (ZN v14 s3 p3 m3 m3 (i)) := Zx.out.below hb14
      clear Zx
      have Zx := Zx'
      clear Zx'
      have Zy' : Hid (ZN v14 s4 p4 m4 m4 (j)) := Zy.out.below hb14
      clear Zy
      have Zy := Zy'
      clear Zy'
      have Zs' : Hid (ZN v14 s11 p11 m11 m11 (i + j)) := Zs.out.below hb14
      clear Zs
      have Zs := Zs'
      clear Zs'
      have Zq' : Hid (ZN v14 s13 p13 m13 m13 (Q)) := Zq.out.below hb14
      clear Zq
      have Zq := Zq'
      clear Zq'
      have hbw' := Below.on hbw hb14
      clear hbw
      have hbw := hbw'
      clear hbw'
      clear hb14
      have hw0 := HQ.out
      rw [fl_want] at hw0
      have hta : (i.tdiv j).natAbs ≤ i.natAbs := by rw [Int.natAbs_tdiv]; exact Nat.div_le_self _ _
      have htm : (i.tmod j).natAbs ≤ i.natAbs := by rw [Int.natAbs_tmod]; exact Nat.mod_le _ _
      have hq1 := HI.out
      have hq2 := HIM.out
      have hqa : Q.natAbs ≤ i.natAbs := by rw [HQ.out]; exact fl_abs _ _ _
      have tw : wrap64 (i.tdiv j) = i.tdiv j := by simp only [wrap64]; omega
      have tm : wrap64 (i.tmod j) = i.tmod j := by simp only [wrap64]; omega
      have j1 : decide (j < 0) = true := decide_eq_true (by have := HJN.out; have := HJS.out; omega)
      rw [j1] at hw0
      rcases (by omega : i.tmod j = 0 ∨ (i.tmod j ≠ 0 ∧ i < 0) ∨ (i.tmod j ≠ 0 ∧ ¬ i < 0)) with hr | ⟨hr, hs⟩ | ⟨hr, hs⟩
      · have rm : (i.tmod j == 0) = true := by simpa using hr
        have rm2 : (i.tmod j != 0) = false := by simpa using hr
        rw [if_neg (fun h => h.1 hr)] at hw0
        have qt : (Q == i.tdiv j) = true := by simp only [beq_iff_eq]; omega
        have jn2 : ¬ j = 0 := HJN.out
        have jn : (j == 0) = false := by simpa using jn2
        clear hw0 hta htm hq1 hq2 hqa
        go_wp2_with fail
        go_ret
        first | exact ⟨rfl, hbw⟩ | exact ⟨congrArg (fun b => Ending.returned (Value.bool b)) qt, hbw⟩
      · have rm : (i.tmod j == 0) = false := by simpa using hr
        have rm2 : (i.tmod j != 0) = true := by simpa using hr
        have i1 : decide (i < 0) = true := decide_eq_true hs
        rw [i1] at hw0
        rw [if_neg (fun h => h.2 rfl)] at hw0
        have qt : (Q == i.tdiv j) = true := by simp only [beq_iff_eq]; omega
        have jn2 : ¬ j = 0 := HJN.out
        have jn : (j == 0) = false := by simpa using jn2
        clear hw0 hta htm hq1 hq2 hqa
        go_wp2_with fail
        go_ret
        first | exact ⟨rfl, hbw⟩ | exact ⟨congrArg (fun b => Ending.returned (Value.bool b)) qt, hbw⟩
      · have rm : (i.tmod j == 0) = false := by simpa using hr
        have rm2 : (i.tmod j != 0) = true := by simpa using hr
        have i1 : decide (i < 0) = false := decide_eq_false hs
        rw [i1] at hw0
        rw [if_pos ⟨hr, by decide⟩] at hw0
        have tv : wrap64 (i.tdiv j - 1) = i.tdiv j - 1 := by rw [← hw0]; simp only [wrap64]; omega
        have qt : (Q == i.tdiv j - 1) = true := by simp only [beq_iff_eq]; omega
        have jn2 : ¬ j = 0 := HJN.out
        have jn : (j == 0) = false := by simpa using jn2
        clear hw0 hta htm hq1 hq2 hqa hs
        go_wp2_with fail
        go_ret
        first | exact ⟨rfl, hbw⟩ | exact ⟨congrArg (fun b => Ending.returned (Value.bool b)) qt, hbw⟩
end Go.Proofs.YteoihhgaipplfaaDoor

