import Derived.Test.YtmekccpbcjpddaaGreatDoorJ14
import Derived.Test.YtmekccpbcjpddaaGreatDoorJ12
import Derived.Test.YtmekccpbcjpddaaGreatDoorJ10
import Derived.Test.YtmekccpbcjpddaaGreatDoorJ11
namespace Go.Proofs.YtmekccpbcjpddaaGreatDoor
open Go.RowKit Go.Shelf
set_option maxRecDepth 20000
set_option maxHeartbeats 0
theorem Box.put {W : World} {g : Nat} {v0 v1 : Value} (h : Box W g v0 v1) (u0 u1 : Value) : Box ((W.setCell ⟨g, 0, none⟩ u0).setCell ⟨g, 1, none⟩ u1) g u0 u1 := by
  obtain ⟨c0, c1, f0, f1⟩ := h
  exact ⟨by go_simp, by go_simp, by go_simp, by go_simp⟩
structure ZN (w : World) (s : Bool) (p : Option Addr) (m c : Nat) (z : Int) : Prop where
  ex : ∃ xs, Num w p m c xs z.natAbs
  sg : s = decide (z < 0)
theorem ZN.below {w w' : World} {s : Bool} {p : Option Addr} {m c : Nat} {z : Int} (h : ZN w s p m c z) (hb : Below w.heap.size w w') : ZN w' s p m c z := by
  obtain ⟨xs, hx⟩ := h.ex
  exact ⟨⟨xs, hx.below hb⟩, h.sg⟩
theorem ZN.iv {w : World} {s : Bool} {p : Option Addr} {m c : Nat} {z : Int} (h : ZN w s p m c z) : iv s z.natAbs = z := by rw [h.sg]; exact iv_abs z
theorem ZN.pos {w : World} {s : Bool} {p : Option Addr} {m c : Nat} {z : Int} (h : ZN w s p m c z) : s = true → 0 < z.natAbs := by rw [h.sg]; exact sgn_pos z
theorem ZN.lim {w : World} {s : Bool} {p : Option Addr} {m c : Nat} {z : Int} (h : ZN w s p m c z) : z.natAbs < LIM := by
  obtain ⟨xs, hx⟩ := h.ex
  exact hx.lim
theorem ZN.le {w : World} {s : Bool} {p : Option Addr} {m c : Nat} {z : Int} (h : ZN w s p m c z) : m ≤ 8192 := by
  obtain ⟨xs, hx⟩ := h.ex
  exact hx.le
theorem ZN.cast {w : World} {s : Bool} {p : Option Addr} {m c : Nat} {z z' : Int} (h : ZN w s p m c z) (e : z = z') : ZN w s p m c z' := e ▸ h
theorem ZN.of {w : World} {p : Option Addr} {m c : Nat} {xs : List Nat} {a : Nat} {t : Bool} (h : Num w p m c xs a) (ht : t = true → 0 < a) : ZN w t p m c (Go.Proofs.YtmekccpbcjpddaaGreatDoor.iv t a) :=
  ⟨⟨xs, by rw [iv_natAbs]; exact h⟩, by
    cases t
    · rw [iv_f]; exact (decide_eq_false (Int.not_lt.2 (Int.natCast_nonneg _))).symm
    · rw [iv_t]; have := ht rfl; exact (decide_eq_true (by omega)).symm⟩
def Got (w' : World) (e : Ending) (z : Int) : Prop := ∃ s p m, e = .returned (.tuple #[ZV s p m m, .int .i64 0]) ∧ ZN w' s p m m z
theorem AnsZ.zn {B : Nat} {w' : World} {v : Value} {z : Int} (h : AnsZ B w' v z) : ∃ s p m, v = ZV s p m m ∧ ZN w' s p m m z := by
  obtain ⟨p, m, zs, rfl, ho, hn, hm⟩ := h
  exact ⟨_, p, m, rfl, ⟨zs, Num.of ho hn hm⟩, rfl⟩
theorem AnsI.zn {B : Nat} {w' : World} {e : Ending} {z : Int} (h : AnsI B w' e z) : (z.natAbs < LIM ∧ Got w' e z) ∨ (LIM ≤ z.natAbs ∧ e = .returned (.tuple #[ZV false none 0 0, .int .i64 5])) := by
  rcases h with ⟨hl, p, m, zs, rfl, ho, hn, hm⟩ | ⟨hl, rfl⟩
  · exact .inl ⟨hl, _, p, m, rfl, ⟨zs, Num.of ho hn hm⟩, rfl⟩
  · exact .inr ⟨hl, rfl⟩
theorem AnsI.got {B : Nat} {w' : World} {e : Ending} {z : Int} (h : AnsI B w' e z) (hz : z.natAbs < LIM) : Got w' e z := by
  rcases h.zn with ⟨_, k⟩ | ⟨k, _⟩
  · exact k
  · omega
variable {w : World} {s t : Bool} {p q : Option Addr} {m c n d : Nat} {x y : Int}
theorem zadd (h : ZN w s p m c x) (k : ZN w t q n d y) : Calls Tryz.prog 34 #[ZV s p m c, ZV t q n d] w fun e w' => AnsI w.heap.size w' e (x + y) ∧ Below w.heap.size w w' := by
  obtain ⟨xs, hx⟩ := h.ex
  obtain ⟨ys, hy⟩ := k.ex
  have := nadd_any s t hx hy h.pos k.pos
  rwa [h.iv, k.iv] at this
theorem zmul (h : ZN w s p m c x) (k : ZN w t q n d y) : Calls Tryz.prog 33 #[ZV s p m c, ZV t q n d] w fun e w' => AnsI w.heap.size w' e (x * y) ∧ Below w.heap.size w w' := by
  obtain ⟨xs, hx⟩ := h.ex
  obtain ⟨ys, hy⟩ := k.ex
  have := nmul_any s t hx hy h.pos k.pos
  rwa [h.iv, k.iv] at this
theorem zshl (h : ZN w s p m c x) (k : Nat) (hk : k ≤ 9223372036854775807) : Calls Tryz.prog 37 #[ZV s p m c, .int .i64 k] w fun e w' => AnsI w.heap.size w' e (x * 2 ^ k) ∧ Below w.heap.size w w' := by
  obtain ⟨xs, hx⟩ := h.ex
  have := nshl_any s hx h.pos k hk
  rwa [show Go.Proofs.YtmekccpbcjpddaaGreatDoor.iv s (2 ^ k * x.natAbs) = x * 2 ^ k from by
    have e := h.iv
    rw [show Go.Proofs.YtmekccpbcjpddaaGreatDoor.iv s (2 ^ k * x.natAbs) = Go.Proofs.YtmekccpbcjpddaaGreatDoor.iv s x.natAbs * 2 ^ k from by cases s <;> simp [Go.Proofs.YtmekccpbcjpddaaGreatDoor.iv, Int.mul_comm, Int.neg_mul], e]] at this
theorem zof (z : Int) (w : World) (h0 : -9223372036854775808 ≤ z) (h1 : z ≤ 9223372036854775807) : Calls Tryz.prog 36 #[.int .i64 z] w fun e w' => ∃ s p m, e = .returned (ZV s p m m) ∧ ZN w' s p m m z ∧ Below w.heap.size w w' :=
  (of_full z w h0 h1).mono fun e w' ⟨v, he, hv, hb⟩ => by
    obtain ⟨s', p', m', rfl, hz⟩ := hv.zn
    exact ⟨s', p', m', he, hz, hb⟩
theorem zfshr (h : ZN w s p m c x) (k : Nat) (hk : k ≤ 9223372036854775807) (hT : Tab w) : Calls Tryz.prog 39 #[ZV s p m c, .int .i64 k] w fun e w' => Got w' e (fl (decide (x < 0)) x.natAbs (2 ^ k)) ∧ Below w.heap.size w w' := by
  obtain ⟨xs, hx⟩ := h.ex
  rw [← h.sg]
  exact (fshr_any s hx h.pos k hk hT).mono fun e w' ⟨v, he, hv, hb⟩ => by
    obtain ⟨s', p', m', rfl, hz⟩ := hv.zn
    exact ⟨⟨s', p', m', he, hz⟩, hb⟩
theorem zcshr (h : ZN w s p m c x) (k : Nat) (hk : k ≤ 9223372036854775807) (hT : Tab w) : Calls Tryz.prog 40 #[ZV s p m c, .int .i64 k] w fun e w' => Got w' e (ce (decide (x < 0)) x.natAbs (2 ^ k)) ∧ Below w.heap.size w w' := by
  obtain ⟨xs, hx⟩ := h.ex
  rw [← h.sg]
  exact (cshr_any s hx h.pos k hk hT).mono fun e w' ⟨v, he, hv, hb⟩ => by
    obtain ⟨s', p', m', rfl, hz⟩ := hv.zn
    exact ⟨⟨s', p', m', he, hz⟩, hb⟩
theorem zrshr (h : ZN w s p m c x) (k : Nat) (hk : k ≤ 9223372036854775807) (hT : Tab w) : Calls Tryz.prog 41 #[ZV s p m c, .int .i64 k] w fun e w' => Got w' e (ne (decide (x < 0)) x.natAbs (2 ^ k)) ∧ Below w.heap.size w w' := by
  obtain ⟨xs, hx⟩ := h.ex
  rw [← h.sg]
  exact (rshr_any s hx h.pos k hk hT).mono fun e w' ⟨v, he, hv, hb⟩ => by
    obtain ⟨s', p', m', rfl, hz⟩ := hv.zn
    exact ⟨⟨s', p', m', he, hz⟩, hb⟩
theorem zfdiv (h : ZN w s p m c x) (k : ZN w t q n d y) (hy0 : y ≠ 0) : Calls Tryz.prog 29 #[ZV s p m c, ZV t q n d] w fun e w' => Got w' e (fl (decide (x < 0) != decide (y < 0)) x.natAbs y.natAbs) ∧ Below w.heap.size w w' := by
  obtain ⟨xs, hx⟩ := h.ex
  obtain ⟨ys, hy⟩ := k.ex
  rw [← h.sg, ← k.sg]
  exact (fdiv_any s t hx h.pos hy k.pos (by omega)).mono fun e w' ⟨v, he, hv, hb⟩ => by
    obtain ⟨s', p', m', rfl, hz⟩ := hv.zn
    exact ⟨⟨s', p', m', he, hz⟩, hb⟩
theorem zcdiv (h : ZN w s p m c x) (k : ZN w t q n d y) (hy0 : y ≠ 0) : Calls Tryz.prog 30 #[ZV s p m c, ZV t q n d] w fun e w' => Got w' e (ce (decide (x < 0) != decide (y < 0)) x.natAbs y.natAbs) ∧ Below w.heap.size w w' := by
  obtain ⟨xs, hx⟩ := h.ex
  obtain ⟨ys, hy⟩ := k.ex
  rw [← h.sg, ← k.sg]
  exact (cdiv_any s t hx h.pos hy k.pos (by omega)).mono fun e w' ⟨v, he, hv, hb⟩ => by
    obtain ⟨s', p', m', rfl, hz⟩ := hv.zn
    exact ⟨⟨s', p', m', he, hz⟩, hb⟩
theorem zrdiv (h : ZN w s p m c x) (k : ZN w t q n d y) (hy0 : y ≠ 0) : Calls Tryz.prog 31 #[ZV s p m c, ZV t q n d] w fun e w' => Got w' e (ne (decide (x < 0) != decide (y < 0)) x.natAbs y.natAbs) ∧ Below w.heap.size w w' := by
  obtain ⟨xs, hx⟩ := h.ex
  obtain ⟨ys, hy⟩ := k.ex
  rw [← h.sg, ← k.sg]
  exact (rdiv_any s t hx h.pos hy k.pos (by omega)).mono fun e w' ⟨v, he, hv, hb⟩ => by
    obtain ⟨s', p', m', rfl, hz⟩ := hv.zn
    exact ⟨⟨s', p', m', he, hz⟩, hb⟩
theorem zmod (h : ZN w s p m c x) (k : ZN w t q n d y) (hy0 : y ≠ 0) : Calls Tryz.prog 32 #[ZV s p m c, ZV t q n d] w fun e w' => Got w' e (mo (decide (x < 0)) (decide (y < 0)) x.natAbs y.natAbs) ∧ Below w.heap.size w w' := by
  obtain ⟨xs, hx⟩ := h.ex
  obtain ⟨ys, hy⟩ := k.ex
  rw [← h.sg, ← k.sg]
  exact (mod_any s t hx h.pos hy k.pos (by omega)).mono fun e w' ⟨v, he, hv, hb⟩ => by
    obtain ⟨s', p', m', rfl, hz⟩ := hv.zn
    exact ⟨⟨s', p', m', he, hz⟩, hb⟩
theorem zfdiv0 (h : ZN w s p m c x) (k : ZN w t q n d y) (hy0 : y = 0) : Calls Tryz.prog 29 #[ZV s p m c, ZV t q n d] w fun e w' => ∃ s' p' m', e = .returned (.tuple #[ZV s' p' m' m', .int .i64 4]) ∧ ZN w' s' p' m' m' 0 ∧ Below w.heap.size w w' := by
  obtain ⟨xs, hx⟩ := h.ex
  obtain ⟨ys, hy⟩ := k.ex
  exact (fdiv_zero s t hx h.pos hy k.pos (by omega)).mono fun e w' ⟨v, he, hv, hb⟩ => by
    obtain ⟨s', p', m', rfl, hz⟩ := hv.zn
    exact ⟨s', p', m', he, hz, hb⟩
theorem zcdiv0 (h : ZN w s p m c x) (k : ZN w t q n d y) (hy0 : y = 0) : Calls Tryz.prog 30 #[ZV s p m c, ZV t q n d] w fun e w' => ∃ s' p' m', e = .returned (.tuple #[ZV s' p' m' m', .int .i64 4]) ∧ ZN w' s' p' m' m' 0 ∧ Below w.heap.size w w' := by
  obtain ⟨xs, hx⟩ := h.ex
  obtain ⟨ys, hy⟩ := k.ex
  exact (cdiv_zero s t hx h.pos hy k.pos (by omega)).mono fun e w' ⟨v, he, hv, hb⟩ => by
    obtain ⟨s', p', m', rfl, hz⟩ := hv.zn
    exact ⟨s', p', m', he, hz, hb⟩
theorem tint_s {p q : Option Addr} {m c n d : Nat} {w : World} {s t : Bool} (hs : s ≠ t) :
    Calls Tryz.prog 35 #[ZV s p m c, ZV t q n d] w fun en w' => en = .returned (.bool false) ∧ Below w.heap.size w w' := by
  have h1 : (s == t) = false := by simp [hs]
  have h2 : (t == s) = false := by simp; exact fun h => hs h.symm
  clear hs
  go_enter Tryz.func35, Tryz.ntmps35
  go_wp2_with fail
  go_ret
  first | exact ⟨rfl, below2 w _ _⟩ | exact ⟨rfl, bDrewN (below2 w _ _) _⟩
theorem tint_e {p q : Option Addr} {m c n d : Nat} {w : World} {x y : Int} {s t : Bool} (h : ZN w s p m c x) (k : ZN w t q n d y) (hs : s = t) :
    Calls Tryz.prog 35 #[ZV s p m c, ZV t q n d] w fun en w' => en = .returned (.bool (decide (x = y))) ∧ Below w.heap.size w w' := by
  subst hs
  have A : Hid (ZN w s p m c x) := h
  have B : Hid (ZN w s q n d y) := k
  clear h k
  go_enter Tryz.func35, Tryz.ntmps35
  go_wp2_with fail
  obtain ⟨W0, hW0⟩ : ∃ W0, W0 = ((w.alloc (.cells #[.bool s, .slice p m c] 33)).alloc (.cells #[.bool s, .slice q n d] 33)) := ⟨_, rfl⟩
  have Xa : Hid (Box W0 (w.heap.size) (.bool s) (.slice p m c)) := by rw [hW0]; exact ⟨by go_simp, by go_simp, by go_simp, by go_simp⟩
  have Xb : Hid (Box W0 (w.heap.size + 1) (.bool s) (.slice q n d)) := by rw [hW0]; exact ⟨by go_simp, by go_simp, by go_simp, by go_simp⟩
  have hb0 : Below w.heap.size w W0 := by rw [hW0]; exact below2 w _ _
  rw [← hW0]
  clear hW0
  have hbw : Below w.heap.size w w := Below.refl _ _
  obtain ⟨gb, hgb⟩ : ∃ g, g = w.heap.size + 1 := ⟨_, rfl⟩
  have HGb : Hid (w.heap.size ≤ gb) := by rw [hgb]; show _ ≤ _; omega
  rw [← hgb] at Xb
  try rw [← hgb]
  obtain ⟨ga, hga⟩ : ∃ g, g = w.heap.size := ⟨_, rfl⟩
  have HGa : Hid (w.heap.size ≤ ga) := by rw [hga]; show _ ≤ _; omega
  rw [← hga] at Xa
  try rw [← hga]
  have HGD : Hid (ga ≠ gb ∧ gb ≠ ga) := by rw [hga, hgb]; exact ⟨by omega, by omega⟩
  clear hga hgb
  replace hbw := Below.on hbw hb0
  clear hb0
  obtain ⟨xs, hX⟩ := (A.out.below hbw).ex
  obtain ⟨ys, hY⟩ := (B.out.below hbw).ex
  refine (tsame_any hX.at_ hY.at_).mono ?_
  rintro e9 v1 ⟨rfl, r, rfl⟩
  rw [show decide (xs = ys) = decide (x = y) from decide_eq_decide.2 ⟨fun h => by
      have h1 := hX.nf.ext hY.nf h
      have h2 := A.out.iv; have h3 := B.out.iv
      rw [← h2, ← h3, h1], fun h => by
      subst h
      exact hX.nf.inj B64_one hY.nf⟩]
  clear hX hY
  have hbr := bDrewN (Below.refl W0.heap.size W0) r
  generalize W0.drewN r = v1 at *
  replace Xa : Hid _ := Xa.out.below hbr
  replace Xb : Hid _ := Xb.out.below hbr
  replace hbw := Below.on hbw hbr
  clear hbr
  go_wp2_with fail
  go_ret
  exact ⟨rfl, hbw⟩
theorem tint {p q : Option Addr} {m c n d : Nat} {w : World} {x y : Int} {s t : Bool} (h : ZN w s p m c x) (k : ZN w t q n d y) :
    Calls Tryz.prog 35 #[ZV s p m c, ZV t q n d] w fun en w' => en = .returned (.bool (decide (x = y))) ∧ Below w.heap.size w w' := by
  by_cases hs : s = t
  · exact tint_e h k hs
  · have : ¬ x = y := fun hxy => hs (by rw [h.sg, k.sg, hxy])
    rw [decide_eq_false this]
    exact tint_s hs
structure Nests (x y F C G M : Int) : Prop where
  bf : (F * y).natAbs ≤ x.natAbs + y.natAbs
  bg : (G * y).natAbs ≤ x.natAbs + y.natAbs
  sum : F * y + M = x
  step : C - F = if M = 0 then 0 else 1
  gor : G = F ∨ G = C
  sg : M = 0 ∨ (0 < M ∧ 0 < y) ∨ (M < 0 ∧ y < 0)
  ml : M.natAbs < y.natAbs
  off : 2 * (x - G * y).natAbs ≤ y.natAbs
  tie : 2 * (x - G * y).natAbs = y.natAbs → G.natAbs % 2 = 0
theorem nests_of (x y : Int) (hy : y ≠ 0) {F C G M : Int} (hF : F = fl (decide (x < 0) != decide (y < 0)) x.natAbs y.natAbs) (hC : C = ce (decide (x < 0) != decide (y < 0)) x.natAbs y.natAbs) (hG : G = ne (decide (x < 0) != decide (y < 0)) x.natAbs y.natAbs) (hM : M = mo (decide (x < 0)) (decide (y < 0)) x.natAbs y.natAbs) : Nests x y F C G M := by
  have hb : 0 < y.natAbs := by omega
  have ex := iv_abs x
  have ey := iv_abs y
  have hr := Nat.mod_lt x.natAbs hb
  have hM0 : M = 0 ↔ x.natAbs % y.natAbs = 0 := by
    rw [hM]; unfold mo
    generalize decide (x < 0) = s
    generalize decide (y < 0) = t
    generalize x.natAbs % y.natAbs = r at *
    by_cases h0 : r = 0
    · subst h0; cases s <;> cases t <;> simp [iv]
    · cases s <;> cases t <;> simp [iv, h0] <;> omega
  refine ⟨?_, ?_, ?_, ?_, ?_, ?_, ?_, ?_, ?_⟩
  · rw [hF]; have := fl_bound (decide (x < 0) != decide (y < 0)) (decide (y < 0)) x.natAbs y.natAbs; rwa [ey] at this
  · rw [hG]; have := ne_bound (decide (x < 0) != decide (y < 0)) (decide (y < 0)) x.natAbs y.natAbs; rwa [ey] at this
  · rw [hF, hM]; have := fl_mo (decide (x < 0)) (decide (y < 0)) x.natAbs y.natAbs hb; rwa [ex, ey] at this
  · rw [hC, hF, ce_fl]
    by_cases h0 : M = 0
    · rw [if_pos h0, if_pos (hM0.1 h0)]
    · rw [if_neg h0, if_neg (fun e => h0 (hM0.2 e))]
  · rw [hG, hF, hC]; exact ne_or _ _ _
  · by_cases h0 : M = 0
    · exact .inl h0
    · right
      have h1 := mt hM0.2 h0
      rw [hM]; unfold mo
      generalize x.natAbs % y.natAbs = r at *
      by_cases h2 : y < 0
      · right
        rw [decide_eq_true h2, iv_t]
        refine ⟨?_, h2⟩
        split <;> omega
      · left
        rw [decide_eq_false h2, iv_f]
        refine ⟨?_, by omega⟩
        split <;> omega
  · rw [hM]; unfold mo; rw [iv_natAbs]
    split
    · rename_i h2
      have : x.natAbs % y.natAbs ≠ 0 := by
        rw [Bool.and_eq_true] at h2
        exact of_decide_eq_true h2.2
      omega
    · exact hr
  · rw [hG]; have := (ne_off (decide (x < 0)) (decide (y < 0)) x.natAbs y.natAbs hb).1; rwa [ex, ey] at this
  · rw [hG]; have := (ne_off (decide (x < 0)) (decide (y < 0)) x.natAbs y.natAbs hb).2; rwa [ex, ey] at this
theorem ZN.abs {w : World} {s : Bool} {p : Option Addr} {m c : Nat} {z : Int} (h : ZN w s p m c z) : ZN w false p m c (z.natAbs : Int) := by
  obtain ⟨xs, hx⟩ := h.ex
  exact ⟨⟨xs, by rw [Int.natAbs_natCast]; exact hx⟩, (decide_eq_false (Int.not_lt.2 (Int.natCast_nonneg _))).symm⟩
theorem near_zero (w : World) :
    Calls Tryz.prog 64 #[FR false none 0 0 false 0] w fun e w' => e = .returned (ZV false none 0 0) ∧ Below w.heap.size w w' := by
  go_enter Tryz.func64, Tryz.ntmps64
  go_wp2_with fail
  obtain ⟨W0, hW0⟩ : ∃ W0, W0 = ((w.alloc (.cells #[.bool false, .slice none 0 0, .bool false, .int .i64 0] 81)).alloc (.cells #[.bool false, .slice none 0 0] 33)) := ⟨_, rfl⟩
  have Xf : Hid (B4q W0 (w.heap.size) (.bool false) (.slice none 0 0) (.bool false) (.int .i64 0)) := by rw [hW0]; exact ⟨by go_simp, by go_simp, by go_simp, by go_simp, by go_simp, by go_simp, by go_simp, by go_simp⟩
  have Xr : Hid (Box W0 (w.heap.size + 1) (.bool false) (.slice none 0 0)) := by rw [hW0]; exact ⟨by go_simp, by go_simp, by go_simp, by go_simp⟩
  have hb0 : Below w.heap.size w W0 := by rw [hW0]; exact below2 w _ _
  rw [← hW0]
  clear hW0
  have hbw : Below w.heap.size w w := Below.refl _ _
  obtain ⟨gr, hgr⟩ : ∃ g, g = w.heap.size + 1 := ⟨_, rfl⟩
  have HGr : Hid (w.heap.size ≤ gr) := by rw [hgr]; show _ ≤ _; omega
  rw [← hgr] at Xr
  try rw [← hgr]
  obtain ⟨gf, hgf⟩ : ∃ g, g = w.heap.size := ⟨_, rfl⟩
  have HGf : Hid (w.heap.size ≤ gf) := by rw [hgf]; show _ ≤ _; omega
  rw [← hgf] at Xf
  try rw [← hgf]
  have HGD : Hid (gf ≠ gr ∧ gr ≠ gf) := by rw [hgf, hgr]; exact ⟨by omega, by omega⟩
  clear hgf hgr
  replace hbw := Below.on hbw hb0
  clear hb0
  obtain ⟨W1, hW1⟩ : ∃ W1, W1 = W0.drew := ⟨_, rfl⟩
  have hbd : Below W0.heap.size W0 W1 := by rw [hW1]; exact bDrew1 (Below.refl _ _)
  replace Xf : Hid _ := Xf.out.below hbd
  replace Xr : Hid _ := Xr.out.below hbd
  replace hbw := Below.on hbw hbd
  clear hbd
  have HJ : Hid ((fun W' : World => W'.cell? ⟨gf, 0, none⟩ = some (.bool false) ∧ W'.cell? ⟨gf, 1, none⟩ = some (.slice none 0 0) ∧ W'.cell? ⟨gf, 2, none⟩ = some (.bool false) ∧ W'.cell? ⟨gf, 3, none⟩ = some (.int .i64 0)) W1) := ⟨Xf.out.c0, Xf.out.c1, Xf.out.c2, Xf.out.c3⟩
  refine wp_region_J (fun W' => W'.cell? ⟨gf, 0, none⟩ = some (.bool false) ∧ W'.cell? ⟨gf, 1, none⟩ = some (.slice none 0 0) ∧ W'.cell? ⟨gf, 2, none⟩ = some (.bool false) ∧ W'.cell? ⟨gf, 3, none⟩ = some (.int .i64 0)) (by kernel_rfl) ?_
  rw [← hW1]
  clear hW1
  refine wpJ_tq 0 rfl HJ.out ?_
  refine wpJ_tq 1 rfl HJ.out ?_
  refine wpJ_tq 2 rfl HJ.out ?_
  refine wpJ_tq 3 rfl HJ.out ?_
  refine wpJ_tq 4 rfl HJ.out ?_
  refine wpJ_tq 5 rfl HJ.out ?_
  refine wpJ_tq 6 rfl HJ.out ?_
  refine wpJ_tq 7 rfl HJ.out ?_
  refine wpJ_tq 8 rfl HJ.out ?_
  refine wpJ_tq 9 rfl HJ.out ?_
  refine wpJ_tq 10 rfl HJ.out ?_
  refine wpJ_on 11 rfl fun KJ hK => ?_
  go_simp
  refine (bit_int (xs := []) (i := 0) (At.empty _ none 0 (by decide)) (by decide) (by decide)).mono ?_
  rintro e w2 ⟨rfl, hw⟩
  obtain rfl := hw.symm
  clear hw
  rw [show bitO (valB B64 []) 0 = false from by unfold bitO; simp [valB]]
  clear HJ
  have HJ : Hid ((fun W' : World => W'.cell? ⟨gf, 0, none⟩ = some (.bool false) ∧ W'.cell? ⟨gf, 1, none⟩ = some (.slice none 0 0) ∧ W'.cell? ⟨gf, 2, none⟩ = some (.bool false) ∧ W'.cell? ⟨gf, 3, none⟩ = some (.int .i64 0)) W1) := ⟨Xf.out.c0, Xf.out.c1, Xf.out.c2, Xf.out.c3⟩
  refine hK _ _ HJ.out ?_
  clear hK
  refine wpJ_tq 12 rfl HJ.out ?_
  refine wpJ_tq 13 rfl HJ.out ?_
  refine wpJ_on 14 rfl fun KJ hK => ?_
  go_simp
  refine (rounded_f none 0 false false 0 W1).mono ?_
  rintro e w9 ⟨rfl, hb9⟩
  rw [show (false && decide (0 < 0)) = false from rfl]
  replace Xf : Hid _ := Xf.out.below hb9
  replace Xr : Hid _ := Xr.out.below hb9
  replace hbw := Below.on hbw hb9
  clear hb9
  refine hK _ _ ⟨Xf.out.c0, Xf.out.c1, Xf.out.c2, Xf.out.c3⟩ ?_
  clear hK
  obtain ⟨cr0, cr1, fr0, fr1⟩ := Xr.out
  have hner := Xr.out.lt
  obtain ⟨cf0, cf1, cf2, cf3, ff0, ff1, ff2, ff3⟩ := Xf.out
  have hnef : gf < w9.heap.size := World.block_lt_of_cell? w9 _ cf0
  obtain ⟨hgd0, hgd1⟩ := HGD.out
  refine wpJ_on 15 rfl fun KJ hK => ?_
  go_simp
  have HJ2 : Hid ((fun W' : World => W'.cell? ⟨gf, 0, none⟩ = some (.bool false) ∧ W'.cell? ⟨gf, 1, none⟩ = some (.slice none 0 0) ∧ W'.cell? ⟨gf, 2, none⟩ = some (.bool false) ∧ W'.cell? ⟨gf, 3, none⟩ = some (.int .i64 0)) ((w9.setCell ⟨gr, 0, none⟩ (.bool false)).setCell ⟨gr, 1, none⟩ (.slice none 0 0))) := ⟨by go_simp, by go_simp, by go_simp, by go_simp⟩
  refine hK _ _ HJ2.out ?_
  clear hK HJ
  have HJ := HJ2
  clear HJ2
  refine wpJ_done (by kernel_rfl) ?_ _
  clear HJ
  go_wp2_with fail
  refine bodyPost_ret (v := ZV false none 0 0) (by rw [results_cell1 rfl]; go_simp) rfl ⟨rfl, ?_⟩
  exact bSet (bSet hbw _ _ _ HGr.out) _ _ _ HGr.out
theorem ansz_none (B : Nat) (w : World) : AnsZ B w (ZV false none 0 0) 0 := ⟨none, 0, [], rfl, ⟨rfl, Dig.nil _, .inl rfl⟩, Nf.nil _, by omega⟩
theorem nmod_zero {p q : Option Addr} {m c n d : Nat} {xs ys : List Nat} {a b : Nat} {w : World} (s : Bool) (h : Num w p m c xs a) (hs : s = true → 0 < a) (k : Num w q n d ys b) (hb : b = 0) :
    Calls Tryz.prog 32 #[ZV s p m c, ZV false q n d] w fun e w' => e = .returned (.tuple #[ZV false none 0 0, .int .i64 4]) ∧ Below w.heap.size w w' := by
  have H : Hid (Num w p m c xs a) := h
  have HS : Hid (s = true → 0 < a) := hs
  have K : Hid (Num w q n d ys b) := k
  have HB0 : Hid (b = 0) := hb
  clear h hs k hb
  go_enter Tryz.func32, Tryz.ntmps32
  go_wp2_with fail
  obtain ⟨W0, hW0⟩ : ∃ W0, W0 = (((w.alloc (.cells #[.bool s, .slice p m c] 33)).alloc (.cells #[.bool false, .slice q n d] 33)).alloc (.cells #[.bool false, .slice none 0 0] 33)) := ⟨_, rfl⟩
  have Xx : Hid (Box W0 (w.heap.size) (.bool s) (.slice p m c)) := by rw [hW0]; exact ⟨by go_simp, by go_simp, by go_simp, by go_simp⟩
  have Xy : Hid (Box W0 (w.heap.size + 1) (.bool false) (.slice q n d)) := by rw [hW0]; exact ⟨by go_simp, by go_simp, by go_simp, by go_simp⟩
  have Xr : Hid (Box W0 (w.heap.size + 1 + 1) (.bool false) (.slice none 0 0)) := by rw [hW0]; exact ⟨by go_simp, by go_simp, by go_simp, by go_simp⟩
  have hb0 : Below w.heap.size w W0 := by rw [hW0]; exact below3 w _ _ _
  rw [← hW0]
  clear hW0
  have hbw : Below w.heap.size w w := Below.refl _ _
  obtain ⟨gr, hgr⟩ : ∃ g, g = w.heap.size + 1 + 1 := ⟨_, rfl⟩
  have HGr : Hid (w.heap.size ≤ gr) := by rw [hgr]; show _ ≤ _; omega
  rw [← hgr] at Xr
  try rw [← hgr]
  obtain ⟨gy, hgy⟩ : ∃ g, g = w.heap.size + 1 := ⟨_, rfl⟩
  have HGy : Hid (w.heap.size ≤ gy) := by rw [hgy]; show _ ≤ _; omega
  rw [← hgy] at Xy
  try rw [← hgy]
  obtain ⟨gx, hgx⟩ : ∃ g, g = w.heap.size := ⟨_, rfl⟩
  have HGx : Hid (w.heap.size ≤ gx) := by rw [hgx]; show _ ≤ _; omega
  rw [← hgx] at Xx
  try rw [← hgx]
  have HGD : Hid (gx ≠ gy ∧ gx ≠ gr ∧ gy ≠ gx ∧ gy ≠ gr ∧ gr ≠ gx ∧ gr ≠ gy) := by rw [hgx, hgy, hgr]; exact ⟨by omega, by omega, by omega, by omega, by omega, by omega⟩
  clear hgx hgy hgr
  replace H : Hid _ := H.out.below hb0
  replace K : Hid _ := K.out.below hb0
  replace hbw := Below.on hbw hb0
  clear hb0
  refine (numform_t s H.out HS.out).mono ?_
  rintro e w1 ⟨rfl, hb1⟩
  replace Xx : Hid _ := Xx.out.below hb1
  replace Xy : Hid _ := Xy.out.below hb1
  replace Xr : Hid _ := Xr.out.below hb1
  replace H : Hid _ := H.out.below hb1
  replace K : Hid _ := K.out.below hb1
  replace hbw := Below.on hbw hb1
  clear hb1
  obtain ⟨cy0, cy1, fy0, fy1⟩ := Xy.out
  have hney := Xy.out.lt
  go_wp2_with fail
  clear cy0 cy1 fy0 fy1 hney
  refine (numform_t false K.out (fun hh => by cases hh)).mono ?_
  rintro e w2 ⟨rfl, hb2⟩
  replace Xx : Hid _ := Xx.out.below hb2
  replace Xy : Hid _ := Xy.out.below hb2
  replace Xr : Hid _ := Xr.out.below hb2
  replace H : Hid _ := H.out.below hb2
  replace K : Hid _ := K.out.below hb2
  replace hbw := Below.on hbw hb2
  clear hb2
  obtain ⟨cx0, cx1, fx0, fx1⟩ := Xx.out
  have hnex := Xx.out.lt
  obtain ⟨cy0, cy1, fy0, fy1⟩ := Xy.out
  have hney := Xy.out.lt
  go_wp2_with fail
  clear cx0 cx1 fx0 fx1 hnex
  clear cy0 cy1 fy0 fy1 hney
  refine (quorem_zero H.out.at_ K.out.at_ H.out.nf K.out.nf H.out.le K.out.le HB0.out).mono ?_
  rintro e w3 ⟨rfl, hw⟩
  obtain rfl := hw.symm
  clear hw
  obtain ⟨cy0, cy1, fy0, fy1⟩ := Xy.out
  have hney := Xy.out.lt
  go_wp2_with fail
  clear cy0 cy1 fy0 fy1 hney
  refine (signed_any false none 0 0 w2).mono ?_
  rintro e w6 ⟨rfl, hb6⟩
  rw [show (false && decide (0 < 0)) = false from rfl]
  replace Xx : Hid _ := Xx.out.below hb6
  replace Xy : Hid _ := Xy.out.below hb6
  replace Xr : Hid _ := Xr.out.below hb6
  replace H : Hid _ := H.out.below hb6
  replace K : Hid _ := K.out.below hb6
  replace hbw := Below.on hbw hb6
  clear hb6
  obtain ⟨cr0, cr1, fr0, fr1⟩ := Xr.out
  have hner := Xr.out.lt
  go_wp2_with fail
  refine bodyPost_ret (v := .tuple #[ZV false none 0 0, .int .i64 4]) (by rw [results_cell_tmp rfl]; go_simp) rfl ⟨rfl, ?_⟩
  exact bSet (bSet hbw _ _ _ HGr.out) _ _ _ HGr.out
theorem rdiv_err {p q : Option Addr} {m c n d : Nat} {s t : Bool} {w : World} (er : Int) (hi : ∀ W, Below w.heap.size w W → Calls Tryz.prog 61 #[ZV s p m c, ZV t q n d] W fun e w' => e = .returned (.tuple #[FR false none 0 0 false 0, .int .i64 er]) ∧ Below W.heap.size W w') :
    Calls Tryz.prog 31 #[ZV s p m c, ZV t q n d] w fun e w' => ∃ v, e = .returned (.tuple #[v, .int .i64 er]) ∧ AnsZ w.heap.size w' v 0 ∧ Below w.heap.size w w' := by
  have HI : Hid (∀ W, Below w.heap.size w W → Calls Tryz.prog 61 #[ZV s p m c, ZV t q n d] W fun e w' => e = .returned (.tuple #[FR false none 0 0 false 0, .int .i64 er]) ∧ Below W.heap.size W w') := hi
  obtain ⟨z, hz⟩ : ∃ z, z = (0 : Int) := ⟨_, rfl⟩
  rw [← hz]
  have HZ : Hid (z = ne false 0 0) := hz
  clear hi hz
  go_enter Tryz.func31, Tryz.ntmps31
  go_wp2_with fail
  obtain ⟨W0, hW0⟩ : ∃ W0, W0 = (((w.alloc (.cells #[.bool s, .slice p m c] 33)).alloc (.cells #[.bool t, .slice q n d] 33)).alloc (.cells #[.bool false, .slice none 0 0] 33)) := ⟨_, rfl⟩
  have Xx : Hid (Box W0 (w.heap.size) (.bool s) (.slice p m c)) := by rw [hW0]; exact ⟨by go_simp, by go_simp, by go_simp, by go_simp⟩
  have Xy : Hid (Box W0 (w.heap.size + 1) (.bool t) (.slice q n d)) := by rw [hW0]; exact ⟨by go_simp, by go_simp, by go_simp, by go_simp⟩
  have Xr : Hid (Box W0 (w.heap.size + 1 + 1) (.bool false) (.slice none 0 0)) := by rw [hW0]; exact ⟨by go_simp, by go_simp, by go_simp, by go_simp⟩
  have hb0 : Below w.heap.size w W0 := by rw [hW0]; exact below3 w _ _ _
  rw [← hW0]
  clear hW0
  have hbw : Below w.heap.size w w := Below.refl _ _
  obtain ⟨gr, hgr⟩ : ∃ g, g = w.heap.size + 1 + 1 := ⟨_, rfl⟩
  have HGr : Hid (w.heap.size ≤ gr) := by rw [hgr]; show _ ≤ _; omega
  rw [← hgr] at Xr
  try rw [← hgr]
  obtain ⟨gy, hgy⟩ : ∃ g, g = w.heap.size + 1 := ⟨_, rfl⟩
  have HGy : Hid (w.heap.size ≤ gy) := by rw [hgy]; show _ ≤ _; omega
  rw [← hgy] at Xy
  try rw [← hgy]
  obtain ⟨gx, hgx⟩ : ∃ g, g = w.heap.size := ⟨_, rfl⟩
  have HGx : Hid (w.heap.size ≤ gx) := by rw [hgx]; show _ ≤ _; omega
  rw [← hgx] at Xx
  try rw [← hgx]
  have HGD : Hid (gx ≠ gy ∧ gx ≠ gr ∧ gy ≠ gx ∧ gy ≠ gr ∧ gr ≠ gx ∧ gr ≠ gy) := by rw [hgx, hgy, hgr]; exact ⟨by omega, by omega, by omega, by omega, by omega, by omega⟩
  clear hgx hgy hgr
  replace hbw := Below.on hbw hb0
  clear hb0
  have HSZ : Hid (GeW W0.heap.size W0) := Nat.le_refl _
  have HRL : Hid (gr < W0.heap.size ∧ w.heap.size ≤ W0.heap.size) := ⟨Xr.out.lt, hbw.size⟩
  refine (HI.out W0 hbw).mono ?_
  rintro e w2 ⟨rfl, hb2⟩
  replace Xx : Hid _ := Xx.out.below hb2
  replace Xy : Hid _ := Xy.out.below hb2
  replace Xr : Hid _ := Xr.out.below hb2
  replace HSZ : Hid (GeW W0.heap.size w2) := HSZ.out.below hb2
  replace hbw := Below.on hbw hb2
  clear hb2
  have HF : Hid (FrIs W0.heap.size w2 false 0 0 none 0 [] false 0) := ⟨⟨rfl, Dig.nil _, .inl rfl⟩, Nf.nil _, by omega, rfl, .inr (.inl ⟨rfl, rfl⟩), small_lim (by decide)⟩
  obtain ⟨cr0, cr1, fr0, fr1⟩ := Xr.out
  have hner := Xr.out.lt
  go_wp2_with fail
  clear cr0 cr1 fr0 fr1 hner
  have Xf0 : Hid (B4q (w2.alloc (.cells #[.bool false, .slice none 0 0, .bool false, .int .i64 0] 81)) w2.heap.size (.bool false) (.slice none 0 0) (.bool false) (.int .i64 0)) := B4q.new w2 _ _ _ _ _
  have hbn : Below w2.heap.size w2 (w2.alloc (.cells #[.bool false, .slice none 0 0, .bool false, .int .i64 0] 81)) := below1 w2 _
  generalize w2.alloc (.cells #[.bool false, .slice none 0 0, .bool false, .int .i64 0] 81) = W3 at *
  have HGf : Hid (w.heap.size ≤ w2.heap.size) := hbw.size
  replace Xx : Hid _ := Xx.out.below hbn
  replace Xy : Hid _ := Xy.out.below hbn
  replace Xr : Hid _ := Xr.out.below hbn
  replace HSZ : Hid (GeW W0.heap.size W3) := HSZ.out.below hbn
  replace HF : Hid _ := HF.out.below hbn
  replace hbw := Below.on hbw hbn
  clear hbn
  generalize w2.heap.size = gf at *
  have Xf := Xf0
  clear Xf0
  refine (near_zero W3).mono ?_
  rintro e w4 ⟨rfl, hb4⟩
  replace Xx : Hid _ := Xx.out.below hb4
  replace Xy : Hid _ := Xy.out.below hb4
  replace Xr : Hid _ := Xr.out.below hb4
  replace Xf : Hid _ := Xf.out.below hb4
  replace HSZ : Hid (GeW W0.heap.size w4) := HSZ.out.below hb4
  replace HF : Hid _ := HF.out.below hb4
  replace hbw := Below.on hbw hb4
  clear hb4
  obtain ⟨cr0, cr1, fr0, fr1⟩ := Xr.out
  have hner := Xr.out.lt
  go_wp2_with fail
  refine bodyPost_ret (v := .tuple #[ZV false none 0 0, .int .i64 er]) (by rw [results_cell_tmp rfl]; go_simp) rfl ⟨_, rfl, ?_, ?_⟩
  · rw [HZ.out]
    exact ansz_none _ _
  · exact bSet (bSet hbw _ _ _ HGr.out) _ _ _ HGr.out
end Go.Proofs.YtmekccpbcjpddaaGreatDoor
