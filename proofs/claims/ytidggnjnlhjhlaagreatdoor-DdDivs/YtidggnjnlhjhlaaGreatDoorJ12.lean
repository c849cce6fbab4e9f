import Derived.Test.YtidggnjnlhjhlaaGreatDoorJ11
import Derived.Test.YtidggnjnlhjhlaaGreatDoorJ8
import Derived.Test.YtidggnjnlhjhlaaGreatDoorJ10
import Derived.Laws.Externs
namespace Go.Proofs.YtidggnjnlhjhlaaGreatDoor
open Go.RowKit Go.Shelf
set_option maxRecDepth 20000
set_option maxHeartbeats 0
theorem rg_big {A : Nat} (h : vs 4503599627370496 9218868437227405312 ≤ A) : rg 0 A = 9218868437227405312 := by
  obtain ⟨c, hc⟩ : ∃ c, c = 2046 := ⟨_, rfl⟩
  have hv := vs_E c 4503599627370496 (by omega) (by omega)
  rw [show c * 4503599627370496 + 4503599627370496 = 9218868437227405312 by subst hc; rfl] at hv
  rw [hv] at h
  have e1 : 4503599627370496 * 2 ^ c = 2 ^ (c + 52) := by rw [show 4503599627370496 = 2 ^ 52 by decide, ← Nat.pow_add, Nat.add_comm]
  rw [e1] at h
  have h0 : A ≠ 0 := by have := Nat.two_pow_pos (c + 52); omega
  have hl : c + 52 ≤ A.log2 := (Nat.le_log2 h0).2 h
  unfold rg
  rw [if_neg h0, Nat.sub_zero]
  obtain ⟨L, hL⟩ : ∃ L, L = A.log2 - 52 := ⟨_, rfl⟩
  rw [← hL]
  have h3 : 4503599627370496 ≤ rne A L := by
    refine le_rne A L _ (Nat.le_trans ?_ (Nat.log2_self_le h0))
    rw [show 4503599627370496 = 2 ^ 52 by decide, ← Nat.pow_add]
    exact p2le (by omega)
  clear h hv e1
  exact Nat.min_eq_right (by omega)
theorem size_all {w : World} {p1 p2 : Option Addr} {m1 m2 b A : Nat} (k1 : RN w p1 m1 b) (k2 : RN w p2 m2 1) (hb : b ≠ 0) (f : Int) (hf : -1074 ≤ f ∧ f ≤ 1000) (hB : bitsN b ≤ 2200) (hA : A = b * 2 ^ (f + 1074).toNat) : Calls Tryz.prog 101 #[FV 9223372036854775808 53 (-1074) 971 9218868437227405312 9221120237041090561, .agg #[.slice p1 m1 m1, .slice p2 m2 m2, .int .i64 f, .bool false]] w fun en w' => en = .returned (U (rg 0 A)) ∧ Below w.heap.size w w' := by
  rcases Nat.lt_or_ge A (vs 4503599627370496 9218868437227405312) with h | h
  · exact size_ok k1 k2 hb f hf hB hA h
  · rw [rg_big h]
    exact size_big k1 k2 hb f hf hB hA h
theorem told_a {w : World} {p : Option Addr} {m : Nat} {z : Int} (s : Bool) (h : ZR w s p m z) (hm : m ≤ 4000) (hz : z ≠ 0) (e : Int) (he : -1074 ≤ e ∧ e ≤ 1000) (hB : bitsN z.natAbs ≤ 2200) {A : Nat} (hA : A = z.natAbs * 2 ^ (e + 1074).toNat)  :
    Calls Tryz.prog 69 #[.int .i64 64, .agg #[.bool s, .slice p m m], .int .i64 e] w fun en w' => en = .returned (U (toldN z A)) ∧ Below w.heap.size w w' := by
  have NA : Hid (RN w p m z.natAbs) := h.rn hm
  have hm0 : ((m : Int) == 0) = false := by have := h.zero; simp; omega
  have HC : Hid (z.natAbs ≠ 0 ∧ (-1074 ≤ e ∧ e ≤ 1000) ∧ bitsN z.natAbs ≤ 2200 ∧ A = z.natAbs * 2 ^ (e + 1074).toNat ∧ s = decide (z < 0)) := ⟨by omega, he, hB, hA, h.sg⟩
  clear h hm hz he hB hA
  go_enter Tryz.func69, Tryz.ntmps69
  go_wp2_with fail
  obtain ⟨W0, hW0⟩ : ∃ W0, W0 = (w.alloc (.cells #[.bool s, .slice p m m] 87)) := ⟨_, rfl⟩
  have Xm : Hid (Box W0 (w.heap.size) (.bool s) (.slice p m m)) := by rw [hW0]; exact ⟨by go_simp, by go_simp, by go_simp, by go_simp⟩
  have hb0 : Below w.heap.size w W0 := by rw [hW0]; exact below1 w _
  rw [← hW0]
  clear hW0
  have hbw : Below w.heap.size w w := Below.refl _ _
  obtain ⟨gm, hgm⟩ : ∃ g, g = w.heap.size := ⟨_, rfl⟩
  have HGm : Hid (w.heap.size ≤ gm) := by rw [hgm]; show _ ≤ _; omega
  rw [← hgm] at Xm
  try rw [← hgm]
  clear hgm
  replace NA : Hid (RN W0 p m z.natAbs) := NA.out.below hb0
  replace hbw := Below.on hbw hb0
  clear hb0
  refine (rof_64 _).mono ?_
  rintro e v1 ⟨rfl, hb1⟩
  replace Xm : Hid _ := Xm.out.below hb1
  replace NA : Hid (RN v1 p m z.natAbs) := NA.out.below hb1
  replace hbw := Below.on hbw hb1
  clear hb1
  obtain ⟨cm0, cm1, fm0, fm1⟩ := Xm.out
  have hnem := Xm.out.lt
  go_wp2_with fail
  clear cm0 cm1 fm0 fm1 hnem
  have Xfm0 : Hid (B6q (v1.alloc (.cells #[U 9223372036854775808, .int .i64 53, .int .i64 (-1074), .int .i64 971, U 9218868437227405312, U 9221120237041090561] 119)) v1.heap.size (U 9223372036854775808) (.int .i64 53) (.int .i64 (-1074)) (.int .i64 971) (U 9218868437227405312) (U 9221120237041090561)) := B6q.new v1 _ _ _ _ _ _ _
  have hbn : Below v1.heap.size v1 (v1.alloc (.cells #[U 9223372036854775808, .int .i64 53, .int .i64 (-1074), .int .i64 971, U 9218868437227405312, U 9221120237041090561] 119)) := below1 v1 _
  generalize v1.alloc (.cells #[U 9223372036854775808, .int .i64 53, .int .i64 (-1074), .int .i64 971, U 9218868437227405312, U 9221120237041090561] 119) = Wf at *
  have HGfm : Hid (w.heap.size ≤ v1.heap.size) := hbw.size
  replace Xm : Hid _ := Xm.out.below hbn
  replace NA : Hid (RN Wf p m z.natAbs) := NA.out.below hbn
  replace hbw := Below.on hbw hbn
  clear hbn
  generalize v1.heap.size = gfm at *
  have Xfm := Xfm0
  clear Xfm0
  obtain ⟨V1, hV1⟩ : ∃ W1, W1 = Wf.drew := ⟨_, rfl⟩
  have hbd : Below Wf.heap.size Wf V1 := by rw [hV1]; exact bDrew1 (Below.refl _ _)
  replace Xm : Hid _ := Xm.out.below hbd
  replace Xfm : Hid _ := Xfm.out.below hbd
  replace NA : Hid (RN V1 p m z.natAbs) := NA.out.below hbd
  replace hbw := Below.on hbw hbd
  clear hbd
  have HJ : Hid ((fun W' : World => W'.cell? ⟨gfm, 0, none⟩ = some (U 9223372036854775808) ∧ W'.cell? ⟨gfm, 1, none⟩ = some (.int .i64 53) ∧ W'.cell? ⟨gfm, 2, none⟩ = some (.int .i64 (-1074)) ∧ W'.cell? ⟨gfm, 3, none⟩ = some (.int .i64 971) ∧ W'.cell? ⟨gfm, 4, none⟩ = some (U 9218868437227405312) ∧ W'.cell? ⟨gfm, 5, none⟩ = some (U 9221120237041090561) ∧ W'.cell? ⟨gm, 0, none⟩ = some (.bool s) ∧ W'.cell? ⟨gm, 1, none⟩ = some (.slice p m m)) V1) := ⟨Xfm.out.c0, Xfm.out.c1, Xfm.out.c2, Xfm.out.c3, Xfm.out.c4, Xfm.out.c5, Xm.out.c0, Xm.out.c1⟩
  refine wp_region_J (fun W' => W'.cell? ⟨gfm, 0, none⟩ = some (U 9223372036854775808) ∧ W'.cell? ⟨gfm, 1, none⟩ = some (.int .i64 53) ∧ W'.cell? ⟨gfm, 2, none⟩ = some (.int .i64 (-1074)) ∧ W'.cell? ⟨gfm, 3, none⟩ = some (.int .i64 971) ∧ W'.cell? ⟨gfm, 4, none⟩ = some (U 9218868437227405312) ∧ W'.cell? ⟨gfm, 5, none⟩ = some (U 9221120237041090561) ∧ W'.cell? ⟨gm, 0, none⟩ = some (.bool s) ∧ W'.cell? ⟨gm, 1, none⟩ = some (.slice p m m)) (by kernel_rfl) ?_
  rw [← hV1]
  clear hV1
  refine wpJ_tq 0 rfl HJ.out ?_
  refine wpJ_tq 1 rfl HJ.out ?_
  refine wpJ_tq 2 rfl HJ.out ?_
  refine wpJ_tq 3 rfl HJ.out ?_
  refine wpJ_tq 4 rfl HJ.out ?_
  go_simp
  refine wpJ_tq 5 rfl HJ.out ?_
  refine wpJ_tq 7 rfl HJ.out ?_
  refine wpJ_on 6 rfl fun KJ hK => ?_
  go_simp
  refine (rn_word 1 (by decide)).mono ?_
  rintro en v2 ⟨p2, m2, rfl, hn2, hb2⟩
  replace Xm : Hid _ := Xm.out.below hb2
  replace Xfm : Hid _ := Xfm.out.below hb2
  replace NA : Hid (RN v2 p m z.natAbs) := NA.out.below hb2
  replace hbw := Below.on hbw hb2
  clear hb2
  have N2 : Hid (RN v2 p2 m2 (1)) := hn2
  clear hn2
  clear HJ
  have HJ : Hid ((fun W' : World => W'.cell? ⟨gfm, 0, none⟩ = some (U 9223372036854775808) ∧ W'.cell? ⟨gfm, 1, none⟩ = some (.int .i64 53) ∧ W'.cell? ⟨gfm, 2, none⟩ = some (.int .i64 (-1074)) ∧ W'.cell? ⟨gfm, 3, none⟩ = some (.int .i64 971) ∧ W'.cell? ⟨gfm, 4, none⟩ = some (U 9218868437227405312) ∧ W'.cell? ⟨gfm, 5, none⟩ = some (U 9221120237041090561) ∧ W'.cell? ⟨gm, 0, none⟩ = some (.bool s) ∧ W'.cell? ⟨gm, 1, none⟩ = some (.slice p m m)) v2) := ⟨Xfm.out.c0, Xfm.out.c1, Xfm.out.c2, Xfm.out.c3, Xfm.out.c4, Xfm.out.c5, Xm.out.c0, Xm.out.c1⟩
  refine hK _ _ HJ.out ?_
  clear hK
  refine wpJ_tq 8 rfl HJ.out ?_
  refine wpJ_on 9 rfl fun KJ hK => ?_
  go_simp
  refine (size_all NA.out N2.out HC.out.1 e HC.out.2.1 HC.out.2.2.1 HC.out.2.2.2.1).mono ?_
  rintro e v3 ⟨rfl, hb3⟩
  replace Xm : Hid _ := Xm.out.below hb3
  replace Xfm : Hid _ := Xfm.out.below hb3
  replace NA : Hid (RN v3 p m z.natAbs) := NA.out.below hb3
  replace N2 : Hid (RN v3 p2 m2 (1)) := N2.out.below hb3
  replace hbw := Below.on hbw hb3
  clear hb3
  refine hK _ _ ⟨Xfm.out.c0, Xfm.out.c1, Xfm.out.c2, Xfm.out.c3, Xfm.out.c4, Xfm.out.c5, Xm.out.c0, Xm.out.c1⟩ ?_
  clear hK
  refine wpJ_on 10 rfl fun KJ hK => ?_
  go_simp
  refine (signed_ok z s HC.out.2.2.2.2 A _).mono ?_
  rintro e v4 ⟨rfl, hb4⟩
  replace Xm : Hid _ := Xm.out.below hb4
  replace Xfm : Hid _ := Xfm.out.below hb4
  replace NA : Hid (RN v4 p m z.natAbs) := NA.out.below hb4
  replace N2 : Hid (RN v4 p2 m2 (1)) := N2.out.below hb4
  replace hbw := Below.on hbw hb4
  clear hb4
  clear HJ
  have HJ : Hid ((fun W' : World => W'.cell? ⟨gfm, 0, none⟩ = some (U 9223372036854775808) ∧ W'.cell? ⟨gfm, 1, none⟩ = some (.int .i64 53) ∧ W'.cell? ⟨gfm, 2, none⟩ = some (.int .i64 (-1074)) ∧ W'.cell? ⟨gfm, 3, none⟩ = some (.int .i64 971) ∧ W'.cell? ⟨gfm, 4, none⟩ = some (U 9218868437227405312) ∧ W'.cell? ⟨gfm, 5, none⟩ = some (U 9221120237041090561) ∧ W'.cell? ⟨gm, 0, none⟩ = some (.bool s) ∧ W'.cell? ⟨gm, 1, none⟩ = some (.slice p m m)) v4) := ⟨Xfm.out.c0, Xfm.out.c1, Xfm.out.c2, Xfm.out.c3, Xfm.out.c4, Xfm.out.c5, Xm.out.c0, Xm.out.c1⟩
  refine hK _ _ HJ.out ?_
  clear hK
  refine wpJ_tq 11 rfl HJ.out ?_
  go_simp
  refine wpJ_done (by kernel_rfl) ?_ _
  clear HJ
  go_wp2_with fail
  go_ret
  exact ⟨rfl, hbw⟩
end Go.Proofs.YtidggnjnlhjhlaaGreatDoor
namespace Go.Proofs.YtidggnjnlhjhlaaGreatDoor
open Go.RowKit
set_option maxRecDepth 20000
set_option maxHeartbeats 0
theorem ordI (x y : Int) : compare x y = if x < y then .lt else if x = y then .eq else .gt := rfl
theorem ordI_mul (x y : Int) {k : Nat} (hk : 0 < k) : compare (x * (k : Int)) (y * (k : Int)) = compare x y := by
  have hk' : (0 : Int) < (k : Int) := by omega
  rw [ordI, ordI]
  have h1 : (x * (k : Int) < y * (k : Int)) ↔ x < y := ⟨fun h => Int.lt_of_mul_lt_mul_right h (Int.le_of_lt hk'), fun h => Int.mul_lt_mul_of_pos_right h hk'⟩
  have h2 : (x * (k : Int) = y * (k : Int)) ↔ x = y := ⟨fun h => Int.eq_of_mul_eq_mul_right (by omega) h, fun h => by rw [h]⟩
  simp only [h1, h2]
theorem order_fin {a b : Nat} (ha : Fin64 a) (hb : Fin64 b) : Ieee.double.order a b = some (compare (ux a) (ux b)) := by
  obtain ⟨m, q, h1, h2⟩ := read_fin ha.lt ha.fin
  obtain ⟨n, r, h3, h4⟩ := read_fin hb.lt hb.fin
  unfold Ieee.Format.order
  rw [h1, h3, ux_of h2, ux_of h4]
  unfold Ieee.Datum.order
  dsimp only
  obtain ⟨d, hd⟩ : ∃ d, d = min q r := ⟨_, rfl⟩
  have e1 : (-1074 + (q : Int) - min (-1074 + (q : Int)) (-1074 + (r : Int))).toNat = q - d := by omega
  have e2 : (-1074 + (r : Int) - min (-1074 + (q : Int)) (-1074 + (r : Int))).toNat = r - d := by omega
  rw [e1, e2, ← ordI_mul _ _ (p2pos d), signed_up, signed_up, show q - d + d = q by omega, show r - d + d = r by omega]
def InfP (r : Nat) : Prop := r % 9223372036854775808 = 9218868437227405312
theorem three64 (r : Nat) (h : r < 18446744073709551616) : Fin64 r ∨ InfP r ∨ NanP r := by
  unfold InfP NanP
  rcases Nat.lt_trichotomy (r % 9223372036854775808) 9218868437227405312 with h1 | h1 | h1
  · exact .inl ⟨h, h1⟩
  · exact .inr (.inl h1)
  · exact .inr (.inr h1)
theorem read_inf {b : Nat} (h : InfP b) : Ieee.double.read b = .infinity (b / 9223372036854775808 % 2 == 1) := by
  have e1 : Ieee.double.leastPlace = -1074 := by decide
  have e2 : Ieee.double.binade = 4503599627370496 := by decide
  have e3 : Ieee.double.infRung = 9218868437227405312 := by decide
  have e4 : Ieee.double.signWeight = 9223372036854775808 := by decide
  unfold InfP at h
  unfold Ieee.Format.read
  rw [e1, e2, e3, e4]
  dsimp only
  rw [h]
  simp
theorem read_nan {b : Nat} (h : NanP b) : ∃ s m, Ieee.double.read b = .nan s m := by
  have e2 : Ieee.double.binade = 4503599627370496 := by decide
  have e3 : Ieee.double.infRung = 9218868437227405312 := by decide
  have e4 : Ieee.double.signWeight = 9223372036854775808 := by decide
  unfold NanP at h
  unfold Ieee.Format.read
  rw [e2, e3, e4]
  dsimp only
  rw [if_neg (by omega), if_neg (by omega), if_neg (by omega)]
  exact ⟨_, _, rfl⟩
theorem order_nan {a b : Nat} (h : NanP a ∨ NanP b) : Ieee.double.order a b = none := by
  unfold Ieee.Format.order
  rcases h with h | h
  · obtain ⟨s, m, hr⟩ := read_nan h; rw [hr]; rfl
  · obtain ⟨s, m, hr⟩ := read_nan h; rw [hr]
    cases Ieee.double.read a <;> rfl
theorem order_inf {a b : Nat} (h : InfP a) (hb : Fin64 b) : Ieee.double.order a b = some .lt ∨ Ieee.double.order a b = some .gt := by
  unfold Ieee.Format.order
  obtain ⟨n, r, h3, h4⟩ := read_fin hb.lt hb.fin
  rw [read_inf h, h3]
  unfold Ieee.Datum.order
  cases (a / 9223372036854775808 % 2 == 1)
  · exact .inr rfl
  · exact .inl rfl
def rv (X : Int) : Int := if X < 0 then -(vs 4503599627370496 (rg 0 X.natAbs) : Int) else (vs 4503599627370496 (rg 0 X.natAbs) : Int)
theorem sm_word2 {X : Int} {neg : Bool} (h1 : rg 0 X.natAbs < 9218868437227405312) (hn : X ≠ 0 → neg = decide (X < 0)) : Fin64 (Ieee.double.word neg (rg 0 X.natAbs)) ∧ ux (Ieee.double.word neg (rg 0 X.natAbs)) = rv X ∧ Rn 53 X (rv X) := by
  obtain ⟨a, b, c⟩ := word_facts neg h1
  have hc : ux (Ieee.double.word neg (rg 0 X.natAbs)) = rv X := by
    rw [c]
    unfold rv
    by_cases h0 : X = 0
    · subst h0
      have h3 : vs 4503599627370496 (rg 0 (Int.natAbs 0)) = 0 := by rw [show rg 0 (Int.natAbs 0) = 0 from rfl]; simp [vs]
      rw [h3]; cases neg <;> simp
    · rw [hn h0]; by_cases h3 : X < 0 <;> simp [h3]
  refine ⟨⟨a, by rw [b]; exact h1⟩, hc, ?_⟩
  have h2 := rg_rn X.natAbs h1
  unfold rv
  by_cases h3 : X < 0
  · rw [if_pos h3]
    have := h2.neg
    rw [show -((X.natAbs : Nat) : Int) = X by omega] at this
    exact this
  · rw [if_neg h3]
    rw [show ((X.natAbs : Nat) : Int) = X by omega] at h2
    exact h2
theorem rg_top (n : Nat) : rg 0 n ≤ 9218868437227405312 := by
  unfold rg
  split
  · omega
  · exact Nat.min_le_right ..
theorem fl_add_any {a b : Nat} (ha : Fin64 a) (hb : Fin64 b) : ∃ r, floatBits .add .f64 a b = some r ∧ ((Fin64 r ∧ ux r = rv (ux a + ux b) ∧ Rn 53 (ux a + ux b) (ux r)) ∨ InfP r) ∧ (rg 0 (ux a + ux b).natAbs < 9218868437227405312 ↔ Fin64 r) := by
  obtain ⟨m, q, h1, h2⟩ := read_fin ha.lt ha.fin
  obtain ⟨n, t, h3, h4⟩ := read_fin hb.lt hb.fin
  have hX : ux a + ux b = Ieee.signed (decide (9223372036854775808 ≤ a)) m q + Ieee.signed (decide (9223372036854775808 ≤ b)) n t := by rw [ux_of h2, ux_of h4]
  refine ⟨Ieee.double.word (if ux a + ux b = 0 then decide (9223372036854775808 ≤ a) && decide (9223372036854775808 ≤ b) else decide (ux a + ux b < 0)) (rg 0 (ux a + ux b).natAbs), ?_, ?_⟩
  · show ((Ieee.double.read a).sum (Ieee.double.read b)).map Ieee.double.write = _
    rw [h1, h3]
    exact sum_fin _ _ _ _ _ _ _ hX
  · rcases Nat.lt_or_ge (rg 0 (ux a + ux b).natAbs) 9218868437227405312 with h | h
    · obtain ⟨f1, f2, f3⟩ := sm_word2 (neg := if ux a + ux b = 0 then decide (9223372036854775808 ≤ a) && decide (9223372036854775808 ≤ b) else decide (ux a + ux b < 0)) h fun h0 => if_neg h0
      exact ⟨.inl ⟨f1, f2, by rw [f2]; exact f3⟩, fun _ => f1, fun _ => h⟩
    · have h5 : rg 0 (ux a + ux b).natAbs = 9218868437227405312 := Nat.le_antisymm (rg_top _) h
      have e4 : Ieee.double.signWeight = 9223372036854775808 := by decide
      have h6 : InfP (Ieee.double.word (if ux a + ux b = 0 then decide (9223372036854775808 ≤ a) && decide (9223372036854775808 ≤ b) else decide (ux a + ux b < 0)) (rg 0 (ux a + ux b).natAbs)) := by
        rw [h5]
        unfold InfP Ieee.Format.word
        rw [e4]
        cases (if ux a + ux b = 0 then decide (9223372036854775808 ≤ a) && decide (9223372036854775808 ≤ b) else decide (ux a + ux b < 0)) <;> simp
      refine ⟨.inr h6, fun h7 => absurd h7 (by omega), fun h7 => ?_⟩
      have h8 := h7.fin
      unfold InfP at h6
      omega
theorem fl_add_not {a b : Nat} (ha : Fin64 a) (hb : ¬ Fin64 b) (hlt : b < 18446744073709551616) : floatBits .add .f64 a b = none ∨ ∃ r, floatBits .add .f64 a b = some r ∧ InfP r := by
  obtain ⟨m, q, h1, h2⟩ := read_fin ha.lt ha.fin
  rcases three64 b hlt with h | h | h
  · exact absurd h hb
  · refine .inr ?_
    have e : floatBits .add .f64 a b = ((Ieee.double.read a).sum (Ieee.double.read b)).map Ieee.double.write := rfl
    rw [e, h1, read_inf h]
    cases (b / 9223372036854775808 % 2 == 1)
    · exact ⟨_, rfl, by unfold InfP; decide⟩
    · exact ⟨_, rfl, by unfold InfP; decide⟩
  · refine .inl ?_
    have e : floatBits .add .f64 a b = ((Ieee.double.read a).sum (Ieee.double.read b)).map Ieee.double.write := rfl
    obtain ⟨s, k, hr⟩ := read_nan h
    rw [e, h1, hr]; rfl
structure DdF (h l : Nat) : Prop where
  hi : Fin64 h
  lo : Fin64 l
  fit : rg 0 (ux h + ux l).natAbs < 9218868437227405312
  eq : rv (ux h + ux l) = ux h
theorem DdF.rn {h l : Nat} (d : DdF h l) : Rn 53 (ux h + ux l) (ux h) := by
  have := (sm_word2 (neg := decide (ux h + ux l < 0)) d.fit fun _ => rfl).2.2
  rw [d.eq] at this
  exact this
theorem form_iff {h l r : Nat} (hh : Fin64 h) (hl : l < 18446744073709551616) (F : FlR .add h l r) : Ieee.double.order r h = some .eq ↔ DdF h l := by
  by_cases hf : Fin64 l
  · obtain ⟨r', e1, e2, e3⟩ := fl_add_any hh hf
    obtain rfl : r = r' := F.some _ e1
    rcases e2 with ⟨f1, f2, f3⟩ | h6
    · rw [order_fin f1 hh, f2, ordI]
      constructor
      · intro h7
        refine ⟨hh, hf, e3.2 f1, ?_⟩
        split at h7
        · cases h7
        · split at h7
          · assumption
          · cases h7
      · intro d
        rw [if_neg (by rw [d.eq]; omega), if_pos d.eq]
    · constructor
      · intro h7
        rcases order_inf h6 hh with h8 | h8 <;> rw [h8] at h7 <;> cases h7
      · intro d
        have h8 := (e3.1 d.fit).fin
        unfold InfP at h6
        omega
  · constructor
    · intro h7
      rcases fl_add_not hh hf hl with h8 | ⟨r', h8, h9⟩
      · rw [order_nan (.inl (F.none h8))] at h7; cases h7
      · obtain rfl : r = r' := F.some _ h8
        rcases order_inf h9 hh with h8 | h8 <;> rw [h8] at h7 <;> cases h7
    · intro d
      exact absurd d.lo hf
theorem dd_order {h l h' l' : Nat} (d : DdF h l) (d' : DdF h' l') :
    compare (ux h + ux l) (ux h' + ux l') = if ux h = ux h' then compare (ux l) (ux l') else compare (ux h) (ux h') := by
  have key : ∀ {X X' H H' : Int}, Rn 53 X H → Rn 53 X' H' → H < H' → X ≤ X' := fun {X X' H H'} a a' hlt => by
    have h1 := a.2 H' a'.1
    have h2 := a'.2 H a.1
    omega
  have key2 : ∀ {a b c e : Nat}, DdF a b → DdF c e → ux a < ux c → ux a + ux b < ux c + ux e := fun {a b c e} x y hlt => by
    have h1 := key x.rn y.rn hlt
    rcases Int.lt_or_eq_of_le h1 with h2 | h2
    · exact h2
    · have h3 := x.eq
      rw [h2, y.eq] at h3
      omega
  by_cases he : ux h = ux h'
  · rw [if_pos he, ordI, ordI, he]
    simp only [Int.add_lt_add_iff_left, Int.add_right_inj]
  · rw [if_neg he, ordI, ordI]
    rcases Int.lt_or_gt_of_ne he with h1 | h1
    · rw [if_pos (key2 d d' h1), if_pos h1]
    · have h2 := key2 d' d h1
      rw [if_neg (by omega), if_neg (by omega), if_neg (by omega), if_neg (by omega)]
def flipS (b : Nat) : Nat := if 9223372036854775808 ≤ b then b - 9223372036854775808 else b + 9223372036854775808
theorem flip_ux {b : Nat} (hb : b < 18446744073709551616) : ux (flipS b) = -ux b ∧ flipS b < 18446744073709551616 ∧ flipS b % 9223372036854775808 = b % 9223372036854775808 := by
  rw [ux_eq, ux_eq]
  unfold flipS
  split
  · rename_i h
    rw [if_neg (by omega), show (b - 9223372036854775808) % 9223372036854775808 = b % 9223372036854775808 by omega]
    exact ⟨by omega, by omega, rfl⟩
  · rename_i h
    rw [if_pos (by omega), show (b + 9223372036854775808) % 9223372036854775808 = b % 9223372036854775808 by omega]
    exact ⟨by omega, by omega, rfl⟩
theorem rv_neg (X : Int) : rv (-X) = -rv X := by
  unfold rv
  rw [Int.natAbs_neg]
  rcases Int.lt_trichotomy X 0 with h | h | h
  · rw [if_neg (by omega), if_pos h]; omega
  · subst h
    have h3 : vs 4503599627370496 (rg 0 (Int.natAbs 0)) = 0 := by rw [show rg 0 (Int.natAbs 0) = 0 from rfl]; simp [vs]
    rw [h3]; simp
  · rw [if_pos (by omega), if_neg (by omega)]
theorem Fin64.flipS {b : Nat} (h : Fin64 b) : Fin64 (flipS b) := by
  obtain ⟨_, h2, h3⟩ := flip_ux h.lt
  exact ⟨h2, by rw [h3]; exact h.fin⟩
theorem DdF.neg {h l : Nat} (d : DdF h l) : DdF (flipS h) (flipS l) := by
  have h1 := (flip_ux d.hi.lt).1
  have h2 := (flip_ux d.lo.lt).1
  have h3 : ux (flipS h) + ux (flipS l) = -(ux h + ux l) := by rw [h1, h2]; omega
  refine ⟨d.hi.flipS, d.lo.flipS, ?_, ?_⟩
  · rw [h3, Int.natAbs_neg]; exact d.fit
  · rw [h3, rv_neg, d.eq, h1]
end Go.Proofs.YtidggnjnlhjhlaaGreatDoor
namespace Go.Proofs.YtidggnjnlhjhlaaGreatDoor
open Go.RowKit Go.Shelf
set_option maxRecDepth 20000
set_option maxHeartbeats 0
structure B3q (W : World) (g : Nat) (v0 v1 v2 : Value) : Prop where
  c0 : W.cell? ⟨g, 0, none⟩ = some v0
  c1 : W.cell? ⟨g, 1, none⟩ = some v1
  c2 : W.cell? ⟨g, 2, none⟩ = some v2
  f0 : W.frozen? ⟨g, 0, none⟩ = false
  f1 : W.frozen? ⟨g, 1, none⟩ = false
  f2 : W.frozen? ⟨g, 2, none⟩ = false
theorem B3q.lt {w : World} {g : Nat} {a b c : Value} (h : B3q w g a b c) : g < w.heap.size := World.block_lt_of_cell? w _ h.c0
theorem B3q.below {W W' : World} {g : Nat} {v0 v1 v2 : Value} (h : B3q W g v0 v1 v2) (hb : Below W.heap.size W W') : B3q W' g v0 v1 v2 := by
  have hl : g < W.heap.size := World.block_lt_of_cell? W _ h.c0
  exact ⟨(hb.cell (p := ⟨g, 0, none⟩) hl).trans h.c0, (hb.cell (p := ⟨g, 1, none⟩) hl).trans h.c1, (hb.cell (p := ⟨g, 2, none⟩) hl).trans h.c2, (hb.frozen (p := ⟨g, 0, none⟩) hl).trans h.f0, (hb.frozen (p := ⟨g, 1, none⟩) hl).trans h.f1, (hb.frozen (p := ⟨g, 2, none⟩) hl).trans h.f2⟩
theorem B3q.new (w : World) (ty : TypeId) (v0 v1 v2 : Value) : B3q (w.alloc (.cells #[v0, v1, v2] ty)) w.heap.size v0 v1 v2 := ⟨by go_simp, by go_simp, by go_simp, by go_simp, by go_simp, by go_simp⟩
def DFm (z e : Int) : Prop := (z = 0 ∧ e = 0) ∨ (z % 2 = 1 ∧ -1048576 ≤ e ∧ e ≤ 1048576)
structure DN (w : World) (s : Bool) (p : Option Addr) (m c : Nat) (e z : Int) : Prop where
  zn : ZN w s p m c z
  fm : DFm z e
theorem DN.below {w w' : World} {s : Bool} {p : Option Addr} {m c : Nat} {e z : Int} (h : DN w s p m c e z) (hb : Below w.heap.size w w') : DN w' s p m c e z := ⟨h.zn.below hb, h.fm⟩
def dv (z e : Int) : Int := z * ((2 ^ (e + 4194304).toNat : Nat) : Int)
theorem vs_max {r : Nat} (h : r < 9218868437227405312) : vs 4503599627370496 r ≤ MaxU := by
  obtain ⟨K, hK⟩ : ∃ K, K = 2045 := ⟨_, rfl⟩
  rw [MaxU_eq hK]
  unfold vs
  refine Nat.mul_le_mul (by omega) (p2le (by omega))
theorem ux_pos {r : Nat} (h : r < 9223372036854775808) : ux r = (vs 4503599627370496 r : Int) := by
  rw [ux_eq, if_neg (by omega), Nat.mod_eq_of_lt h]
theorem ux_max : ux 9218868437227405311 = (MaxU : Int) := by
  rw [ux_pos (by decide)]
  have h : vs 4503599627370496 9218868437227405311 = MaxU := by decide +kernel
  rw [h]
theorem order_max {r : Nat} (h : r < 9218868437227405312) : FloatKind.f64.format.order r 9218868437227405311 = some .lt ∨ FloatKind.f64.format.order r 9218868437227405311 = some .eq := by
  have e : FloatKind.f64.format.order r 9218868437227405311 = Ieee.double.order r 9218868437227405311 := rfl
  rw [e, order_fin ⟨by omega, by omega⟩ ⟨by decide, by decide⟩, ux_max, ux_pos (by omega), ordI]
  have := vs_max h
  rcases Nat.lt_or_eq_of_le this with h1 | h1
  · rw [if_pos (by omega)]; exact .inl rfl
  · rw [if_neg (by omega), if_pos (by omega)]; exact .inr rfl
theorem order_inf_max : FloatKind.f64.format.order 9218868437227405312 9218868437227405311 = some .gt := by decide +kernel
theorem mabs (x : Nat) (hx : x < 18446744073709551616) (w : World) : Calls Tryz.prog 119 #[Fv x] w fun en w' => en = .returned (Fv (x % 9223372036854775808)) ∧ w' = w := by
  have bo1 : ∀ w, (callFunc 57 #[Fv x]).run Tryz.prog w = .ok (.value (.int .u64 (x : Int))) w := fun w => bitsOf x w
  have br3 : bits BinOp.andNot IntKind.u64 (x : Int) 9223372036854775808 = ((x % 9223372036854775808 : Nat) : Int) := sign_andNot x 9223372036854775808 63 (by decide) (by omega) (by omega)
  generalize x % 9223372036854775808 = y at br3 ⊢
  have fb2 : ∀ w, (callFunc 58 #[.int .u64 (y : Int)]).run Tryz.prog w = .ok (.value (Fv y)) w := fun w => frombits _ w
  go_enter Tryz.func119, Tryz.ntmps119
  go_wp2_with fail
  go_ret
  exact ⟨rfl, rfl⟩
theorem isinf (x : Nat) (hx : x < 18446744073709551616) (w : World) : Calls Tryz.prog 85 #[Fv x, .int .i64 0] w fun en w' => en = .returned (.bool (decide (x % 9223372036854775808 = 9218868437227405312))) ∧ w' = w := by
  have HX := mabs x hx
  generalize hy : x % 9223372036854775808 = y at HX ⊢
  have hc : ∃ o, FloatKind.f64.format.order y 9218868437227405311 = o ∧ (o == some .gt) = decide (y = 9218868437227405312) := by
    rcases Nat.lt_trichotomy y 9218868437227405312 with h | h | h
    · have : decide (y = 9218868437227405312) = false := decide_eq_false (by omega)
      rcases order_max h with h1 | h1
      · exact ⟨_, h1, by rw [this]; rfl⟩
      · exact ⟨_, h1, by rw [this]; rfl⟩
    · subst h; exact ⟨_, order_inf_max, by simp⟩
    · have : decide (y = 9218868437227405312) = false := decide_eq_false (by omega)
      exact ⟨none, order_nan (.inl (by unfold NanP; omega)), by rw [this]; rfl⟩
  obtain ⟨o, ho, hb⟩ := hc
  rw [← hb]
  clear hb hy hx
  go_enter Tryz.func85, Tryz.ntmps85
  go_wp2_with fail
  refine (HX _).mono ?_
  rintro e v9 ⟨rfl, hw⟩
  obtain rfl := hw.symm
  clear hw
  rcases o with _ | _ | _ | _
  all_goals
    go_wp2_with fail
    go_ret
    exact ⟨by kernel_rfl, rfl⟩
theorem isnan (x : Nat) (hx : x < 18446744073709551616) (w : World) : Calls Tryz.prog 86 #[Fv x] w fun en w' => en = .returned (.bool (decide (9218868437227405312 < x % 9223372036854775808))) ∧ w' = w := by
  have hc : ∃ o, FloatKind.f64.format.order x x = o ∧ (o != some .eq) = decide (9218868437227405312 < x % 9223372036854775808) := by
    rcases three64 x hx with h | h | h
    · refine ⟨_, order_fin h h, ?_⟩
      rw [ordI, if_neg (by omega), if_pos rfl, decide_eq_false (by have := h.fin; omega)]; rfl
    · refine ⟨some .eq, ?_, ?_⟩
      · show Ieee.double.order x x = _
        unfold Ieee.Format.order
        rw [read_inf h]
        unfold Ieee.Datum.order
        cases (x / 9223372036854775808 % 2 == 1) <;> rfl
      · unfold InfP at h
        rw [decide_eq_false (by omega)]; rfl
    · refine ⟨none, order_nan (.inl h), ?_⟩
      unfold NanP at h
      rw [decide_eq_true h]; rfl
  obtain ⟨o, ho, hb⟩ := hc
  rw [← hb]
  clear hb hx
  go_enter Tryz.func86, Tryz.ntmps86
  rcases o with _ | _ | _ | _
  all_goals
    go_wp2_with fail
    go_ret
    exact ⟨by kernel_rfl, rfl⟩
def finB (x : Nat) : Bool := decide (x % 9223372036854775808 < 9218868437227405312)
theorem ddfinite (x : Nat) (hx : x < 18446744073709551616) (w : World) : Calls Tryz.prog 59 #[Fv x] w fun en w' => en = .returned (.bool (finB x)) ∧ w' = w := by
  have H1 := isinf x hx
  have H2 := isnan x hx
  unfold finB
  generalize x % 9223372036854775808 = y at H1 H2 ⊢
  rcases Nat.lt_trichotomy y 9218868437227405312 with h | h | h
  · rw [decide_eq_true h]
    rw [decide_eq_false (show ¬ y = 9218868437227405312 by omega)] at H1
    rw [decide_eq_false (show ¬ 9218868437227405312 < y by omega)] at H2
    clear h hx
    go_enter Tryz.func59, Tryz.ntmps59
    go_wp2_with fail
    refine (H1 _).mono ?_
    rintro e v9 ⟨rfl, hw⟩
    obtain rfl := hw.symm
    clear hw
    go_wp2_with fail
    refine (H2 _).mono ?_
    rintro e v9 ⟨rfl, hw⟩
    obtain rfl := hw.symm
    clear hw
    go_wp2_with fail
    go_ret
    exact ⟨rfl, rfl⟩
  · rw [decide_eq_false (show ¬ y < 9218868437227405312 by omega)]
    rw [decide_eq_true h] at H1
    clear h hx H2
    go_enter Tryz.func59, Tryz.ntmps59
    go_wp2_with fail
    refine (H1 _).mono ?_
    rintro e v9 ⟨rfl, hw⟩
    obtain rfl := hw.symm
    clear hw
    go_wp2_with fail
    go_ret
    exact ⟨rfl, rfl⟩
  · rw [decide_eq_false (show ¬ y < 9218868437227405312 by omega)]
    rw [decide_eq_false (show ¬ y = 9218868437227405312 by omega)] at H1
    rw [decide_eq_true h] at H2
    clear h hx
    go_enter Tryz.func59, Tryz.ntmps59
    go_wp2_with fail
    refine (H1 _).mono ?_
    rintro e v9 ⟨rfl, hw⟩
    obtain rfl := hw.symm
    clear hw
    go_wp2_with fail
    refine (H2 _).mono ?_
    rintro e v9 ⟨rfl, hw⟩
    obtain rfl := hw.symm
    clear hw
    go_wp2_with fail
    go_ret
    exact ⟨rfl, rfl⟩
theorem finB_iff {x : Nat} (hx : x < 18446744073709551616) : finB x = true ↔ Fin64 x := by
  unfold finB
  rw [decide_eq_true_iff]
  exact ⟨fun h => ⟨hx, h⟩, fun h => h.fin⟩
def ddB (h l : Nat) : Bool := decide (h < 18446744073709551616) && decide (l < 18446744073709551616) && finB h && finB l && decide (rg 0 (ux h + ux l).natAbs < 9218868437227405312) && decide (rv (ux h + ux l) = ux h)
theorem ddB_iff {h l : Nat} : ddB h l = true ↔ DdF h l := by
  unfold ddB finB
  simp only [Bool.and_eq_true, decide_eq_true_iff]
  exact ⟨fun ⟨⟨⟨⟨⟨h1, h2⟩, h3⟩, h4⟩, h5⟩, h6⟩ => ⟨⟨h1, h3⟩, ⟨h2, h4⟩, h5, h6⟩, fun d => ⟨⟨⟨⟨⟨d.hi.lt, d.lo.lt⟩, d.hi.fin⟩, d.lo.fin⟩, d.fit⟩, d.eq⟩⟩
theorem ddB_not {h l : Nat} (hf : finB h = false) : ddB h l = false := by
  cases hb : ddB h l with
  | false => rfl
  | true =>
    have d := ddB_iff.1 hb
    have := (finB_iff d.hi.lt).2 d.hi
    rw [hf] at this
    cases this
theorem belowDn {B : Nat} {a w : World} (h : Below B a w) (n : Nat) : Below B a (w.drewN n) := ⟨h.os, h.tape, h.output, h.size, h.block⟩
theorem ddform (h l : Nat) (hh : h < 18446744073709551616) (hl : l < 18446744073709551616) (w : World) : Calls Tryz.prog 37 #[.agg #[Fv h, Fv l]] w fun en w' => en = .returned (.bool (ddB h l)) ∧ Below w.heap.size w w' := by
  have hSF : ∀ (w : World) (a : Addr) (b : Nat), (store a (Fv b)).run Tryz.prog w = stored Tryz.prog w a (Fv b) .plain := fun w a b => run_store _ w a (Fv b) _ rfl
  have H1 := ddfinite h hh
  cases hfb : finB h with
  | false =>
    rw [ddB_not hfb]
    rw [hfb] at H1
    clear hfb
    go_enter Tryz.func37, Tryz.ntmps37
    go_wp2_with fail
    refine (H1 _).mono ?_
    rintro e v9 ⟨rfl, hw⟩
    obtain rfl := hw.symm
    clear hw
    go_wp2_with fail
    go_ret
    exact ⟨rfl, bwAlloc w _⟩
  | true =>
    rw [hfb] at H1
    have hF := (finB_iff hh).1 hfb
    obtain ⟨r, n, hr, F⟩ := fop (P := Tryz.prog) .add (.inl rfl) 30 h l (w.alloc (Obj.cells #[Fv h, Fv l] 32))
    have hfm := form_iff hF hl F
    obtain ⟨o, ho⟩ : ∃ o, FloatKind.f64.format.order r h = o := ⟨_, rfl⟩
    have hb : ddB h l = (o == some .eq) := by
      rw [Bool.eq_iff_iff, ddB_iff, ← hfm, beq_iff_eq, ← ho]; rfl
    rw [hb]
    clear hb hfm F hF hfb hh hl
    go_enter Tryz.func37, Tryz.ntmps37
    go_wp2_with fail
    refine (H1 _).mono ?_
    rintro e v9 ⟨rfl, hw⟩
    obtain rfl := hw.symm
    clear hw
    rcases o with _ | _ | _ | _
    all_goals
      go_wp2_with fail
      go_ret
      exact ⟨by kernel_rfl, belowDn (bwAlloc w _) n⟩
def OkB (en : Ending) (c : Prop) : Prop := ∃ r, en = .returned (.bool r) ∧ (r = true → c)
theorem finite20 (b : Nat) (w : World) :
    Calls Tryz.prog 66 #[U b] w fun en w' => en = .returned (.bool (decide (b % 9223372036854775808 < 9218868437227405312))) ∧ w' = w := by
  obtain ⟨s, hs⟩ : ∃ s, s = b % 9223372036854775808 := ⟨_, rfl⟩
  have hm : (b : Int) % 9223372036854775808 = (s : Int) := by omega
  rw [← hs]
  obtain ⟨r, hr⟩ : ∃ r, r = decide (s < 9218868437227405312) := ⟨_, rfl⟩
  rw [← hr]
  have hd : decide ((s : Int) < 9218868437227405312) = r := by rw [hr]; exact decide_eq_decide.2 (by omega)
  clear hs hr
  go_enter Tryz.func66, Tryz.ntmps66
  go_wp2_with fail
  go_ret
  exact ⟨rfl, rfl⟩
theorem nought20 (b : Nat) (w : World) :
    Calls Tryz.prog 22 #[U b] w fun en w' => en = .returned (.bool (decide (b % 9223372036854775808 = 0))) ∧ w' = w := by
  obtain ⟨s, hs⟩ : ∃ s, s = b % 9223372036854775808 := ⟨_, rfl⟩
  have hm : (b : Int) % 9223372036854775808 = (s : Int) := by omega
  rw [← hs]
  obtain ⟨r, hr⟩ : ∃ r, r = decide (s = 0) := ⟨_, rfl⟩
  rw [← hr]
  have hd : ((s : Int) == 0) = r := by
    rw [hr]
    by_cases h : s = 0
    · subst h; rfl
    · rw [decide_eq_false h]; simp; omega
  clear hs hr
  go_enter Tryz.func22, Tryz.ntmps22
  go_wp2_with fail
  go_ret
  exact ⟨rfl, rfl⟩
theorem number20 {b : Nat} (w : World) :
    Calls Tryz.prog 90 #[U b] w fun en w' => ∃ v, en = .returned v ∧ GotR w.heap.size w' v (ux b) 2200 ∧ Below w.heap.size w w' := by
  go_enter Tryz.func90, Tryz.ntmps90
  go_wp2_with fail
  obtain ⟨W0, hW0⟩ : ∃ W0, W0 = (w.alloc (.cells #[.bool false, .slice none 0 0] 87)) := ⟨_, rfl⟩
  have Xr : Hid (Box W0 (w.heap.size) (.bool false) (.slice none 0 0)) := by rw [hW0]; exact ⟨by go_simp, by go_simp, by go_simp, by go_simp⟩
  have hb0 : Below w.heap.size w W0 := by rw [hW0]; exact below1 w _
  rw [← hW0]
  clear hW0
  have hbw : Below w.heap.size w w := Below.refl _ _
  obtain ⟨gr, hgr⟩ : ∃ g, g = w.heap.size := ⟨_, rfl⟩
  have HGr : Hid (w.heap.size ≤ gr) := by rw [hgr]; show _ ≤ _; omega
  rw [← hgr] at Xr
  try rw [← hgr]
  clear hgr
  replace hbw := Below.on hbw hb0
  clear hb0
  refine (rof_64 _).mono ?_
  rintro e v1 ⟨rfl, hb1⟩
  replace Xr : Hid _ := Xr.out.below hb1
  replace hbw := Below.on hbw hb1
  clear hb1
  go_wp2_with fail
  have Xfm0 : Hid (B6q (v1.alloc (.cells #[U 9223372036854775808, .int .i64 53, .int .i64 (-1074), .int .i64 971, U 9218868437227405312, U 9221120237041090561] 119)) v1.heap.size (U 9223372036854775808) (.int .i64 53) (.int .i64 (-1074)) (.int .i64 971) (U 9218868437227405312) (U 9221120237041090561)) := B6q.new v1 _ _ _ _ _ _ _
  have hbn : Below v1.heap.size v1 (v1.alloc (.cells #[U 9223372036854775808, .int .i64 53, .int .i64 (-1074), .int .i64 971, U 9218868437227405312, U 9221120237041090561] 119)) := below1 v1 _
  generalize v1.alloc (.cells #[U 9223372036854775808, .int .i64 53, .int .i64 (-1074), .int .i64 971, U 9218868437227405312, U 9221120237041090561] 119) = Wf at *
  have HGfm : Hid (w.heap.size ≤ v1.heap.size) := hbw.size
  replace Xr : Hid _ := Xr.out.below hbn
  replace hbw := Below.on hbw hbn
  clear hbn
  generalize v1.heap.size = gfm at *
  have Xfm := Xfm0
  clear Xfm0
  obtain ⟨cfm0, cfm1, cfm2, cfm3, cfm4, cfm5, ffm0, ffm1, ffm2, ffm3, ffm4, ffm5⟩ := Xfm.out
  have hnefm : gfm < Wf.heap.size := World.block_lt_of_cell? Wf _ cfm0
  go_wp2_with fail
  clear cfm0 cfm1 cfm2 cfm3 cfm4 cfm5 ffm0 ffm1 ffm2 ffm3 ffm4 ffm5 hnefm
  have HRB : Hid (gr < Wf.heap.size ∧ w.heap.size ≤ Wf.heap.size) := ⟨Xr.out.lt, hbw.size⟩
  refine (rwhole_64 _).mono ?_
  rintro e v2 ⟨v, rfl, hv, hb2⟩
  obtain ⟨s2, g2, m2, rfl, hg2, hz2, hl2⟩ := hv
  try clear hv
  have HN2 : Hid (Wf.heap.size ≤ g2) := hg2
  have HB2 : Hid (Wf.heap.size ≤ v2.heap.size) := hb2.size
  replace Xr : Hid _ := Xr.out.below hb2
  replace Xfm : Hid _ := Xfm.out.below hb2
  replace hbw := Below.on hbw hb2
  clear hb2
  have Z2 : Hid (ZR v2 s2 (some ⟨g2, 0, none⟩) m2 (ux b)) := hz2
  have HL2 : Hid (m2 ≤ 2200) := hl2
  clear hz2 hl2 hg2
  obtain ⟨cr0, cr1, fr0, fr1⟩ := Xr.out
  have hner := Xr.out.lt
  go_wp2_with fail
  refine bodyPost_ret (v := .agg #[.bool s2, .slice (some ⟨g2, 0, none⟩) m2 m2]) (by rw [results_cell1 rfl]; go_simp) rfl ⟨_, rfl, ⟨s2, g2, m2, rfl, Nat.le_trans HRB.out.2 HN2.out, ?_, HL2.out⟩, ?_⟩
  · have := HN2.out; have := HRB.out.1
    exact (Z2.out.set _ _ _ (by omega)).set _ _ _ (by omega)
  · exact bSet (bSet hbw _ _ _ HGr.out) _ _ _ HGr.out
theorem sum20 {h l : Nat} (w : World) :
    Calls Tryz.prog 67 #[.agg #[.int .u64 (h : Int), .int .u64 (l : Int)]] w fun en w' => ∃ v, en = .returned v ∧ GotR w.heap.size w' v (ux h + ux l) 2201 ∧ Below w.heap.size w w' := by
  go_enter Tryz.func67, Tryz.ntmps67
  go_wp2_with fail
  obtain ⟨W0, hW0⟩ : ∃ W0, W0 = ((w.alloc (.cells #[.int .u64 (h : Int), .int .u64 (l : Int)] 28)).alloc (.cells #[.bool false, .slice none 0 0] 87)) := ⟨_, rfl⟩
  have Xa : Hid (Box W0 (w.heap.size) (.int .u64 (h : Int)) (.int .u64 (l : Int))) := by rw [hW0]; exact ⟨by go_simp, by go_simp, by go_simp, by go_simp⟩
  have Xr : Hid (Box W0 (w.heap.size + 1) (.bool false) (.slice none 0 0)) := by rw [hW0]; exact ⟨by go_simp, by go_simp, by go_simp, by go_simp⟩
  have hb0 : Below w.heap.size w W0 := by rw [hW0]; exact below2 w _ _
  rw [← hW0]
  clear hW0
  have hbw : Below w.heap.size w w := Below.refl _ _
  obtain ⟨gr, hgr⟩ : ∃ g, g = w.heap.size + 1 := ⟨_, rfl⟩
  have HGr : Hid (w.heap.size ≤ gr) := by rw [hgr]; show _ ≤ _; omega
  rw [← hgr] at Xr
  try rw [← hgr]
  obtain ⟨ga, hga⟩ : ∃ g, g = w.heap.size := ⟨_, rfl⟩
  have HGa : Hid (w.heap.size ≤ ga) := by rw [hga]; show _ ≤ _; omega
  rw [← hga] at Xa
  try rw [← hga]
  have HGD : Hid (ga ≠ gr ∧ gr ≠ ga) := by rw [hga, hgr]; exact ⟨by omega, by omega⟩
  clear hga hgr
  replace hbw := Below.on hbw hb0
  clear hb0
  obtain ⟨V1, hV1⟩ : ∃ W1, W1 = W0.drew := ⟨_, rfl⟩
  have hbd : Below W0.heap.size W0 V1 := by rw [hV1]; exact bDrew1 (Below.refl _ _)
  replace Xa : Hid _ := Xa.out.below hbd
  replace Xr : Hid _ := Xr.out.below hbd
  replace hbw := Below.on hbw hbd
  clear hbd
  have HJ : Hid ((fun W' : World => W'.cell? ⟨ga, 0, none⟩ = some (.int .u64 (h : Int)) ∧ W'.cell? ⟨ga, 1, none⟩ = some (.int .u64 (l : Int))) V1) := ⟨Xa.out.c0, Xa.out.c1⟩
  refine wp_region_J (fun W' => W'.cell? ⟨ga, 0, none⟩ = some (.int .u64 (h : Int)) ∧ W'.cell? ⟨ga, 1, none⟩ = some (.int .u64 (l : Int))) (by kernel_rfl) ?_
  rw [← hV1]
  clear hV1
  refine wpJ_tq 0 rfl HJ.out ?_
  refine wpJ_tq 1 rfl HJ.out ?_
  refine wpJ_tq 3 rfl HJ.out ?_
  refine wpJ_tq 4 rfl HJ.out ?_
  refine wpJ_on 2 rfl fun KJ hK => ?_
  go_simp
  refine (number20 _).mono ?_
  rintro e v1 ⟨v, rfl, hv, hb1⟩
  obtain ⟨s1, g1, m1, rfl, hg1, hz1, hl1⟩ := hv
  try clear hv
  have HN1 : Hid (V1.heap.size ≤ g1) := hg1
  have HB1 : Hid (V1.heap.size ≤ v1.heap.size) := hb1.size
  replace Xa : Hid _ := Xa.out.below hb1
  replace Xr : Hid _ := Xr.out.below hb1
  replace hbw := Below.on hbw hb1
  clear hb1
  have Z1 : Hid (ZR v1 s1 (some ⟨g1, 0, none⟩) m1 (ux h)) := hz1
  have HL1 : Hid (m1 ≤ 2200) := hl1
  clear hz1 hl1 hg1
  refine hK _ _ ⟨Xa.out.c0, Xa.out.c1⟩ ?_
  clear hK
  refine wpJ_on 5 rfl fun KJ hK => ?_
  go_simp
  refine (number20 _).mono ?_
  rintro e v2 ⟨v, rfl, hv, hb2⟩
  obtain ⟨s2, g2, m2, rfl, hg2, hz2, hl2⟩ := hv
  try clear hv
  have HN2 : Hid (v1.heap.size ≤ g2) := hg2
  have HB2 : Hid (v1.heap.size ≤ v2.heap.size) := hb2.size
  replace Xa : Hid _ := Xa.out.below hb2
  replace Xr : Hid _ := Xr.out.below hb2
  replace Z1 : Hid _ := Z1.out.below hb2
  replace hbw := Below.on hbw hb2
  clear hb2
  have Z2 : Hid (ZR v2 s2 (some ⟨g2, 0, none⟩) m2 (ux l)) := hz2
  have HL2 : Hid (m2 ≤ 2200) := hl2
  clear hz2 hl2 hg2
  refine hK _ _ ⟨Xa.out.c0, Xa.out.c1⟩ ?_
  clear hK
  refine wpJ_on 6 rfl fun KJ hK => ?_
  go_simp
  have HRB : Hid (gr < v2.heap.size ∧ w.heap.size ≤ v2.heap.size) := ⟨Xr.out.lt, hbw.size⟩
  refine (radd04 s1 s2 Z1.out Z2.out (by have := HL1.out; omega) (by have := HL2.out; omega)).mono ?_
  rintro e v3 ⟨v, rfl, hv, hb3⟩
  obtain ⟨s3, g3, m3, rfl, hg3, hz3, hl3⟩ := hv
  try clear hv
  have HN3 : Hid (v2.heap.size ≤ g3) := hg3
  have HB3 : Hid (v2.heap.size ≤ v3.heap.size) := hb3.size
  replace Xa : Hid _ := Xa.out.below hb3
  replace Xr : Hid _ := Xr.out.below hb3
  replace Z1 : Hid _ := Z1.out.below hb3
  replace Z2 : Hid _ := Z2.out.below hb3
  replace hbw := Below.on hbw hb3
  clear hb3
  have Z3 : Hid (ZR v3 s3 (some ⟨g3, 0, none⟩) m3 (ux h + ux l)) := hz3
  have HL3 : Hid (m3 ≤ max m1 m2 + 1) := hl3
  clear hz3 hl3 hg3
  refine hK _ _ ⟨Xa.out.c0, Xa.out.c1⟩ ?_
  clear hK
  obtain ⟨cr0, cr1, fr0, fr1⟩ := Xr.out
  have hner := Xr.out.lt
  obtain ⟨ca0, ca1, fa0, fa1⟩ := Xa.out
  have hnea := Xa.out.lt
  obtain ⟨hgd0, hgd1⟩ := HGD.out
  refine wpJ_on 7 rfl fun KJ hK => ?_
  go_simp
  have HJ2 : Hid ((fun W' : World => W'.cell? ⟨ga, 0, none⟩ = some (.int .u64 (h : Int)) ∧ W'.cell? ⟨ga, 1, none⟩ = some (.int .u64 (l : Int))) ((v3.setCell ⟨gr, 0, none⟩ (.bool s3)).setCell ⟨gr, 1, none⟩ (.slice (some ⟨g3, 0, none⟩) m3 m3))) := ⟨by go_simp, by go_simp⟩
  refine hK _ _ HJ2.out ?_
  clear hK HJ
  have HJ := HJ2
  clear HJ2
  refine wpJ_done (by kernel_rfl) ?_ _
  clear HJ
  go_wp2_with fail
  refine bodyPost_ret (v := .agg #[.bool s3, .slice (some ⟨g3, 0, none⟩) m3 m3]) (by rw [results_cell1 rfl]; go_simp) rfl ⟨_, rfl, ⟨s3, g3, m3, rfl, Nat.le_trans HRB.out.2 HN3.out, ?_, by have := HL1.out; have := HL2.out; have := HL3.out; omega⟩, ?_⟩
  · have := HN3.out; have := HRB.out.1
    exact (Z3.out.set _ _ _ (by omega)).set _ _ _ (by omega)
  · exact bSet (bSet hbw _ _ _ HGr.out) _ _ _ HGr.out
theorem ddf_told {h l : Nat} (fh : Fin64 h) (fl : Fin64 l) (_h0 : ux h + ux l ≠ 0) (ht : toldN (ux h + ux l) ((ux h + ux l).natAbs * 2 ^ 0) = h) : DdF h l := by
  rw [Nat.pow_zero, Nat.mul_one] at ht
  unfold toldN at ht
  have hr := rg_top9 (ux h + ux l).natAbs
  have hf := fh.fin
  by_cases h4 : ux h + ux l < 0
  · rw [if_pos h4] at ht
    have h5 : h % 9223372036854775808 = rg 0 (ux h + ux l).natAbs := by omega
    refine ⟨fh, fl, by rw [← h5]; exact hf, ?_⟩
    unfold rv
    rw [if_pos h4, ← h5, ux_eq h, if_pos (by omega)]
  · rw [if_neg h4] at ht
    have h5 : h % 9223372036854775808 = rg 0 (ux h + ux l).natAbs := by omega
    refine ⟨fh, fl, by rw [← h5]; exact hf, ?_⟩
    unfold rv
    rw [if_neg h4, ← h5, ux_eq h, if_neg (by omega)]
theorem ddf_nought {h l : Nat} (fh : Fin64 h) (fl : Fin64 l) (h0 : ux h + ux l = 0) (hn : h % 9223372036854775808 = 0) : DdF h l := by
  refine ⟨fh, fl, by rw [h0]; decide, ?_⟩
  rw [h0]
  unfold rv
  rw [if_neg (by omega), ux_eq, hn, show rg 0 (0 : Int).natAbs = 0 from rfl, vs_zero]
  split <;> rfl
theorem ux_bits (h l : Nat) : bitsN (ux h + ux l).natAbs ≤ 2200 := by
  obtain ⟨L, hL⟩ : ∃ L, L = 2150 := ⟨_, rfl⟩
  have h1 := svS_lt (S := 9223372036854775808) (H := 4503599627370496) h (L := L) (a := 52) (c := 2048) (by decide) (by decide) (by decide) (by decide) (by omega)
  have h2 := svS_lt (S := 9223372036854775808) (H := 4503599627370496) l (L := L) (a := 52) (c := 2048) (by decide) (by decide) (by decide) (by decide) (by omega)
  have h3 : (ux h + ux l).natAbs < 2 ^ (L + 1) := by
    rw [Nat.pow_succ]
    have e1 : (ux h).natAbs < 2 ^ L := h1
    have e2 : (ux l).natAbs < 2 ^ L := h2
    omega
  have h4 := bits_le h3
  omega
theorem docform20 (h l : Nat) (hh : h < 18446744073709551616) (hl : l < 18446744073709551616) (w : World) :
    Calls Tryz.prog 39 #[.agg #[.int .u64 (h : Int), .int .u64 (l : Int)]] w fun en w' => OkB en (DdF h l) ∧ Below w.heap.size w w' := by
  have HB : Hid (h < 18446744073709551616 ∧ l < 18446744073709551616) := ⟨hh, hl⟩
  clear hh hl
  go_enter Tryz.func39, Tryz.ntmps39
  go_wp2_with fail
  obtain ⟨W0, hW0⟩ : ∃ W0, W0 = (w.alloc (.cells #[.int .u64 (h : Int), .int .u64 (l : Int)] 28)) := ⟨_, rfl⟩
  have Xa : Hid (Box W0 (w.heap.size) (.int .u64 (h : Int)) (.int .u64 (l : Int))) := by rw [hW0]; exact ⟨by go_simp, by go_simp, by go_simp, by go_simp⟩
  have hb0 : Below w.heap.size w W0 := by rw [hW0]; exact below1 w _
  rw [← hW0]
  clear hW0
  have hbw : Below w.heap.size w w := Below.refl _ _
  obtain ⟨ga, hga⟩ : ∃ g, g = w.heap.size := ⟨_, rfl⟩
  have HGa : Hid (w.heap.size ≤ ga) := by rw [hga]; show _ ≤ _; omega
  rw [← hga] at Xa
  try rw [← hga]
  clear hga
  replace hbw := Below.on hbw hb0
  clear hb0
  obtain ⟨ca0, ca1, fa0, fa1⟩ := Xa.out
  have hnea := Xa.out.lt
  go_wp2_with fail
  clear ca0 ca1 fa0 fa1 hnea
  refine (finite20 h _).mono ?_
  rintro e9 v9 ⟨rfl, hw⟩
  obtain rfl := hw.symm
  clear hw
  by_cases f1 : h % 9223372036854775808 < 9218868437227405312
  · rw [decide_eq_true f1]
    obtain ⟨ca0, ca1, fa0, fa1⟩ := Xa.out
    have hnea := Xa.out.lt
    go_wp2_with fail
    clear ca0 ca1 fa0 fa1 hnea
    refine (finite20 l _).mono ?_
    rintro e9 v9 ⟨rfl, hw⟩
    obtain rfl := hw.symm
    clear hw
    by_cases f2 : l % 9223372036854775808 < 9218868437227405312
    · rw [decide_eq_true f2]
      have HFF : Hid (Fin64 h ∧ Fin64 l) := ⟨⟨HB.out.1, f1⟩, ⟨HB.out.2, f2⟩⟩
      clear f1 f2
      obtain ⟨ca0, ca1, fa0, fa1⟩ := Xa.out
      have hnea := Xa.out.lt
      go_wp2_with fail
      clear ca0 ca1 fa0 fa1 hnea
      refine (sum20 _).mono ?_
      rintro e v1 ⟨v, rfl, hv, hb1⟩
      obtain ⟨s1, g1, m1, rfl, hg1, hz1, hl1⟩ := hv
      try clear hv
      have HN1 : Hid (W0.heap.size ≤ g1) := hg1
      have HB1 : Hid (W0.heap.size ≤ v1.heap.size) := hb1.size
      replace Xa : Hid _ := Xa.out.below hb1
      replace hbw := Below.on hbw hb1
      clear hb1
      have Z1 : Hid (ZR v1 s1 (some ⟨g1, 0, none⟩) m1 (ux h + ux l)) := hz1
      have HL1 : Hid (m1 ≤ 2201) := hl1
      clear hz1 hl1 hg1
      go_wp2_with fail
      have Xs0 : Hid (Box (v1.alloc (.cells #[.bool s1, .slice (some ⟨g1, 0, none⟩) m1 m1] 87)) v1.heap.size (.bool s1) (.slice (some ⟨g1, 0, none⟩) m1 m1)) := Box.new v1 _ _ _
      have hbn : Below v1.heap.size v1 (v1.alloc (.cells #[.bool s1, .slice (some ⟨g1, 0, none⟩) m1 m1] 87)) := below1 v1 _
      generalize v1.alloc (.cells #[.bool s1, .slice (some ⟨g1, 0, none⟩) m1 m1] 87) = Ws at *
      have HGs : Hid (w.heap.size ≤ v1.heap.size) := hbw.size
      replace Xa : Hid _ := Xa.out.below hbn
      replace Z1 : Hid _ := Z1.out.below hbn
      replace hbw := Below.on hbw hbn
      clear hbn
      generalize v1.heap.size = gs at *
      have Xs := Xs0
      clear Xs0
      obtain ⟨cs0, cs1, fs0, fs1⟩ := Xs.out
      have hnes := Xs.out.lt
      go_wp2_with fail
      clear cs0 cs1 fs0 fs1 hnes
      refine (rsign04 s1 Z1.out).mono ?_
      rintro e v2 ⟨rfl, hb2⟩
      replace Xa : Hid _ := Xa.out.below hb2
      replace Xs : Hid _ := Xs.out.below hb2
      replace Z1 : Hid _ := Z1.out.below hb2
      replace hbw := Below.on hbw hb2
      clear hb2
      by_cases h0 : ux h + ux l = 0
      · rw [show sgnI (ux h + ux l) = 0 by rw [h0]; rfl]
        have H0 := Hid.mk9 h0
        clear h0
        obtain ⟨ca0, ca1, fa0, fa1⟩ := Xa.out
        have hnea := Xa.out.lt
        go_wp2_with fail
        clear ca0 ca1 fa0 fa1 hnea
        refine (nought20 h _).mono ?_
        rintro e9 v9 ⟨rfl, hw⟩
        obtain rfl := hw.symm
        clear hw
        obtain ⟨r, hr⟩ : ∃ r, r = decide (h % 9223372036854775808 = 0) := ⟨_, rfl⟩
        rw [← hr]
        have HRR := Hid.mk9 hr
        clear hr
        go_wp2_with fail
        go_ret
        exact ⟨⟨r, rfl, fun h9 => ddf_nought HFF.out.1 HFF.out.2 H0.out (of_decide_eq_true (HRR.out.symm.trans h9))⟩, hbw⟩
      · have hs9 : (sgnI (ux h + ux l) == 0) = false := by
          rcases Int.lt_trichotomy (ux h + ux l) 0 with q | q | q
          · rw [show sgnI (ux h + ux l) = -1 from if_pos q]; rfl
          · exact absurd q h0
          · rw [show sgnI (ux h + ux l) = 1 by unfold sgnI; rw [if_neg (by omega), if_neg (by omega)]]; rfl
        obtain ⟨sg, hsg⟩ : ∃ sg, sg = sgnI (ux h + ux l) := ⟨_, rfl⟩
        rw [← hsg] at hs9 ⊢
        clear hsg
        have H0 := Hid.mk9 h0
        clear h0
        go_wp2_with fail
        obtain ⟨T, hT⟩ : ∃ T, T = toldN (ux h + ux l) ((ux h + ux l).natAbs * 2 ^ 0) := ⟨_, rfl⟩
        have HTT := Hid.mk9 hT
        clear hT
        obtain ⟨V7, hV7⟩ : ∃ W1, W1 = v2.drew := ⟨_, rfl⟩
        have hbd : Below v2.heap.size v2 V7 := by rw [hV7]; exact bDrew1 (Below.refl _ _)
        replace Xa : Hid _ := Xa.out.below hbd
        replace Xs : Hid _ := Xs.out.below hbd
        replace Z1 : Hid _ := Z1.out.below hbd
        replace hbw := Below.on hbw hbd
        clear hbd
        have HJ : Hid ((fun W' : World => W'.cell? ⟨gs, 0, none⟩ = some (.bool s1) ∧ W'.cell? ⟨gs, 1, none⟩ = some (.slice (some ⟨g1, 0, none⟩) m1 m1) ∧ W'.cell? ⟨ga, 0, none⟩ = some (.int .u64 (h : Int))) V7) := ⟨Xs.out.c0, Xs.out.c1, Xa.out.c0⟩
        refine wp_region_J (fun W' => W'.cell? ⟨gs, 0, none⟩ = some (.bool s1) ∧ W'.cell? ⟨gs, 1, none⟩ = some (.slice (some ⟨g1, 0, none⟩) m1 m1) ∧ W'.cell? ⟨ga, 0, none⟩ = some (.int .u64 (h : Int))) (by kernel_rfl) ?_
        rw [← hV7]
        clear hV7
        refine wpJ_tq 0 rfl HJ.out ?_
        refine wpJ_tq 2 rfl HJ.out ?_
        refine wpJ_tq 3 rfl HJ.out ?_
        refine wpJ_on 1 rfl fun KJ hK => ?_
        go_simp
        refine (told_a s1 Z1.out (by have := HL1.out; omega) H0.out (-1074) (by decide) (ux_bits h l) rfl).mono ?_
        rintro e v3 ⟨rfl, hb3⟩
        rw [show ((-1074 : Int) + 1074).toNat = 0 from rfl, ← HTT.out]
        replace Xa : Hid _ := Xa.out.below hb3
        replace Xs : Hid _ := Xs.out.below hb3
        replace Z1 : Hid _ := Z1.out.below hb3
        replace hbw := Below.on hbw hb3
        clear hb3
        clear HJ
        have HJ : Hid ((fun W' : World => W'.cell? ⟨gs, 0, none⟩ = some (.bool s1) ∧ W'.cell? ⟨gs, 1, none⟩ = some (.slice (some ⟨g1, 0, none⟩) m1 m1) ∧ W'.cell? ⟨ga, 0, none⟩ = some (.int .u64 (h : Int))) v3) := ⟨Xs.out.c0, Xs.out.c1, Xa.out.c0⟩
        refine hK _ _ HJ.out ?_
        clear hK
        refine wpJ_tq 4 rfl HJ.out ?_
        refine wpJ_tq 5 rfl HJ.out ?_
        go_simp
        refine wpJ_done (by kernel_rfl) ?_ _
        clear HJ
        go_wp2_with fail
        go_ret
        exact ⟨⟨_, rfl, fun h9 => ddf_told HFF.out.1 HFF.out.2 H0.out (by rw [← HTT.out]; exact Int.ofNat.inj (by simpa using h9))⟩, hbw⟩
    · rw [decide_eq_false f2]
      obtain ⟨ca0, ca1, fa0, fa1⟩ := Xa.out
      have hnea := Xa.out.lt
      go_wp2_with fail
      clear ca0 ca1 fa0 fa1 hnea
      go_ret
      exact ⟨⟨false, rfl, fun h9 => by cases h9⟩, hbw⟩
  · rw [decide_eq_false f1]
    obtain ⟨ca0, ca1, fa0, fa1⟩ := Xa.out
    have hnea := Xa.out.lt
    go_wp2_with fail
    clear ca0 ca1 fa0 fa1 hnea
    go_ret
    exact ⟨⟨false, rfl, fun h9 => by cases h9⟩, hbw⟩
end Go.Proofs.YtidggnjnlhjhlaaGreatDoor
namespace Go.Proofs.YtidggnjnlhjhlaaGreatDoor
open Go.RowKit
set_option maxRecDepth 20000
set_option maxHeartbeats 0
variable {P : Program} {md : Region.Mode} {ops : Array Oper} {Q : Exit → Act → World → Prop} {J : World → Prop} {L : Nat}

def ClosedL (md : Region.Mode) (ops : Array Oper) (listed : Array Bool) : Prop :=
  ∀ (k : Nat) (o : Oper), ops[k]? = some o → listed.getD k false = true → ∀ e ∈ o.after, Region.binds md e = true → listed.getD e.on false = true
theorem ClosedL.step {listed : Array Bool} (h : ClosedL md ops listed) {j : Nat} (hj : j ∈ Region.ready md ops listed) : ClosedL md ops (listed.setIfInBounds j true) := by
  intro k o ho hk e he hb
  obtain ⟨h0, oj, hoj, hall⟩ := mem_ready.1 hj
  by_cases hjk : j = k
  · subst hjk
    rw [hoj] at ho
    obtain rfl := Option.some.inj ho
    exact getD_set_true (hall e he hb)
  · rw [getD_set_ne false hjk] at hk
    exact getD_set_true (h k o ho hk e he hb)
end Go.Proofs.YtidggnjnlhjhlaaGreatDoor
namespace Go.Proofs.YtidggnjnlhjhlaaGreatDoor
open Go.RowKit Go.Shelf
set_option maxRecDepth 20000
set_option maxHeartbeats 0
def ordV : Ordering → Int
  | .lt => -1
  | .eq => 0
  | .gt => 1
theorem cisnan (x : Nat) (hx : Fin64 x) (w : World) : Calls Tryz.prog 87 #[Fv x] w fun en w' => en = .returned (.bool false) ∧ w' = w := by
  have ho : FloatKind.f64.format.order x x = some .eq := by
    show Ieee.double.order x x = _
    rw [order_fin hx hx, ordI, if_neg (by omega), if_pos rfl]
  clear hx
  go_enter Tryz.func87, Tryz.ntmps87
  go_wp2_with fail
  go_ret
  exact ⟨by kernel_rfl, rfl⟩
theorem ccompare (x y : Nat) (hx : Fin64 x) (hy : Fin64 y) (w : World) : Calls Tryz.prog 60 #[Fv x, Fv y] w fun en w' => en = .returned (.int .i64 (ordV (compare (ux x) (ux y)))) ∧ w' = w := by
  have N1 := cisnan x hx
  have N2 := cisnan y hy
  have ho : FloatKind.f64.format.order x y = some (compare (ux x) (ux y)) := order_fin hx hy
  generalize compare (ux x) (ux y) = o at ho ⊢
  clear hx hy
  go_enter Tryz.func60, Tryz.ntmps60
  go_wp2_with fail
  refine (N1 _).mono ?_
  rintro e v9 ⟨rfl, hw⟩
  obtain rfl := hw.symm
  clear hw
  go_wp2_with fail
  refine (N2 _).mono ?_
  rintro e v9 ⟨rfl, hw⟩
  obtain rfl := hw.symm
  clear hw
  rcases o with _ | _ | _
  all_goals
    go_wp2_with fail
    go_ret
    exact ⟨by kernel_rfl, rfl⟩
theorem stF (w : World) (a : Addr) (b : Nat) : (store a (Fv b)).run Tryz.prog w = stored Tryz.prog w a (Fv b) .plain := run_store _ w a (Fv b) _ rfl
def cmpD (h l h' l' : Nat) : Int := if ddB h l && ddB h' l' then ordV (compare (ux h + ux l) (ux h' + ux l')) else 0
theorem cmpD_eq {h l h' l' : Nat} (d : DdF h l) (d' : DdF h' l') : cmpD h l h' l' = if compare (ux h) (ux h') = .eq then ordV (compare (ux l) (ux l')) else ordV (compare (ux h) (ux h')) := by
  unfold cmpD
  rw [ddB_iff.2 d, ddB_iff.2 d', dd_order d d', ordI (ux h) (ux h')]
  simp only [Bool.and_self, if_true]
  rcases Int.lt_trichotomy (ux h) (ux h') with h1 | h1 | h1
  · rw [if_neg (by omega), if_pos h1, if_neg (by decide)]
  · rw [h1]; simp
  · rw [if_neg (by omega), if_neg (by omega), if_neg (by omega), if_neg (by decide)]
theorem ddcmp (h l h' l' : Nat) (hh : h < 18446744073709551616) (hl : l < 18446744073709551616) (hh' : h' < 18446744073709551616) (hl' : l' < 18446744073709551616) (w : World) : Calls Tryz.prog 31 #[.agg #[Fv h, Fv l], .agg #[Fv h', Fv l']] w fun en w' => en = .returned (.int .i64 (cmpD h l h' l')) ∧ Below w.heap.size w w' := by
  have H1 := ddform h l hh hl
  have H2 := ddform h' l' hh' hl'
  cases hA : ddB h l with
  | false =>
    rw [show cmpD h l h' l' = 0 by unfold cmpD; rw [hA]; rfl]
    rw [hA] at H1
    clear hA H2 hh hl hh' hl'
    go_enter Tryz.func31, Tryz.ntmps31
    go_wp2_with fail
    obtain ⟨W0, hW0⟩ : ∃ W0, W0 = ((w.alloc (.cells #[Fv h, Fv l] 32)).alloc (.cells #[Fv h', Fv l'] 32)) := ⟨_, rfl⟩
    have Xa : Hid (Box W0 (w.heap.size) (Fv h) (Fv l)) := by rw [hW0]; exact ⟨by go_simp, by go_simp, by go_simp, by go_simp⟩
    have Xb : Hid (Box W0 (w.heap.size + 1) (Fv h') (Fv l')) := by rw [hW0]; exact ⟨by go_simp, by go_simp, by go_simp, by go_simp⟩
    have hb0 : Below w.heap.size w W0 := by rw [hW0]; exact below2 w _ _
    rw [← hW0]
    clear hW0
    have hbw : Below w.heap.size w w := Below.refl _ _
    obtain ⟨gb, hgb⟩ : ∃ g, g = w.heap.size + 1 := ⟨_, rfl⟩
    have HGb : Hid (w.heap.size ≤ gb) := by rw [hgb]; show _ ≤ _; omega
    rw [← hgb] at Xb
    try rw [← hgb]
    obtain ⟨ga, hga⟩ : ∃ g, g = w.heap.size := ⟨_, rfl⟩
    have HGa : Hid (w.heap.size ≤ ga) := by rw [hga]; show _ ≤ _; omega
    rw [← hga] at Xa
    try rw [← hga]
    have HGD : Hid (ga ≠ gb ∧ gb ≠ ga) := by rw [hga, hgb]; exact ⟨by omega, by omega⟩
    clear hga hgb
    replace hbw := Below.on hbw hb0
    clear hb0
    obtain ⟨hgd0, hgd1⟩ := HGD.out
    refine (H1 _).mono ?_
    rintro e v1 ⟨rfl, hb1⟩
    replace Xa : Hid _ := Xa.out.below hb1
    replace Xb : Hid _ := Xb.out.below hb1
    replace hbw := Below.on hbw hb1
    clear hb1
    obtain ⟨ca0, ca1, fa0, fa1⟩ := Xa.out
    have hnea := Xa.out.lt
    obtain ⟨cb0, cb1, fb0, fb1⟩ := Xb.out
    have hneb := Xb.out.lt
    go_wp2_with fail
    clear ca0 ca1 fa0 fa1 hnea
    clear cb0 cb1 fb0 fb1 hneb
    go_ret
    exact ⟨by kernel_rfl, hbw⟩
  | true =>
  cases hB : ddB h' l' with
  | false =>
    rw [show cmpD h l h' l' = 0 by unfold cmpD; rw [hA, hB]; rfl]
    rw [hA] at H1
    rw [hB] at H2
    clear hA hB hh hl hh' hl'
    go_enter Tryz.func31, Tryz.ntmps31
    go_wp2_with fail
    obtain ⟨W0, hW0⟩ : ∃ W0, W0 = ((w.alloc (.cells #[Fv h, Fv l] 32)).alloc (.cells #[Fv h', Fv l'] 32)) := ⟨_, rfl⟩
    have Xa : Hid (Box W0 (w.heap.size) (Fv h) (Fv l)) := by rw [hW0]; exact ⟨by go_simp, by go_simp, by go_simp, by go_simp⟩
    have Xb : Hid (Box W0 (w.heap.size + 1) (Fv h') (Fv l')) := by rw [hW0]; exact ⟨by go_simp, by go_simp, by go_simp, by go_simp⟩
    have hb0 : Below w.heap.size w W0 := by rw [hW0]; exact below2 w _ _
    rw [← hW0]
    clear hW0
    have hbw : Below w.heap.size w w := Below.refl _ _
    obtain ⟨gb, hgb⟩ : ∃ g, g = w.heap.size + 1 := ⟨_, rfl⟩
    have HGb : Hid (w.heap.size ≤ gb) := by rw [hgb]; show _ ≤ _; omega
    rw [← hgb] at Xb
    try rw [← hgb]
    obtain ⟨ga, hga⟩ : ∃ g, g = w.heap.size := ⟨_, rfl⟩
    have HGa : Hid (w.heap.size ≤ ga) := by rw [hga]; show _ ≤ _; omega
    rw [← hga] at Xa
    try rw [← hga]
    have HGD : Hid (ga ≠ gb ∧ gb ≠ ga) := by rw [hga, hgb]; exact ⟨by omega, by omega⟩
    clear hga hgb
    replace hbw := Below.on hbw hb0
    clear hb0
    obtain ⟨hgd0, hgd1⟩ := HGD.out
    refine (H1 _).mono ?_
    rintro e v1 ⟨rfl, hb1⟩
    replace Xa : Hid _ := Xa.out.below hb1
    replace Xb : Hid _ := Xb.out.below hb1
    replace hbw := Below.on hbw hb1
    clear hb1
    obtain ⟨ca0, ca1, fa0, fa1⟩ := Xa.out
    have hnea := Xa.out.lt
    obtain ⟨cb0, cb1, fb0, fb1⟩ := Xb.out
    have hneb := Xb.out.lt
    go_wp2_with fail
    clear ca0 ca1 fa0 fa1 hnea
    clear cb0 cb1 fb0 fb1 hneb
    refine (H2 _).mono ?_
    rintro e v2 ⟨rfl, hb2⟩
    replace Xa : Hid _ := Xa.out.below hb2
    replace Xb : Hid _ := Xb.out.below hb2
    replace hbw := Below.on hbw hb2
    clear hb2
    obtain ⟨ca0, ca1, fa0, fa1⟩ := Xa.out
    have hnea := Xa.out.lt
    obtain ⟨cb0, cb1, fb0, fb1⟩ := Xb.out
    have hneb := Xb.out.lt
    go_wp2_with fail
    clear ca0 ca1 fa0 fa1 hnea
    clear cb0 cb1 fb0 fb1 hneb
    go_ret
    exact ⟨by kernel_rfl, hbw⟩
  | true =>
    have d := ddB_iff.1 hA
    have d' := ddB_iff.1 hB
    rw [cmpD_eq d d']
    rw [hA] at H1
    rw [hB] at H2
    have C1 := ccompare h h' d.hi d'.hi
    have C2 := ccompare l l' d.lo d'.lo
    generalize compare (ux h) (ux h') = o at C1 ⊢
    generalize ordV (compare (ux l) (ux l')) = k at C2 ⊢
    clear d d' hA hB hh hl hh' hl'
    go_enter Tryz.func31, Tryz.ntmps31
    go_wp2_with fail
    obtain ⟨W0, hW0⟩ : ∃ W0, W0 = ((w.alloc (.cells #[Fv h, Fv l] 32)).alloc (.cells #[Fv h', Fv l'] 32)) := ⟨_, rfl⟩
    have Xa : Hid (Box W0 (w.heap.size) (Fv h) (Fv l)) := by rw [hW0]; exact ⟨by go_simp, by go_simp, by go_simp, by go_simp⟩
    have Xb : Hid (Box W0 (w.heap.size + 1) (Fv h') (Fv l')) := by rw [hW0]; exact ⟨by go_simp, by go_simp, by go_simp, by go_simp⟩
    have hb0 : Below w.heap.size w W0 := by rw [hW0]; exact below2 w _ _
    rw [← hW0]
    clear hW0
    have hbw : Below w.heap.size w w := Below.refl _ _
    obtain ⟨gb, hgb⟩ : ∃ g, g = w.heap.size + 1 := ⟨_, rfl⟩
    have HGb : Hid (w.heap.size ≤ gb) := by rw [hgb]; show _ ≤ _; omega
    rw [← hgb] at Xb
    try rw [← hgb]
    obtain ⟨ga, hga⟩ : ∃ g, g = w.heap.size := ⟨_, rfl⟩
    have HGa : Hid (w.heap.size ≤ ga) := by rw [hga]; show _ ≤ _; omega
    rw [← hga] at Xa
    try rw [← hga]
    have HGD : Hid (ga ≠ gb ∧ gb ≠ ga) := by rw [hga, hgb]; exact ⟨by omega, by omega⟩
    clear hga hgb
    replace hbw := Below.on hbw hb0
    clear hb0
    obtain ⟨hgd0, hgd1⟩ := HGD.out
    refine (H1 _).mono ?_
    rintro e v1 ⟨rfl, hb1⟩
    replace Xa : Hid _ := Xa.out.below hb1
    replace Xb : Hid _ := Xb.out.below hb1
    replace hbw := Below.on hbw hb1
    clear hb1
    obtain ⟨ca0, ca1, fa0, fa1⟩ := Xa.out
    have hnea := Xa.out.lt
    obtain ⟨cb0, cb1, fb0, fb1⟩ := Xb.out
    have hneb := Xb.out.lt
    go_wp2_with fail
    clear ca0 ca1 fa0 fa1 hnea
    clear cb0 cb1 fb0 fb1 hneb
    refine (H2 _).mono ?_
    rintro e v2 ⟨rfl, hb2⟩
    replace Xa : Hid _ := Xa.out.below hb2
    replace Xb : Hid _ := Xb.out.below hb2
    replace hbw := Below.on hbw hb2
    clear hb2
    obtain ⟨ca0, ca1, fa0, fa1⟩ := Xa.out
    have hnea := Xa.out.lt
    obtain ⟨cb0, cb1, fb0, fb1⟩ := Xb.out
    have hneb := Xb.out.lt
    go_wp2_with fail
    clear ca0 ca1 fa0 fa1 hnea
    clear cb0 cb1 fb0 fb1 hneb
    refine (C1 _).mono ?_
    rintro e v9 ⟨rfl, hw⟩
    obtain rfl := hw.symm
    clear hw
    rcases o with _ | _ | _
    · dsimp only [ordV]
      obtain ⟨ca0, ca1, fa0, fa1⟩ := Xa.out
      have hnea := Xa.out.lt
      obtain ⟨cb0, cb1, fb0, fb1⟩ := Xb.out
      have hneb := Xb.out.lt
      go_wp2_with fail
      clear ca0 ca1 fa0 fa1 hnea
      clear cb0 cb1 fb0 fb1 hneb
      go_ret
      exact ⟨by first | rfl | kernel_rfl, hbw⟩
    · dsimp only [ordV]
      obtain ⟨ca0, ca1, fa0, fa1⟩ := Xa.out
      have hnea := Xa.out.lt
      obtain ⟨cb0, cb1, fb0, fb1⟩ := Xb.out
      have hneb := Xb.out.lt
      go_wp2_with fail
      clear ca0 ca1 fa0 fa1 hnea
      clear cb0 cb1 fb0 fb1 hneb
      refine (C2 _).mono ?_
      rintro e v9 ⟨rfl, hw⟩
      obtain rfl := hw.symm
      clear hw
      obtain ⟨ca0, ca1, fa0, fa1⟩ := Xa.out
      have hnea := Xa.out.lt
      obtain ⟨cb0, cb1, fb0, fb1⟩ := Xb.out
      have hneb := Xb.out.lt
      go_wp2_with fail
      clear ca0 ca1 fa0 fa1 hnea
      clear cb0 cb1 fb0 fb1 hneb
      go_ret
      exact ⟨by first | rfl | kernel_rfl, hbw⟩
    · dsimp only [ordV]
      obtain ⟨ca0, ca1, fa0, fa1⟩ := Xa.out
      have hnea := Xa.out.lt
      obtain ⟨cb0, cb1, fb0, fb1⟩ := Xb.out
      have hneb := Xb.out.lt
      go_wp2_with fail
      clear ca0 ca1 fa0 fa1 hnea
      clear cb0 cb1 fb0 fb1 hneb
      go_ret
      exact ⟨by first | rfl | kernel_rfl, hbw⟩
theorem lfloat (b : Nat) (w : World) :
    Calls Tryz.prog 28 #[.int .u64 (b : Int)] w fun en w' => en = .returned (Fv b) ∧ w' = w := by
  have fb : ∀ w, (callFunc 58 #[.int .u64 (b : Int)]).run Tryz.prog w = .ok (.value (Fv b)) w := fun w => frombits _ w
  go_enter Tryz.func28, Tryz.ntmps28
  go_wp2_with fail
  go_ret
  exact ⟨rfl, rfl⟩
theorem lbits (h l : Nat) (w : World) :
    Calls Tryz.prog 26 #[.agg #[Fv h, Fv l]] w fun en w' => en = .returned (.agg #[.int .u64 (h : Int), .int .u64 (l : Int)]) ∧ Below w.heap.size w w' := by
  have hSF : ∀ (w : World) (a : Addr) (b : Nat), (store a (Fv b)).run Tryz.prog w = stored Tryz.prog w a (Fv b) .plain := stF
  have b1 : ∀ w, (callFunc 57 #[Fv h]).run Tryz.prog w = .ok (.value (.int .u64 (h : Int))) w := fun w => bitsOf _ w
  have b2 : ∀ w, (callFunc 57 #[Fv l]).run Tryz.prog w = .ok (.value (.int .u64 (l : Int))) w := fun w => bitsOf _ w
  go_enter Tryz.func26, Tryz.ntmps26
  go_wp2_with fail
  obtain ⟨W0, hW0⟩ : ∃ W0, W0 = ((w.alloc (.cells #[Fv h, Fv l] 32)).alloc (.cells #[.int .u64 0, .int .u64 0] 28)) := ⟨_, rfl⟩
  have Xa : Hid (Box W0 (w.heap.size) (Fv h) (Fv l)) := by rw [hW0]; exact ⟨by go_simp, by go_simp, by go_simp, by go_simp⟩
  have Xr : Hid (Box W0 (w.heap.size + 1) (.int .u64 0) (.int .u64 0)) := by rw [hW0]; exact ⟨by go_simp, by go_simp, by go_simp, by go_simp⟩
  have hb0 : Below w.heap.size w W0 := by rw [hW0]; exact below2 w _ _
  rw [← hW0]
  clear hW0
  have hbw : Below w.heap.size w w := Below.refl _ _
  obtain ⟨gr, hgr⟩ : ∃ g, g = w.heap.size + 1 := ⟨_, rfl⟩
  have HGr : Hid (w.heap.size ≤ gr) := by rw [hgr]; show _ ≤ _; omega
  rw [← hgr] at Xr
  try rw [← hgr]
  obtain ⟨ga, hga⟩ : ∃ g, g = w.heap.size := ⟨_, rfl⟩
  have HGa : Hid (w.heap.size ≤ ga) := by rw [hga]; show _ ≤ _; omega
  rw [← hga] at Xa
  try rw [← hga]
  have HGD : Hid (ga ≠ gr ∧ gr ≠ ga) := by rw [hga, hgr]; exact ⟨by omega, by omega⟩
  clear hga hgr
  replace hbw := Below.on hbw hb0
  clear hb0
  obtain ⟨V1, hV1⟩ : ∃ W1, W1 = W0.drew := ⟨_, rfl⟩
  have hbd : Below W0.heap.size W0 V1 := by rw [hV1]; exact bDrew1 (Below.refl _ _)
  replace Xa : Hid _ := Xa.out.below hbd
  replace Xr : Hid _ := Xr.out.below hbd
  replace hbw := Below.on hbw hbd
  clear hbd
  have HJ : Hid ((fun W' : World => W'.cell? ⟨ga, 0, none⟩ = some (Fv h) ∧ W'.cell? ⟨ga, 1, none⟩ = some (Fv l)) V1) := ⟨Xa.out.c0, Xa.out.c1⟩
  refine wp_region_J (fun W' => W'.cell? ⟨ga, 0, none⟩ = some (Fv h) ∧ W'.cell? ⟨ga, 1, none⟩ = some (Fv l)) (by kernel_rfl) ?_
  rw [← hV1]
  clear hV1
  refine wpJ_tq 0 rfl HJ.out ?_
  refine wpJ_tq 1 rfl HJ.out ?_
  refine wpJ_tq 3 rfl HJ.out ?_
  refine wpJ_tq 4 rfl HJ.out ?_
  refine wpJ_on 2 rfl fun KJ hK => ?_
  go_simp
  refine hK _ _ ⟨Xa.out.c0, Xa.out.c1⟩ ?_
  clear hK
  refine wpJ_on 5 rfl fun KJ hK => ?_
  go_simp
  clear HJ
  have HJ : Hid ((fun W' : World => W'.cell? ⟨ga, 0, none⟩ = some (Fv h) ∧ W'.cell? ⟨ga, 1, none⟩ = some (Fv l)) V1) := ⟨Xa.out.c0, Xa.out.c1⟩
  refine hK _ _ HJ.out ?_
  clear hK
  refine wpJ_tq 6 rfl HJ.out ?_
  obtain ⟨cr0, cr1, fr0, fr1⟩ := Xr.out
  have hner := Xr.out.lt
  obtain ⟨ca0, ca1, fa0, fa1⟩ := Xa.out
  have hnea := Xa.out.lt
  obtain ⟨hgd0, hgd1⟩ := HGD.out
  refine wpJ_on 7 rfl fun KJ hK => ?_
  go_simp
  have HJ2 : Hid ((fun W' : World => W'.cell? ⟨ga, 0, none⟩ = some (Fv h) ∧ W'.cell? ⟨ga, 1, none⟩ = some (Fv l)) ((V1.setCell ⟨gr, 0, none⟩ (.int .u64 (h : Int))).setCell ⟨gr, 1, none⟩ (.int .u64 (l : Int)))) := ⟨by go_simp, by go_simp⟩
  refine hK _ _ HJ2.out ?_
  clear hK HJ
  have HJ := HJ2
  clear HJ2
  refine wpJ_done (by kernel_rfl) ?_ _
  clear HJ
  go_wp2_with fail
  refine bodyPost_ret (v := .agg #[.int .u64 (h : Int), .int .u64 (l : Int)]) (by rw [results_cell1 rfl]; go_simp) rfl ⟨rfl, ?_⟩
  exact bSet (bSet (hbw) _ _ _ HGr.out) _ _ _ HGr.out
theorem lpair (h l : Nat) (w : World) :
    Calls Tryz.prog 12 #[.agg #[.int .u64 (h : Int), .int .u64 (l : Int)]] w fun en w' => en = .returned (.agg #[Fv h, Fv l]) ∧ Below w.heap.size w w' := by
  have hSF : ∀ (w : World) (a : Addr) (b : Nat), (store a (Fv b)).run Tryz.prog w = stored Tryz.prog w a (Fv b) .plain := stF
  have b1 := lfloat h
  have b2 := lfloat l
  go_enter Tryz.func12, Tryz.ntmps12
  go_wp2_with fail
  obtain ⟨W0, hW0⟩ : ∃ W0, W0 = ((w.alloc (.cells #[.int .u64 (h : Int), .int .u64 (l : Int)] 28)).alloc (.cells #[Fv 0, Fv 0] 32)) := ⟨_, rfl⟩
  have Xa : Hid (Box W0 (w.heap.size) (.int .u64 (h : Int)) (.int .u64 (l : Int))) := by rw [hW0]; exact ⟨by go_simp, by go_simp, by go_simp, by go_simp⟩
  have Xr : Hid (Box W0 (w.heap.size + 1) (Fv 0) (Fv 0)) := by rw [hW0]; exact ⟨by go_simp, by go_simp, by go_simp, by go_simp⟩
  have hb0 : Below w.heap.size w W0 := by rw [hW0]; exact below2 w _ _
  rw [← hW0]
  clear hW0
  have hbw : Below w.heap.size w w := Below.refl _ _
  obtain ⟨gr, hgr⟩ : ∃ g, g = w.heap.size + 1 := ⟨_, rfl⟩
  have HGr : Hid (w.heap.size ≤ gr) := by rw [hgr]; show _ ≤ _; omega
  rw [← hgr] at Xr
  try rw [← hgr]
  obtain ⟨ga, hga⟩ : ∃ g, g = w.heap.size := ⟨_, rfl⟩
  have HGa : Hid (w.heap.size ≤ ga) := by rw [hga]; show _ ≤ _; omega
  rw [← hga] at Xa
  try rw [← hga]
  have HGD : Hid (ga ≠ gr ∧ gr ≠ ga) := by rw [hga, hgr]; exact ⟨by omega, by omega⟩
  clear hga hgr
  replace hbw := Below.on hbw hb0
  clear hb0
  obtain ⟨V1, hV1⟩ : ∃ W1, W1 = W0.drew := ⟨_, rfl⟩
  have hbd : Below W0.heap.size W0 V1 := by rw [hV1]; exact bDrew1 (Below.refl _ _)
  replace Xa : Hid _ := Xa.out.below hbd
  replace Xr : Hid _ := Xr.out.below hbd
  replace hbw := Below.on hbw hbd
  clear hbd
  have HJ : Hid ((fun W' : World => W'.cell? ⟨ga, 0, none⟩ = some (.int .u64 (h : Int)) ∧ W'.cell? ⟨ga, 1, none⟩ = some (.int .u64 (l : Int))) V1) := ⟨Xa.out.c0, Xa.out.c1⟩
  refine wp_region_J (fun W' => W'.cell? ⟨ga, 0, none⟩ = some (.int .u64 (h : Int)) ∧ W'.cell? ⟨ga, 1, none⟩ = some (.int .u64 (l : Int))) (by kernel_rfl) ?_
  rw [← hV1]
  clear hV1
  refine wpJ_tq 0 rfl HJ.out ?_
  refine wpJ_tq 1 rfl HJ.out ?_
  refine wpJ_tq 3 rfl HJ.out ?_
  refine wpJ_tq 4 rfl HJ.out ?_
  refine wpJ_on 2 rfl fun KJ hK => ?_
  go_simp
  refine (b1 _).mono ?_
  rintro e v9 ⟨rfl, hw⟩
  obtain rfl := hw.symm
  clear hw
  refine hK _ _ ⟨Xa.out.c0, Xa.out.c1⟩ ?_
  clear hK
  refine wpJ_on 5 rfl fun KJ hK => ?_
  go_simp
  refine (b2 _).mono ?_
  rintro e v9 ⟨rfl, hw⟩
  obtain rfl := hw.symm
  clear hw
  clear HJ
  have HJ : Hid ((fun W' : World => W'.cell? ⟨ga, 0, none⟩ = some (.int .u64 (h : Int)) ∧ W'.cell? ⟨ga, 1, none⟩ = some (.int .u64 (l : Int))) V1) := ⟨Xa.out.c0, Xa.out.c1⟩
  refine hK _ _ HJ.out ?_
  clear hK
  refine wpJ_tq 6 rfl HJ.out ?_
  obtain ⟨cr0, cr1, fr0, fr1⟩ := Xr.out
  have hner := Xr.out.lt
  obtain ⟨ca0, ca1, fa0, fa1⟩ := Xa.out
  have hnea := Xa.out.lt
  obtain ⟨hgd0, hgd1⟩ := HGD.out
  refine wpJ_on 7 rfl fun KJ hK => ?_
  go_simp
  have HJ2 : Hid ((fun W' : World => W'.cell? ⟨ga, 0, none⟩ = some (.int .u64 (h : Int)) ∧ W'.cell? ⟨ga, 1, none⟩ = some (.int .u64 (l : Int))) ((V1.setCell ⟨gr, 0, none⟩ (Fv h)).setCell ⟨gr, 1, none⟩ (Fv l))) := ⟨by go_simp, by go_simp⟩
  refine hK _ _ HJ2.out ?_
  clear hK HJ
  have HJ := HJ2
  clear HJ2
  refine wpJ_done (by kernel_rfl) ?_ _
  clear HJ
  go_wp2_with fail
  refine bodyPost_ret (v := .agg #[Fv h, Fv l]) (by rw [results_cell1 rfl]; go_simp) rfl ⟨rfl, ?_⟩
  exact bSet (bSet (hbw) _ _ _ HGr.out) _ _ _ HGr.out
theorem ddOf {x : Nat} (hx : Fin64 x) (w : World) :
    Calls Tryz.prog 29 #[Fv x] w fun en w' => en = .returned (.agg #[Fv x, Fv 0]) ∧ Below w.heap.size w w' := by
  have hSF : ∀ (w : World) (a : Addr) (b : Nat), (store a (Fv b)).run Tryz.prog w = stored Tryz.prog w a (Fv b) .plain := stF
  have H1 := ddfinite x hx.lt
  rw [(finB_iff hx.lt).2 hx] at H1
  clear hx
  go_enter Tryz.func29, Tryz.ntmps29
  go_wp2_with fail
  obtain ⟨W0, hW0⟩ : ∃ W0, W0 = (w.alloc (.cells #[Fv 0, Fv 0] 32)) := ⟨_, rfl⟩
  have Xr : Hid (Box W0 (w.heap.size) (Fv 0) (Fv 0)) := by rw [hW0]; exact ⟨by go_simp, by go_simp, by go_simp, by go_simp⟩
  have hb0 : Below w.heap.size w W0 := by rw [hW0]; exact below1 w _
  rw [← hW0]
  clear hW0
  have hbw : Below w.heap.size w w := Below.refl _ _
  obtain ⟨gr, hgr⟩ : ∃ g, g = w.heap.size := ⟨_, rfl⟩
  have HGr : Hid (w.heap.size ≤ gr) := by rw [hgr]; show _ ≤ _; omega
  rw [← hgr] at Xr
  try rw [← hgr]
  clear hgr
  replace hbw := Below.on hbw hb0
  clear hb0
  refine (H1 _).mono ?_
  rintro e v9 ⟨rfl, hw⟩
  obtain rfl := hw.symm
  clear hw
  obtain ⟨cr0, cr1, fr0, fr1⟩ := Xr.out
  have hner := Xr.out.lt
  go_wp2_with fail
  refine bodyPost_ret (v := .agg #[Fv x, Fv 0]) (by rw [results_cell1 rfl]; go_simp) rfl ⟨rfl, ?_⟩
  exact bSet (bSet (hbw) _ _ _ HGr.out) _ _ _ HGr.out
theorem ddpair (x y : Nat) (w : World) :
    Calls Tryz.prog 52 #[Fv x, Fv y] w fun en w' => en = .returned (.agg #[Fv x, Fv y]) ∧ Below w.heap.size w w' := by
  have hSF : ∀ (w : World) (a : Addr) (b : Nat), (store a (Fv b)).run Tryz.prog w = stored Tryz.prog w a (Fv b) .plain := stF
  go_enter Tryz.func52, Tryz.ntmps52
  go_wp2_with fail
  refine bodyPost_ret (v := .agg #[Fv x, Fv y]) (by rw [results_cell1 rfl]; go_simp) rfl ⟨rfl, below1 w _⟩
theorem ts_s {s r : Nat} (h : TSR 4607182418800017408 4359484439294640128 s r) : s = 4607182418800017408 ∧ r = 4359484439294640128 := by
  obtain ⟨ob, oa, da, db, F1, F2, F3, F4, F5, F6⟩ := h
  obtain rfl : s = 4607182418800017408 := F1.some _ (by decide +kernel)
  obtain rfl : ob = 0 := F2.some _ (by decide +kernel)
  obtain rfl : oa = 4607182418800017408 := F3.some _ (by decide +kernel)
  obtain rfl : da = 0 := F4.some _ (by decide +kernel)
  obtain rfl : db = 4359484439294640128 := F5.some _ (by decide +kernel)
  obtain rfl : r = 4359484439294640128 := F6.some _ (by decide +kernel)
  exact ⟨rfl, rfl⟩
theorem ddSum_s (w : World) :
    Calls Tryz.prog 32 #[Fv 4607182418800017408, Fv 4359484439294640128] w fun en w' => en = .returned (.agg #[Fv 4607182418800017408, Fv 4359484439294640128]) ∧ Below w.heap.size w w' := by
  have hSF : ∀ (w : World) (a : Addr) (b : Nat), (store a (Fv b)).run Tryz.prog w = stored Tryz.prog w a (Fv b) .plain := stF
  go_enter Tryz.func32, Tryz.ntmps32
  go_wp2_with fail
  obtain ⟨W0, hW0⟩ : ∃ W0, W0 = (w.alloc (.cells #[Fv 0, Fv 0] 32)) := ⟨_, rfl⟩
  have Xr : Hid (Box W0 (w.heap.size) (Fv 0) (Fv 0)) := by rw [hW0]; exact ⟨by go_simp, by go_simp, by go_simp, by go_simp⟩
  have hb0 : Below w.heap.size w W0 := by rw [hW0]; exact below1 w _
  rw [← hW0]
  clear hW0
  have hbw : Below w.heap.size w w := Below.refl _ _
  obtain ⟨gr, hgr⟩ : ∃ g, g = w.heap.size := ⟨_, rfl⟩
  have HGr : Hid (w.heap.size ≤ gr) := by rw [hgr]; show _ ≤ _; omega
  rw [← hgr] at Xr
  try rw [← hgr]
  clear hgr
  replace hbw := Below.on hbw hb0
  clear hb0
  refine (twoSum 4607182418800017408 4359484439294640128 _).mono ?_
  rintro e9 v9 ⟨s9, r9, n9, rfl, rfl, hR⟩
  obtain ⟨rfl, rfl⟩ := ts_s hR
  clear hR
  have hbr := bDrewN (Below.refl W0.heap.size W0) n9
  generalize W0.drewN n9 = V1 at *
  replace Xr : Hid _ := Xr.out.below hbr
  replace hbw := Below.on hbw hbr
  clear hbr
  go_wp2_with fail
  refine (ddpair 4607182418800017408 4359484439294640128 _).mono ?_
  rintro e v2 ⟨rfl, hb2⟩
  replace Xr : Hid _ := Xr.out.below hb2
  replace hbw := Below.on hbw hb2
  clear hb2
  obtain ⟨cr0, cr1, fr0, fr1⟩ := Xr.out
  have hner := Xr.out.lt
  go_wp2_with fail
  refine bodyPost_ret (v := .agg #[Fv 4607182418800017408, Fv 4359484439294640128]) (by rw [results_cell1 rfl]; go_simp) rfl ⟨rfl, ?_⟩
  exact bSet (bSet (hbw) _ _ _ HGr.out) _ _ _ HGr.out
theorem tp_m_a {h l : Nat} (k : SPR 4613937818241073152 h l) : h = 4613937818241073152 ∧ l = 0 := by
  obtain ⟨c, d, F1, F2, F3, F4⟩ := k
  obtain rfl : c = 4735535008230408192 := F1.some _ (by decide +kernel)
  obtain rfl : d = 4735535008180076544 := F2.some _ (by decide +kernel)
  obtain rfl : h = 4613937818241073152 := F3.some _ (by decide +kernel)
  obtain rfl : l = 0 := F4.some _ (by decide +kernel)
  exact ⟨rfl, rfl⟩
theorem tp_m_b {h l : Nat} (k : SPR 4599676419421066581 h l) : h = 4599676419465805824 ∧ l = 13701451266381578240 := by
  obtain ⟨c, d, F1, F2, F3, F4⟩ := k
  obtain rfl : c = 4721273609404809216 := F1.some _ (by decide +kernel)
  obtain rfl : d = 4721273609360069973 := F2.some _ (by decide +kernel)
  obtain rfl : h = 4599676419465805824 := F3.some _ (by decide +kernel)
  obtain rfl : l = 13701451266381578240 := F4.some _ (by decide +kernel)
  exact ⟨rfl, rfl⟩
theorem tp_m {p e : Nat} (k : TPR 4613937818241073152 4599676419421066581 p e) : p = 4607182418800017408 ∧ e = 13587360075776786432 := by
  obtain ⟨ah, al, bh, bl, x1, e1, x2, e2, x3, e3, x4, F1, S1, S2, F2, F3, F4, F5, F6, F7, F8, F9⟩ := k
  obtain ⟨rfl, rfl⟩ := tp_m_a S1
  obtain ⟨rfl, rfl⟩ := tp_m_b S2
  obtain rfl : p = 4607182418800017408 := F1.some _ (by decide +kernel)
  obtain rfl : x1 = 4607182418833571840 := F2.some _ (by decide +kernel)
  obtain rfl : e1 = 4485585228861014016 := F3.some _ (by decide +kernel)
  obtain rfl : x2 = 13708957265749344256 := F4.some _ (by decide +kernel)
  obtain rfl : e2 = 13587360075776786432 := F5.some _ (by decide +kernel)
  obtain rfl : x3 = 0 := F6.some _ (by decide +kernel)
  obtain rfl : e3 = 13587360075776786432 := F7.some _ (by decide +kernel)
  obtain rfl : x4 = 9223372036854775808 := F8.some _ (by decide +kernel)
  obtain rfl : e = 13587360075776786432 := F9.some _ (by decide +kernel)
  exact ⟨rfl, rfl⟩
theorem fs_m {s r : Nat} (h : FSR 4607182418800017408 13587360075776786432 s r) : s = 4607182418800017408 ∧ r = 13587360075776786432 := by
  obtain ⟨t, F1, F2, F3⟩ := h
  obtain rfl : s = 4607182418800017408 := F1.some _ (by decide +kernel)
  obtain rfl : t = 0 := F2.some _ (by decide +kernel)
  obtain rfl : r = 13587360075776786432 := F3.some _ (by decide +kernel)
  exact ⟨rfl, rfl⟩
theorem ddMulF_m (w : World) :
    Calls Tryz.prog 30 #[.agg #[Fv 4613937818241073152, Fv 0], Fv 4599676419421066581] w fun en w' => en = .returned (.agg #[Fv 4607182418800017408, Fv 13587360075776786432]) ∧ Below w.heap.size w w' := by
  have hSF : ∀ (w : World) (a : Addr) (b : Nat), (store a (Fv b)).run Tryz.prog w = stored Tryz.prog w a (Fv b) .plain := stF
  have fl1 : ∀ w, (binOp .mul 30 (Fv 0) (Fv 4599676419421066581)).run Tryz.prog w = .ok (Fv 0) w := fun w => run_float_arith w .mul 30 .f64 0 4599676419421066581 0 (by decide +kernel)
  have fl2 : ∀ w, (binOp .add 30 (Fv 13587360075776786432) (Fv 0)).run Tryz.prog w = .ok (Fv 13587360075776786432) w := fun w => run_float_arith w .add 30 .f64 13587360075776786432 0 13587360075776786432 (by decide +kernel)
  go_enter Tryz.func30, Tryz.ntmps30
  go_wp2_with fail
  obtain ⟨W0, hW0⟩ : ∃ W0, W0 = ((w.alloc (.cells #[Fv 4613937818241073152, Fv 0] 32)).alloc (.cells #[Fv 0, Fv 0] 32)) := ⟨_, rfl⟩
  have Xa : Hid (Box W0 (w.heap.size) (Fv 4613937818241073152) (Fv 0)) := by rw [hW0]; exact ⟨by go_simp, by go_simp, by go_simp, by go_simp⟩
  have Xr : Hid (Box W0 (w.heap.size + 1) (Fv 0) (Fv 0)) := by rw [hW0]; exact ⟨by go_simp, by go_simp, by go_simp, by go_simp⟩
  have hb0 : Below w.heap.size w W0 := by rw [hW0]; exact below2 w _ _
  rw [← hW0]
  clear hW0
  have hbw : Below w.heap.size w w := Below.refl _ _
  obtain ⟨gr, hgr⟩ : ∃ g, g = w.heap.size + 1 := ⟨_, rfl⟩
  have HGr : Hid (w.heap.size ≤ gr) := by rw [hgr]; show _ ≤ _; omega
  rw [← hgr] at Xr
  try rw [← hgr]
  obtain ⟨ga, hga⟩ : ∃ g, g = w.heap.size := ⟨_, rfl⟩
  have HGa : Hid (w.heap.size ≤ ga) := by rw [hga]; show _ ≤ _; omega
  rw [← hga] at Xa
  try rw [← hga]
  have HGD : Hid (ga ≠ gr ∧ gr ≠ ga) := by rw [hga, hgr]; exact ⟨by omega, by omega⟩
  clear hga hgr
  replace hbw := Below.on hbw hb0
  clear hb0
  obtain ⟨hgd0, hgd1⟩ := HGD.out
  refine (twoProd 4613937818241073152 4599676419421066581 _).mono ?_
  rintro e9 v9 ⟨s9, r9, n9, rfl, rfl, hR⟩
  obtain ⟨rfl, rfl⟩ := tp_m hR
  clear hR
  have hbr := bDrewN (Below.refl W0.heap.size W0) n9
  generalize W0.drewN n9 = V1 at *
  replace Xa : Hid _ := Xa.out.below hbr
  replace Xr : Hid _ := Xr.out.below hbr
  replace hbw := Below.on hbw hbr
  clear hbr
  obtain ⟨ca0, ca1, fa0, fa1⟩ := Xa.out
  have hnea := Xa.out.lt
  go_wp2_with fail
  clear ca0 ca1 fa0 fa1 hnea
  refine (fastTwoSum 4607182418800017408 13587360075776786432 _).mono ?_
  rintro e9 v9 ⟨s9, r9, n9, rfl, rfl, hR⟩
  obtain ⟨rfl, rfl⟩ := fs_m hR
  clear hR
  have hbr := bDrewN (Below.refl V1.heap.size V1) n9
  generalize V1.drewN n9 = V2 at *
  replace Xa : Hid _ := Xa.out.below hbr
  replace Xr : Hid _ := Xr.out.below hbr
  replace hbw := Below.on hbw hbr
  clear hbr
  go_wp2_with fail
  refine (ddpair 4607182418800017408 13587360075776786432 _).mono ?_
  rintro e v3 ⟨rfl, hb3⟩
  replace Xa : Hid _ := Xa.out.below hb3
  replace Xr : Hid _ := Xr.out.below hb3
  replace hbw := Below.on hbw hb3
  clear hb3
  obtain ⟨cr0, cr1, fr0, fr1⟩ := Xr.out
  have hner := Xr.out.lt
  go_wp2_with fail
  refine bodyPost_ret (v := .agg #[Fv 4607182418800017408, Fv 13587360075776786432]) (by rw [results_cell1 rfl]; go_simp) rfl ⟨rfl, ?_⟩
  exact bSet (bSet (hbw) _ _ _ HGr.out) _ _ _ HGr.out
theorem fs_d {s r : Nat} (h : FSR 4599676419421066581 4356482039543059797 s r) : s = 4599676419421066581 ∧ r = 4356482039543059797 := by
  obtain ⟨t, F1, F2, F3⟩ := h
  obtain rfl : s = 4599676419421066581 := F1.some _ (by decide +kernel)
  obtain rfl : t = 0 := F2.some _ (by decide +kernel)
  obtain rfl : r = 4356482039543059797 := F3.some _ (by decide +kernel)
  exact ⟨rfl, rfl⟩
theorem ddDiv_d (w : World) :
    Calls Tryz.prog 24 #[.agg #[Fv 4607182418800017408, Fv 0], .agg #[Fv 4613937818241073152, Fv 0]] w fun en w' => en = .returned (.agg #[Fv 4599676419421066581, Fv 4356482039543059797]) ∧ Below w.heap.size w w' := by
  have hSF : ∀ (w : World) (a : Addr) (b : Nat), (store a (Fv b)).run Tryz.prog w = stored Tryz.prog w a (Fv b) .plain := stF
  have fl3 : ∀ w, (binOp .quo 30 (Fv 4607182418800017408) (Fv 4613937818241073152)).run Tryz.prog w = .ok (Fv 4599676419421066581) w := fun w => run_float_arith w .quo 30 .f64 4607182418800017408 4613937818241073152 4599676419421066581 (by decide +kernel)
  have fl4 : ∀ w, (binOp .sub 30 (Fv 4607182418800017408) (Fv 4607182418800017408)).run Tryz.prog w = .ok (Fv 0) w := fun w => run_float_arith w .sub 30 .f64 4607182418800017408 4607182418800017408 0 (by decide +kernel)
  have fl5 : ∀ w, (binOp .sub 30 (Fv 0) (Fv 13587360075776786432)).run Tryz.prog w = .ok (Fv 4363988038922010624) w := fun w => run_float_arith w .sub 30 .f64 0 13587360075776786432 4363988038922010624 (by decide +kernel)
  have fl6 : ∀ w, (binOp .add 30 (Fv 0) (Fv 4363988038922010624)).run Tryz.prog w = .ok (Fv 4363988038922010624) w := fun w => run_float_arith w .add 30 .f64 0 4363988038922010624 4363988038922010624 (by decide +kernel)
  have fl7 : ∀ w, (binOp .quo 30 (Fv 4363988038922010624) (Fv 4613937818241073152)).run Tryz.prog w = .ok (Fv 4356482039543059797) w := fun w => run_float_arith w .quo 30 .f64 4363988038922010624 4613937818241073152 4356482039543059797 (by decide +kernel)
  go_enter Tryz.func24, Tryz.ntmps24
  go_wp2_with fail
  obtain ⟨W0, hW0⟩ : ∃ W0, W0 = (((w.alloc (.cells #[Fv 4607182418800017408, Fv 0] 32)).alloc (.cells #[Fv 4613937818241073152, Fv 0] 32)).alloc (.cells #[Fv 0, Fv 0] 32)) := ⟨_, rfl⟩
  have Xa : Hid (Box W0 (w.heap.size) (Fv 4607182418800017408) (Fv 0)) := by rw [hW0]; exact ⟨by go_simp, by go_simp, by go_simp, by go_simp⟩
  have Xb : Hid (Box W0 (w.heap.size + 1) (Fv 4613937818241073152) (Fv 0)) := by rw [hW0]; exact ⟨by go_simp, by go_simp, by go_simp, by go_simp⟩
  have Xr : Hid (Box W0 (w.heap.size + 1 + 1) (Fv 0) (Fv 0)) := by rw [hW0]; exact ⟨by go_simp, by go_simp, by go_simp, by go_simp⟩
  have hb0 : Below w.heap.size w W0 := by rw [hW0]; exact below3 w _ _ _
  rw [← hW0]
  clear hW0
  have hbw : Below w.heap.size w w := Below.refl _ _
  obtain ⟨gr, hgr⟩ : ∃ g, g = w.heap.size + 1 + 1 := ⟨_, rfl⟩
  have HGr : Hid (w.heap.size ≤ gr) := by rw [hgr]; show _ ≤ _; omega
  rw [← hgr] at Xr
  try rw [← hgr]
  obtain ⟨gb, hgb⟩ : ∃ g, g = w.heap.size + 1 := ⟨_, rfl⟩
  have HGb : Hid (w.heap.size ≤ gb) := by rw [hgb]; show _ ≤ _; omega
  rw [← hgb] at Xb
  try rw [← hgb]
  obtain ⟨ga, hga⟩ : ∃ g, g = w.heap.size := ⟨_, rfl⟩
  have HGa : Hid (w.heap.size ≤ ga) := by rw [hga]; show _ ≤ _; omega
  rw [← hga] at Xa
  try rw [← hga]
  have HGD : Hid (ga ≠ gb ∧ ga ≠ gr ∧ gb ≠ ga ∧ gb ≠ gr ∧ gr ≠ ga ∧ gr ≠ gb) := by rw [hga, hgb, hgr]; exact ⟨by omega, by omega, by omega, by omega, by omega, by omega⟩
  clear hga hgb hgr
  replace hbw := Below.on hbw hb0
  clear hb0
  obtain ⟨hgd0, hgd1, hgd2, hgd3, hgd4, hgd5⟩ := HGD.out
  obtain ⟨ca0, ca1, fa0, fa1⟩ := Xa.out
  have hnea := Xa.out.lt
  obtain ⟨cb0, cb1, fb0, fb1⟩ := Xb.out
  have hneb := Xb.out.lt
  go_wp2_with fail
  clear ca0 ca1 fa0 fa1 hnea
  clear cb0 cb1 fb0 fb1 hneb
  refine (ddMulF_m _).mono ?_
  rintro e v1 ⟨rfl, hb1⟩
  replace Xa : Hid _ := Xa.out.below hb1
  replace Xb : Hid _ := Xb.out.below hb1
  replace Xr : Hid _ := Xr.out.below hb1
  replace hbw := Below.on hbw hb1
  clear hb1
  obtain ⟨ca0, ca1, fa0, fa1⟩ := Xa.out
  have hnea := Xa.out.lt
  obtain ⟨cb0, cb1, fb0, fb1⟩ := Xb.out
  have hneb := Xb.out.lt
  go_wp2_with fail
  clear ca0 ca1 fa0 fa1 hnea
  clear cb0 cb1 fb0 fb1 hneb
  have Xk0 : Hid (Box (v1.alloc (.cells #[Fv 4607182418800017408, Fv 13587360075776786432] 32)) v1.heap.size (Fv 4607182418800017408) (Fv 13587360075776786432)) := Box.new v1 _ _ _
  have hbn : Below v1.heap.size v1 (v1.alloc (.cells #[Fv 4607182418800017408, Fv 13587360075776786432] 32)) := below1 v1 _
  generalize v1.alloc (.cells #[Fv 4607182418800017408, Fv 13587360075776786432] 32) = Wk at *
  have HGk : Hid (w.heap.size ≤ v1.heap.size) := hbw.size
  replace Xa : Hid _ := Xa.out.below hbn
  replace Xb : Hid _ := Xb.out.below hbn
  replace Xr : Hid _ := Xr.out.below hbn
  replace hbw := Below.on hbw hbn
  clear hbn
  generalize v1.heap.size = gk at *
  have Xk := Xk0
  clear Xk0
  obtain ⟨ca0, ca1, fa0, fa1⟩ := Xa.out
  have hnea := Xa.out.lt
  obtain ⟨cb0, cb1, fb0, fb1⟩ := Xb.out
  have hneb := Xb.out.lt
  obtain ⟨ck0, ck1, fk0, fk1⟩ := Xk.out
  have hnek := Xk.out.lt
  go_wp2_with fail
  clear ca0 ca1 fa0 fa1 hnea
  clear cb0 cb1 fb0 fb1 hneb
  clear ck0 ck1 fk0 fk1 hnek
  refine (fastTwoSum 4599676419421066581 4356482039543059797 _).mono ?_
  rintro e9 v9 ⟨s9, r9, n9, rfl, rfl, hR⟩
  obtain ⟨rfl, rfl⟩ := fs_d hR
  clear hR
  have hbr := bDrewN (Below.refl Wk.heap.size Wk) n9
  generalize Wk.drewN n9 = V2 at *
  replace Xa : Hid _ := Xa.out.below hbr
  replace Xb : Hid _ := Xb.out.below hbr
  replace Xr : Hid _ := Xr.out.below hbr
  replace Xk : Hid _ := Xk.out.below hbr
  replace hbw := Below.on hbw hbr
  clear hbr
  go_wp2_with fail
  refine (ddpair 4599676419421066581 4356482039543059797 _).mono ?_
  rintro e v3 ⟨rfl, hb3⟩
  replace Xa : Hid _ := Xa.out.below hb3
  replace Xb : Hid _ := Xb.out.below hb3
  replace Xr : Hid _ := Xr.out.below hb3
  replace Xk : Hid _ := Xk.out.below hb3
  replace hbw := Below.on hbw hb3
  clear hb3
  obtain ⟨cr0, cr1, fr0, fr1⟩ := Xr.out
  have hner := Xr.out.lt
  go_wp2_with fail
  refine bodyPost_ret (v := .agg #[Fv 4599676419421066581, Fv 4356482039543059797]) (by rw [results_cell1 rfl]; go_simp) rfl ⟨rfl, ?_⟩
  exact bSet (bSet (hbw) _ _ _ HGr.out) _ _ _ HGr.out
theorem ddf_s : DdF 4607182418800017408 4359484439294640128 := ⟨⟨by decide, by decide⟩, ⟨by decide, by decide⟩, by decide +kernel, by decide +kernel⟩
theorem ddf_1 : DdF 4607182418800017408 0 := ⟨⟨by decide, by decide⟩, ⟨by decide, by decide⟩, by decide +kernel, by decide +kernel⟩
theorem cmp_s : cmpD 4607182418800017408 4359484439294640128 4607182418800017408 0 = 1 := by rw [cmpD_eq ddf_s ddf_1]; decide +kernel
theorem awake20 (w : World) :
    Calls Tryz.prog 9 #[] w fun en w' => en = .returned (.bool true) ∧ Below w.heap.size w w' := by
  have hSF : ∀ (w : World) (a : Addr) (b : Nat), (store a (Fv b)).run Tryz.prog w = stored Tryz.prog w a (Fv b) .plain := stF
  have F1 := lfloat 4607182418800017408
  have F2 := lfloat 4359484439294640128
  have F3 := lfloat 4613937818241073152
  have O1 := ddOf (x := 4607182418800017408) ⟨by decide, by decide⟩
  have O3 := ddOf (x := 4613937818241073152) ⟨by decide, by decide⟩
  have P1 := lpair 4607182418800017408 4359484439294640128
  have G1 := ddform 4607182418800017408 4359484439294640128 (by decide) (by decide)
  rw [ddB_iff.2 ddf_s] at G1
  have C1 := ddcmp 4607182418800017408 4359484439294640128 4607182418800017408 0 (by decide) (by decide) (by decide) (by decide)
  rw [cmp_s] at C1
  have hbw : Below w.heap.size w w := Below.refl _ _
  go_enter Tryz.func9, Tryz.ntmps9
  go_wp2_with fail
  refine (F1 _).mono ?_
  rintro e v9 ⟨rfl, hw⟩
  obtain rfl := hw.symm
  clear hw
  go_wp2_with fail
  refine (F2 _).mono ?_
  rintro e v9 ⟨rfl, hw⟩
  obtain rfl := hw.symm
  clear hw
  go_wp2_with fail
  refine (ddSum_s _).mono ?_
  rintro e v1 ⟨rfl, hb1⟩
  replace hbw := Below.on hbw hb1
  clear hb1
  go_wp2_with fail
  refine (lbits 4607182418800017408 4359484439294640128 _).mono ?_
  rintro e v2 ⟨rfl, hb2⟩
  replace hbw := Below.on hbw hb2
  clear hb2
  go_wp2_with fail
  have Xs0 : Hid (Box (v2.alloc (.cells #[.int .u64 ((4607182418800017408 : Nat) : Int), .int .u64 ((4359484439294640128 : Nat) : Int)] 28)) v2.heap.size (.int .u64 ((4607182418800017408 : Nat) : Int)) (.int .u64 ((4359484439294640128 : Nat) : Int))) := Box.new v2 _ _ _
  have hbn : Below v2.heap.size v2 (v2.alloc (.cells #[.int .u64 ((4607182418800017408 : Nat) : Int), .int .u64 ((4359484439294640128 : Nat) : Int)] 28)) := below1 v2 _
  generalize v2.alloc (.cells #[.int .u64 ((4607182418800017408 : Nat) : Int), .int .u64 ((4359484439294640128 : Nat) : Int)] 28) = Ws at *
  have HGs : Hid (w.heap.size ≤ v2.heap.size) := hbw.size
  replace hbw := Below.on hbw hbn
  clear hbn
  generalize v2.heap.size = gs at *
  have Xs := Xs0
  clear Xs0
  refine (F1 _).mono ?_
  rintro e v9 ⟨rfl, hw⟩
  obtain rfl := hw.symm
  clear hw
  go_wp2_with fail
  refine (O1 _).mono ?_
  rintro e v3 ⟨rfl, hb3⟩
  replace Xs : Hid _ := Xs.out.below hb3
  replace hbw := Below.on hbw hb3
  clear hb3
  go_wp2_with fail
  refine (F3 _).mono ?_
  rintro e v9 ⟨rfl, hw⟩
  obtain rfl := hw.symm
  clear hw
  go_wp2_with fail
  refine (O3 _).mono ?_
  rintro e v4 ⟨rfl, hb4⟩
  replace Xs : Hid _ := Xs.out.below hb4
  replace hbw := Below.on hbw hb4
  clear hb4
  go_wp2_with fail
  refine (ddDiv_d _).mono ?_
  rintro e v5 ⟨rfl, hb5⟩
  replace Xs : Hid _ := Xs.out.below hb5
  replace hbw := Below.on hbw hb5
  clear hb5
  go_wp2_with fail
  refine (lbits 4599676419421066581 4356482039543059797 _).mono ?_
  rintro e v6 ⟨rfl, hb6⟩
  replace Xs : Hid _ := Xs.out.below hb6
  replace hbw := Below.on hbw hb6
  clear hb6
  obtain ⟨cs0, cs1, fs0, fs1⟩ := Xs.out
  have hnes := Xs.out.lt
  go_wp2_with fail
  clear cs0 cs1 fs0 fs1 hnes
  have Xq0 : Hid (Box (v6.alloc (.cells #[.int .u64 ((4599676419421066581 : Nat) : Int), .int .u64 ((4356482039543059797 : Nat) : Int)] 28)) v6.heap.size (.int .u64 ((4599676419421066581 : Nat) : Int)) (.int .u64 ((4356482039543059797 : Nat) : Int))) := Box.new v6 _ _ _
  have hbn : Below v6.heap.size v6 (v6.alloc (.cells #[.int .u64 ((4599676419421066581 : Nat) : Int), .int .u64 ((4356482039543059797 : Nat) : Int)] 28)) := below1 v6 _
  generalize v6.alloc (.cells #[.int .u64 ((4599676419421066581 : Nat) : Int), .int .u64 ((4356482039543059797 : Nat) : Int)] 28) = Wq at *
  have HGq : Hid (w.heap.size ≤ v6.heap.size) := hbw.size
  replace Xs : Hid _ := Xs.out.below hbn
  replace hbw := Below.on hbw hbn
  clear hbn
  generalize v6.heap.size = gq at *
  have Xq := Xq0
  clear Xq0
  refine (P1 _).mono ?_
  rintro e v7 ⟨rfl, hb7⟩
  replace Xs : Hid _ := Xs.out.below hb7
  replace Xq : Hid _ := Xq.out.below hb7
  replace hbw := Below.on hbw hb7
  clear hb7
  obtain ⟨cs0, cs1, fs0, fs1⟩ := Xs.out
  have hnes := Xs.out.lt
  go_wp2_with fail
  clear cs0 cs1 fs0 fs1 hnes
  refine (G1 _).mono ?_
  rintro e v8 ⟨rfl, hb8⟩
  replace Xs : Hid _ := Xs.out.below hb8
  replace Xq : Hid _ := Xq.out.below hb8
  replace hbw := Below.on hbw hb8
  clear hb8
  obtain ⟨cs0, cs1, fs0, fs1⟩ := Xs.out
  have hnes := Xs.out.lt
  go_wp2_with fail
  clear cs0 cs1 fs0 fs1 hnes
  refine (P1 _).mono ?_
  rintro e v9 ⟨rfl, hb9⟩
  replace Xs : Hid _ := Xs.out.below hb9
  replace Xq : Hid _ := Xq.out.below hb9
  replace hbw := Below.on hbw hb9
  clear hb9
  go_wp2_with fail
  refine (F1 _).mono ?_
  rintro e v9 ⟨rfl, hw⟩
  obtain rfl := hw.symm
  clear hw
  go_wp2_with fail
  refine (O1 _).mono ?_
  rintro e v10 ⟨rfl, hb10⟩
  replace Xs : Hid _ := Xs.out.below hb10
  replace Xq : Hid _ := Xq.out.below hb10
  replace hbw := Below.on hbw hb10
  clear hb10
  go_wp2_with fail
  refine (C1 _).mono ?_
  rintro e v11 ⟨rfl, hb11⟩
  replace Xs : Hid _ := Xs.out.below hb11
  replace Xq : Hid _ := Xq.out.below hb11
  replace hbw := Below.on hbw hb11
  clear hb11
  go_wp2_with fail
  go_ret
  exact ⟨by kernel_rfl, hbw⟩
theorem DdF.of_sm {X : Int} {s r : Nat} (h : Sm64 X s) (hr : Fin64 r) (hx : ux s + ux r = X) : DdF s r := by
  have h1 : rg 0 X.natAbs < 9218868437227405312 := by rw [← h.size]; exact h.fin.fin
  refine ⟨h.fin, hr, by rw [hx]; exact h1, ?_⟩
  rw [hx]
  unfold rv
  rw [← h.size, ux_eq]
  by_cases h0 : X = 0
  · have h2 : s % 9223372036854775808 = 0 := by rw [h.size, h0]; rfl
    rw [h2, vs_zero, if_neg (by omega)]
    split <;> rfl
  · have h3 := h.sign h0
    by_cases h4 : X < 0
    · rw [if_pos h4, if_pos (h3.2 h4)]
    · rw [if_neg h4, if_neg (fun h5 => h4 (h3.1 h5))]
theorem sz_of {b K : Nat} (h : (ux b).natAbs < 2 ^ (52 + K)) : b % 9223372036854775808 < (K + 1) * 4503599627370496 := by
  rw [ux_abs] at h
  refine Nat.lt_of_not_le fun k => ?_
  have h1 := vs_le4 k
  have h2 := vs_at K 4503599627370496 (.inr (Nat.le_refl _)) (by decide)
  rw [show K * 4503599627370496 + 4503599627370496 = (K + 1) * 4503599627370496 by omega] at h2
  rw [h2] at h1
  rw [show 2 ^ (52 + K) = 4503599627370496 * 2 ^ K by rw [Nat.pow_add]] at h
  omega
theorem sz_le {a b : Nat} (h : (ux a).natAbs ≤ (ux b).natAbs) : a % 9223372036854775808 ≤ b % 9223372036854775808 := by
  rw [ux_abs, ux_abs] at h
  refine Nat.le_of_not_lt fun k => ?_
  have := vs_mono (H := 4503599627370496) (by decide) k
  omega
theorem sz_0 {a : Nat} (h : ux a = 0) : a % 9223372036854775808 = 0 := by
  have h1 : (ux a).natAbs = 0 := by rw [h]; rfl
  rw [ux_abs] at h1
  refine Nat.eq_zero_of_not_pos fun k => ?_
  have := vs_mono (H := 4503599627370496) (by decide) k
  rw [vs_zero] at this
  omega
def BigE : Nat := 1400
def BigU : Nat := 2 ^ BigE
theorem big_max {K M J : Nat} (hK : K = 2044) (hM : M = 1400) (hJ : J = 2043) : 64 * 2 ^ M < 2 ^ (52 + J) ∧ 2 ^ (52 + J) ≤ MaxU := by
  have h1 := (max_big hK rfl).1
  have h2 : 2 ^ (52 + J) ≤ 2 ^ (52 + K) := Nat.pow_le_pow_right (by decide) (by omega)
  have h3 : 64 * 2 ^ M < 2 ^ (52 + J) := by
    rw [show 64 * 2 ^ M = 2 ^ (6 + M) by rw [Nat.pow_add]]
    exact Nat.pow_lt_pow_right (by decide) (by omega)
  exact ⟨h3, by omega⟩
theorem BigU.sz6 {b : Nat} (h : (ux b).natAbs < 64 * BigU) : b % 9223372036854775808 ≤ 9209861237972664320 := by
  obtain ⟨J, hJ⟩ : ∃ J, J = 2043 := ⟨_, rfl⟩
  have h1 := (big_max (K := 2044) (M := BigE) rfl rfl hJ).1
  have h2 := sz_of (b := b) (K := J) (Nat.lt_trans h (by have h3 : BigU = 2 ^ BigE := rfl; rw [h3]; exact h1))
  rw [hJ] at h2
  omega
theorem BigU.sz {b : Nat} (h : (ux b).natAbs ≤ 32 * BigU) : b % 9223372036854775808 ≤ 9209861237972664320 :=
  BigU.sz6 (Nat.lt_of_le_of_lt h (Nat.mul_lt_mul_of_pos_right (by decide) (Nat.two_pow_pos BigE)))
theorem BigU.max {x : Int} (h : x.natAbs ≤ 64 * BigU) : x.natAbs ≤ MaxU := by
  have h1 := big_max (K := 2044) (M := BigE) rfl rfl rfl
  have h3 : BigU = 2 ^ BigE := rfl
  rw [h3] at h
  exact Nat.le_trans h (Nat.le_trans (Nat.le_of_lt h1.1) h1.2)
theorem fit_big {h : Nat} (k : h % 9223372036854775808 ≤ 5958262307011166208) : (ux h).natAbs ≤ BigU := by
  obtain ⟨K, hK⟩ : ∃ K, K = 1322 := ⟨_, rfl⟩
  have h1 := ux_pow (b := h) (K := K) (by omega)
  exact Nat.le_trans h1 (Nat.pow_le_pow_right (by decide) (by rw [hK]; decide))
theorem rn_two {x s : Int} (h : Rn 53 x s) : s.natAbs ≤ 2 * x.natAbs := by
  have := rn_rel h
  have := ab3 (a := s) (b := x)
  omega
theorem form_lo {h l : Nat} (d : DdF h l) (k : (ux h).natAbs ≤ BigU) : (ux l).natAbs ≤ BigU := by
  have := form_l d.rn
  omega
theorem sum_bd {x y : Int} {B C : Nat} (hx : x.natAbs ≤ B) (hy : y.natAbs ≤ C) : (x + y).natAbs ≤ B + C := by omega
end Go.Proofs.YtidggnjnlhjhlaaGreatDoor
