import Derived.Laws.Externs
import Derived.Deep.Draws
import Derived.Laws.FloatArith
import Derived.Test.YtmhkabomabkkfaaGreatDoorJ18
namespace Go.Proofs.YtmhkabomabkkfaaGreatDoor
open Go.RowKit Go.Shelf
set_option maxRecDepth 20000
set_option maxHeartbeats 0
def quP (S I Q r : Nat) : Nat := if I < r % S then Q else r
theorem hr9 {f p m l : Int} {S I H sd : Nat} {Be : Int} (J : Jn f p m l S I H sd Be) : ∀ x e : Int, -4194304 ≤ e → ∃ Z, RNz H l I (dv x.natAbs e) Z ∧ rnp l sd Be S I x e = (if x < 0 then S + Z else Z) := fun x e he => by
  obtain ⟨Z, _, h2, h3, _⟩ := rnp_is J x e he
  exact ⟨Z, h2, h3⟩
theorem SumO.good {a b c : Opd} (h : SumO a b c) (ha : GoodO a) (hb : GoodO b) : GoodO c := by
  rcases h with ⟨_, rfl⟩ | ⟨_, rfl⟩ | ⟨_, rfl⟩ | ⟨_, rfl⟩ | ⟨h, rfl⟩ | ⟨h, rfl⟩ | ⟨_, h⟩
  · exact .inl rfl
  · exact .inr (.inl ⟨_, rfl⟩)
  · exact .inr (.inl ⟨_, rfl⟩)
  · exact .inr (.inr (.inl ⟨_, rfl⟩))
  · rcases hb with rfl | ⟨s, rfl⟩ | ⟨s, rfl⟩ | ⟨x, e, rfl, h1, h2⟩
    · exact absurd h.2 (by decide)
    · exact absurd h.2 (by show ¬ (1 : Nat) = 3; decide)
    · exact absurd h.2 (by show ¬ (2 : Nat) = 3; decide)
    · exact .inr (.inr (.inr ⟨x, e, rfl, h1, h2⟩))
  · rcases ha with rfl | ⟨s, rfl⟩ | ⟨s, rfl⟩ | ⟨x, e, rfl, h1, h2⟩
    · exact absurd h.1 (by decide)
    · exact absurd h.1 (by show ¬ (1 : Nat) = 3; decide)
    · exact absurd h.1 (by show ¬ (2 : Nat) = 3; decide)
    · exact .inr (.inr (.inr ⟨x, e, rfl, h1, h2⟩))
  · rcases h with ⟨_, rfl⟩ | ⟨z, g, h1, h2, _, rfl⟩
    · exact .inr (.inr (.inl ⟨_, rfl⟩))
    · exact .inr (.inr (.inr ⟨z, g, rfl, h1, h2⟩))
theorem DivS.good {a b c : Opd} (h : DivS a b c) : GoodO c := by
  rcases h with ⟨_, rfl⟩ | ⟨_, rfl⟩ | ⟨_, rfl⟩
  · exact .inl rfl
  · exact .inr (.inl ⟨_, rfl⟩)
  · exact .inr (.inr (.inl ⟨_, rfl⟩))
theorem GoodO.neg {o : Opd} (h : GoodO o) : GoodO (negO o) := by
  rcases h with rfl | ⟨s, rfl⟩ | ⟨s, rfl⟩ | ⟨x, e, rfl, h1, h2⟩
  · exact .inl rfl
  · exact .inr (.inl ⟨_, rfl⟩)
  · exact .inr (.inr (.inl ⟨_, rfl⟩))
  · exact .inr (.inr (.inr ⟨-x, e, rfl, h1.neg, by omega⟩))
structure MaR (S I : Nat) (v : Option Nat) (r : Nat) : Prop where
  lt : r < 2 * S
  so : ∀ u, v = some u → r = u
  no : v = none → I < r % S
theorem MaR.pat {f p m l : Int} {S I H sd : Nat} {Be : Int} {Q : Nat} (J : Jq f p m l S I H sd Be Q) {v : Option Nat} {r : Nat} {c : Opd} (h : MaR S I v r) (hg : GoodO c) (k : (c = onan ∧ v = none) ∨ (c ≠ onan ∧ v = some (patO l sd Be S I Q c))) : patO l sd Be S I Q c = quP S I Q r := by
  unfold quP
  rcases k with ⟨rfl, hv⟩ | ⟨hn, hv⟩
  · rw [if_pos (h.no hv)]; rfl
  · have h1 := h.so _ hv
    rcases hg.npat J with h2 | ⟨_, _, h2, _⟩
    · exact absurd h2 hn
    · rw [h1, if_neg (by omega)]
theorem mach_div {f p m l : Int} {S I H sd : Nat} {Be : Int} {Q : Nat} (J : Jo f p m l S I H sd Be Q) {F : Ieee.Format} (K : FOk F S I H sd l) {r b Z : Nat} {s t : Bool} {V : Int} (h : MaR S I (some (F.word (s != t) Z)) r) (hb : SgB S s t b Z) (hZ : RNz H l I V Z) : b = quP S I Q r := by
  have h1 := h.so _ rfl
  have hlt := J.jq.jn.jm.pm.fm.lt
  have hle := hZ.le
  unfold Ieee.Format.word at h1
  rw [K.sw] at h1
  unfold SgB at hb
  unfold quP
  have hr : r = b := by rw [h1, hb]; cases s <;> cases t <;> rfl
  have hm : r % S ≤ I := by
    rw [hr, hb]
    split
    · rw [Nat.mod_eq_of_lt (by omega)]; exact hle
    · rw [Nat.add_mod_left, Nat.mod_eq_of_lt (by omega)]; exact hle
  rw [if_neg (by omega), hr]
structure MacF (F : Ieee.Format) (f p m l : Int) (S I H sd : Nat) (Be : Int) (Q kb : Nat) : Prop where
  jo : Jo f p m l S I H sd Be Q
  ok : FOk F S I H sd l
  ll : -1000000 ≤ l ∧ l ≤ 0
  ih : I ≤ 4096 * H
  s9 : sd ≤ 1000
  md : m = (sd : Int) + 1
  sk : S = 2 ^ kb
theorem mac_64 : MacF Ieee.double 64 64 53 (-1074) 9223372036854775808 9218868437227405312 4503599627370496 52 1024 9221120237041090561 63 := ⟨jo_64, fok_64, by decide, by decide, by decide, by decide, by decide⟩
theorem mac_add {F : Ieee.Format} {f p m l : Int} {S I H sd : Nat} {Be : Int} {Q kb : Nat} (L : MacF F f p m l S I H sd Be Q kb) {a b : Nat} (ha : a < 2 * S) (hb : b < 2 * S) (w : World) (hT : Tab w) :
    Calls Tryz.prog 9 #[.int .i64 f, U a, U b] w fun en w' => ∃ v, en = .returned (.tuple #[U v, .int .i64 0]) ∧ (∀ r, MaR S I (F.add a b) r → v = quP S I Q r) ∧ Below w.heap.size w w' := by
  refine (soft_add L.jo ha hb w hT).mono ?_
  rintro en w' ⟨oa, ob, c, rfl, h1, h2, hs, _, hbw⟩
  exact ⟨_, rfl, fun r h => h.pat L.jo.jq (hs.good h1.good h2.good) (flo_add L.ok L.ll (hr9 L.jo.jq.jn) ha hb h1 h2 hs), hbw⟩
theorem mac_sub {F : Ieee.Format} {f p m l : Int} {S I H sd : Nat} {Be : Int} {Q kb : Nat} (L : MacF F f p m l S I H sd Be Q kb) {a b : Nat} (ha : a < 2 * S) (hb : b < 2 * S) (w : World) (hT : Tab w) :
    Calls Tryz.prog 10 #[.int .i64 f, U a, U b] w fun en w' => ∃ v, en = .returned (.tuple #[U v, .int .i64 0]) ∧ (∀ r, MaR S I (F.sub a b) r → v = quP S I Q r) ∧ Below w.heap.size w w' := by
  refine (soft_sub L.jo ha hb w hT).mono ?_
  rintro en w' ⟨oa, ob, c, rfl, h1, h2, hs, _, hbw⟩
  exact ⟨_, rfl, fun r h => h.pat L.jo.jq (hs.good h1.good h2.good.neg) (flo_sub L.ok L.ll (hr9 L.jo.jq.jn) ha hb h1 h2 hs), hbw⟩
theorem mac_mul {F : Ieee.Format} {f p m l : Int} {S I H sd : Nat} {Be : Int} {Q kb : Nat} (L : MacF F f p m l S I H sd Be Q kb) {a b : Nat} (ha : a < 2 * S) (hb : b < 2 * S) (w : World) (hT : Tab w) :
    Calls Tryz.prog 11 #[.int .i64 f, U a, U b] w fun en w' => ∃ v, en = .returned (.tuple #[U v, .int .i64 0]) ∧ (∀ r, MaR S I (F.mul a b) r → v = quP S I Q r) ∧ Below w.heap.size w w' := by
  refine (soft_mul L.jo ha hb w hT).mono ?_
  rintro en w' ⟨oa, ob, c, rfl, h1, h2, hs, _, hbw⟩
  exact ⟨_, rfl, fun r h => h.pat L.jo.jq (hs.good) (flo_mul L.ok L.ll (hr9 L.jo.jq.jn) ha hb h1 h2 hs), hbw⟩
theorem mac_div {F : Ieee.Format} {f p m l : Int} {S I H sd : Nat} {Be : Int} {Q kb : Nat} (L : MacF F f p m l S I H sd Be Q kb) {a b : Nat} (ha : a < 2 * S) (hb : b < 2 * S) (w : World) (hT : Tab w) :
    Calls Tryz.prog 12 #[.int .i64 f, U a, U b] w fun en w' => ∃ v, en = .returned (.tuple #[U v, .int .i64 0]) ∧ (∀ r, MaR S I (F.div a b) r → v = quP S I Q r) ∧ Below w.heap.size w w' := by
  by_cases hn : (a % S ≠ 0 ∧ a % S < I) ∧ (b % S ≠ 0 ∧ b % S < I)
  · refine (soft_div_ff L.jo L.md ⟨ha, hn.1⟩ ⟨hb, hn.2⟩ w hT).mono ?_
    rintro en w' ⟨x, e, y, g, r, Z, V, rfl, k1, k2, k3, k4, k5, hbw⟩
    refine ⟨_, rfl, fun r h => ?_, hbw⟩
    rw [quo_ff L.ok L.ll L.ih L.s9 ⟨ha, hn.1⟩ ⟨hb, hn.2⟩ k1 k2 k4 k5] at h
    exact mach_div L.jo L.ok h k3 k4
  · refine (soft_div_s L.jo ha hb hn w hT).mono ?_
    rintro en w' ⟨oa, ob, c, rfl, h1, h2, hs, hbw⟩
    exact ⟨_, rfl, fun r h => h.pat L.jo.jq hs.good (div_sp L.ok Be Q ha hb h1 h2 hs), hbw⟩
theorem mac_cmp {F : Ieee.Format} {f p m l : Int} {S I H sd : Nat} {Be : Int} {Q kb : Nat} (L : MacF F f p m l S I H sd Be Q kb) {a b : Nat} (ha : a < 2 * S) (hb : b < 2 * S) (w : World) (hT : Tab w) :
    Calls Tryz.prog 14 #[.int .i64 f, U a, U b] w fun en w' => ∃ v : Int, en = .returned (.tuple #[.int .i64 v, .int .i64 0]) ∧ ((v = -1 ∧ F.order a b = some .lt) ∨ (v = 0 ∧ F.order a b = some .eq) ∨ (v = 1 ∧ F.order a b = some .gt) ∨ (v = 2 ∧ F.order a b = none ∧ (I < a % S ∨ I < b % S))) ∧ Below w.heap.size w w' := by
  by_cases hn : I < a % S ∨ I < b % S
  · refine (soft_cmp_n L.jo ha hb hn w hT).mono ?_
    rintro en w' ⟨rfl, hbw⟩
    exact ⟨_, rfl, .inr (.inr (.inr ⟨rfl, order_nan9 L.ok hn, hn⟩)), hbw⟩
  · have h1 : a < 2 * S ∧ a % S ≤ I := ⟨ha, by omega⟩
    have h2 : b < 2 * S ∧ b % S ≤ I := ⟨hb, by omega⟩
    refine (soft_cmp L.jo h1 h2 w hT).mono ?_
    rintro en w' ⟨rfl, hbw⟩
    refine ⟨_, rfl, ?_, hbw⟩
    rw [order_rk L.ok h1 h2]
    generalize rkS S a = x
    generalize rkS S b = y
    have e1 : compare x y = if x < y then .lt else if x = y then .eq else .gt := rfl
    rw [e1]
    unfold cmpI
    rcases Int.lt_trichotomy x y with h | h | h
    · left; rw [if_pos h, if_pos h]; exact ⟨rfl, rfl⟩
    · right; left; rw [if_neg (by omega), if_pos h, if_neg (by omega)]; exact ⟨by simp, by simp [h]⟩
    · right; right; left; rw [if_neg (by omega), if_neg (by omega), if_neg (by omega)]; exact ⟨by simp, by rw [if_neg (by omega)]⟩
theorem mac_self {F : Ieee.Format} {f p m l : Int} {S I H sd : Nat} {Be : Int} {Q kb : Nat} (L : MacF F f p m l S I H sd Be Q kb) {a : Nat} (ha : a < 2 * S) : F.order a a = if I < a % S then none else some .eq := by
  by_cases h : I < a % S
  · rw [if_pos h]; exact order_nan9 L.ok (.inl h)
  · rw [if_neg h, order_rk L.ok ⟨ha, by omega⟩ ⟨ha, by omega⟩]
    generalize rkS S a = x
    have e1 : compare x x = if x < x then .lt else if x = x then .eq else .gt := rfl
    rw [e1, if_neg (by omega), if_pos rfl]
theorem nanc_64 (x y t : Nat) : (Question.nanBits .f64 x y).cut t < 2 * 9223372036854775808 ∧ 9218868437227405312 < (Question.nanBits .f64 x y).cut t % 9223372036854775808 := by
  have h1 : (Question.nanBits .f64 x y).cut t = t % 2 * 2 ^ 63 + 9218868437227405312 + 1 + t / 2 % (2 ^ 52 - 1) := rfl
  have h2 : t / 2 % (2 ^ 52 - 1) < 2 ^ 52 - 1 := Nat.mod_lt _ (by decide)
  rw [h1]
  generalize t / 2 % (2 ^ 52 - 1) = u at h2 ⊢
  rw [show (2 : Nat) ^ 52 - 1 = 4503599627370495 by decide] at h2
  rw [show (2 : Nat) ^ 63 = 9223372036854775808 by decide]
  rcases Nat.mod_two_eq_zero_or_one t with h | h <;> rw [h] <;> omega
theorem fop_64 {P : Program} (op : BinOp) (hop : op = .add ∨ op = .sub ∨ op = .mul ∨ op = .quo) (T : TypeId) (x y : Nat) (w : World) :
    ∃ r n, (binOp op T (.float .f64 x) (.float .f64 y)).run P w = .ok (.float .f64 r) (w.drewN n) ∧ MaR 9223372036854775808 9218868437227405312 (floatBits op .f64 x y) r := by
  cases h : floatBits op .f64 x y with
  | some v =>
    refine ⟨v, 0, run_float_arith w op T .f64 x y v h, ⟨?_, fun u hu => Option.some.inj hu, fun hu => ?_⟩⟩
    · have := floatBits_wf h
      simp [Lit.wf] at this
      exact this
    · cases hu
  | none =>
    refine ⟨(Question.nanBits .f64 x y).cut (w.tape w.drawn (.nanBits .f64 x y)), 1, ?_, ⟨?_, fun u hu => ?_, fun _ => ?_⟩⟩
    · rcases hop with rfl | rfl | rfl | rfl <;> (unfold floatBits at h; simp only at h; simp [binOp, Op.floatArith, h, Question.forced]; rfl)
    · exact (nanc_64 ..).1
    · cases hu
    · exact (nanc_64 ..).2
theorem mfrom_64 (a : Nat) (w : World) : (callFunc 8 #[.int .u64 a]).run Tryz.prog w = .ok (.value (.float .f64 a)) w := by
  rw [run_callFunc_extern Tryz.func8 (by kernel_rfl) (by kernel_rfl) (by kernel_rfl) (e := Extern.MathFloatBits.float64frombits) (by kernel_rfl)]
  rfl
theorem mbits_64 (a : Nat) (w : World) : (callFunc 43 #[.float .f64 a]).run Tryz.prog w = .ok (.value (.int .u64 a)) w := by
  rw [run_callFunc_extern Tryz.func43 (by kernel_rfl) (by kernel_rfl) (by kernel_rfl) (e := Extern.MathFloatBits.float64bits) (by kernel_rfl)]
  rfl
theorem mqm_64 {r : Nat} (hr : r < 2 * 9223372036854775808) (w : World) : Calls Tryz.prog 13 #[.float .f64 r] w fun en w' => en = .returned (U (quP 9223372036854775808 9218868437227405312 9221120237041090561 r)) ∧ w' = w := by
  have h1 := mac_self mac_64 hr
  have hb := fun w => mbits_64 r w
  unfold quP
  by_cases h : 9218868437227405312 < r % 9223372036854775808
  · rw [if_pos h] at h1 ⊢
    have ho : FloatKind.f64.format.order r r = none := h1
    clear h1 h hr
    go_enter Tryz.func13, Tryz.ntmps13
    go_wp2_with fail
    go_ret
    exact ⟨rfl, rfl⟩
  · rw [if_neg h] at h1 ⊢
    have ho : FloatKind.f64.format.order r r = some .eq := h1
    have hw : IntKind.u64.wrap (r : Int) = (r : Int) := by rw [IntKind.wrap_u64]; omega
    clear h1 h hr
    go_enter Tryz.func13, Tryz.ntmps13
    go_wp2_with fail
    go_ret
    exact ⟨rfl, rfl⟩
theorem softMachine_w {a b : Nat} (ha : a < 18446744073709551616) (hb : b < 18446744073709551616) (w : World) (hT : Tab w) :
    Calls Tryz.prog 3 #[U a, U b] w fun en w' => en = .returned (.bool true) ∧ Below w.heap.size w w' := by
  have hfa := fun w => mfrom_64 a w
  have hfb := fun w => mfrom_64 b w
  have HL : Hid (a < 18446744073709551616 ∧ b < 18446744073709551616) := ⟨ha, hb⟩
  have TB : Hid (Tab w) := hT
  clear hT ha hb
  go_enter Tryz.func3, Tryz.ntmps3
  go_wp2_with fail
  have hbw : Below w.heap.size w w := Below.refl _ _
  refine (awake9 _ (TB.out.below hbw)).mono ?_
  rintro e v0 ⟨rfl, hb0⟩
  replace hbw := Below.on hbw hb0
  clear hb0
  go_wp2_with fail
  refine (mac_add mac_64 HL.out.1 HL.out.2 _ (TB.out.below hbw)).mono ?_
  rintro e w1 ⟨vadd, rfl, hv, hb1⟩
  have Hadd : Hid (∀ r, MaR 9223372036854775808 9218868437227405312 (Ieee.double.add a b) r → vadd = quP 9223372036854775808 9218868437227405312 9221120237041090561 r) := hv
  clear hv
  replace hbw := Below.on hbw hb1
  clear hb1
  go_wp2_with fail
  refine (mac_sub mac_64 HL.out.1 HL.out.2 _ (TB.out.below hbw)).mono ?_
  rintro e w2 ⟨vsub, rfl, hv, hb2⟩
  have Hsub : Hid (∀ r, MaR 9223372036854775808 9218868437227405312 (Ieee.double.sub a b) r → vsub = quP 9223372036854775808 9218868437227405312 9221120237041090561 r) := hv
  clear hv
  replace hbw := Below.on hbw hb2
  clear hb2
  go_wp2_with fail
  refine (mac_mul mac_64 HL.out.1 HL.out.2 _ (TB.out.below hbw)).mono ?_
  rintro e w3 ⟨vmul, rfl, hv, hb3⟩
  have Hmul : Hid (∀ r, MaR 9223372036854775808 9218868437227405312 (Ieee.double.mul a b) r → vmul = quP 9223372036854775808 9218868437227405312 9221120237041090561 r) := hv
  clear hv
  replace hbw := Below.on hbw hb3
  clear hb3
  go_wp2_with fail
  refine (mac_div mac_64 HL.out.1 HL.out.2 _ (TB.out.below hbw)).mono ?_
  rintro e w4 ⟨vdiv, rfl, hv, hb4⟩
  have Hdiv : Hid (∀ r, MaR 9223372036854775808 9218868437227405312 (Ieee.double.div a b) r → vdiv = quP 9223372036854775808 9218868437227405312 9221120237041090561 r) := hv
  clear hv
  replace hbw := Below.on hbw hb4
  clear hb4
  obtain ⟨radd, nadd, qadd, Fadd⟩ := fop_64 (P := Tryz.prog) .add (.inl rfl) 24 a b w4
  have Eadd : Hid (quP 9223372036854775808 9218868437227405312 9221120237041090561 radd = vadd ∧ radd < 18446744073709551616) := ⟨(Hadd.out _ Fadd).symm, Fadd.lt⟩
  clear Hadd Fadd
  go_wp2_with fail
  clear qadd
  have hbr := bDrewN (Below.refl w4.heap.size w4) nadd
  generalize w4.drewN nadd = x0 at *
  replace hbw := Below.on hbw hbr
  clear hbr
  refine (mqm_64 Eadd.out.2 _).mono ?_
  rintro e u0 ⟨rfl, hw⟩
  obtain rfl := hw.symm
  clear hw
  rw [Eadd.out.1]
  obtain ⟨rsub, nsub, qsub, Fsub⟩ := fop_64 (P := Tryz.prog) .sub (.inr (.inl rfl)) 24 a b x0
  have Esub : Hid (quP 9223372036854775808 9218868437227405312 9221120237041090561 rsub = vsub ∧ rsub < 18446744073709551616) := ⟨(Hsub.out _ Fsub).symm, Fsub.lt⟩
  clear Hsub Fsub
  go_wp2_with fail
  clear qsub
  have hbr := bDrewN (Below.refl x0.heap.size x0) nsub
  generalize x0.drewN nsub = x1 at *
  replace hbw := Below.on hbw hbr
  clear hbr
  refine (mqm_64 Esub.out.2 _).mono ?_
  rintro e u1 ⟨rfl, hw⟩
  obtain rfl := hw.symm
  clear hw
  rw [Esub.out.1]
  obtain ⟨rmul, nmul, qmul, Fmul⟩ := fop_64 (P := Tryz.prog) .mul (.inr (.inr (.inl rfl))) 24 a b x1
  have Emul : Hid (quP 9223372036854775808 9218868437227405312 9221120237041090561 rmul = vmul ∧ rmul < 18446744073709551616) := ⟨(Hmul.out _ Fmul).symm, Fmul.lt⟩
  clear Hmul Fmul
  go_wp2_with fail
  clear qmul
  have hbr := bDrewN (Below.refl x1.heap.size x1) nmul
  generalize x1.drewN nmul = x2 at *
  replace hbw := Below.on hbw hbr
  clear hbr
  refine (mqm_64 Emul.out.2 _).mono ?_
  rintro e u2 ⟨rfl, hw⟩
  obtain rfl := hw.symm
  clear hw
  rw [Emul.out.1]
  obtain ⟨rdiv, ndiv, qdiv, Fdiv⟩ := fop_64 (P := Tryz.prog) .quo (.inr (.inr (.inr rfl))) 24 a b x2
  have Ediv : Hid (quP 9223372036854775808 9218868437227405312 9221120237041090561 rdiv = vdiv ∧ rdiv < 18446744073709551616) := ⟨(Hdiv.out _ Fdiv).symm, Fdiv.lt⟩
  clear Hdiv Fdiv
  go_wp2_with fail
  clear qdiv
  have hbr := bDrewN (Below.refl x2.heap.size x2) ndiv
  generalize x2.drewN ndiv = x3 at *
  replace hbw := Below.on hbw hbr
  clear hbr
  refine (mqm_64 Ediv.out.2 _).mono ?_
  rintro e u3 ⟨rfl, hw⟩
  obtain rfl := hw.symm
  clear hw
  rw [Ediv.out.1]
  go_wp2_with fail
  refine (mac_cmp mac_64 HL.out.1 HL.out.2 _ (TB.out.below hbw)).mono ?_
  rintro e wc ⟨v, rfl, hv, hbc⟩
  replace hbw := Below.on hbw hbc
  clear hbc
  rcases hv with ⟨rfl, h⟩ | ⟨rfl, h⟩ | ⟨rfl, h⟩ | ⟨rfl, h, _⟩
  · have ho : FloatKind.f64.format.order a b = _ := h
    clear h
    go_wp2_with fail
    go_ret
    exact ⟨rfl, hbw⟩
  · have ho : FloatKind.f64.format.order a b = _ := h
    clear h
    go_wp2_with fail
    go_ret
    exact ⟨rfl, hbw⟩
  · have ho : FloatKind.f64.format.order a b = _ := h
    clear h
    go_wp2_with fail
    go_ret
    exact ⟨rfl, hbw⟩
  · have ho : FloatKind.f64.format.order a b = _ := h
    clear h
    go_wp2_with fail
    go_ret
    exact ⟨rfl, hbw⟩
end Go.Proofs.YtmhkabomabkkfaaGreatDoor
