import Derived.Laws.Externs
import Derived.Deep.Draws
import Derived.Laws.FloatArith
import Derived.Test.YticfcfododdkmaaGreatDoorJ17
import Derived.Test.YticfcfododdkmaaGreatDoorJ18
namespace Go.Proofs.YticfcfododdkmaaGreatDoor
open Go.RowKit Go.Shelf
set_option maxRecDepth 20000
set_option maxHeartbeats 0
def quP (S I Q r : Nat) : Nat := if I < r % S then Q else r
theorem hr9 {f p m l : Int} {S I H sd : Nat} {Be : Int} (J : Jn f p m l S I H sd Be) : ∀ x e : Int, -4194304 ≤ e → ∃ Z, RNz H l I (dv x.natAbs e) Z ∧ rnp l sd Be S I x e = (if x < 0 then S + Z else Z) := fun x e he => by
  obtain ⟨Z, _, h2, h3, _⟩ := rnp_is J x e he
  exact ⟨Z, h2, h3⟩
theorem SumO.good {a b c : Opd} (h : SumO a b c) (ha : GoodO a) (hb : GoodO b) : GoodO c := by
  rcases h with ⟨_, rfl⟩ | ⟨_, rfl⟩ | ⟨_, rfl⟩ | ⟨_, rfl⟩ | ⟨h, rfl⟩ | ⟨h, rfl⟩ | ⟨_, h⟩
  · exact .inl rfl
  · exact .inr (.inl ⟨_, rfl⟩)
  · exact .inr (.inl ⟨_, rfl⟩)
  · exact .inr (.inr (.inl ⟨_, rfl⟩))
  · rcases hb with rfl | ⟨s, rfl⟩ | ⟨s, rfl⟩ | ⟨x, e, rfl, h1, h2⟩
    · exact absurd h.2 (by decide)
    · exact absurd h.2 (by show ¬ (1 : Nat) = 3; decide)
    · exact absurd h.2 (by show ¬ (2 : Nat) = 3; decide)
    · exact .inr (.inr (.inr ⟨x, e, rfl, h1, h2⟩))
  · rcases ha with rfl | ⟨s, rfl⟩ | ⟨s, rfl⟩ | ⟨x, e, rfl, h1, h2⟩
    · exact absurd h.1 (by decide)
    · exact absurd h.1 (by show ¬ (1 : Nat) = 3; decide)
    · exact absurd h.1 (by show ¬ (2 : Nat) = 3; decide)
    · exact .inr (.inr (.inr ⟨x, e, rfl, h1, h2⟩))
  · rcases h with ⟨_, rfl⟩ | ⟨z, g, h1, h2, _, rfl⟩
    · exact .inr (.inr (.inl ⟨_, rfl⟩))
    · exact .inr (.inr (.inr ⟨z, g, rfl, h1, h2⟩))
theorem DivS.good {a b c : Opd} (h : DivS a b c) : GoodO c := by
  rcases h with ⟨_, rfl⟩ | ⟨_, rfl⟩ | ⟨_, rfl⟩
  · exact .inl rfl
  · exact .inr (.inl ⟨_, rfl⟩)
  · exact .inr (.inr (.inl ⟨_, rfl⟩))
theorem GoodO.neg {o : Opd} (h : GoodO o) : GoodO (negO o) := by
  rcases h with rfl | ⟨s, rfl⟩ | ⟨s, rfl⟩ | ⟨x, e, rfl, h1, h2⟩
  · exact .inl rfl
  · exact .inr (.inl ⟨_, rfl⟩)
  · exact .inr (.inr (.inl ⟨_, rfl⟩))
  · exact .inr (.inr (.inr ⟨-x, e, rfl, h1.neg, by omega⟩))
structure MaR (S I : Nat) (v : Option Nat) (r : Nat) : Prop where
  lt : r < 2 * S
  so : ∀ u, v = some u → r = u
  no : v = none → I < r % S
theorem MaR.pat {f p m l : Int} {S I H sd : Nat} {Be : Int} {Q : Nat} (J : Jq f p m l S I H sd Be Q) {v : Option Nat} {r : Nat} {c : Opd} (h : MaR S I v r) (hg : GoodO c) (k : (c = onan ∧ v = none) ∨ (c ≠ onan ∧ v = some (patO l sd Be S I Q c))) : patO l sd Be S I Q c = quP S I Q r := by
  unfold quP
  rcases k with ⟨rfl, hv⟩ | ⟨hn, hv⟩
  · rw [if_pos (h.no hv)]; rfl
  · have h1 := h.so _ hv
    rcases hg.npat J with h2 | ⟨_, _, h2, _⟩
    · exact absurd h2 hn
    · rw [h1, if_neg (by omega)]
theorem mach_div {f p m l : Int} {S I H sd : Nat} {Be : Int} {Q : Nat} (J : Jo f p m l S I H sd Be Q) {F : Ieee.Format} (K : FOk F S I H sd l) {r b Z : Nat} {s t : Bool} {V : Int} (h : MaR S I (some (F.word (s != t) Z)) r) (hb : SgB S s t b Z) (hZ : RNz H l I V Z) : b = quP S I Q r := by
  have h1 := h.so _ rfl
  have hlt := J.jq.jn.jm.pm.fm.lt
  have hle := hZ.le
  unfold Ieee.Format.word at h1
  rw [K.sw] at h1
  unfold SgB at hb
  unfold quP
  have hr : r = b := by rw [h1, hb]; cases s <;> cases t <;> rfl
  have hm : r % S ≤ I := by
    rw [hr, hb]
    split
    · rw [Nat.mod_eq_of_lt (by omega)]; exact hle
    · rw [Nat.add_mod_left, Nat.mod_eq_of_lt (by omega)]; exact hle
  rw [if_neg (by omega), hr]
theorem mach_root {f p m l : Int} {S I H sd : Nat} {Be : Int} {Q : Nat} (J : Jo f p m l S I H sd Be Q) {F : Ieee.Format} {r Z : Nat} {V : Int} (h : MaR S I (some (F.word false Z)) r) (hZ : RNz H l I V Z) : Z = quP S I Q r := by
  have h1 : r = Z := h.so _ rfl
  have hlt := J.jq.jn.jm.pm.fm.lt
  have hle := hZ.le
  unfold quP
  rw [h1, Nat.mod_eq_of_lt (by omega), if_neg (by omega)]
structure MacF (F : Ieee.Format) (f p m l : Int) (S I H sd : Nat) (Be : Int) (Q kb : Nat) : Prop where
  jo : Jo f p m l S I H sd Be Q
  ok : FOk F S I H sd l
  ll : -1000000 ≤ l ∧ l ≤ 0
  ih : I ≤ 4096 * H
  s9 : sd ≤ 1000
  md : m = (sd : Int) + 1
  sk : S = 2 ^ kb
theorem mac_64 : MacF Ieee.double 64 64 53 (-1074) 9223372036854775808 9218868437227405312 4503599627370496 52 1024 9221120237041090561 63 := ⟨jo_64, fok_64, by decide, by decide, by decide, by decide, by decide⟩
theorem mac_32 : MacF Ieee.single 32 32 24 (-149) 2147483648 2139095040 8388608 23 128 2143289345 31 := ⟨jo_32, fok_32, by decide, by decide, by decide, by decide, by decide⟩
theorem mac_add {F : Ieee.Format} {f p m l : Int} {S I H sd : Nat} {Be : Int} {Q kb : Nat} (L : MacF F f p m l S I H sd Be Q kb) {a b : Nat} (ha : a < 2 * S) (hb : b < 2 * S) (w : World) (hT : Tab w) :
    Calls Tryz.prog 6 #[.int .i64 f, U a, U b] w fun en w' => ∃ v, en = .returned (.tuple #[U v, .int .i64 0]) ∧ (∀ r, MaR S I (F.add a b) r → v = quP S I Q r) ∧ Below w.heap.size w w' := by
  refine (soft_add L.jo ha hb w hT).mono ?_
  rintro en w' ⟨oa, ob, c, rfl, h1, h2, hs, _, hbw⟩
  exact ⟨_, rfl, fun r h => h.pat L.jo.jq (hs.good h1.good h2.good) (flo_add L.ok L.ll (hr9 L.jo.jq.jn) ha hb h1 h2 hs), hbw⟩
theorem mac_sub {F : Ieee.Format} {f p m l : Int} {S I H sd : Nat} {Be : Int} {Q kb : Nat} (L : MacF F f p m l S I H sd Be Q kb) {a b : Nat} (ha : a < 2 * S) (hb : b < 2 * S) (w : World) (hT : Tab w) :
    Calls Tryz.prog 7 #[.int .i64 f, U a, U b] w fun en w' => ∃ v, en = .returned (.tuple #[U v, .int .i64 0]) ∧ (∀ r, MaR S I (F.sub a b) r → v = quP S I Q r) ∧ Below w.heap.size w w' := by
  refine (soft_sub L.jo ha hb w hT).mono ?_
  rintro en w' ⟨oa, ob, c, rfl, h1, h2, hs, _, hbw⟩
  exact ⟨_, rfl, fun r h => h.pat L.jo.jq (hs.good h1.good h2.good.neg) (flo_sub L.ok L.ll (hr9 L.jo.jq.jn) ha hb h1 h2 hs), hbw⟩
theorem mac_mul {F : Ieee.Format} {f p m l : Int} {S I H sd : Nat} {Be : Int} {Q kb : Nat} (L : MacF F f p m l S I H sd Be Q kb) {a b : Nat} (ha : a < 2 * S) (hb : b < 2 * S) (w : World) (hT : Tab w) :
    Calls Tryz.prog 8 #[.int .i64 f, U a, U b] w fun en w' => ∃ v, en = .returned (.tuple #[U v, .int .i64 0]) ∧ (∀ r, MaR S I (F.mul a b) r → v = quP S I Q r) ∧ Below w.heap.size w w' := by
  refine (soft_mul L.jo ha hb w hT).mono ?_
  rintro en w' ⟨oa, ob, c, rfl, h1, h2, hs, _, hbw⟩
  exact ⟨_, rfl, fun r h => h.pat L.jo.jq (hs.good) (flo_mul L.ok L.ll (hr9 L.jo.jq.jn) ha hb h1 h2 hs), hbw⟩
theorem mac_fma {F : Ieee.Format} {f p m l : Int} {S I H sd : Nat} {Be : Int} {Q kb : Nat} (L : MacF F f p m l S I H sd Be Q kb) {a b c : Nat} (ha : a < 2 * S) (hb : b < 2 * S) (hc : c < 2 * S) (w : World) (hT : Tab w) :
    Calls Tryz.prog 15 #[.int .i64 f, U a, U b, U c] w fun en w' => ∃ v, en = .returned (.tuple #[U v, .int .i64 0]) ∧ (∀ r, MaR S I (F.fma a b c) r → v = quP S I Q r) ∧ Below w.heap.size w w' := by
  refine (soft_fma L.jo ⟨ha, hb, hc⟩ w hT).mono ?_
  rintro en w' ⟨oa, ob, od, q, c, rfl, h1, h2, h3, hm, hs, hbw⟩
  exact ⟨_, rfl, fun r h => h.pat L.jo.jq (hs.good hm.good h3.good) (flo_fma L.ok L.ll (hr9 L.jo.jq.jn) ha hb hc h1 h2 h3 hm hs), hbw⟩
theorem mac_div {F : Ieee.Format} {f p m l : Int} {S I H sd : Nat} {Be : Int} {Q kb : Nat} (L : MacF F f p m l S I H sd Be Q kb) {a b : Nat} (ha : a < 2 * S) (hb : b < 2 * S) (w : World) (hT : Tab w) :
    Calls Tryz.prog 9 #[.int .i64 f, U a, U b] w fun en w' => ∃ v, en = .returned (.tuple #[U v, .int .i64 0]) ∧ (∀ r, MaR S I (F.div a b) r → v = quP S I Q r) ∧ Below w.heap.size w w' := by
  by_cases hn : (a % S ≠ 0 ∧ a % S < I) ∧ (b % S ≠ 0 ∧ b % S < I)
  · refine (soft_div_ff L.jo L.md ⟨ha, hn.1⟩ ⟨hb, hn.2⟩ w hT).mono ?_
    rintro en w' ⟨x, e, y, g, r, Z, V, rfl, k1, k2, k3, k4, k5, hbw⟩
    refine ⟨_, rfl, fun r h => ?_, hbw⟩
    rw [quo_ff L.ok L.ll L.ih L.s9 ⟨ha, hn.1⟩ ⟨hb, hn.2⟩ k1 k2 k4 k5] at h
    exact mach_div L.jo L.ok h k3 k4
  · refine (soft_div_s L.jo ha hb hn w hT).mono ?_
    rintro en w' ⟨oa, ob, c, rfl, h1, h2, hs, hbw⟩
    exact ⟨_, rfl, fun r h => h.pat L.jo.jq hs.good (div_sp L.ok Be Q ha hb h1 h2 hs), hbw⟩
theorem mac_sqrt {F : Ieee.Format} {f p m l : Int} {S I H sd : Nat} {Be : Int} {Q kb : Nat} (L : MacF F f p m l S I H sd Be Q kb) {a : Nat} (ha : a < 2 * S) (w : World) (hT : Tab w) :
    Calls Tryz.prog 14 #[.int .i64 f, U a] w fun en w' => ∃ v, en = .returned (.tuple #[U v, .int .i64 0]) ∧ (∀ r, MaR S I (F.sqrt a) r → v = quP S I Q r) ∧ Below w.heap.size w w' := by
  by_cases hn : a < S ∧ a % S ≠ 0 ∧ a % S < I
  · refine (soft_sqrt_f L.jo L.md hn w hT).mono ?_
    rintro en w' ⟨x, e, Z, V, rfl, k1, k2, k3, hbw⟩
    refine ⟨_, rfl, fun r h => ?_, hbw⟩
    rw [root_ff L.ok L.ll L.ih L.s9 hn k1 k2 k3] at h
    exact mach_root L.jo h k2
  · refine (soft_sqrt_s L.jo ha (fun h1 h2 => Nat.le_of_not_lt fun h3 => hn ⟨h3, h1, h2⟩) w hT).mono ?_
    rintro en w' ⟨oa, rfl, h1, h2, hbw⟩
    refine ⟨_, rfl, fun r h => ?_, hbw⟩
    obtain ⟨q1, q2, q3⟩ := root_sp L.ok Be Q ha h1
    rcases h1.good with rfl | ⟨s, rfl⟩ | ⟨s, rfl⟩ | ⟨x, e, rfl, _, _⟩
    · exact h.pat L.jo.jq (.inl rfl) (.inl ⟨rfl, q1 (.inl rfl)⟩)
    · cases s
      · exact h.pat L.jo.jq (.inr (.inl ⟨false, rfl⟩)) (.inr ⟨fun h => (by cases h), q2 ⟨rfl, rfl⟩⟩)
      · exact h.pat L.jo.jq (.inl rfl) (.inl ⟨rfl, q1 (.inr (.inl ⟨rfl, rfl⟩))⟩)
    · exact h.pat L.jo.jq (.inr (.inr (.inl ⟨s, rfl⟩))) (.inr ⟨fun h => (by cases h), q3 rfl⟩)
    · exact h.pat L.jo.jq (.inl rfl) (.inl ⟨rfl, q1 (.inr (.inr ⟨rfl, h2 rfl⟩))⟩)
theorem mac_neg {F : Ieee.Format} {f p m l : Int} {S I H sd : Nat} {Be : Int} {Q kb : Nat} (L : MacF F f p m l S I H sd Be Q kb) {a : Nat} (ha : a < 2 * S) (w : World) (hT : Tab w) :
    Calls Tryz.prog 10 #[.int .i64 f, U a] w fun en w' => ∃ v, en = .returned (.tuple #[U v, .int .i64 0]) ∧ v = quP S I Q (a ^^^ 2 ^ kb) ∧ Below w.heap.size w w' := by
  refine (soft_neg L.jo ha w hT).mono ?_
  rintro en w' ⟨o, rfl, h1, hbw⟩
  refine ⟨_, rfl, ?_, hbw⟩
  have hpos := L.jo.jq.jn.jm.pm.fm.pos
  have hlt := L.jo.jq.jn.jm.pm.fm.lt
  have hp : 0 < H := by rw [L.ok.hh]; exact Nat.two_pow_pos _
  rcases neg_op (Q := Q) L.sk hp L.ok.ll hlt (hr9 L.jo.jq.jn) ha h1 with ⟨q1, q2, q3, _⟩ | ⟨q1, q2⟩
  · unfold quP; rw [q2, if_pos q3]; rfl
  · rcases h1.good.neg.npat L.jo.jq with h2 | ⟨_, _, h2, _⟩
    · exfalso
      rcases h1.good with rfl | ⟨s, rfl⟩ | ⟨s, rfl⟩ | ⟨x, e, rfl, _, _⟩
      · exact q1 rfl
      · cases h2
      · cases h2
      · cases h2
    · unfold quP; rw [q2, if_neg (by omega)]
theorem mac_cmp {F : Ieee.Format} {f p m l : Int} {S I H sd : Nat} {Be : Int} {Q kb : Nat} (L : MacF F f p m l S I H sd Be Q kb) {a b : Nat} (ha : a < 2 * S) (hb : b < 2 * S) (w : World) (hT : Tab w) :
    Calls Tryz.prog 12 #[.int .i64 f, U a, U b] w fun en w' => ∃ v : Int, en = .returned (.tuple #[.int .i64 v, .int .i64 0]) ∧ ((v = -1 ∧ F.order a b = some .lt) ∨ (v = 0 ∧ F.order a b = some .eq) ∨ (v = 1 ∧ F.order a b = some .gt) ∨ (v = 2 ∧ F.order a b = none ∧ (I < a % S ∨ I < b % S))) ∧ Below w.heap.size w w' := by
  by_cases hn : I < a % S ∨ I < b % S
  · refine (soft_cmp_n L.jo ha hb hn w hT).mono ?_
    rintro en w' ⟨rfl, hbw⟩
    exact ⟨_, rfl, .inr (.inr (.inr ⟨rfl, order_nan9 L.ok hn, hn⟩)), hbw⟩
  · have h1 : a < 2 * S ∧ a % S ≤ I := ⟨ha, by omega⟩
    have h2 : b < 2 * S ∧ b % S ≤ I := ⟨hb, by omega⟩
    refine (soft_cmp L.jo h1 h2 w hT).mono ?_
    rintro en w' ⟨rfl, hbw⟩
    refine ⟨_, rfl, ?_, hbw⟩
    rw [order_rk L.ok h1 h2]
    generalize rkS S a = x
    generalize rkS S b = y
    have e1 : compare x y = if x < y then .lt else if x = y then .eq else .gt := rfl
    rw [e1]
    unfold cmpI
    rcases Int.lt_trichotomy x y with h | h | h
    · left; rw [if_pos h, if_pos h]; exact ⟨rfl, rfl⟩
    · right; left; rw [if_neg (by omega), if_pos h, if_neg (by omega)]; exact ⟨by simp, by simp [h]⟩
    · right; right; left; rw [if_neg (by omega), if_neg (by omega), if_neg (by omega)]; exact ⟨by simp, by rw [if_neg (by omega)]⟩
theorem mac_self {F : Ieee.Format} {f p m l : Int} {S I H sd : Nat} {Be : Int} {Q kb : Nat} (L : MacF F f p m l S I H sd Be Q kb) {a : Nat} (ha : a < 2 * S) : F.order a a = if I < a % S then none else some .eq := by
  by_cases h : I < a % S
  · rw [if_pos h]; exact order_nan9 L.ok (.inl h)
  · rw [if_neg h, order_rk L.ok ⟨ha, by omega⟩ ⟨ha, by omega⟩]
    generalize rkS S a = x
    have e1 : compare x x = if x < x then .lt else if x = x then .eq else .gt := rfl
    rw [e1, if_neg (by omega), if_pos rfl]
theorem nanc_32 (x y t : Nat) : (Question.nanBits .f32 x y).cut t < 2 * 2147483648 ∧ 2139095040 < (Question.nanBits .f32 x y).cut t % 2147483648 := by
  have h1 : (Question.nanBits .f32 x y).cut t = t % 2 * 2 ^ 31 + 2139095040 + 1 + t / 2 % (2 ^ 23 - 1) := rfl
  have h2 : t / 2 % (2 ^ 23 - 1) < 2 ^ 23 - 1 := Nat.mod_lt _ (by decide)
  rw [h1]
  generalize t / 2 % (2 ^ 23 - 1) = u at h2 ⊢
  rw [show (2 : Nat) ^ 23 - 1 = 8388607 by decide] at h2
  rw [show (2 : Nat) ^ 31 = 2147483648 by decide]
  rcases Nat.mod_two_eq_zero_or_one t with h | h <;> rw [h] <;> omega
theorem fop_32 {P : Program} (op : BinOp) (hop : op = .add ∨ op = .sub ∨ op = .mul ∨ op = .quo) (T : TypeId) (x y : Nat) (w : World) :
    ∃ r n, (binOp op T (.float .f32 x) (.float .f32 y)).run P w = .ok (.float .f32 r) (w.drewN n) ∧ MaR 2147483648 2139095040 (floatBits op .f32 x y) r := by
  cases h : floatBits op .f32 x y with
  | some v =>
    refine ⟨v, 0, run_float_arith w op T .f32 x y v h, ⟨?_, fun u hu => Option.some.inj hu, fun hu => ?_⟩⟩
    · have := floatBits_wf h
      simp [Lit.wf] at this
      exact this
    · cases hu
  | none =>
    refine ⟨(Question.nanBits .f32 x y).cut (w.tape w.drawn (.nanBits .f32 x y)), 1, ?_, ⟨?_, fun u hu => ?_, fun _ => ?_⟩⟩
    · rcases hop with rfl | rfl | rfl | rfl <;> (unfold floatBits at h; simp only at h; simp [binOp, Op.floatArith, h, Question.forced]; rfl)
    · exact (nanc_32 ..).1
    · cases hu
    · exact (nanc_32 ..).2
theorem nanc_64 (x y t : Nat) : (Question.nanBits .f64 x y).cut t < 2 * 9223372036854775808 ∧ 9218868437227405312 < (Question.nanBits .f64 x y).cut t % 9223372036854775808 := by
  have h1 : (Question.nanBits .f64 x y).cut t = t % 2 * 2 ^ 63 + 9218868437227405312 + 1 + t / 2 % (2 ^ 52 - 1) := rfl
  have h2 : t / 2 % (2 ^ 52 - 1) < 2 ^ 52 - 1 := Nat.mod_lt _ (by decide)
  rw [h1]
  generalize t / 2 % (2 ^ 52 - 1) = u at h2 ⊢
  rw [show (2 : Nat) ^ 52 - 1 = 4503599627370495 by decide] at h2
  rw [show (2 : Nat) ^ 63 = 9223372036854775808 by decide]
  rcases Nat.mod_two_eq_zero_or_one t with h | h <;> rw [h] <;> omega
theorem fop_64 {P : Program} (op : BinOp) (hop : op = .add ∨ op = .sub ∨ op = .mul ∨ op = .quo) (T : TypeId) (x y : Nat) (w : World) :
    ∃ r n, (binOp op T (.float .f64 x) (.float .f64 y)).run P w = .ok (.float .f64 r) (w.drewN n) ∧ MaR 9223372036854775808 9218868437227405312 (floatBits op .f64 x y) r := by
  cases h : floatBits op .f64 x y with
  | some v =>
    refine ⟨v, 0, run_float_arith w op T .f64 x y v h, ⟨?_, fun u hu => Option.some.inj hu, fun hu => ?_⟩⟩
    · have := floatBits_wf h
      simp [Lit.wf] at this
      exact this
    · cases hu
  | none =>
    refine ⟨(Question.nanBits .f64 x y).cut (w.tape w.drawn (.nanBits .f64 x y)), 1, ?_, ⟨?_, fun u hu => ?_, fun _ => ?_⟩⟩
    · rcases hop with rfl | rfl | rfl | rfl <;> (unfold floatBits at h; simp only at h; simp [binOp, Op.floatArith, h, Question.forced]; rfl)
    · exact (nanc_64 ..).1
    · cases hu
    · exact (nanc_64 ..).2
theorem mfrom_32 (a : Nat) (w : World) : (callFunc 5 #[.int .u32 a]).run Tryz.prog w = .ok (.value (.float .f32 a)) w := by
  rw [run_callFunc_extern Tryz.func5 (by kernel_rfl) (by kernel_rfl) (by kernel_rfl) (e := Extern.MathFloatBits.float32frombits) (by kernel_rfl)]
  rfl
theorem mbits_32 (a : Nat) (w : World) : (callFunc 24 #[.float .f32 a]).run Tryz.prog w = .ok (.value (.int .u32 a)) w := by
  rw [run_callFunc_extern Tryz.func24 (by kernel_rfl) (by kernel_rfl) (by kernel_rfl) (e := Extern.MathFloatBits.float32bits) (by kernel_rfl)]
  rfl
theorem mfrom_64 (a : Nat) (w : World) : (callFunc 13 #[.int .u64 a]).run Tryz.prog w = .ok (.value (.float .f64 a)) w := by
  rw [run_callFunc_extern Tryz.func13 (by kernel_rfl) (by kernel_rfl) (by kernel_rfl) (e := Extern.MathFloatBits.float64frombits) (by kernel_rfl)]
  rfl
theorem mbits_64 (a : Nat) (w : World) : (callFunc 29 #[.float .f64 a]).run Tryz.prog w = .ok (.value (.int .u64 a)) w := by
  rw [run_callFunc_extern Tryz.func29 (by kernel_rfl) (by kernel_rfl) (by kernel_rfl) (e := Extern.MathFloatBits.float64bits) (by kernel_rfl)]
  rfl
theorem mqui_32 {r : Nat} (hr : r < 2 * 2147483648) (w : World) : Calls Tryz.prog 11 #[.float .f32 r] w fun en w' => en = .returned (U (quP 2147483648 2139095040 2143289345 r)) ∧ w' = w := by
  have h1 := mac_self mac_32 hr
  have hb := fun w => mbits_32 r w
  unfold quP
  by_cases h : 2139095040 < r % 2147483648
  · rw [if_pos h] at h1 ⊢
    have ho : FloatKind.f32.format.order r r = none := h1
    clear h1 h hr
    go_enter Tryz.func11, Tryz.ntmps11
    go_wp2_with fail
    go_ret
    exact ⟨rfl, rfl⟩
  · rw [if_neg h] at h1 ⊢
    have ho : FloatKind.f32.format.order r r = some .eq := h1
    have hw : IntKind.u64.wrap (r : Int) = (r : Int) := by rw [IntKind.wrap_u64]; omega
    clear h1 h hr
    go_enter Tryz.func11, Tryz.ntmps11
    go_wp2_with fail
    go_ret
    exact ⟨rfl, rfl⟩
theorem mqui_64 {r : Nat} (hr : r < 2 * 9223372036854775808) (w : World) : Calls Tryz.prog 16 #[.float .f64 r] w fun en w' => en = .returned (U (quP 9223372036854775808 9218868437227405312 9221120237041090561 r)) ∧ w' = w := by
  have h1 := mac_self mac_64 hr
  have hb := fun w => mbits_64 r w
  unfold quP
  by_cases h : 9218868437227405312 < r % 9223372036854775808
  · rw [if_pos h] at h1 ⊢
    have ho : FloatKind.f64.format.order r r = none := h1
    clear h1 h hr
    go_enter Tryz.func16, Tryz.ntmps16
    go_wp2_with fail
    go_ret
    exact ⟨rfl, rfl⟩
  · rw [if_neg h] at h1 ⊢
    have ho : FloatKind.f64.format.order r r = some .eq := h1
    have hw : IntKind.u64.wrap (r : Int) = (r : Int) := by rw [IntKind.wrap_u64]; omega
    clear h1 h hr
    go_enter Tryz.func16, Tryz.ntmps16
    go_wp2_with fail
    go_ret
    exact ⟨rfl, rfl⟩
theorem msq_eq (x : Nat) : Extern.MathSqrt.sqrt #[.float .f64 x] = (match FloatKind.f64.format.sqrt x with | some r => pure (.float .f64 r) | none => do pure (.float .f64 (← choose (.nanBits .f64 x x)))) := rfl
theorem mfm_eq (x y z : Nat) : Extern.MathFMA.fma #[.float .f64 x, .float .f64 y, .float .f64 z] = (match FloatKind.f64.format.fma x y z with | some r => pure (.float .f64 r) | none => do
  let (a, b) := if Extern.MathFMA.isNaN x then (x, y) else if Extern.MathFMA.isNaN y then (y, z) else (z, z)
  pure (.float .f64 (← choose (.nanBits .f64 a b)))) := rfl
theorem mdraw (w : World) (x y : Nat) : ∃ r, (do pure (Value.float .f64 (← choose (.nanBits .f64 x y))) : Sem Value).run Tryz.prog w = .ok (.float .f64 r) (w.drewN 1) ∧ r < 2 * 9223372036854775808 ∧ 9218868437227405312 < r % 9223372036854775808 :=
  ⟨(Question.nanBits .f64 x y).cut (w.tape w.drawn (.nanBits .f64 x y)), by simp [Question.forced]; rfl, nanc_64 ..⟩
theorem msqrt0 (x : Nat) (w : World) : ∃ r n, (callFunc 30 #[.float .f64 x]).run Tryz.prog w = .ok (.value (.float .f64 r)) (w.drewN n) ∧ (x < 18446744073709551616 → MaR 9223372036854775808 9218868437227405312 (Ieee.double.sqrt x) r) := by
  have hx := run_callFunc_extern (P := Tryz.prog) Tryz.func30 (by kernel_rfl) (by kernel_rfl) (by kernel_rfl) (e := Extern.MathSqrt.sqrt) (by kernel_rfl) #[.float .f64 x] w
  rw [hx]
  cases h : Ieee.double.sqrt x with
  | some v =>
    refine ⟨v, 0, ?_, fun hx => ⟨?_, fun u hu => Option.some.inj hu, fun hu => by cases hu⟩⟩
    · have h' : FloatKind.f64.format.sqrt x = some v := h
      rw [msq_eq, h']; rfl
    · exact Ieee.double.sqrt_lt h
  | none =>
    have h' : FloatKind.f64.format.sqrt x = none := h
    obtain ⟨r, h1, h2, h3⟩ := mdraw w x x
    refine ⟨r, 1, ?_, fun _ => ⟨h2, fun u hu => (by cases hu), fun _ => h3⟩⟩
    rw [msq_eq, h', h1]; rfl
theorem mfma0 (x y z : Nat) (w : World) : ∃ r n, (callFunc 18 #[.float .f64 x, .float .f64 y, .float .f64 z]).run Tryz.prog w = .ok (.value (.float .f64 r)) (w.drewN n) ∧ MaR 9223372036854775808 9218868437227405312 (Ieee.double.fma x y z) r := by
  have hx := run_callFunc_extern (P := Tryz.prog) Tryz.func18 (by kernel_rfl) (by kernel_rfl) (by kernel_rfl) (e := Extern.MathFMA.fma) (by kernel_rfl) #[.float .f64 x, .float .f64 y, .float .f64 z] w
  rw [hx]
  cases h : Ieee.double.fma x y z with
  | some v =>
    refine ⟨v, 0, ?_, ⟨?_, fun u hu => Option.some.inj hu, fun hu => by cases hu⟩⟩
    · have h' : FloatKind.f64.format.fma x y z = some v := h
      rw [mfm_eq, h']; rfl
    · exact Ieee.double.fma_lt h
  | none =>
    have h' : FloatKind.f64.format.fma x y z = none := h
    have key : ∀ a b : Nat, ∃ r n, ((do pure (Value.float .f64 (← choose (.nanBits .f64 a b))) : Sem Value).run Tryz.prog w).andThen (fun v w' => .ok (Next.value v) w') = .ok (Next.value (.float .f64 r)) (w.drewN n) ∧ MaR 9223372036854775808 9218868437227405312 none r := fun a b => by
      obtain ⟨r, h1, h2, h3⟩ := mdraw w a b
      refine ⟨r, 1, ?_, ⟨h2, fun u hu => (by cases hu), fun _ => h3⟩⟩
      rw [h1]; rfl
    rw [mfm_eq, h']
    dsimp only
    by_cases hx : Extern.MathFMA.isNaN x = true
    · rw [if_pos hx]; exact key x y
    · rw [if_neg hx]
      by_cases hy : Extern.MathFMA.isNaN y = true
      · rw [if_pos hy]; exact key y z
      · rw [if_neg hy]; exact key z z
theorem nxl_32 {a : Nat} (h : a < 4294967296) : a ^^^ 2 ^ 31 < 4294967296 := by
  have h1 : (4294967296 : Nat) = 2 ^ 32 := by decide
  rw [h1] at h ⊢
  exact Nat.xor_lt_two_pow h (Nat.pow_lt_pow_right (by decide) (by decide))
theorem machine_32 {a b : Nat} (ha : a < 4294967296) (hb : b < 4294967296) (w : World) (hT : Tab w) :
    Calls Tryz.prog 3 #[.int .u32 a, .int .u32 b] w fun en w' => en = .returned (.bool true) ∧ Below w.heap.size w w' := by
  have hfa := fun w => mfrom_32 a w
  have hfb := fun w => mfrom_32 b w
  have hua : IntKind.u64.wrap (a : Int) = (a : Int) := by rw [IntKind.wrap_u64]; omega
  have hub : IntKind.u64.wrap (b : Int) = (b : Int) := by rw [IntKind.wrap_u64]; omega
  obtain ⟨na, hna⟩ : ∃ na, na = a ^^^ 2 ^ 31 := ⟨_, rfl⟩
  have hng : ∀ W : World, (Op.unary UnOp.neg (.float .f32 a)).run Tryz.prog W = .ok (.float .f32 na) W := fun W => by rw [hna]; rfl
  have HN : Hid (a ^^^ 2 ^ 31 = na ∧ na < 4294967296) := ⟨hna.symm, by rw [hna]; exact nxl_32 ha⟩
  clear hna
  have HL : Hid (a < 4294967296 ∧ b < 4294967296) := ⟨ha, hb⟩
  have TB : Hid (Tab w) := hT
  clear hT ha hb
  go_enter Tryz.func3, Tryz.ntmps3
  go_wp2_with fail
  have hbw : Below w.heap.size w w := Below.refl _ _
  refine (mac_add mac_32 HL.out.1 HL.out.2 _ (TB.out.below hbw)).mono ?_
  rintro e w1 ⟨vadd, rfl, hv, hb1⟩
  have Hadd : Hid (∀ r, MaR 2147483648 2139095040 (Ieee.single.add a b) r → vadd = quP 2147483648 2139095040 2143289345 r) := hv
  clear hv
  replace hbw := Below.on hbw hb1
  clear hb1
  go_wp2_with fail
  refine (mac_sub mac_32 HL.out.1 HL.out.2 _ (TB.out.below hbw)).mono ?_
  rintro e w2 ⟨vsub, rfl, hv, hb2⟩
  have Hsub : Hid (∀ r, MaR 2147483648 2139095040 (Ieee.single.sub a b) r → vsub = quP 2147483648 2139095040 2143289345 r) := hv
  clear hv
  replace hbw := Below.on hbw hb2
  clear hb2
  go_wp2_with fail
  refine (mac_mul mac_32 HL.out.1 HL.out.2 _ (TB.out.below hbw)).mono ?_
  rintro e w3 ⟨vmul, rfl, hv, hb3⟩
  have Hmul : Hid (∀ r, MaR 2147483648 2139095040 (Ieee.single.mul a b) r → vmul = quP 2147483648 2139095040 2143289345 r) := hv
  clear hv
  replace hbw := Below.on hbw hb3
  clear hb3
  go_wp2_with fail
  refine (mac_div mac_32 HL.out.1 HL.out.2 _ (TB.out.below hbw)).mono ?_
  rintro e w4 ⟨vdiv, rfl, hv, hb4⟩
  have Hdiv : Hid (∀ r, MaR 2147483648 2139095040 (Ieee.single.div a b) r → vdiv = quP 2147483648 2139095040 2143289345 r) := hv
  clear hv
  replace hbw := Below.on hbw hb4
  clear hb4
  go_wp2_with fail
  refine (mac_neg mac_32 HL.out.1 _ (TB.out.below hbw)).mono ?_
  rintro e w5 ⟨vneg, rfl, hv, hb5⟩
  have Hneg : Hid (vneg = quP 2147483648 2139095040 2143289345 na) := by rw [← HN.out.1]; exact hv
  clear hv
  replace hbw := Below.on hbw hb5
  clear hb5
  obtain ⟨radd, nadd, qadd, Fadd⟩ := fop_32 (P := Tryz.prog) .add (.inl rfl) 23 a b w5
  obtain ⟨rsub, nsub, qsub, Fsub⟩ := fop_32 (P := Tryz.prog) .sub (.inr (.inl rfl)) 23 a b (w5.drewN (nadd))
  obtain ⟨rmul, nmul, qmul, Fmul⟩ := fop_32 (P := Tryz.prog) .mul (.inr (.inr (.inl rfl))) 23 a b (w5.drewN (nadd + nsub))
  obtain ⟨rdiv, ndiv, qdiv, Fdiv⟩ := fop_32 (P := Tryz.prog) .quo (.inr (.inr (.inr rfl))) 23 a b (w5.drewN (nadd + nsub + nmul))
  rw [World.drewN_drewN] at qsub qmul qdiv
  have Eadd : Hid (quP 2147483648 2139095040 2143289345 radd = vadd ∧ radd < 4294967296) := ⟨(Hadd.out _ Fadd).symm, Fadd.lt⟩
  clear Hadd Fadd
  have Esub : Hid (quP 2147483648 2139095040 2143289345 rsub = vsub ∧ rsub < 4294967296) := ⟨(Hsub.out _ Fsub).symm, Fsub.lt⟩
  clear Hsub Fsub
  have Emul : Hid (quP 2147483648 2139095040 2143289345 rmul = vmul ∧ rmul < 4294967296) := ⟨(Hmul.out _ Fmul).symm, Fmul.lt⟩
  clear Hmul Fmul
  have Ediv : Hid (quP 2147483648 2139095040 2143289345 rdiv = vdiv ∧ rdiv < 4294967296) := ⟨(Hdiv.out _ Fdiv).symm, Fdiv.lt⟩
  clear Hdiv Fdiv
  go_wp2_with fail
  clear qadd qsub qmul qdiv
  have hbr := bDrewN (Below.refl w5.heap.size w5) (nadd + nsub + nmul + ndiv)
  generalize w5.drewN (nadd + nsub + nmul + ndiv) = wd at *
  replace hbw := Below.on hbw hbr
  clear hbr
  refine (mqui_32 Eadd.out.2 _).mono ?_
  rintro e u0 ⟨rfl, hw⟩
  obtain rfl := hw.symm
  clear hw
  rw [Eadd.out.1]
  go_wp2_with fail
  refine (mqui_32 Esub.out.2 _).mono ?_
  rintro e u1 ⟨rfl, hw⟩
  obtain rfl := hw.symm
  clear hw
  rw [Esub.out.1]
  go_wp2_with fail
  refine (mqui_32 Emul.out.2 _).mono ?_
  rintro e u2 ⟨rfl, hw⟩
  obtain rfl := hw.symm
  clear hw
  rw [Emul.out.1]
  go_wp2_with fail
  refine (mqui_32 Ediv.out.2 _).mono ?_
  rintro e u3 ⟨rfl, hw⟩
  obtain rfl := hw.symm
  clear hw
  rw [Ediv.out.1]
  go_wp2_with fail
  refine (mqui_32 HN.out.2 _).mono ?_
  rintro e u9 ⟨rfl, hw⟩
  obtain rfl := hw.symm
  clear hw
  rw [← Hneg.out]
  go_wp2_with fail
  refine (mac_cmp mac_32 HL.out.1 HL.out.2 _ (TB.out.below hbw)).mono ?_
  rintro e wc ⟨v, rfl, hv, hbc⟩
  replace hbw := Below.on hbw hbc
  clear hbc
  rcases hv with ⟨rfl, h⟩ | ⟨rfl, h⟩ | ⟨rfl, h⟩ | ⟨rfl, _, h⟩
  · have ho : FloatKind.f32.format.order a b = _ := h
    clear h
    go_wp2_with fail
    go_ret
    exact ⟨rfl, hbw⟩
  · have ho : FloatKind.f32.format.order a b = _ := h
    clear h
    go_wp2_with fail
    go_ret
    exact ⟨rfl, hbw⟩
  · have ho : FloatKind.f32.format.order a b = _ := h
    clear h
    go_wp2_with fail
    go_ret
    exact ⟨rfl, hbw⟩
  · have ha := mac_self mac_32 HL.out.1
    have hb := mac_self mac_32 HL.out.2
    by_cases k : 2139095040 < a % 2147483648
    · rw [if_pos k] at ha
      have ho : FloatKind.f32.format.order a a = none := ha
      clear ha hb h k
      go_wp2_with fail
      go_ret
      exact ⟨rfl, hbw⟩
    · rw [if_neg k] at ha
      rw [if_pos (by omega)] at hb
      have ho : FloatKind.f32.format.order a a = some .eq := ha
      have ho2 : FloatKind.f32.format.order b b = none := hb
      clear ha hb h k
      go_wp2_with fail
      go_ret
      exact ⟨rfl, hbw⟩
theorem msqrt (x : Nat) (hx : x < 18446744073709551616) (w : World) :
    Calls Tryz.prog 17 #[.float .f64 x] w fun en w' => ∃ r n, en = .returned (.float .f64 r) ∧ w' = w.drewN n ∧ MaR 9223372036854775808 9218868437227405312 (Ieee.double.sqrt x) r := by
  obtain ⟨r, n, hs, F⟩ := msqrt0 x w
  go_enter Tryz.func17, Tryz.ntmps17
  go_wp2_with fail
  go_ret
  exact ⟨r, n, rfl, rfl, F hx⟩
theorem nxl_64 {a : Nat} (h : a < 18446744073709551616) : a ^^^ 2 ^ 63 < 18446744073709551616 := by
  have h1 : (18446744073709551616 : Nat) = 2 ^ 64 := by decide
  rw [h1] at h ⊢
  exact Nat.xor_lt_two_pow h (Nat.pow_lt_pow_right (by decide) (by decide))
theorem machine_64 {a b c : Nat} (ha : a < 18446744073709551616) (hb : b < 18446744073709551616) (hc : c < 18446744073709551616) (w : World) (hT : Tab w) :
    Calls Tryz.prog 4 #[.int .u64 a, .int .u64 b, .int .u64 c] w fun en w' => en = .returned (.bool true) ∧ Below w.heap.size w w' := by
  have hfa := fun w => mfrom_64 a w
  have hfb := fun w => mfrom_64 b w
  have hfc := fun w => mfrom_64 c w
  obtain ⟨na, hna⟩ : ∃ na, na = a ^^^ 2 ^ 63 := ⟨_, rfl⟩
  have hng : ∀ W : World, (Op.unary UnOp.neg (.float .f64 a)).run Tryz.prog W = .ok (.float .f64 na) W := fun W => by rw [hna]; rfl
  have HN : Hid (a ^^^ 2 ^ 63 = na ∧ na < 18446744073709551616) := ⟨hna.symm, by rw [hna]; exact nxl_64 ha⟩
  clear hna
  have HL : Hid (a < 18446744073709551616 ∧ b < 18446744073709551616 ∧ c < 18446744073709551616) := ⟨ha, hb, hc⟩
  have TB : Hid (Tab w) := hT
  clear hT ha hb hc
  go_enter Tryz.func4, Tryz.ntmps4
  go_wp2_with fail
  have hbw : Below w.heap.size w w := Below.refl _ _
  refine (mac_add mac_64 HL.out.1 HL.out.2.1 _ (TB.out.below hbw)).mono ?_
  rintro e w1 ⟨vadd, rfl, hv, hb1⟩
  have Hadd : Hid (∀ r, MaR 9223372036854775808 9218868437227405312 (Ieee.double.add a b) r → vadd = quP 9223372036854775808 9218868437227405312 9221120237041090561 r) := hv
  clear hv
  replace hbw := Below.on hbw hb1
  clear hb1
  go_wp2_with fail
  refine (mac_sub mac_64 HL.out.1 HL.out.2.1 _ (TB.out.below hbw)).mono ?_
  rintro e w2 ⟨vsub, rfl, hv, hb2⟩
  have Hsub : Hid (∀ r, MaR 9223372036854775808 9218868437227405312 (Ieee.double.sub a b) r → vsub = quP 9223372036854775808 9218868437227405312 9221120237041090561 r) := hv
  clear hv
  replace hbw := Below.on hbw hb2
  clear hb2
  go_wp2_with fail
  refine (mac_mul mac_64 HL.out.1 HL.out.2.1 _ (TB.out.below hbw)).mono ?_
  rintro e w3 ⟨vmul, rfl, hv, hb3⟩
  have Hmul : Hid (∀ r, MaR 9223372036854775808 9218868437227405312 (Ieee.double.mul a b) r → vmul = quP 9223372036854775808 9218868437227405312 9221120237041090561 r) := hv
  clear hv
  replace hbw := Below.on hbw hb3
  clear hb3
  go_wp2_with fail
  refine (mac_div mac_64 HL.out.1 HL.out.2.1 _ (TB.out.below hbw)).mono ?_
  rintro e w4 ⟨vdiv, rfl, hv, hb4⟩
  have Hdiv : Hid (∀ r, MaR 9223372036854775808 9218868437227405312 (Ieee.double.div a b) r → vdiv = quP 9223372036854775808 9218868437227405312 9221120237041090561 r) := hv
  clear hv
  replace hbw := Below.on hbw hb4
  clear hb4
  go_wp2_with fail
  refine (mac_sqrt mac_64 HL.out.1 _ (TB.out.below hbw)).mono ?_
  rintro e w5 ⟨vsqrt, rfl, hv, hb5⟩
  have Hsqrt : Hid (∀ r, MaR 9223372036854775808 9218868437227405312 (Ieee.double.sqrt a) r → vsqrt = quP 9223372036854775808 9218868437227405312 9221120237041090561 r) := hv
  clear hv
  replace hbw := Below.on hbw hb5
  clear hb5
  go_wp2_with fail
  refine (mac_fma mac_64 HL.out.1 HL.out.2.1 HL.out.2.2 _ (TB.out.below hbw)).mono ?_
  rintro e w6 ⟨vfma, rfl, hv, hb6⟩
  have Hfma : Hid (∀ r, MaR 9223372036854775808 9218868437227405312 (Ieee.double.fma a b c) r → vfma = quP 9223372036854775808 9218868437227405312 9221120237041090561 r) := hv
  clear hv
  replace hbw := Below.on hbw hb6
  clear hb6
  go_wp2_with fail
  refine (mac_neg mac_64 HL.out.1 _ (TB.out.below hbw)).mono ?_
  rintro e w7 ⟨vneg, rfl, hv, hb7⟩
  have Hneg : Hid (vneg = quP 9223372036854775808 9218868437227405312 9221120237041090561 na) := by rw [← HN.out.1]; exact hv
  clear hv
  replace hbw := Below.on hbw hb7
  clear hb7
  obtain ⟨radd, nadd, qadd, Fadd⟩ := fop_64 (P := Tryz.prog) .add (.inl rfl) 35 a b w7
  obtain ⟨rsub, nsub, qsub, Fsub⟩ := fop_64 (P := Tryz.prog) .sub (.inr (.inl rfl)) 35 a b (w7.drewN (nadd))
  obtain ⟨rmul, nmul, qmul, Fmul⟩ := fop_64 (P := Tryz.prog) .mul (.inr (.inr (.inl rfl))) 35 a b (w7.drewN (nadd + nsub))
  obtain ⟨rdiv, ndiv, qdiv, Fdiv⟩ := fop_64 (P := Tryz.prog) .quo (.inr (.inr (.inr rfl))) 35 a b (w7.drewN (nadd + nsub + nmul))
  rw [World.drewN_drewN] at qsub qmul qdiv
  have Eadd : Hid (quP 9223372036854775808 9218868437227405312 9221120237041090561 radd = vadd ∧ radd < 18446744073709551616) := ⟨(Hadd.out _ Fadd).symm, Fadd.lt⟩
  clear Hadd Fadd
  have Esub : Hid (quP 9223372036854775808 9218868437227405312 9221120237041090561 rsub = vsub ∧ rsub < 18446744073709551616) := ⟨(Hsub.out _ Fsub).symm, Fsub.lt⟩
  clear Hsub Fsub
  have Emul : Hid (quP 9223372036854775808 9218868437227405312 9221120237041090561 rmul = vmul ∧ rmul < 18446744073709551616) := ⟨(Hmul.out _ Fmul).symm, Fmul.lt⟩
  clear Hmul Fmul
  have Ediv : Hid (quP 9223372036854775808 9218868437227405312 9221120237041090561 rdiv = vdiv ∧ rdiv < 18446744073709551616) := ⟨(Hdiv.out _ Fdiv).symm, Fdiv.lt⟩
  clear Hdiv Fdiv
  go_wp2_with fail
  clear qadd qsub qmul qdiv
  have hbr := bDrewN (Below.refl w7.heap.size w7) (nadd + nsub + nmul + ndiv)
  generalize w7.drewN (nadd + nsub + nmul + ndiv) = wd at *
  replace hbw := Below.on hbw hbr
  clear hbr
  refine (mqui_64 Eadd.out.2 _).mono ?_
  rintro e u0 ⟨rfl, hw⟩
  obtain rfl := hw.symm
  clear hw
  rw [Eadd.out.1]
  go_wp2_with fail
  refine (mqui_64 Esub.out.2 _).mono ?_
  rintro e u1 ⟨rfl, hw⟩
  obtain rfl := hw.symm
  clear hw
  rw [Esub.out.1]
  go_wp2_with fail
  refine (mqui_64 Emul.out.2 _).mono ?_
  rintro e u2 ⟨rfl, hw⟩
  obtain rfl := hw.symm
  clear hw
  rw [Emul.out.1]
  go_wp2_with fail
  refine (mqui_64 Ediv.out.2 _).mono ?_
  rintro e u3 ⟨rfl, hw⟩
  obtain rfl := hw.symm
  clear hw
  rw [Ediv.out.1]
  go_wp2_with fail
  refine (msqrt a HL.out.1 _).mono ?_
  rintro e us ⟨rsqrt, ns, rfl, rfl, FSq⟩
  have Esqrt : Hid (quP 9223372036854775808 9218868437227405312 9221120237041090561 rsqrt = vsqrt ∧ rsqrt < 18446744073709551616) := ⟨(Hsqrt.out _ FSq).symm, FSq.lt⟩
  clear Hsqrt FSq
  have hbr := bDrewN (Below.refl wd.heap.size wd) ns
  generalize wd.drewN ns = we at *
  replace hbw := Below.on hbw hbr
  clear hbr
  go_wp2_with fail
  refine (mqui_64 Esqrt.out.2 _).mono ?_
  rintro e u5 ⟨rfl, hw⟩
  obtain rfl := hw.symm
  clear hw
  rw [Esqrt.out.1]
  obtain ⟨rfma, nf, qfma, FF⟩ := mfma0 a b c we
  have Efma : Hid (quP 9223372036854775808 9218868437227405312 9221120237041090561 rfma = vfma ∧ rfma < 18446744073709551616) := ⟨(Hfma.out _ FF).symm, FF.lt⟩
  clear Hfma FF
  go_wp2_with fail
  clear qfma
  have hbr := bDrewN (Below.refl we.heap.size we) nf
  generalize we.drewN nf = wf at *
  replace hbw := Below.on hbw hbr
  clear hbr
  refine (mqui_64 Efma.out.2 _).mono ?_
  rintro e u6 ⟨rfl, hw⟩
  obtain rfl := hw.symm
  clear hw
  rw [Efma.out.1]
  go_wp2_with fail
  refine (mqui_64 HN.out.2 _).mono ?_
  rintro e u9 ⟨rfl, hw⟩
  obtain rfl := hw.symm
  clear hw
  rw [← Hneg.out]
  go_wp2_with fail
  refine (mac_cmp mac_64 HL.out.1 HL.out.2.1 _ (TB.out.below hbw)).mono ?_
  rintro e wc ⟨v, rfl, hv, hbc⟩
  replace hbw := Below.on hbw hbc
  clear hbc
  rcases hv with ⟨rfl, h⟩ | ⟨rfl, h⟩ | ⟨rfl, h⟩ | ⟨rfl, _, h⟩
  · have ho : FloatKind.f64.format.order a b = _ := h
    clear h
    go_wp2_with fail
    go_ret
    exact ⟨rfl, hbw⟩
  · have ho : FloatKind.f64.format.order a b = _ := h
    clear h
    go_wp2_with fail
    go_ret
    exact ⟨rfl, hbw⟩
  · have ho : FloatKind.f64.format.order a b = _ := h
    clear h
    go_wp2_with fail
    go_ret
    exact ⟨rfl, hbw⟩
  · have ha := mac_self mac_64 HL.out.1
    have hb := mac_self mac_64 HL.out.2.1
    by_cases k : 9218868437227405312 < a % 9223372036854775808
    · rw [if_pos k] at ha
      have ho : FloatKind.f64.format.order a a = none := ha
      clear ha hb h k
      go_wp2_with fail
      go_ret
      exact ⟨rfl, hbw⟩
    · rw [if_neg k] at ha
      rw [if_pos (by omega)] at hb
      have ho : FloatKind.f64.format.order a a = some .eq := ha
      have ho2 : FloatKind.f64.format.order b b = none := hb
      clear ha hb h k
      go_wp2_with fail
      go_ret
      exact ⟨rfl, hbw⟩
end Go.Proofs.YticfcfododdkmaaGreatDoor
