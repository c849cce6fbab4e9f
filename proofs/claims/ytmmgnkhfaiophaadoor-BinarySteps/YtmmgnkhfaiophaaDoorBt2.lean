import Derived.Test.YtmmgnkhfaiophaaDoorBt0
import Derived.Test.YtmmgnkhfaiophaaDoorBt1
namespace Go.Proofs.YtmmgnkhfaiophaaDoor
open Go.RowKit Go.Shelf

variable {f p m l P E G : Int} {S I Q : Nat}
theorem Says.cast {fn : FuncId} {x y v u : Value} {v' : Value} (h : Says fn x y v u) (e : v = v') : Says fn x y v' u := e ▸ h
theorem Says.arg {fn : FuncId} {x v u : Value} {n n' : Int} (h : Says fn x (.int .i64 n) v u) (e : n = n') : Says fn x (.int .i64 n') v u := e ▸ h
theorem uEq {a b : Nat} (h : a = b) : U a = U b := by rw [h]

theorem rank_same (F : Fm f p m l S I) (R : Rf f S P E G I Q) (b : Nat) (hb9 : b < B64) :
    ∃ r er : Int, Says 19 (.int .i64 f) (U b) (.int .i64 r) (.int .i64 er) ∧ Says 39 (.int .i64 f) (U b) (.int .i64 r) (.int .i64 er) := by
  by_cases h1 : 2 * S ≤ b
  · exact ⟨0, 2, fun w => rank_fail (fun w => ranked_bad (fun w => F.big b w hb9 h1) (by decide) w) (by decide) w, fun w => docrank_bad (fun w => check_big R b hb9 h1 w) (by decide) w⟩
  · have hb : b < 2 * S := by omega
    by_cases h2 : I < b % S
    · exact ⟨0, 6, fun w => rank_fail (fun w => ranked_nan F b hb h2 w) (by decide) w, fun w => docrank_nan R b hb h2 w⟩
    · have hr : b % S ≤ I := by omega
      by_cases h3 : S ≤ b
      · refine ⟨_, 0, fun w => ?_, fun w => docrank_neg R b hb hr h3 w⟩
        have := rank_ok F b hb hr w
        rw [if_pos h3] at this
        exact this
      · refine ⟨_, 0, fun w => ?_, fun w => docrank_pos R b hb hr h3 w⟩
        have := rank_ok F b hb hr w
        rw [if_neg h3] at this
        exact this
theorem ranked_same (F : Fm f p m l S I) (R : Rf f S P E G I Q) (n : Int) (h1 : -9223372036854775808 ≤ n) (h2 : n ≤ 9223372036854775807) :
    ∃ v er : Int, Says 20 (.int .i64 f) (.int .i64 n) (.int .u64 v) (.int .i64 er) ∧ Says 62 (.int .i64 f) (.int .i64 n) (.int .u64 v) (.int .i64 er) := by
  by_cases h0 : n < 0
  · obtain ⟨k, hk⟩ : ∃ k : Nat, n = -(k : Int) := ⟨n.natAbs, by omega⟩
    subst hk
    by_cases hi : k ≤ I
    · exact ⟨_, 0, fun w => rkd_ok_neg F k (by omega) (by omega) hi w, fun w => docranked_okneg R k (by omega) (by omega) hi w⟩
    · exact ⟨_, 1, fun w => rkd_far_neg F k (by omega) (by omega) (by omega) w, fun w => docranked_farneg R k (by omega) (by omega) (by omega) w⟩
  · obtain ⟨k, hk⟩ : ∃ k : Nat, n = (k : Int) := ⟨n.natAbs, by omega⟩
    subst hk
    by_cases hi : k ≤ I
    · exact ⟨_, 0, fun w => rkd_ok_pos F k (by omega) hi w, fun w => docranked_okpos R k (by omega) hi w⟩
    · exact ⟨_, 1, fun w => rkd_far_pos F k (by omega) (by omega) w, fun w => docranked_farpos R k (by omega) (by omega) w⟩
theorem next_same (F : Fm f p m l S I) (R : Rf f S P E G I Q) (b : Nat) (hb9 : b < B64) :
    ∃ v er : Int, Says 17 (.int .i64 f) (U b) (.int .u64 v) (.int .i64 er) ∧ Says 60 (.int .i64 f) (U b) (.int .u64 v) (.int .i64 er) := by
  have hlt := F.lt
  have hpos := F.pos
  have hle := F.le
  by_cases h1 : 2 * S ≤ b
  · exact ⟨0, 2, to_Next (fun w => step_fail (fun w => ranked_bad (fun w => F.big b w hb9 h1) (by decide) w) (by decide) false w), docNext_err (fun w => docrank_bad (fun w => check_big R b hb9 h1 w) (by decide) w) (by decide)⟩
  · have hb : b < 2 * S := by omega
    by_cases h2 : I < b % S
    · exact ⟨0, 6, to_Next (fun w => step_fail (fun w => ranked_nan F b hb h2 w) (by decide) false w), docNext_err (fun w => docrank_nan R b hb h2 w) (by decide)⟩
    · have hr : b % S ≤ I := by omega
      by_cases h3 : S ≤ b
      · obtain ⟨z, rfl⟩ : ∃ z, b = S + z := ⟨b - S, by omega⟩
        have hz : (S + z) % S = z := by rw [Nat.add_mod_left]; exact Nat.mod_eq_of_lt (by omega)
        have hk : Says 39 (.int .i64 f) (U (S + z)) (.int .i64 (-(z : Int))) (.int .i64 0) := by
          have := fun w => docrank_neg R (S + z) hb hr h3 w
          rw [hz] at this
          exact this
        have hd : decide (S ≤ S + z) = true := decide_eq_true h3
        rw [hz] at hr
        by_cases z0 : z = 0
        · subst z0
          refine ⟨1, 0, to_Next (fun w => step_B F _ hb (by omega) false (by omega) w), docNext_go R hk (by omega) (by omega) ⟨by omega, by omega⟩ (Says.arg (n := ((1 : Nat) : Int)) (fun w => docranked_okpos R 1 (by omega) (by omega) w) (by omega))⟩
        · by_cases z1 : z = 1
          · subst z1
            refine ⟨_, 0, to_Next (fun w => step_D F _ hb (by omega) false (by rw [hd]; rfl) (by omega) w), Says.cast (docNext_one R hk (by omega)) (uEq (by omega))⟩
          · refine ⟨_, 0, to_Next (fun w => step_D F _ hb (by omega) false (by rw [hd]; rfl) (by omega) w), Says.cast (docNext_go R hk (by omega) (by omega) ⟨by omega, by omega⟩ (Says.arg (n := -((z - 1 : Nat) : Int)) (fun w => docranked_okneg R (z - 1) (by omega) (by omega) (by omega) w) (by omega))) (uEq (by omega))⟩
      · have hz : b % S = b := Nat.mod_eq_of_lt (by omega)
        have hk : Says 39 (.int .i64 f) (U b) (.int .i64 (b : Int)) (.int .i64 0) := by
          have := fun w => docrank_pos R b hb hr h3 w
          rw [hz] at this
          exact this
        have hd : decide (S ≤ b) = false := decide_eq_false h3
        rw [hz] at hr
        by_cases zI : b = I
        · refine ⟨0, 6, to_Next (fun w => step_A F b hb (by omega) false (by rw [hd]; rfl) (by omega) w), docNext_inf R hk (by omega)⟩
        · by_cases z0 : b = 0
          · subst z0
            refine ⟨1, 0, to_Next (fun w => step_B F 0 hb (by omega) false (by omega) w), docNext_go R hk (by omega) (by omega) ⟨by omega, by omega⟩ (Says.arg (n := ((1 : Nat) : Int)) (fun w => docranked_okpos R 1 (by omega) (by omega) w) (by omega))⟩
          · refine ⟨_, 0, to_Next (fun w => step_C F b hb (by omega) false (by rw [hd]; rfl) (by omega) (by omega) w), docNext_go R hk (by omega) (by omega) ⟨by omega, by omega⟩ (Says.arg (n := ((b + 1 : Nat) : Int)) (fun w => docranked_okpos R (b + 1) (by omega) (by omega) w) (by omega))⟩
theorem prev_same (F : Fm f p m l S I) (R : Rf f S P E G I Q) (b : Nat) (hb9 : b < B64) :
    ∃ v er : Int, Says 18 (.int .i64 f) (U b) (.int .u64 v) (.int .i64 er) ∧ Says 61 (.int .i64 f) (U b) (.int .u64 v) (.int .i64 er) := by
  have hlt := F.lt
  have hpos := F.pos
  have hle := F.le
  by_cases h1 : 2 * S ≤ b
  · exact ⟨0, 2, to_Prev (fun w => step_fail (fun w => ranked_bad (fun w => F.big b w hb9 h1) (by decide) w) (by decide) true w), docPrev_err (fun w => docrank_bad (fun w => check_big R b hb9 h1 w) (by decide) w) (by decide)⟩
  · have hb : b < 2 * S := by omega
    by_cases h2 : I < b % S
    · exact ⟨0, 6, to_Prev (fun w => step_fail (fun w => ranked_nan F b hb h2 w) (by decide) true w), docPrev_err (fun w => docrank_nan R b hb h2 w) (by decide)⟩
    · have hr : b % S ≤ I := by omega
      by_cases h3 : S ≤ b
      · obtain ⟨z, rfl⟩ : ∃ z, b = S + z := ⟨b - S, by omega⟩
        have hz : (S + z) % S = z := by rw [Nat.add_mod_left]; exact Nat.mod_eq_of_lt (by omega)
        have hk : Says 39 (.int .i64 f) (U (S + z)) (.int .i64 (-(z : Int))) (.int .i64 0) := by
          have := fun w => docrank_neg R (S + z) hb hr h3 w
          rw [hz] at this
          exact this
        have hd : decide (S ≤ S + z) = true := decide_eq_true h3
        rw [hz] at hr
        by_cases zI : z = I
        · refine ⟨0, 6, to_Prev (fun w => step_A F _ hb (by omega) true (by rw [hd]; rfl) (by omega) w), docPrev_inf R hk (by omega)⟩
        · by_cases z0 : z = 0
          · subst z0
            refine ⟨_, 0, to_Prev (fun w => step_B F _ hb (by omega) true (by omega) w), docPrev_go R hk (by omega) (by omega) ⟨by omega, by omega⟩ (Says.arg (n := -((1 : Nat) : Int)) (fun w => docranked_okneg R 1 (by omega) (by omega) (by omega) w) (by omega))⟩
          · refine ⟨_, 0, to_Prev (fun w => step_C F _ hb (by omega) true (by rw [hd]; rfl) (by omega) (by omega) w), Says.cast (docPrev_go R hk (by omega) (by omega) ⟨by omega, by omega⟩ (Says.arg (n := -((z + 1 : Nat) : Int)) (fun w => docranked_okneg R (z + 1) (by omega) (by omega) (by omega) w) (by omega))) (uEq (by omega))⟩
      · have hz : b % S = b := Nat.mod_eq_of_lt (by omega)
        have hk : Says 39 (.int .i64 f) (U b) (.int .i64 (b : Int)) (.int .i64 0) := by
          have := fun w => docrank_pos R b hb hr h3 w
          rw [hz] at this
          exact this
        have hd : decide (S ≤ b) = false := decide_eq_false h3
        rw [hz] at hr
        by_cases z0 : b = 0
        · subst z0
          refine ⟨_, 0, to_Prev (fun w => step_B F 0 hb (by omega) true (by omega) w), docPrev_go R hk (by omega) (by omega) ⟨by omega, by omega⟩ (Says.arg (n := -((1 : Nat) : Int)) (fun w => docranked_okneg R 1 (by omega) (by omega) (by omega) w) (by omega))⟩
        · by_cases z1 : b = 1
          · subst z1
            refine ⟨0, 0, to_Prev (fun w => step_D F 1 hb (by omega) true (by rw [hd]; rfl) (by omega) w), docPrev_one R hk (by omega)⟩
          · refine ⟨_, 0, to_Prev (fun w => step_D F b hb (by omega) true (by rw [hd]; rfl) (by omega) w), docPrev_go R hk (by omega) (by omega) ⟨by omega, by omega⟩ (Says.arg (n := ((b - 1 : Nat) : Int)) (fun w => docranked_okpos R (b - 1) (by omega) (by omega) w) (by omega))⟩
theorem rank_all (f : Int) (b : Nat) (hb9 : b < B64) : ∃ v er : Int, Says 19 (.int .i64 f) (U b) (.int .i64 v) (.int .i64 er) ∧ Says 39 (.int .i64 f) (U b) (.int .i64 v) (.int .i64 er) := by
  by_cases h1 : f = 32
  · subst h1
    exact rank_same fm_32 rf_32 b hb9
  · by_cases h2 : f = 64
    · subst h2
      exact rank_same fm_64 rf_64 b hb9
    · exact ⟨0, 1, fun w => rank_fail (fun w => ranked_bad (fun w => patternOf_x f h1 h2 b w) (by decide) w) (by decide) w, fun w => docrank_bad (fun w => check_x f h1 h2 b w) (by decide) w⟩
theorem ranked_all (f : Int) (n : Int) (hn1 : -9223372036854775808 ≤ n) (hn2 : n ≤ 9223372036854775807) : ∃ v er : Int, Says 20 (.int .i64 f) (.int .i64 n) (.int .u64 v) (.int .i64 er) ∧ Says 62 (.int .i64 f) (.int .i64 n) (.int .u64 v) (.int .i64 er) := by
  by_cases h1 : f = 32
  · subst h1
    exact ranked_same fm_32 rf_32 n hn1 hn2
  · by_cases h2 : f = 64
    · subst h2
      exact ranked_same fm_64 rf_64 n hn1 hn2
    · exact ⟨0, 1, fun w => rkd_x f h1 h2 n w, fun w => docranked_x f h1 h2 n w⟩
theorem next_all (f : Int) (b : Nat) (hb9 : b < B64) : ∃ v er : Int, Says 17 (.int .i64 f) (U b) (.int .u64 v) (.int .i64 er) ∧ Says 60 (.int .i64 f) (U b) (.int .u64 v) (.int .i64 er) := by
  by_cases h1 : f = 32
  · subst h1
    exact next_same fm_32 rf_32 b hb9
  · by_cases h2 : f = 64
    · subst h2
      exact next_same fm_64 rf_64 b hb9
    · exact ⟨0, 1, to_Next (fun w => step_fail (fun w => ranked_bad (fun w => patternOf_x f h1 h2 b w) (by decide) w) (by decide) false w), docNext_err (fun w => docrank_bad (fun w => check_x f h1 h2 b w) (by decide) w) (by decide)⟩
theorem prev_all (f : Int) (b : Nat) (hb9 : b < B64) : ∃ v er : Int, Says 18 (.int .i64 f) (U b) (.int .u64 v) (.int .i64 er) ∧ Says 61 (.int .i64 f) (U b) (.int .u64 v) (.int .i64 er) := by
  by_cases h1 : f = 32
  · subst h1
    exact prev_same fm_32 rf_32 b hb9
  · by_cases h2 : f = 64
    · subst h2
      exact prev_same fm_64 rf_64 b hb9
    · exact ⟨0, 1, to_Prev (fun w => step_fail (fun w => ranked_bad (fun w => patternOf_x f h1 h2 b w) (by decide) w) (by decide) true w), docPrev_err (fun w => docrank_bad (fun w => check_x f h1 h2 b w) (by decide) w) (by decide)⟩
end Go.Proofs.YtmmgnkhfaiophaaDoor
