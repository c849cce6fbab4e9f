import Derived.Test.YtjkhpkjpiifhoaaSubMul
import Derived.Test.YtjkhpkjpiifhoaaDivEx
import Derived.Test.YtjkhpkjpiifhoaaLits
namespace Go.Proofs.Ytjkhpkjpiifhoaa
open Go.RowKit Go.Shelf

theorem valB_top {xs : List Nat} {n : Nat} (hl : xs.length = n + 1) : valB B64 xs = valB B64 (xs.take n) + B64 ^ n * xs.getD n 0 := by
  have h := valB_take_succ B64 xs n (by omega)
  rw [List.take_of_length_le (by omega)] at h; exact h
theorem take_len_lt {xs : List Nat} (hd : Dig B64 xs) {n : Nat} (hn : n ≤ xs.length) : valB B64 (xs.take n) < B64 ^ n := by
  have := valB_lt B64_pos (hd.take n)
  rw [List.length_take, Nat.min_eq_left hn] at this; exact this

/-- The upper three limbs of the window and the upper two of the divisor tell a bound on the quotient. -/
theorem trial_top {P L M T V W D q : Nat} (hW : W = L + P * T) (hL : L < P) (hD : D = M + P * V) (hq : q * D ≤ W) : q * V ≤ T := by
  have h1 : P * (q * V) ≤ q * D := by rw [hD, Nat.mul_add, Nat.mul_left_comm]; exact Nat.le_add_left _ _
  have h2 : P * (q * V) < P * (T + 1) := by rw [Nat.mul_add, Nat.mul_one]; omega
  have := Nat.lt_of_mul_lt_mul_left h2
  omega
theorem trial_first {q f s w0 w1 w2 : Nat} (hw0 : w0 < B64) (h : q * (s + B64 * f) ≤ w0 + B64 * (w1 + B64 * w2)) : q * f ≤ w1 + B64 * w2 := by
  have h1 : q * (s + B64 * f) = q * s + B64 * (q * f) := by rw [Nat.mul_add, Nat.mul_left_comm]
  have h2 : B64 * (q * f) < B64 * (w1 + B64 * w2 + 1) := by rw [Nat.mul_add B64 _ 1, Nat.mul_one]; omega
  have := Nat.lt_of_mul_lt_mul_left h2
  omega
theorem trial_step {q d l f s w0 w1 w2 : Nat} (h : q * (s + B64 * f) ≤ w0 + B64 * (w1 + B64 * w2)) (hi : d * f + l = w1 + B64 * w2) (hg : l * B64 + w0 < d * s) : q < d := by
  have h1 : d * (s + B64 * f) = d * s + B64 * (d * f) := by rw [Nat.mul_add, Nat.mul_left_comm]
  have h2 : B64 * (d * f) + B64 * l = B64 * (w1 + B64 * w2) := by rw [← Nat.mul_add, hi]
  have h3 : l * B64 = B64 * l := Nat.mul_comm _ _
  have h4 : q * (s + B64 * f) < d * (s + B64 * f) := by omega
  exact Nat.lt_of_mul_lt_mul_right h4
/-- What trial needs of its two lists. -/
structure TrialC (ws ds : List Nat) (n w0 w1 w2 s f q : Nat) : Prop where
  e0 : w0 = ws.getD (n - 2) 0
  e1 : w1 = ws.getD (n - 1) 0
  e2 : w2 = ws.getD n 0
  es : s = ds.getD (n - 2) 0
  ef : f = ds.getD (n - 1) 0
  b0 : w0 < B64
  b1 : w1 < B64
  b2 : w2 < B64
  bs : s < B64
  bf : f < B64
  top : q * (s + B64 * f) ≤ w0 + B64 * (w1 + B64 * w2)
  le : w2 ≤ f
  qb : q < B64
theorem TrialC.mk' {ws ds : List Nat} {n : Nat} (hn : 2 ≤ n) (lw : ws.length = n + 1) (ld : ds.length = n) (dw : Dig B64 ws) (dd : Dig B64 ds) (hlt : valB B64 ws < B64 * valB B64 ds) :
    ∃ w0 w1 w2 s f, TrialC ws ds n w0 w1 w2 s f (valB B64 ws / valB B64 ds) := by
  obtain ⟨k, rfl⟩ : ∃ k, n = k + 2 := ⟨n - 2, by omega⟩
  have a1 := valB_top lw
  have a2 := valB_take_succ B64 ws (k + 1) (by omega)
  have a3 := valB_take_succ B64 ws k (by omega)
  have c1 := valB_top (xs := ds) (n := k + 1) (by omega)
  have c2 := valB_take_succ B64 ds k (by omega)
  have hL := take_len_lt dw (n := k) (by omega)
  have hM := take_len_lt dd (n := k) (by omega)
  have hP : 0 < B64 ^ k := Nat.pow_pos B64_pos
  have b0 := dw.getD B64_pos k; have b1 := dw.getD B64_pos (k + 1); have b2 := dw.getD B64_pos (k + 2)
  have bs := dd.getD B64_pos k; have bf := dd.getD B64_pos (k + 1)
  have hW : valB B64 ws = valB B64 (ws.take k) + B64 ^ k * (ws.getD k 0 + B64 * (ws.getD (k + 1) 0 + B64 * ws.getD (k + 2) 0)) := by
    rw [a1, a2, a3, show B64 ^ (k + 2) = B64 ^ k * B64 * B64 by rw [Nat.pow_succ, Nat.pow_succ], Nat.pow_succ]; simp only [Nat.mul_add, Nat.mul_assoc, Nat.add_assoc]
  have hD : valB B64 ds = valB B64 (ds.take k) + B64 ^ k * (ds.getD k 0 + B64 * ds.getD (k + 1) 0) := by
    rw [c1, c2, Nat.pow_succ]; simp only [Nat.mul_add, Nat.mul_assoc, Nat.add_assoc]
  refine ⟨_, _, _, _, _, rfl, rfl, rfl, rfl, rfl, b0, b1, b2, bs, bf, trial_top hW hL hD (Nat.div_mul_le_self _ _), ?_, Nat.div_lt_of_lt_mul (by rw [Nat.mul_comm]; exact hlt)⟩
  -- the top limb is at most the divisor's
  rw [hW, hD] at hlt
  show ws.getD (k + 2) 0 ≤ ds.getD (k + 1) 0
  by_cases hle : ws.getD (k + 2) 0 ≤ ds.getD (k + 1) 0
  · exact hle
  · exfalso
    have h1 : B64 * (ds.getD (k + 1) 0 + 1) ≤ B64 * ws.getD (k + 2) 0 := Nat.mul_le_mul_left _ (by omega)
    have h2 : B64 * (B64 * (ds.getD (k + 1) 0 + 1)) ≤ B64 * (B64 * ws.getD (k + 2) 0) := Nat.mul_le_mul_left _ h1
    have h3 : B64 * (ds.getD k 0 + 1 + B64 * ds.getD (k + 1) 0) ≤ B64 * (B64 * (ds.getD (k + 1) 0 + 1)) := Nat.mul_le_mul_left _ (by rw [Nat.mul_add]; omega)
    have h4 : B64 ^ k * (B64 * (ds.getD k 0 + 1 + B64 * ds.getD (k + 1) 0)) ≤ B64 ^ k * (ws.getD k 0 + B64 * (ws.getD (k + 1) 0 + B64 * ws.getD (k + 2) 0)) := Nat.mul_le_mul_left _ (by rw [Nat.mul_add B64 (ws.getD (k + 1) 0)]; omega)
    have h5 : B64 * (valB B64 (ds.take k) + B64 ^ k * (ds.getD k 0 + B64 * ds.getD (k + 1) 0)) ≤ B64 ^ k * (B64 * (ds.getD k 0 + 1 + B64 * ds.getD (k + 1) 0)) := by
      rw [Nat.mul_left_comm (B64 ^ k)]
      refine Nat.mul_le_mul_left _ ?_
      have : B64 ^ k * (ds.getD k 0 + 1 + B64 * ds.getD (k + 1) 0) = B64 ^ k * (ds.getD k 0 + B64 * ds.getD (k + 1) 0) + B64 ^ k := by
        rw [show ds.getD k 0 + 1 + B64 * ds.getD (k + 1) 0 = (ds.getD k 0 + B64 * ds.getD (k + 1) 0) + 1 by omega, Nat.mul_add, Nat.mul_one]
      omega
    omega

set_option maxHeartbeats 1000000 in
theorem toogreat_any (d s h l : Nat) (w : World) (hd : d < B64) (hs : s < B64) (hl : l < B64) :
    Calls Try.prog 81 #[U d, U s, U h, U l] w fun e w' => e = .returned (.bool (decide (h * B64 + l < d * s))) ∧ w' = w := by
  obtain ⟨hi, lo, hmul, em, hlo⟩ := mul64_ex d s hd hs
  obtain ⟨r, hr⟩ : ∃ r, r = decide (h * B64 + l < d * s) := ⟨_, rfl⟩
  rw [← hr]
  rw [em, Nat.mul_comm h B64] at hr
  have HM : Hid (∀ w : World, Calls Try.prog 79 #[U d, U s] w fun e w' => e = .returned (.tuple #[U hi, U lo]) ∧ w' = w) := hmul
  have HR : Hid (r = decide (B64 * h + l < lo + B64 * hi)) := hr
  clear hmul hr em
  by_cases h1 : h < hi
  · have h1' : decide ((h : Int) < (hi : Int)) = true := decide_eq_true (by omega)
    go_enter Try.func81, Try.ntmps81
    go_wp2_with (go_at_call 79; refine (HM.out _).mono ?_; rintro e w' ⟨rfl, hw⟩; obtain rfl := hw.symm; clear hw)
    go_ret
    refine ⟨ret_bool ?_, rfl⟩
    rw [HR.out]
    have : B64 * (h + 1) ≤ B64 * hi := Nat.mul_le_mul_left _ h1
    rw [Nat.mul_add] at this
    rw [decide_eq_true (by omega)]
  · have h1' : decide ((h : Int) < (hi : Int)) = false := decide_eq_false (by omega)
    by_cases h2 : hi = h
    · subst h2
      go_enter Try.func81, Try.ntmps81
      go_wp2_with (go_at_call 79; refine (HM.out _).mono ?_; rintro e w' ⟨rfl, hw⟩; obtain rfl := hw.symm; clear hw)
      go_ret
      refine ⟨ret_bool ?_, rfl⟩
      rw [HR.out]
      refine decide_eq_decide.2 ?_
      omega
    · have h2' : ((hi : Int) == (h : Int)) = false := by simp; omega
      go_enter Try.func81, Try.ntmps81
      go_wp2_with (go_at_call 79; refine (HM.out _).mono ?_; rintro e w' ⟨rfl, hw⟩; obtain rfl := hw.symm; clear hw)
      go_ret
      refine ⟨ret_bool ?_, rfl⟩
      rw [HR.out]
      have : B64 * (hi + 1) ≤ B64 * h := Nat.mul_le_mul_left _ (by omega)
      rw [Nat.mul_add] at this
      rw [decide_eq_false (by omega)]

theorem At.cellAt {w : World} {g off n c : Nat} {xs : List Nat} (h : At w (some ⟨g, off, none⟩) n c xs) (j : Nat) (hj : j < n) : w.cell? ⟨g, off + j, none⟩ = some (U (xs.getD j 0)) := by
  obtain ⟨g', o', he, hcell⟩ := h.cells.resolve_left (by omega)
  simp only [Option.some.injEq, Addr.mk.injEq, and_true] at he
  obtain ⟨rfl, rfl⟩ := he
  exact hcell j hj

/-- The state of trial's loop. -/
structure TrialR (w1 w2 f q d l o : Nat) : Prop where
  qd : q ≤ d
  db : d < B64
  lb : l < B64
  ob : o ≤ 1
  sum : o = 0 → d * f + l = w1 + B64 * w2
theorem TrialR.down {w0 w1 w2 s f q d l o l' o' : Nat} (h : TrialR w1 w2 f q d l o) {ws ds : List Nat} {n : Nat} (c : TrialC ws ds n w0 w1 w2 s f q) (ho : o = 0) (hg : l * B64 + w0 < d * s) (ha : l + f + 0 = l' + B64 * o') (hl' : l' < B64) (ho' : o' ≤ 1) : 1 ≤ d ∧ TrialR w1 w2 f q (d - 1) l' o' := by
  have h1 := trial_step c.top (h.sum ho) hg
  have h2 := h.db
  refine ⟨by omega, by omega, by omega, hl', ho', fun h0 => ?_⟩
  subst h0
  have h3 := h.sum ho
  have h4 : d * f = (d - 1) * f + f := by rw [← Nat.succ_mul, show (d - 1).succ = d by omega]
  omega

theorem wrap_sub (n j : Nat) (h : j ≤ n) (hb : n ≤ 9223372036854775807) : IntKind.i64.wrap ((n : Int) - (j : Int)) = (n : Int) - (j : Int) := by
  simp [IntKind.wrap, IntKind.signed, IntKind.bits]
  omega

/-- A quiet callee, met after A + n draws. -/
theorem quiet_of2 {P : Program} {f : FuncId} {args : Array Value} {w : World} {A n : Nat} {v : Value}
    (h : ∀ W : World, Calls P f args W fun e w' => e = .returned v ∧ ∃ m, w' = W.drewN m) : Calls P f args (w.drewN (A + n)) fun e w'' => e = .returned v ∧ ∃ m, w'' = w.drewN (A + m) :=
  (h _).mono fun _ _ ⟨he, m, hm⟩ => ⟨he, n + m, by rw [hm, drewN_two, Nat.add_assoc]⟩
theorem quiet_of1 {P : Program} {f : FuncId} {args : Array Value} {w : World} {n : Nat} {v : Value}
    (h : ∀ W : World, Calls P f args W fun e w' => e = .returned v ∧ ∃ m, w' = W.drewN m) : Calls P f args (w.drewN n) fun e w'' => e = .returned v ∧ ∃ m, w'' = w.drewN m :=
  (h _).mono fun _ _ ⟨he, m, hm⟩ => ⟨he, n + m, by rw [hm, drewN_two]⟩

set_option maxHeartbeats 2000000 in
theorem trial_any {gw ow cw gd od cd n : Nat} {ws ds : List Nat} {w : World} (hw : At w (some ⟨gw, ow, none⟩) (n + 1) cw ws) (hd : At w (some ⟨gd, od, none⟩) n cd ds) (hn : 2 ≤ n) (hlt : valB B64 ws < B64 * valB B64 ds) :
    Calls Try.prog 77 #[.slice (some ⟨gw, ow, none⟩) (n + 1 : Nat) cw, .slice (some ⟨gd, od, none⟩) n cd] w fun e w' =>
      ∃ d, e = .returned (U d) ∧ d < B64 ∧ valB B64 ws / valB B64 ds ≤ d ∧ ∃ r, w' = w.drewN r := by
  obtain ⟨w0, w1, w2, s, f, hC⟩ := TrialC.mk' hn hw.len hd.len hw.dig hd.dig hlt
  generalize valB B64 ws / valB B64 ds = q at *
  have c2 : w.cell? ⟨gw, ow + n, none⟩ = some (U w2) := by rw [hC.e2]; exact hw.cellAt n (by omega)
  have c1 : w.cell? ⟨gw, ow + (n - 1), none⟩ = some (U w1) := by rw [hC.e1]; exact hw.cellAt (n - 1) (by omega)
  have c0 : w.cell? ⟨gw, ow + (n - 2), none⟩ = some (U w0) := by rw [hC.e0]; exact hw.cellAt (n - 2) (by omega)
  have cf : w.cell? ⟨gd, od + (n - 1), none⟩ = some (U f) := by rw [hC.ef]; exact hd.cellAt (n - 1) (by omega)
  have cs : w.cell? ⟨gd, od + (n - 2), none⟩ = some (U s) := by rw [hC.es]; exact hd.cellAt (n - 2) (by omega)
  have b0 := hC.b0; have b1 := hC.b1; have bs := hC.bs; have bf := hC.bf; have le := hC.le; have qb := hC.qb
  have wcap := hw.cap; have wbig := hw.big; have dcap := hd.cap; have dbig := hd.big
  unfold maxLen at wbig dbig
  have HC : Hid (TrialC ws ds n w0 w1 w2 s f q) := hC
  clear hC hlt hw hd
  obtain ⟨nw, hnw⟩ : ∃ nw, nw = n + 1 := ⟨_, rfl⟩
  rw [← hnw] at wcap ⊢
  have hnl : n < nw := by omega
  have hwr1 : IntKind.i64.wrap ((n : Int) - 1) = (n : Int) - 1 := wrap_sub n 1 (by omega) (by omega)
  have hix1 : 1 ≤ (n : Int) ∧ (n : Int) - 1 < (nw : Int) := by omega
  have hwr2 : IntKind.i64.wrap ((n : Int) - 2) = (n : Int) - 2 := wrap_sub n 2 (by omega) (by omega)
  have hix2 : 2 ≤ (n : Int) ∧ (n : Int) - 2 < (nw : Int) := by omega
  clear hnw
  by_cases h2 : w2 < f
  · have h2' : decide ((w2 : Int) < (f : Int)) = true := decide_eq_true (by omega)
    have HQ : Hid (TrialR w1 w2 f q ((w2 * B64 + w1) / f) ((w2 * B64 + w1) % f) 0) := by
      have hf : 0 < f := by omega
      have t := trial_first b0 HC.out.top
      have e := Nat.div_add_mod (w2 * B64 + w1) f
      rw [Nat.mul_comm f] at e
      refine ⟨(Nat.le_div_iff_mul_le hf).2 (by rw [Nat.mul_comm w2]; omega), ?_, ?_, by omega, fun _ => ?_⟩
      · refine Nat.div_lt_of_lt_mul ?_
        have h3 : B64 * (w2 + 1) ≤ B64 * f := Nat.mul_le_mul_left _ h2
        rw [Nat.mul_add] at h3
        rw [Nat.mul_comm w2, Nat.mul_comm f]; omega
      · exact Nat.lt_trans (Nat.mod_lt _ hf) bf
      · rw [e, Nat.mul_comm w2]; omega
    have hdv : ∀ W : World, Calls Try.prog 66 #[U w2, U w1, U f] W fun e w' => e = .returned (.tuple #[U ((w2 * B64 + w1) / f), U ((w2 * B64 + w1) % f)]) ∧ ∃ r, w' = W.drewN r := fun W => div64_any w2 w1 f W h2 bf b1
    generalize (w2 * B64 + w1) / f = d0 at *
    generalize (w2 * B64 + w1) % f = l0 at *
    have HDV : Hid (∀ W : World, Calls Try.prog 66 #[U w2, U w1, U f] W fun e w' => e = .returned (.tuple #[U d0, U l0]) ∧ ∃ r, w' = W.drewN r) := hdv
    clear hdv
    go_enter Try.func77, Try.ntmps77
    go_wp2_with fail
    go_quiet (fail)
    go_wp2_with fail
    go_quiet (fail)
    go_wp2_with fail
    go_quiet ((go_at_call 66; exact quiet_of2 HDV.out))
    go_wp2_with fail
    go_loopw [8, 9, 10] (fun dv lv ov wr => ∃ (d l o : Nat), dv = U d ∧ lv = U l ∧ ov = U o ∧ TrialR w1 w2 f q d l o ∧ ∃ r, wr = w.drewN r) (fun dv _ _ _ => (intOf dv).toNat)
    case atStart => exact ⟨d0, l0, 0, rfl, rfl, rfl, HQ.out, _, drewN_two _ _ _⟩
    case round =>
      obtain ⟨d, l, o, rfl, rfl, rfl, hT, r, rfl⟩ := hrel
      have hob := hT.ob
      have hdb := hT.db
      have hlb := hT.lb
      obtain ⟨l2, o2, hadd, ea, hl2, ho2⟩ := add64_ex l f 0 hlb bf (by omega)
      have hadd' : ∀ w : World, (callFunc 63 #[U l, U f, .int .u64 0]).run Try.prog w = .ok (.value (.tuple #[U l2, U o2])) w := hadd
      have HT : Hid (TrialR w1 w2 f q d l o) := hT
      clear hT hadd
      by_cases h0 : o = 0
      · subst h0
        by_cases hg : l * B64 + w0 < d * s
        · have hdn := HT.out.down HC.out rfl hg ea hl2 ho2
          have h1d := hdn.1
          have HDN : Hid (TrialR w1 w2 f q (d - 1) l2 o2) := hdn.2
          have HG : Hid (∀ W : World, Calls Try.prog 81 #[U d, U s, U l, U w0] W fun e w' => e = .returned (.bool true) ∧ w' = W) := fun W => by
            have := toogreat_any d s l w0 W hdb bs b0
            rw [decide_eq_true hg] at this; exact this
          clear hdn hg ea
          go_wp2_with (go_at_call 81; refine (HG.out _).mono ?_; rintro e w' ⟨rfl, hw⟩; obtain rfl := hw.symm; clear hw)
          have ew : IntKind.u64.wrap ((d : Int) - 1) = ((d - 1 : Nat) : Int) := wrap_mod _ _ (by rw [B64_eq] at hdb; omega)
          rw [ew]
          exact ⟨⟨d - 1, l2, o2, rfl, rfl, rfl, HDN.out, r, rfl⟩, by simp [intOf]; omega⟩
        · have HG : Hid (∀ W : World, Calls Try.prog 81 #[U d, U s, U l, U w0] W fun e w' => e = .returned (.bool false) ∧ w' = W) := fun W => by
            have := toogreat_any d s l w0 W hdb bs b0
            rw [decide_eq_false hg] at this; exact this
          clear hg ea
          go_wp2_with (go_at_call 81; refine (HG.out _).mono ?_; rintro e w' ⟨rfl, hw⟩; obtain rfl := hw.symm; clear hw)
          go_ret
          exact ⟨d, rfl, hdb, HT.out.qd, r, rfl⟩
      · have h0' : ((o : Int) == 0) = false := by simp; omega
        go_wp2_with fail
        go_ret
        exact ⟨d, rfl, hdb, HT.out.qd, r, rfl⟩
  · have h2' : decide ((w2 : Int) < (f : Int)) = false := decide_eq_false (by omega)
    obtain ⟨l0, o0, hadd0, ea0, hl0, ho0⟩ := add64_ex w1 f 0 b1 bf (by omega)
    have hadd1 : ∀ w : World, (callFunc 63 #[U w1, U f, .int .u64 0]).run Try.prog w = .ok (.value (.tuple #[U l0, U o0])) w := hadd0
    have HQ : Hid (TrialR w1 w2 f q 18446744073709551615 l0 o0) := by
      refine ⟨by rw [B64_eq] at qb; omega, by decide, hl0, ho0, fun h0 => ?_⟩
      subst h0
      rw [B64_eq] at ea0 ⊢
      omega
    clear hadd0 ea0
    go_enter Try.func77, Try.ntmps77
    go_wp2_with fail
    go_quiet (fail)
    go_wp2_with fail
    go_quiet (fail)
    go_wp2_with fail
    go_loopw [8, 9, 10] (fun dv lv ov wr => ∃ (d l o : Nat), dv = U d ∧ lv = U l ∧ ov = U o ∧ TrialR w1 w2 f q d l o ∧ ∃ r, wr = w.drewN r) (fun dv _ _ _ => (intOf dv).toNat)
    case atStart => exact ⟨18446744073709551615, l0, o0, rfl, rfl, rfl, HQ.out, _, rfl⟩
    case round =>
      obtain ⟨d, l, o, rfl, rfl, rfl, hT, r, rfl⟩ := hrel
      have hob := hT.ob
      have hdb := hT.db
      have hlb := hT.lb
      obtain ⟨l2, o2, hadd, ea, hl2, ho2⟩ := add64_ex l f 0 hlb bf (by omega)
      have hadd' : ∀ w : World, (callFunc 63 #[U l, U f, .int .u64 0]).run Try.prog w = .ok (.value (.tuple #[U l2, U o2])) w := hadd
      have HT : Hid (TrialR w1 w2 f q d l o) := hT
      clear hT hadd
      by_cases h0 : o = 0
      · subst h0
        by_cases hg : l * B64 + w0 < d * s
        · have hdn := HT.out.down HC.out rfl hg ea hl2 ho2
          have h1d := hdn.1
          have HDN : Hid (TrialR w1 w2 f q (d - 1) l2 o2) := hdn.2
          have HG : Hid (∀ W : World, Calls Try.prog 81 #[U d, U s, U l, U w0] W fun e w' => e = .returned (.bool true) ∧ w' = W) := fun W => by
            have := toogreat_any d s l w0 W hdb bs b0
            rw [decide_eq_true hg] at this; exact this
          clear hdn hg ea
          go_wp2_with (go_at_call 81; refine (HG.out _).mono ?_; rintro e w' ⟨rfl, hw⟩; obtain rfl := hw.symm; clear hw)
          have ew : IntKind.u64.wrap ((d : Int) - 1) = ((d - 1 : Nat) : Int) := wrap_mod _ _ (by rw [B64_eq] at hdb; omega)
          rw [ew]
          exact ⟨⟨d - 1, l2, o2, rfl, rfl, rfl, HDN.out, r, rfl⟩, by simp [intOf]; omega⟩
        · have HG : Hid (∀ W : World, Calls Try.prog 81 #[U d, U s, U l, U w0] W fun e w' => e = .returned (.bool false) ∧ w' = W) := fun W => by
            have := toogreat_any d s l w0 W hdb bs b0
            rw [decide_eq_false hg] at this; exact this
          clear hg ea
          go_wp2_with (go_at_call 81; refine (HG.out _).mono ?_; rintro e w' ⟨rfl, hw⟩; obtain rfl := hw.symm; clear hw)
          go_ret
          exact ⟨d, rfl, hdb, HT.out.qd, r, rfl⟩
      · have h0' : ((o : Int) == 0) = false := by simp; omega
        go_wp2_with fail
        go_ret
        exact ⟨d, rfl, hdb, HT.out.qd, r, rfl⟩
end Go.Proofs.Ytjkhpkjpiifhoaa
