import Derived.Test.YtjhopiaeppgioaaJ8
import Derived.Test.YtjhopiaeppgioaaJ7
import Derived.Deep.LoopGhost
import Derived.WalkMore
namespace Go.Proofs.Ytjhopiaeppgioaa
open Go.RowKit Go.Shelf
set_option maxRecDepth 20000
set_option maxHeartbeats 0
theorem valB_top {xs : List Nat} {n : Nat} (hl : xs.length = n + 1) : valB B64 xs = valB B64 (xs.take n) + B64 ^ n * xs.getD n 0 := by
  have h := valB_take_succ B64 xs n (by omega)
  rw [List.take_of_length_le (by omega)] at h; exact h
theorem take_len_lt {xs : List Nat} (hd : Dig B64 xs) {n : Nat} (hn : n ≤ xs.length) : valB B64 (xs.take n) < B64 ^ n := by
  have := valB_lt B64_pos (hd.take n)
  rw [List.length_take, Nat.min_eq_left hn] at this; exact this

theorem trial_top {P L M T V W D q : Nat} (hW : W = L + P * T) (hL : L < P) (hD : D = M + P * V) (hq : q * D ≤ W) : q * V ≤ T := by
  have h1 : P * (q * V) ≤ q * D := by rw [hD, Nat.mul_add, Nat.mul_left_comm]; exact Nat.le_add_left _ _
  have h2 : P * (q * V) < P * (T + 1) := by rw [Nat.mul_add, Nat.mul_one]; omega
  have := Nat.lt_of_mul_lt_mul_left h2
  omega
theorem trial_first {q f s w0 w1 w2 : Nat} (hw0 : w0 < B64) (h : q * (s + B64 * f) ≤ w0 + B64 * (w1 + B64 * w2)) : q * f ≤ w1 + B64 * w2 := by
  have h1 : q * (s + B64 * f) = q * s + B64 * (q * f) := by rw [Nat.mul_add, Nat.mul_left_comm]
  have h2 : B64 * (q * f) < B64 * (w1 + B64 * w2 + 1) := by rw [Nat.mul_add B64 _ 1, Nat.mul_one]; omega
  have := Nat.lt_of_mul_lt_mul_left h2
  omega
theorem trial_step {q d l f s w0 w1 w2 : Nat} (h : q * (s + B64 * f) ≤ w0 + B64 * (w1 + B64 * w2)) (hi : d * f + l = w1 + B64 * w2) (hg : l * B64 + w0 < d * s) : q < d := by
  have h1 : d * (s + B64 * f) = d * s + B64 * (d * f) := by rw [Nat.mul_add, Nat.mul_left_comm]
  have h2 : B64 * (d * f) + B64 * l = B64 * (w1 + B64 * w2) := by rw [← Nat.mul_add, hi]
  have h3 : l * B64 = B64 * l := Nat.mul_comm _ _
  have h4 : q * (s + B64 * f) < d * (s + B64 * f) := by omega
  exact Nat.lt_of_mul_lt_mul_right h4
structure TrialC (ws ds : List Nat) (n w0 w1 w2 s f q : Nat) : Prop where
  e0 : w0 = ws.getD (n - 2) 0
  e1 : w1 = ws.getD (n - 1) 0
  e2 : w2 = ws.getD n 0
  es : s = ds.getD (n - 2) 0
  ef : f = ds.getD (n - 1) 0
  b0 : w0 < B64
  b1 : w1 < B64
  b2 : w2 < B64
  bs : s < B64
  bf : f < B64
  top : q * (s + B64 * f) ≤ w0 + B64 * (w1 + B64 * w2)
  le : w2 ≤ f
  qb : q < B64
theorem TrialC.mk' {ws ds : List Nat} {n : Nat} (hn : 2 ≤ n) (lw : ws.length = n + 1) (ld : ds.length = n) (dw : Dig B64 ws) (dd : Dig B64 ds) (hlt : valB B64 ws < B64 * valB B64 ds) :
    ∃ w0 w1 w2 s f, TrialC ws ds n w0 w1 w2 s f (valB B64 ws / valB B64 ds) := by
  obtain ⟨k, rfl⟩ : ∃ k, n = k + 2 := ⟨n - 2, by omega⟩
  have a1 := valB_top lw
  have a2 := valB_take_succ B64 ws (k + 1) (by omega)
  have a3 := valB_take_succ B64 ws k (by omega)
  have c1 := valB_top (xs := ds) (n := k + 1) (by omega)
  have c2 := valB_take_succ B64 ds k (by omega)
  have hL := take_len_lt dw (n := k) (by omega)
  have hM := take_len_lt dd (n := k) (by omega)
  have hP : 0 < B64 ^ k := Nat.pow_pos B64_pos
  have b0 := dw.getD B64_pos k; have b1 := dw.getD B64_pos (k + 1); have b2 := dw.getD B64_pos (k + 2)
  have bs := dd.getD B64_pos k; have bf := dd.getD B64_pos (k + 1)
  have hW : valB B64 ws = valB B64 (ws.take k) + B64 ^ k * (ws.getD k 0 + B64 * (ws.getD (k + 1) 0 + B64 * ws.getD (k + 2) 0)) := by
    rw [a1, a2, a3, show B64 ^ (k + 2) = B64 ^ k * B64 * B64 by rw [Nat.pow_succ, Nat.pow_succ], Nat.pow_succ]; simp only [Nat.mul_add, Nat.mul_assoc, Nat.add_assoc]
  have hD : valB B64 ds = valB B64 (ds.take k) + B64 ^ k * (ds.getD k 0 + B64 * ds.getD (k + 1) 0) := by
    rw [c1, c2, Nat.pow_succ]; simp only [Nat.mul_add, Nat.mul_assoc, Nat.add_assoc]
  refine ⟨_, _, _, _, _, rfl, rfl, rfl, rfl, rfl, b0, b1, b2, bs, bf, trial_top hW hL hD (Nat.div_mul_le_self _ _), ?_, Nat.div_lt_of_lt_mul (by rw [Nat.mul_comm]; exact hlt)⟩
  -- the top limb is at most the divisor's
  rw [hW, hD] at hlt
  show ws.getD (k + 2) 0 ≤ ds.getD (k + 1) 0
  by_cases hle : ws.getD (k + 2) 0 ≤ ds.getD (k + 1) 0
  · exact hle
  · exfalso
    have h1 : B64 * (ds.getD (k + 1) 0 + 1) ≤ B64 * ws.getD (k + 2) 0 := Nat.mul_le_mul_left _ (by omega)
    have h2 : B64 * (B64 * (ds.getD (k + 1) 0 + 1)) ≤ B64 * (B64 * ws.getD (k + 2) 0) := Nat.mul_le_mul_left _ h1
    have h3 : B64 * (ds.getD k 0 + 1 + B64 * ds.getD (k + 1) 0) ≤ B64 * (B64 * (ds.getD (k + 1) 0 + 1)) := Nat.mul_le_mul_left _ (by rw [Nat.mul_add]; omega)
    have h4 : B64 ^ k * (B64 * (ds.getD k 0 + 1 + B64 * ds.getD (k + 1) 0)) ≤ B64 ^ k * (ws.getD k 0 + B64 * (ws.getD (k + 1) 0 + B64 * ws.getD (k + 2) 0)) := Nat.mul_le_mul_left _ (by rw [Nat.mul_add B64 (ws.getD (k + 1) 0)]; omega)
    have h5 : B64 * (valB B64 (ds.take k) + B64 ^ k * (ds.getD k 0 + B64 * ds.getD (k + 1) 0)) ≤ B64 ^ k * (B64 * (ds.getD k 0 + 1 + B64 * ds.getD (k + 1) 0)) := by
      rw [Nat.mul_left_comm (B64 ^ k)]
      refine Nat.mul_le_mul_left _ ?_
      have : B64 ^ k * (ds.getD k 0 + 1 + B64 * ds.getD (k + 1) 0) = B64 ^ k * (ds.getD k 0 + B64 * ds.getD (k + 1) 0) + B64 ^ k := by
        rw [show ds.getD k 0 + 1 + B64 * ds.getD (k + 1) 0 = (ds.getD k 0 + B64 * ds.getD (k + 1) 0) + 1 by omega, Nat.mul_add, Nat.mul_one]
      omega
    omega

theorem toogreat_any (d s h l : Nat) (w : World) (hd : d < B64) (hs : s < B64) (hl : l < B64) :
    Calls Try.prog 50 #[U d, U s, U h, U l] w fun e w' => e = .returned (.bool (decide (h * B64 + l < d * s))) ∧ w' = w := by
  obtain ⟨hi, lo, hmul, em, hlo⟩ := mul64_ex d s hd hs
  obtain ⟨r, hr⟩ : ∃ r, r = decide (h * B64 + l < d * s) := ⟨_, rfl⟩
  rw [← hr]
  rw [em, Nat.mul_comm h B64] at hr
  have HM : Hid (∀ w : World, Calls Try.prog 57 #[U d, U s] w fun e w' => e = .returned (.tuple #[U hi, U lo]) ∧ w' = w) := hmul
  have HR : Hid (r = decide (B64 * h + l < lo + B64 * hi)) := hr
  clear hmul hr em
  by_cases h1 : h < hi
  · have h1' : decide ((h : Int) < (hi : Int)) = true := decide_eq_true (by omega)
    go_enter Try.func50, Try.ntmps50
    go_wp2_with (go_at_call 57; refine (HM.out _).mono ?_; rintro e w' ⟨rfl, hw⟩; obtain rfl := hw.symm; clear hw)
    go_ret
    refine ⟨ret_bool ?_, rfl⟩
    rw [HR.out]
    have : B64 * (h + 1) ≤ B64 * hi := Nat.mul_le_mul_left _ h1
    rw [Nat.mul_add] at this
    rw [decide_eq_true (by omega)]
  · have h1' : decide ((h : Int) < (hi : Int)) = false := decide_eq_false (by omega)
    by_cases h2 : hi = h
    · subst h2
      go_enter Try.func50, Try.ntmps50
      go_wp2_with (go_at_call 57; refine (HM.out _).mono ?_; rintro e w' ⟨rfl, hw⟩; obtain rfl := hw.symm; clear hw)
      go_ret
      refine ⟨ret_bool ?_, rfl⟩
      rw [HR.out]
      refine decide_eq_decide.2 ?_
      omega
    · have h2' : ((hi : Int) == (h : Int)) = false := by simp; omega
      go_enter Try.func50, Try.ntmps50
      go_wp2_with (go_at_call 57; refine (HM.out _).mono ?_; rintro e w' ⟨rfl, hw⟩; obtain rfl := hw.symm; clear hw)
      go_ret
      refine ⟨ret_bool ?_, rfl⟩
      rw [HR.out]
      have : B64 * (hi + 1) ≤ B64 * h := Nat.mul_le_mul_left _ (by omega)
      rw [Nat.mul_add] at this
      rw [decide_eq_false (by omega)]

theorem At.cellAt {w : World} {g off n c : Nat} {xs : List Nat} (h : At w (some ⟨g, off, none⟩) n c xs) (j : Nat) (hj : j < n) : w.cell? ⟨g, off + j, none⟩ = some (U (xs.getD j 0)) := by
  obtain ⟨g', o', he, hcell⟩ := h.cells.resolve_left (by omega)
  simp only [Option.some.injEq, Addr.mk.injEq, and_true] at he
  obtain ⟨rfl, rfl⟩ := he
  exact hcell j hj

structure TrialR (w1 w2 f q d l o : Nat) : Prop where
  qd : q ≤ d
  db : d < B64
  lb : l < B64
  ob : o ≤ 1
  sum : o = 0 → d * f + l = w1 + B64 * w2
theorem TrialR.down {w0 w1 w2 s f q d l o l' o' : Nat} (h : TrialR w1 w2 f q d l o) {ws ds : List Nat} {n : Nat} (c : TrialC ws ds n w0 w1 w2 s f q) (ho : o = 0) (hg : l * B64 + w0 < d * s) (ha : l + f + 0 = l' + B64 * o') (hl' : l' < B64) (ho' : o' ≤ 1) : 1 ≤ d ∧ TrialR w1 w2 f q (d - 1) l' o' := by
  have h1 := trial_step c.top (h.sum ho) hg
  have h2 := h.db
  refine ⟨by omega, by omega, by omega, hl', ho', fun h0 => ?_⟩
  subst h0
  have h3 := h.sum ho
  have h4 : d * f = (d - 1) * f + f := by rw [← Nat.succ_mul, show (d - 1).succ = d by omega]
  omega

theorem wrap_sub (n j : Nat) (h : j ≤ n) (hb : n ≤ 9223372036854775807) : IntKind.i64.wrap ((n : Int) - (j : Int)) = (n : Int) - (j : Int) := by
  simp [IntKind.wrap, IntKind.signed, IntKind.bits]
  omega

theorem quiet_of2 {P : Program} {f : FuncId} {args : Array Value} {w : World} {A n : Nat} {v : Value}
    (h : ∀ W : World, Calls P f args W fun e w' => e = .returned v ∧ ∃ m, w' = W.drewN m) : Calls P f args (w.drewN (A + n)) fun e w'' => e = .returned v ∧ ∃ m, w'' = w.drewN (A + m) :=
  (h _).mono fun _ _ ⟨he, m, hm⟩ => ⟨he, n + m, by rw [hm, drewN_two, Nat.add_assoc]⟩
theorem trial_any {gw ow cw gd od cd n : Nat} {ws ds : List Nat} {w : World} (hw : At w (some ⟨gw, ow, none⟩) (n + 1) cw ws) (hd : At w (some ⟨gd, od, none⟩) n cd ds) (hn : 2 ≤ n) (hlt : valB B64 ws < B64 * valB B64 ds) :
    Calls Try.prog 42 #[.slice (some ⟨gw, ow, none⟩) (n + 1 : Nat) cw, .slice (some ⟨gd, od, none⟩) n cd] w fun e w' =>
      ∃ d, e = .returned (U d) ∧ d < B64 ∧ valB B64 ws / valB B64 ds ≤ d ∧ ∃ r, w' = w.drewN r := by
  obtain ⟨w0, w1, w2, s, f, hC⟩ := TrialC.mk' hn hw.len hd.len hw.dig hd.dig hlt
  generalize valB B64 ws / valB B64 ds = q at *
  have c2 : w.cell? ⟨gw, ow + n, none⟩ = some (U w2) := by rw [hC.e2]; exact hw.cellAt n (by omega)
  have c1 : w.cell? ⟨gw, ow + (n - 1), none⟩ = some (U w1) := by rw [hC.e1]; exact hw.cellAt (n - 1) (by omega)
  have c0 : w.cell? ⟨gw, ow + (n - 2), none⟩ = some (U w0) := by rw [hC.e0]; exact hw.cellAt (n - 2) (by omega)
  have cf : w.cell? ⟨gd, od + (n - 1), none⟩ = some (U f) := by rw [hC.ef]; exact hd.cellAt (n - 1) (by omega)
  have cs : w.cell? ⟨gd, od + (n - 2), none⟩ = some (U s) := by rw [hC.es]; exact hd.cellAt (n - 2) (by omega)
  have b0 := hC.b0; have b1 := hC.b1; have bs := hC.bs; have bf := hC.bf; have le := hC.le; have qb := hC.qb
  have wcap := hw.cap; have wbig := hw.big; have dcap := hd.cap; have dbig := hd.big
  unfold maxLen at wbig dbig
  have HC : Hid (TrialC ws ds n w0 w1 w2 s f q) := hC
  clear hC hlt hw hd
  obtain ⟨nw, hnw⟩ : ∃ nw, nw = n + 1 := ⟨_, rfl⟩
  rw [← hnw] at wcap ⊢
  have hnl : n < nw := by omega
  have hwr1 : IntKind.i64.wrap ((n : Int) - 1) = (n : Int) - 1 := wrap_sub n 1 (by omega) (by omega)
  have hix1 : 1 ≤ (n : Int) ∧ (n : Int) - 1 < (nw : Int) := by omega
  have hwr2 : IntKind.i64.wrap ((n : Int) - 2) = (n : Int) - 2 := wrap_sub n 2 (by omega) (by omega)
  have hix2 : 2 ≤ (n : Int) ∧ (n : Int) - 2 < (nw : Int) := by omega
  clear hnw
  by_cases h2 : w2 < f
  · have h2' : decide ((w2 : Int) < (f : Int)) = true := decide_eq_true (by omega)
    have HQ : Hid (TrialR w1 w2 f q ((w2 * B64 + w1) / f) ((w2 * B64 + w1) % f) 0) := by
      have hf : 0 < f := by omega
      have t := trial_first b0 HC.out.top
      have e := Nat.div_add_mod (w2 * B64 + w1) f
      rw [Nat.mul_comm f] at e
      refine ⟨(Nat.le_div_iff_mul_le hf).2 (by rw [Nat.mul_comm w2]; omega), ?_, ?_, by omega, fun _ => ?_⟩
      · refine Nat.div_lt_of_lt_mul ?_
        have h3 : B64 * (w2 + 1) ≤ B64 * f := Nat.mul_le_mul_left _ h2
        rw [Nat.mul_add] at h3
        rw [Nat.mul_comm w2, Nat.mul_comm f]; omega
      · exact Nat.lt_trans (Nat.mod_lt _ hf) bf
      · rw [e, Nat.mul_comm w2]; omega
    have hdv : ∀ W : World, Calls Try.prog 26 #[U w2, U w1, U f] W fun e w' => e = .returned (.tuple #[U ((w2 * B64 + w1) / f), U ((w2 * B64 + w1) % f)]) ∧ ∃ r, w' = W.drewN r := fun W => div64_any w2 w1 f W h2 bf b1
    generalize (w2 * B64 + w1) / f = d0 at *
    generalize (w2 * B64 + w1) % f = l0 at *
    have HDV : Hid (∀ W : World, Calls Try.prog 26 #[U w2, U w1, U f] W fun e w' => e = .returned (.tuple #[U d0, U l0]) ∧ ∃ r, w' = W.drewN r) := hdv
    clear hdv
    go_enter Try.func42, Try.ntmps42
    go_wp2_with fail
    go_quiet (fail)
    go_wp2_with fail
    go_quiet (fail)
    go_wp2_with fail
    go_quiet ((go_at_call 26; exact quiet_of2 HDV.out))
    go_wp2_with fail
    go_loopw [8, 9, 10] (fun dv lv ov wr => ∃ (d l o : Nat), dv = U d ∧ lv = U l ∧ ov = U o ∧ TrialR w1 w2 f q d l o ∧ ∃ r, wr = w.drewN r) (fun dv _ _ _ => (intOf dv).toNat)
    case atStart => exact ⟨d0, l0, 0, rfl, rfl, rfl, HQ.out, _, drewN_two _ _ _⟩
    case round =>
      obtain ⟨d, l, o, rfl, rfl, rfl, hT, r, rfl⟩ := hrel
      have hob := hT.ob
      have hdb := hT.db
      have hlb := hT.lb
      obtain ⟨l2, o2, hadd, ea, hl2, ho2⟩ := add64_ex l f 0 hlb bf (by omega)
      have hadd' : ∀ w : World, (callFunc 49 #[U l, U f, .int .u64 0]).run Try.prog w = .ok (.value (.tuple #[U l2, U o2])) w := hadd
      have HT : Hid (TrialR w1 w2 f q d l o) := hT
      clear hT hadd
      by_cases h0 : o = 0
      · subst h0
        by_cases hg : l * B64 + w0 < d * s
        · have hdn := HT.out.down HC.out rfl hg ea hl2 ho2
          have h1d := hdn.1
          have HDN : Hid (TrialR w1 w2 f q (d - 1) l2 o2) := hdn.2
          have HG : Hid (∀ W : World, Calls Try.prog 50 #[U d, U s, U l, U w0] W fun e w' => e = .returned (.bool true) ∧ w' = W) := fun W => by
            have := toogreat_any d s l w0 W hdb bs b0
            rw [decide_eq_true hg] at this; exact this
          clear hdn hg ea
          go_wp2_with (go_at_call 50; refine (HG.out _).mono ?_; rintro e w' ⟨rfl, hw⟩; obtain rfl := hw.symm; clear hw)
          have ew : IntKind.u64.wrap ((d : Int) - 1) = ((d - 1 : Nat) : Int) := wrap_mod _ _ (by rw [B64_eq] at hdb; omega)
          rw [ew]
          exact ⟨⟨d - 1, l2, o2, rfl, rfl, rfl, HDN.out, r, rfl⟩, by simp [intOf]; omega⟩
        · have HG : Hid (∀ W : World, Calls Try.prog 50 #[U d, U s, U l, U w0] W fun e w' => e = .returned (.bool false) ∧ w' = W) := fun W => by
            have := toogreat_any d s l w0 W hdb bs b0
            rw [decide_eq_false hg] at this; exact this
          clear hg ea
          go_wp2_with (go_at_call 50; refine (HG.out _).mono ?_; rintro e w' ⟨rfl, hw⟩; obtain rfl := hw.symm; clear hw)
          go_ret
          exact ⟨d, rfl, hdb, HT.out.qd, r, rfl⟩
      · have h0' : ((o : Int) == 0) = false := by simp; omega
        go_wp2_with fail
        go_ret
        exact ⟨d, rfl, hdb, HT.out.qd, r, rfl⟩
  · have h2' : decide ((w2 : Int) < (f : Int)) = false := decide_eq_false (by omega)
    obtain ⟨l0, o0, hadd0, ea0, hl0, ho0⟩ := add64_ex w1 f 0 b1 bf (by omega)
    have hadd1 : ∀ w : World, (callFunc 49 #[U w1, U f, .int .u64 0]).run Try.prog w = .ok (.value (.tuple #[U l0, U o0])) w := hadd0
    have HQ : Hid (TrialR w1 w2 f q 18446744073709551615 l0 o0) := by
      refine ⟨by rw [B64_eq] at qb; omega, by decide, hl0, ho0, fun h0 => ?_⟩
      subst h0
      rw [B64_eq] at ea0 ⊢
      omega
    clear hadd0 ea0
    go_enter Try.func42, Try.ntmps42
    go_wp2_with fail
    go_quiet (fail)
    go_wp2_with fail
    go_quiet (fail)
    go_wp2_with fail
    go_loopw [8, 9, 10] (fun dv lv ov wr => ∃ (d l o : Nat), dv = U d ∧ lv = U l ∧ ov = U o ∧ TrialR w1 w2 f q d l o ∧ ∃ r, wr = w.drewN r) (fun dv _ _ _ => (intOf dv).toNat)
    case atStart => exact ⟨18446744073709551615, l0, o0, rfl, rfl, rfl, HQ.out, _, rfl⟩
    case round =>
      obtain ⟨d, l, o, rfl, rfl, rfl, hT, r, rfl⟩ := hrel
      have hob := hT.ob
      have hdb := hT.db
      have hlb := hT.lb
      obtain ⟨l2, o2, hadd, ea, hl2, ho2⟩ := add64_ex l f 0 hlb bf (by omega)
      have hadd' : ∀ w : World, (callFunc 49 #[U l, U f, .int .u64 0]).run Try.prog w = .ok (.value (.tuple #[U l2, U o2])) w := hadd
      have HT : Hid (TrialR w1 w2 f q d l o) := hT
      clear hT hadd
      by_cases h0 : o = 0
      · subst h0
        by_cases hg : l * B64 + w0 < d * s
        · have hdn := HT.out.down HC.out rfl hg ea hl2 ho2
          have h1d := hdn.1
          have HDN : Hid (TrialR w1 w2 f q (d - 1) l2 o2) := hdn.2
          have HG : Hid (∀ W : World, Calls Try.prog 50 #[U d, U s, U l, U w0] W fun e w' => e = .returned (.bool true) ∧ w' = W) := fun W => by
            have := toogreat_any d s l w0 W hdb bs b0
            rw [decide_eq_true hg] at this; exact this
          clear hdn hg ea
          go_wp2_with (go_at_call 50; refine (HG.out _).mono ?_; rintro e w' ⟨rfl, hw⟩; obtain rfl := hw.symm; clear hw)
          have ew : IntKind.u64.wrap ((d : Int) - 1) = ((d - 1 : Nat) : Int) := wrap_mod _ _ (by rw [B64_eq] at hdb; omega)
          rw [ew]
          exact ⟨⟨d - 1, l2, o2, rfl, rfl, rfl, HDN.out, r, rfl⟩, by simp [intOf]; omega⟩
        · have HG : Hid (∀ W : World, Calls Try.prog 50 #[U d, U s, U l, U w0] W fun e w' => e = .returned (.bool false) ∧ w' = W) := fun W => by
            have := toogreat_any d s l w0 W hdb bs b0
            rw [decide_eq_false hg] at this; exact this
          clear hg ea
          go_wp2_with (go_at_call 50; refine (HG.out _).mono ?_; rintro e w' ⟨rfl, hw⟩; obtain rfl := hw.symm; clear hw)
          go_ret
          exact ⟨d, rfl, hdb, HT.out.qd, r, rfl⟩
      · have h0' : ((o : Int) == 0) = false := by simp; omega
        go_wp2_with fail
        go_ret
        exact ⟨d, rfl, hdb, HT.out.qd, r, rfl⟩
end Go.Proofs.Ytjhopiaeppgioaa
namespace Go.Proofs.Ytjhopiaeppgioaa
open Go.RowKit
set_option maxRecDepth 20000
set_option maxHeartbeats 0
theorem val_lt_len32 {xs ys : List Nat} (hx : Dig B32 xs) (ty : Top ys) (h : xs.length < ys.length) : valB B32 xs < valB B32 ys := by
  have h1 := valB_lt B32_pos hx
  have h2 := valB_pos B32_pos (show ys ≠ [] by intro e; subst e; simp at h) ty
  have h3 : B32 ^ xs.length ≤ B32 ^ (ys.length - 1) := Nat.pow_le_pow_right B32_pos (by omega)
  omega
theorem val_lt_top32 {xs ys : List Nat} (hx : Dig B32 xs) {n t x y : Nat} (lx : xs.length = n) (ly : ys.length = n) (ht : t < n) (hd : xs.drop (t + 1) = ys.drop (t + 1)) (ex : x = xs.getD t 0) (ey : y = ys.getD t 0) (h : x < y) : valB B32 xs < valB B32 ys := by
  have h1 := valB_lt B32_pos (hx.take t)
  rw [List.length_take, lx, Nat.min_eq_left (by omega)] at h1
  rw [valB_split B32 xs t (by omega), valB_split B32 ys t (by omega), valB_drop _ xs t (by omega), valB_drop _ ys t (by omega), hd, ← ex, ← ey]
  have h2 : B32 ^ t * (x + 1) ≤ B32 ^ t * y := Nat.mul_le_mul_left _ h
  rw [Nat.mul_add] at h2
  rw [Nat.mul_add, Nat.mul_add]
  omega

theorem docform_any {p : Option Addr} {n c : Nat} {xs : List Nat} {w : World} (h : At w p n c xs) :
    Calls Try.prog 5 #[.slice p n c] w fun e w' => e = .returned (.bool (formB xs)) ∧ w' = w := by
  have hl := h.len; have hcap := h.cap; have hbig := h.big
  unfold maxLen at hbig
  by_cases h1 : n ≤ 8192
  · by_cases h0 : n = 0
    · subst h0
      have hf : formB xs = true := by unfold formB; rw [decide_eq_true_iff]; omega
      have HF : Hid (formB xs = true) := hf
      clear hf hl
      go_enter Try.func5, Try.ntmps5
      go_wp2
      go_ret
      exact ⟨ret_bool HF.out.symm, rfl⟩
    · obtain ⟨g, off, rfl, hc⟩ := h.cells.resolve_left h0
      obtain ⟨x, hx⟩ : ∃ x, x = xs.getD (n - 1) 0 := ⟨_, rfl⟩
      have hcx : w.cell? ⟨g, off + (n - 1), none⟩ = some (U x) := by rw [hx]; exact hc _ (by omega)
      have h0' : ((n : Int) == 0) = false := by simp; omega
      have hf : formB xs = ((x : Int) != 0) := by
        unfold formB
        rw [hl, ← hx]
        by_cases e : x = 0
        · simp [e, h0]
        · simp [e, h1]
      have HF : Hid (formB xs = ((x : Int) != 0)) := hf
      clear hf hl hx hc
      go_enter Try.func5, Try.ntmps5
      go_wp2
      go_ret
      exact ⟨ret_bool HF.out.symm, rfl⟩
  · have hf : formB xs = false := by unfold formB; rw [decide_eq_false_iff_not]; omega
    have HF : Hid (formB xs = false) := hf
    clear hf hl
    go_enter Try.func5, Try.ntmps5
    go_wp2
    go_ret
    exact ⟨ret_bool HF.out.symm, rfl⟩

theorem rcmp_any {p q : Option Addr} {n m c d : Nat} {xs ys : List Nat} {a b : Nat} {w : World} (h : At32 w p n c xs) (k : At32 w q m d ys) (hx : Nf B32 xs a) (hy : Nf B32 ys b) :
    Calls Try.prog 14 #[.slice p n c, .slice q m d] w fun e w' => e = .returned (.int .i64 (cmpN a b)) ∧ ∃ r, w' = w.drewN r := by
  obtain ⟨res, hres⟩ : ∃ res, res = cmpN a b := ⟨_, rfl⟩
  rw [← hres]
  have HRES : Hid (res = cmpN a b) := hres
  have HX : Hid (Nf B32 xs a) := hx
  have HY : Hid (Nf B32 ys b) := hy
  have HLX : Hid (xs.length = n) := h.len
  have HLY : Hid (ys.length = m) := k.len
  have cap := h.cap; have big := h.big; have kcap := k.cap; have kbig := k.big
  unfold maxLen at big kbig
  clear hres hx hy
  by_cases hnm : n = m
  · subst hnm
    go_enter Try.func14, Try.ntmps14
    go_wp2_with fail
    go_loopg [5] n (fun gk iv wr => iv = .int .i64 ((gk : Int) - 1) ∧ gk ≤ n ∧ Hid (xs.drop gk = ys.drop gk) ∧ ∃ r, wr = w.drewN r)
    case atStart => exact ⟨rfl, Nat.le_refl _, by show _ = _; rw [List.drop_of_length_le (by rw [HLX.out]; omega), List.drop_of_length_le (by rw [HLY.out]; omega)], 0, by first | rfl | simp⟩
    case round =>
      obtain ⟨rfl, hgn, HD, r, rfl⟩ := hrel
      by_cases hg0 : gk = 0
      · have hr : res = 0 := HRES.out.trans (cmpN_eq (by have h0 := HD.out; rw [hg0, List.drop_zero, List.drop_zero] at h0; rw [← HX.out.val, ← HY.out.val, h0]))
        have HR : Hid (res = 0) := hr
        have hdec : decide ((0 : Int) ≤ (gk : Int) - 1) = false := decide_eq_false (by omega)
        have hdec' : ¬ 1 ≤ gk := by omega
        clear hr
        go_wp2_with fail
        go_ret
        exact ⟨ret_int HR.out.symm, r, rfl⟩
      · obtain ⟨g, off, rfl, hc⟩ := h.cells.resolve_left (by omega)
        obtain ⟨g2, off2, rfl, hc2⟩ := k.cells.resolve_left (by omega)
        obtain ⟨x, hx⟩ : ∃ x, x = xs.getD (gk - 1) 0 := ⟨_, rfl⟩
        obtain ⟨y, hy⟩ : ∃ y, y = ys.getD (gk - 1) 0 := ⟨_, rfl⟩
        have cx : w.cell? ⟨g, off + (gk - 1), none⟩ = some (V x) := by rw [hx]; exact hc _ (by omega)
        have cy : w.cell? ⟨g2, off2 + (gk - 1), none⟩ = some (V y) := by rw [hy]; exact hc2 _ (by omega)
        have hdec : decide ((0 : Int) ≤ (gk : Int) - 1) = true := decide_eq_true (by omega)
        have hdec' : 1 ≤ gk := by omega
        have hix : 1 ≤ (gk : Int) ∧ (gk : Int) - 1 < (n : Int) := by omega
        have HXE : Hid (x = xs.getD (gk - 1) 0) := hx
        have HYE : Hid (y = ys.getD (gk - 1) 0) := hy
        have HD1 : Hid (xs.drop (gk - 1 + 1) = ys.drop (gk - 1 + 1)) := by rw [show gk - 1 + 1 = gk by omega]; exact HD.out
        clear hc hc2 hx hy
        rcases Nat.lt_trichotomy x y with hlt | heq | hgt
        · have hr : res = -1 := HRES.out.trans (cmpN_lt (by have := val_lt_top32 HX.out.dig HLX.out HLY.out (t := gk - 1) (by omega) HD1.out HXE.out HYE.out hlt; rw [HX.out.val, HY.out.val] at this; exact this))
          have HR : Hid (res = -1) := hr
          have hl' : (x : Int) < (y : Int) := by omega
          clear hr
          go_wp2_with fail
          go_quiet (fail)
          go_wp2_with fail
          go_ret
          exact ⟨ret_int HR.out.symm, _, by first | rfl | (rw [drewN_two])⟩
        · subst heq
          have hl' : ¬ (x : Int) < (x : Int) := by omega
          go_wp2_with fail
          go_quiet (fail)
          go_wp2_with fail
          go_quiet (fail)
          go_wp2_with fail
          go_roundg (gk - 1)
          case measure => omega
          case rel =>
            refine ⟨by go_num, by omega, ?_, _, by first | rfl | (rw [drewN_two, drewN_two]) | (rw [drewN_two])⟩
            exact drop_step HLX.out HLY.out (by omega) HD1.out (by rw [← HXE.out, ← HYE.out])
        · have hr : res = 1 := HRES.out.trans (cmpN_gt (by have := val_lt_top32 HY.out.dig HLY.out HLX.out (t := gk - 1) (by omega) HD1.out.symm HYE.out HXE.out hgt; rw [HX.out.val, HY.out.val] at this; exact this))
          have HR : Hid (res = 1) := hr
          have hl' : ¬ (x : Int) < (y : Int) := by omega
          have hl2 : (y : Int) < (x : Int) := by omega
          clear hr
          go_wp2_with fail
          go_quiet (fail)
          go_wp2_with fail
          go_quiet (fail)
          go_wp2_with fail
          go_ret
          exact ⟨ret_int HR.out.symm, _, by first | rfl | (rw [drewN_two, drewN_two]) | (rw [drewN_two])⟩
  · have hnm' : ((n : Int) != (m : Int)) = true := by simp; omega
    by_cases hlt : n < m
    · have hr : res = -1 := HRES.out.trans (cmpN_lt (by have := val_lt_len32 HX.out.dig HY.out.top (by rw [HLX.out, HLY.out]; exact hlt); rw [HX.out.val, HY.out.val] at this; exact this))
      have HR : Hid (res = -1) := hr
      have hlt' : (n : Int) < (m : Int) := by omega
      clear hr
      go_enter Try.func14, Try.ntmps14
      go_wp2_with fail
      go_ret
      exact ⟨ret_int HR.out.symm, 0, by first | rfl | simp⟩
    · have hr : res = 1 := HRES.out.trans (cmpN_gt (by have := val_lt_len32 HY.out.dig HX.out.top (by rw [HLX.out, HLY.out]; omega); rw [HX.out.val, HY.out.val] at this; exact this))
      have HR : Hid (res = 1) := hr
      have hlt' : ¬ (n : Int) < (m : Int) := by omega
      clear hr
      go_enter Try.func14, Try.ntmps14
      go_wp2_with fail
      go_ret
      exact ⟨ret_int HR.out.symm, 0, by first | rfl | simp⟩
end Go.Proofs.Ytjhopiaeppgioaa
namespace Go.Proofs.Ytjhopiaeppgioaa
open Go.RowKit Go.Shelf
set_option maxRecDepth 20000
set_option maxHeartbeats 0
theorem takemul_sum {n : Nat} {P W L D v top cy zs' t b : Nat} (hW : W = L + P * top) (h1 : L + P * cy = zs' + D * v) (h2 : top + B64 * b = t + cy + 0) (hP : P = B64 ^ n) : zs' + P * t + D * v = W + B64 ^ (n + 1) * b := by
  have e1 : P * (top + B64 * b) = P * (t + cy) := by rw [h2, Nat.add_zero]
  rw [Nat.mul_add, Nat.mul_add, ← Nat.mul_assoc] at e1
  rw [Nat.pow_succ, ← hP]
  omega
theorem set_snoc (zs : List Nat) (x y n : Nat) (hl : zs.length = n) : (zs ++ [x]).set n y = zs ++ [y] := by
  subst hl
  rw [List.set_append_right _ _ (Nat.le_refl _), Nat.sub_self]; rfl
theorem cut_top (g off n : Nat) (w : World) :
    Calls Try.prog 31 #[.slice (some ⟨g, off, none⟩) (n + 1 : Nat) (n + 1 : Nat), .int .i64 n] w fun e w' =>
      e = .returned (.tuple #[.slice (some ⟨g, off, none⟩) n n, .slice (some ⟨g, off + n, none⟩) 1 1]) ∧ ∃ r, w' = w.drewN r := by
  refine (cut_row g off (n + 1) (n + 1) n w (Nat.le_refl _) (by omega)).mono ?_
  rintro e w' ⟨rfl, hr⟩
  rw [cutOff_lt (by omega), show n + 1 - n = 1 by omega]
  exact ⟨rfl, hr⟩

theorem takemul_any {g off n cd v : Nat} {gd od : Nat} {ws ds : List Nat} {w : World} (hw : Row w g off (n + 1) ws) (hd : At w (some ⟨gd, od, none⟩) n cd ds) (hn : 2 ≤ n) (hn2 : n ≤ 8192) (hv : v < B64) (hne : gd ≠ g) :
    Calls Try.prog 43 #[.slice (some ⟨g, off, none⟩) (n + 1 : Nat) (n + 1 : Nat), .slice (some ⟨gd, od, none⟩) n cd, U v] w fun e w' =>
      ∃ b ws', e = .returned (.bool (decide (b = 1))) ∧ b ≤ 1 ∧ Wr g off (n + 1) w w' ∧ Row w' g off (n + 1) ws' ∧ valB B64 ws' + valB B64 ds * v = valB B64 ws + B64 ^ (n + 1) * b := by
  have hl := hw.len
  have hr0 := hw.take n (by omega)
  have hW := valB_top hl
  obtain ⟨top, htop⟩ : ∃ top, top = ws.getD n 0 := ⟨_, rfl⟩
  have htb : top < B64 := by rw [htop]; exact hw.dig.getD B64_pos n
  have hct : w.cell? ⟨g, off + n, none⟩ = some (U top) := by rw [htop]; exact hw.cell n (by omega)
  have hft : w.frozen? ⟨g, off + n, none⟩ = false := hw.frozen n (by omega)
  rw [← htop] at hW
  have HW : Hid (valB B64 ws = valB B64 (ws.take n) + B64 ^ n * top) := hW
  clear hW htop hl
  go_enter Try.func43, Try.ntmps43
  go_wp2_with fail
  refine (cut_top g off n w).mono ?_
  rintro e w1 ⟨rfl, r1, hw1⟩
  have hr1 : Row w1 g off n (ws.take n) := by rw [hw1]; exact hr0.drewN r1
  have hd1 : At w1 (some ⟨gd, od, none⟩) n cd ds := by rw [hw1]; exact hd.drewN r1
  have hct1 : w1.cell? ⟨g, off + n, none⟩ = some (U top) := by rw [hw1]; exact hct
  have hft1 : w1.frozen? ⟨g, off + n, none⟩ = false := by rw [hw1]; exact hft
  have hwr1 : Wr g off (n + 1) w w1 := by rw [hw1]; exact (Wr.refl _ _ _ _).drewN r1
  clear hw1 hct hft hr0 hw hd
  go_wp2_with fail
  refine (smul_any g off n n _ (some ⟨gd, od, none⟩) n cd ds v w1 hr1 (Nat.le_refl _) (Nat.le_refl _) (by omega) hd1 hv (fun g2 off2 _ he => by simp only [Option.some.injEq, Addr.mk.injEq, and_true] at he; exact .inl (by omega))).mono ?_
  rintro e w2 ⟨cy, zs', rfl, hcy, hwr2, hrow2, hsum⟩
  have HS : Hid (valB B64 (ws.take n) + B64 ^ n * cy = valB B64 zs' + valB B64 ds * v) := hsum
  have hct2 : w2.cell? ⟨g, off + n, none⟩ = some (U top) := by rw [hwr2.cell g (off + n) (by omega)]; exact hct1
  have hft2 : w2.frozen? ⟨g, off + n, none⟩ = false := by rw [hwr2.frozen]; exact hft1
  have hwr : Wr g off (n + 1) w w2 := hwr1.trans (hwr2.mono (Nat.le_refl _) (by omega))
  have hrow := hrow2.snoc hct2 hft2 htb
  have hzl := hrow2.len
  have HZ : Hid (zs'.length = n) := hzl
  obtain ⟨t, b, hsub0, hb, htb', hb1⟩ := sub64_ex top cy 0 htb hcy (by omega)
  have hsub : ∀ w : World, (callFunc 52 #[U top, U cy, .int .u64 0]).run Try.prog w = .ok (.value (.tuple #[U t, U b])) w := hsub0
  have HB : Hid (top + B64 * b = t + cy + 0) := hb
  clear hsum hr1 hd1 hct1 hft1 hwr1 hwr2 hrow2 hsub0 hb hzl
  go_wp2_with fail
  go_ret
  have hset := hrow.set n t (by omega) htb'
  rw [set_snoc _ _ _ _ HZ.out] at hset
  refine ⟨b, zs' ++ [t], ret_bool ?_, hb1, hwr.setCell (off + n) ⟨by omega, by omega⟩ _, hset, ?_⟩
  · rcases Nat.eq_zero_or_pos b with h | h
    · subst h; rfl
    · obtain rfl : b = 1 := by omega
      rfl
  · rw [valB_snoc, HZ.out]
    exact takemul_sum HW.out HS.out HB.out rfl
structure WinRel (w : World) (g off n : Nat) (W D d b : Nat) (ws : List Nat) (wr : World) : Prop where
  wrs : Wr g off (n + 1) w wr
  row : Row wr g off (n + 1) ws
  db : d < B64
  bb : b ≤ 1
  ge : W / D ≤ d
  sum : valB B64 ws + D * d = W + B64 ^ (n + 1) * b
theorem WinRel.done {w : World} {g off n W D d : Nat} {ws : List Nat} {wr : World} (h : WinRel w g off n W D d 0 ws wr) (hD : 0 < D) : d = W / D ∧ valB B64 ws = W % D := by
  have h1 := h.sum; have h2 := h.ge
  rw [Nat.mul_zero, Nat.add_zero] at h1
  have h3 : d ≤ W / D := (Nat.le_div_iff_mul_le hD).2 (by rw [Nat.mul_comm]; omega)
  have h4 : d = W / D := by omega
  refine ⟨h4, ?_⟩
  have h5 := Nat.div_add_mod W D
  rw [← h4] at h5
  omega
theorem WinRel.more {w : World} {g off n W D d : Nat} {ws : List Nat} {wr wr' : World} (h : WinRel w g off n W D d 1 ws wr) {cy : Nat} {ws' : List Nat} (hcy : cy ≤ 1) (hwr : Wr g off (n + 1) wr wr') (hrow : Row wr' g off (n + 1) ws') (hs : valB B64 ws' + B64 ^ (n + 1) * cy = valB B64 ws + D) :
    1 ≤ d ∧ W / D ≤ d - 1 ∧ WinRel w g off n W D (d - 1) (1 - cy) ws' wr' := by
  have h1 := h.sum; have h2 := h.ge; have h3 := h.db
  have hl := valB_lt B64_pos h.row.dig
  rw [h.row.len] at hl
  rw [Nat.mul_one] at h1
  have hgt : W < D * d := by omega
  have hd : 1 ≤ d := by
    rcases Nat.eq_zero_or_pos d with e | e
    · subst e; simp at hgt
    · exact e
  have hlt : W / D < d := Nat.div_lt_of_lt_mul hgt
  have e4 : D * d = D * (d - 1) + D := by rw [← Nat.mul_succ, show (d - 1).succ = d by omega]
  refine ⟨hd, by omega, h.wrs.trans hwr, hrow, by omega, by omega, by omega, ?_⟩
  rcases Nat.eq_zero_or_pos cy with e | e
  · subst e; rw [Nat.mul_zero, Nat.add_zero] at hs; rw [Nat.sub_zero, Nat.mul_one]; omega
  · obtain rfl : cy = 1 := by omega
    rw [Nat.mul_one] at hs; rw [Nat.sub_self, Nat.mul_zero]; omega

structure DigRel (w : World) (gq gr L n : Nat) (A D : Nat) (k : Nat) (qs rs : List Nat) (wr : World) : Prop where
  bel : ∀ B, B ≤ gq → B ≤ gr → Below B w wr
  rowq : Row wr gq 0 L qs
  rowr : Row wr gr 0 (L + n) rs
  cell : ∀ b o, b ≠ gq → b ≠ gr → wr.cell? ⟨b, o, none⟩ = w.cell? ⟨b, o, none⟩
  lt : valB B64 (rs.drop (L - k)) < D
  sum : valB B64 rs + B64 ^ (L - k) * valB B64 (qs.drop (L - k)) * D = A

theorem win_take (rs : List Nat) (a m : Nat) (h : a + m ≤ rs.length) : valB B64 rs = valB B64 (rs.take a) + B64 ^ a * (valB B64 ((rs.drop a).take m) + B64 ^ m * valB B64 (rs.drop (a + m))) := by
  rw [valB_split B64 rs a (by omega), valB_split B64 (rs.drop a) m (by rw [List.length_drop]; omega), List.drop_drop]
def winPut (rs ws : List Nat) (a : Nat) : List Nat := rs.take a ++ ws ++ rs.drop (a + ws.length)
theorem winPut_len (rs ws : List Nat) (a : Nat) (h : a + ws.length ≤ rs.length) : (winPut rs ws a).length = rs.length := by
  unfold winPut; simp; omega
theorem winPut_drop (rs ws : List Nat) (a : Nat) (h : a + ws.length ≤ rs.length) : (winPut rs ws a).drop a = ws ++ rs.drop (a + ws.length) := by
  unfold winPut
  rw [List.append_assoc, List.drop_append_of_le_length (by simp; omega), List.drop_of_length_le (by simp; omega), List.nil_append]
theorem winPut_take (rs ws : List Nat) (a : Nat) (h : a + ws.length ≤ rs.length) : (winPut rs ws a).take a = rs.take a := by
  unfold winPut
  rw [List.append_assoc, List.take_append_of_le_length (by simp; omega), List.take_take, Nat.min_self]
theorem winPut_get (rs ws : List Nat) (a j : Nat) (h : a + ws.length ≤ rs.length) : (winPut rs ws a).getD j 0 = if a ≤ j ∧ j < a + ws.length then ws.getD (j - a) 0 else rs.getD j 0 := by
  unfold winPut
  rw [List.getD_eq_getElem?_getD, List.getElem?_append, List.getElem?_append]
  simp only [List.length_append, List.length_take, Nat.min_eq_left (by omega : a ≤ rs.length)]
  by_cases h1 : j < a
  · rw [if_pos (by omega), if_pos (by omega), List.getElem?_take, if_pos h1, if_neg (by omega), List.getD_eq_getElem?_getD]
  · by_cases h2 : j < a + ws.length
    · rw [if_pos h2, if_neg h1, if_pos ⟨by omega, h2⟩, List.getD_eq_getElem?_getD]
    · rw [if_neg h2, if_neg (by omega), List.getElem?_drop, List.getD_eq_getElem?_getD]
      congr 2; omega
end Go.Proofs.Ytjhopiaeppgioaa
namespace Go.Proofs.Ytjhopiaeppgioaa
open Go.RowKit
set_option maxRecDepth 20000
set_option maxHeartbeats 0
structure UpRel (w : World) (g n : Nat) (zs : List Nat) (s ov k : Nat) (dk : List Nat) (wr : World) : Prop where
  wrs : Wr g 0 n w wr
  row : Row wr g 0 n dk
  lo : dk.take (n - k) = zs.take (n - k)
  sum : valB B64 (dk.drop (n - k)) + B64 ^ k * ov = 2 ^ s * valB B64 (zs.drop (n - k)) + cin zs s (n - k)

theorem getD_of_take {dk zs : List Nat} {m j : Nat} (h : dk.take m = zs.take m) (hj : j < m) : dk.getD j 0 = zs.getD j 0 := by
  have := congrArg (fun l : List Nat => l[j]?) h
  simp only [List.getElem?_take, hj, if_true] at this
  rw [List.getD_eq_getElem?_getD, List.getD_eq_getElem?_getD, this]
theorem drop_set_at (dk : List Nat) (a y : Nat) (ha : a < dk.length) : (dk.set a y).drop a = y :: dk.drop (a + 1) := by
  rw [drop_getD _ a (by simpa using ha), getD_set dk a y a ha, if_pos rfl, drop_set_lt]
theorem take_set_at (dk : List Nat) (a y : Nat) : (dk.set a y).take a = dk.take a := by
  rw [List.take_set, List.set_eq_of_length_le (by simp; omega)]
theorem take_of_take {dk zs : List Nat} {m j : Nat} (h : dk.take m = zs.take m) (hj : j ≤ m) : dk.take j = zs.take j := by
  have := congrArg (List.take j) h
  rw [List.take_take, List.take_take, Nat.min_eq_left hj] at this
  exact this

theorem UpRel.step {w : World} {g n : Nat} {zs : List Nat} {s ov k : Nat} {dk : List Nat} {wr wr' : World} (h : UpRel w g n zs s ov k dk wr) (hk : k < n) (hz : zs.length = n) {d : Nat}
    (hd : d = shlW (dk.getD (n - 1 - k) 0) s + cin zs s (n - 1 - k)) (hw : Wr g 0 n w wr') (hr : Row wr' g 0 n (dk.set (n - 1 - k) d)) : UpRel w g n zs s ov (k + 1) (dk.set (n - 1 - k) d) wr' := by
  have hl := h.row.len
  have e : n - (k + 1) = n - 1 - k := by omega
  have e2 : n - 1 - k + 1 = n - k := by omega
  refine ⟨hw, hr, ?_, ?_⟩
  · rw [e, take_set_at]; exact take_of_take h.lo (by omega)
  · rw [e, drop_set_at dk _ d (by omega), e2]
    have h1 := h.sum
    rw [← e2] at h1
    have hdz : d = shlW (zs.getD (n - 1 - k) 0) s + cin zs s (n - 1 - k) := by rw [hd, getD_of_take h.lo (by omega)]
    rw [← e2]
    exact up_step (by omega) hdz h1

theorem sup_gen (g n c s : Nat) (zs : List Nat) (w : World) (hz : Row w g 0 n zs) (hnc : n ≤ c) (hbig : c ≤ 9223372036854775807) (hs : s < 64) :
    Calls Try.prog 41 #[.slice (some ⟨g, 0, none⟩) n c, .int .i64 s] w fun e w' =>
      ∃ zs', e = .returned (.tuple #[]) ∧ Wr g 0 n w w' ∧ Row w' g 0 n zs' ∧ valB B64 zs' + B64 ^ n * cin zs s n = 2 ^ s * valB B64 zs := by
  obtain ⟨ov, hov⟩ : ∃ ov, ov = cin zs s n := ⟨_, rfl⟩
  rw [← hov]
  have HOV : Hid (ov = cin zs s n) := hov
  clear hov
  have hl := hz.len
  go_enter Try.func41, Try.ntmps41
  go_wp2
  go_loopw [4, 5, 8] (fun _ _ i wr => ∃ (k : Nat) (dk : List Nat), k ≤ n ∧ i = .int .i64 k ∧ UpRel w g n zs s ov k dk wr) (fun _ _ i _ => n - (intOf i).toNat)
  case atStart =>
    refine ⟨0, zs, Nat.zero_le _, rfl, Wr.refl _ _ _ _, hz, rfl, ?_⟩
    rw [Nat.sub_zero, List.drop_of_length_le (by omega), HOV.out]; simp [valB]
  case round =>
    obtain ⟨k, dk, hk, rfl, hR⟩ := hrel
    by_cases hlt : k < n
    · obtain ⟨x, hx⟩ : ∃ x, x = dk.getD (n - 1 - k) 0 := ⟨_, rfl⟩
      have HR : Hid (UpRel w g n zs s ov k dk wr) := hR
      have HX : Hid (x = dk.getD (n - 1 - k) 0) := hx
      by_cases hlast : n ≤ k + 1
      · have hc0 : wr.cell? ⟨g, 0, none⟩ = some (U x) := by
          have := hR.row.cell (n - 1 - k) (by omega)
          rw [← hx, show 0 + (n - 1 - k) = 0 by omega] at this; exact this
        have hf0 : wr.frozen? ⟨g, 0, none⟩ = false := hR.row.frozen 0 (by omega)
        clear hR hx
        go_wp2
        go_roundw
        case rel =>
          have e0 : n - 1 - k = 0 := by omega
          have hh := HR.out
          have hxx := HX.out
          rw [walk_shl]
          refine ⟨k + 1, dk.set (n - 1 - k) (shlW x s), by omega, by go_num, ?_⟩
          refine hh.step hlt hl (by rw [← hxx, e0]; simp [cin]) (hh.wrs.setCell 0 ⟨by omega, by omega⟩ _) ?_
          rw [e0]
          exact hh.row.set 0 _ (by omega) (shlW_lt x s)
        case measure => simp [intOf]; omega
      · obtain ⟨y, hy⟩ : ∃ y, y = dk.getD (n - 1 - k - 1) 0 := ⟨_, rfl⟩
        have hcx : wr.cell? ⟨g, n - 1 - k, none⟩ = some (U x) := by
          have := hR.row.cell (n - 1 - k) (by omega)
          rw [← hx, Nat.zero_add] at this; exact this
        have hfx : wr.frozen? ⟨g, n - 1 - k, none⟩ = false := by
          have := hR.row.frozen (n - 1 - k) (by omega)
          rw [Nat.zero_add] at this; exact this
        have hcy : wr.cell? ⟨g, n - 1 - k - 1, none⟩ = some (U y) := by
          have := hR.row.cell (n - 1 - k - 1) (by omega)
          rw [← hy, Nat.zero_add] at this; exact this
        have HY : Hid (y = dk.getD (n - 1 - k - 1) 0) := hy
        have hyb : y < B64 := by rw [hy]; exact hR.row.dig.getD B64_pos _
        clear hR hx hy
        go_wp2
        go_region
        go_wp2
        go_roundw
        case rel =>
          have hh := HR.out
          have hxx := HX.out
          have hyy := HY.out
          rw [walk_up x y s (by omega) hyb, walk_shl]
          refine ⟨k + 1, dk.set (n - 1 - k) (shlW x s + y * 2 ^ s / B64), by omega, by go_num, ?_⟩
          refine hh.step hlt hl ?_ ((((hh.wrs.setCell (n - 1 - k) ⟨by omega, by omega⟩ _).setCell (n - 1 - k) ⟨by omega, by omega⟩ _)).drew) ?_
          · rw [← hxx]; unfold cin
            rw [if_neg (by omega), hyy, getD_of_take hh.lo (by omega)]
          · have h1 := (hh.row.set (n - 1 - k) (shlW x s) (by omega) (shlW_lt x s)).set (n - 1 - k) _ (by omega) (up_lt x y s (by omega) hyb)
            rw [Nat.zero_add, List.set_set] at h1
            exact h1.drew
        case measure => simp [intOf]; omega
    · obtain rfl : k = n := by omega
      have HR : Hid (UpRel w g k zs s ov k dk wr) := hR
      clear hR
      go_wp2
      go_end0
      have hh := HR.out
      refine ⟨dk, rfl, hh.wrs, hh.row, ?_⟩
      have := hh.sum
      rw [Nat.sub_self, List.drop_zero, List.drop_zero] at this
      simpa [cin] using this

theorem sup_any (g n c s : Nat) (zs : List Nat) (w : World) (hz : Row w g 0 n zs) (hnc : n ≤ c) (hbig : c ≤ 9223372036854775807) (hs : s < 64) (htop : n = 0 ∨ zs.getD (n - 1) 0 = 0) :
    Calls Try.prog 41 #[.slice (some ⟨g, 0, none⟩) n c, .int .i64 s] w fun e w' =>
      ∃ zs', e = .returned (.tuple #[]) ∧ Wr g 0 n w w' ∧ Row w' g 0 n zs' ∧ valB B64 zs' = 2 ^ s * valB B64 zs := by
  refine (sup_gen g n c s zs w hz hnc hbig hs).mono ?_
  rintro e w' ⟨zs', rfl, h1, h2, h3⟩
  refine ⟨zs', rfl, h1, h2, ?_⟩
  have e0 : cin zs s n = 0 := by
    unfold cin
    rcases htop with h | h
    · simp [h]
    · rw [h]; simp
  rw [e0, Nat.mul_zero, Nat.add_zero] at h3; exact h3
end Go.Proofs.Ytjhopiaeppgioaa
namespace Go.Proofs.Ytjhopiaeppgioaa
open Go.RowKit Go.Shelf
set_option maxRecDepth 20000
set_option maxHeartbeats 0
theorem Row.win {w : World} {g m : Nat} {rs : List Nat} (h : Row w g 0 m rs) (a l : Nat) (ha : a + l ≤ m) : Row w g a l ((rs.drop a).take l) := by
  have hl := h.len
  refine ⟨by simp; omega, (h.dig.drop a).take l, fun j hj => ?_, fun j hj => ?_⟩
  · have e : ((rs.drop a).take l).getD j 0 = rs.getD (a + j) 0 := by
      rw [List.getD_eq_getElem?_getD, List.getD_eq_getElem?_getD, List.getElem?_take, if_pos hj, List.getElem?_drop]
    rw [e]
    have := h.cell (a + j) (by omega)
    rw [Nat.zero_add] at this; exact this
  · have := h.frozen (a + j) (by omega)
    rw [Nat.zero_add] at this; exact this
theorem Row.put {w w' : World} {g m a l : Nat} {rs ws : List Nat} (h : Row w g 0 m rs) (hwr : Wr g a l w w') (hr : Row w' g a l ws) (ha : a + l ≤ m) : Row w' g 0 m (winPut rs ws a) := by
  have hl := h.len; have hwl := hr.len
  have hle : a + ws.length ≤ rs.length := by omega
  refine ⟨by rw [winPut_len rs ws a hle]; exact hl, ?_, fun j hj => ?_, fun j hj => ?_⟩
  · unfold winPut; exact ((h.dig.take a).append hr.dig).append (h.dig.drop _)
  · rw [winPut_get rs ws a j hle, Nat.zero_add]
    by_cases hc : a ≤ j ∧ j < a + ws.length
    · rw [if_pos hc]
      have := hr.cell (j - a) (by omega)
      rw [show a + (j - a) = j by omega] at this; exact this
    · rw [if_neg hc, hwr.cell g j (by omega)]
      have := h.cell j hj
      rw [Nat.zero_add] at this; exact this
  · rw [hwr.frozen]; exact h.frozen j hj
theorem Row.other {w : World} {g off n : Nat} {xs : List Nat} (h : Row w g off n xs) (g2 o2 : Nat) (v : Value) (hne : g ≠ g2) : Row (w.setCell ⟨g2, o2, none⟩ v) g off n xs := by
  refine ⟨h.len, h.dig, fun j hj => ?_, fun j hj => by rw [World.frozen?_setCell]; exact h.frozen j hj⟩
  exact (World.cell?_setCell_other _ _ _ _ (by intro e; apply hne; have := congrArg Addr.block e; simp at this; omega)).trans (h.cell j hj)
theorem Row.wr {w w' : World} {g off n g2 o2 l2 : Nat} {xs : List Nat} (h : Row w g off n xs) (hwr : Wr g2 o2 l2 w w') (hne : g ≠ g2) : Row w' g off n xs :=
  ⟨h.len, h.dig, fun j hj => (hwr.cell g (off + j) (.inl hne)).trans (h.cell j hj), fun j hj => (hwr.frozen _).trans (h.frozen j hj)⟩
theorem At.wr {w w' : World} {g off n c g2 o2 l2 : Nat} {xs : List Nat} (h : At w (some ⟨g, off, none⟩) n c xs) (hwr : Wr g2 o2 l2 w w') (hne : g ≠ g2) : At w' (some ⟨g, off, none⟩) n c xs :=
  ⟨h.len, h.cap, h.big, h.dig, by
    rcases h.cells with h0 | ⟨g', o', he, hc⟩
    · exact .inl h0
    · refine .inr ⟨g', o', he, fun j hj => ?_⟩
      simp only [Option.some.injEq, Addr.mk.injEq, and_true] at he
      rw [← he.1, ← he.2] at hc ⊢
      exact (hwr.cell g (off + j) (.inl hne)).trans (hc j hj)⟩
theorem At.cells_of {w w' : World} {g off n c : Nat} {xs : List Nat} (h : At w (some ⟨g, off, none⟩) n c xs) (hc : ∀ o, w'.cell? ⟨g, o, none⟩ = w.cell? ⟨g, o, none⟩) : At w' (some ⟨g, off, none⟩) n c xs :=
  ⟨h.len, h.cap, h.big, h.dig, by
    rcases h.cells with h0 | ⟨g', o', he, hcl⟩
    · exact .inl h0
    · refine .inr ⟨g', o', he, fun j hj => ?_⟩
      simp only [Option.some.injEq, Addr.mk.injEq, and_true] at he
      rw [← he.1, ← he.2] at hcl ⊢
      exact (hc (off + j)).trans (hcl j hj)⟩

theorem dig_abs {P W q r D T Q A : Nat} (hW : q * D + r = W) (h : T + P * W + P * B64 * Q * D = A) : T + P * r + P * (q + B64 * Q) * D = A := by
  subst hW
  have e1 : P * (q + B64 * Q) * D = P * (q * D) + P * B64 * Q * D := by
    rw [Nat.mul_add, Nat.add_mul, Nat.mul_assoc P q D, ← Nat.mul_assoc P B64 Q]
  rw [e1]
  rw [Nat.mul_add] at h
  omega
theorem DigRel.window {w : World} {gq gr L n A D k : Nat} {qs rs : List Nat} {wr : World} (h : DigRel w gq gr L n A D k qs rs wr) (hk : k < L) (hDn : D < B64 ^ n) :
    ∃ a ws, a = L - 1 - k ∧ ws = (rs.drop a).take (n + 1) ∧ Row wr gr a (n + 1) ws ∧ valB B64 ws < B64 * D ∧ valB B64 rs = valB B64 (rs.take a) + B64 ^ a * valB B64 ws ∧ valB B64 (rs.drop (a + (n + 1))) = 0 := by
  have hl := h.rowr.len
  obtain ⟨a, ha⟩ : ∃ a, a = L - 1 - k := ⟨_, rfl⟩
  have hlt := h.lt
  rw [show L - k = a + 1 by omega] at hlt
  have hz : valB B64 (rs.drop (a + (n + 1))) = 0 := by
    have hs := valB_split B64 (rs.drop (a + 1)) n (by rw [List.length_drop]; omega)
    rw [List.drop_drop, show a + 1 + n = a + (n + 1) by omega] at hs
    rcases Nat.eq_zero_or_pos (valB B64 (rs.drop (a + (n + 1)))) with e | e
    · exact e
    · exfalso
      have : B64 ^ n * 1 ≤ B64 ^ n * valB B64 (rs.drop (a + (n + 1))) := Nat.mul_le_mul_left _ e
      omega
  have hw := win_take rs a (n + 1) (by omega)
  rw [hz, Nat.mul_zero, Nat.add_zero] at hw
  refine ⟨a, _, ha, rfl, h.rowr.win a (n + 1) (by omega), ?_, hw, hz⟩
  have hs := valB_split B64 (rs.drop a) (n + 1) (by rw [List.length_drop]; omega)
  rw [List.drop_drop, hz, Nat.mul_zero, Nat.add_zero] at hs
  rw [← hs, valB_drop B64 rs a (by omega)]
  have hb := h.rowr.dig.getD B64_pos a
  have : B64 * (valB B64 (rs.drop (a + 1)) + 1) ≤ B64 * D := Nat.mul_le_mul_left _ hlt
  rw [Nat.mul_add] at this
  omega
theorem DigRel.step {w : World} {gq gr L n A D k : Nat} {qs rs : List Nat} {wr wr' : World} (h : DigRel w gq gr L n A D k qs rs wr) (hk : k < L) (hne : gq ≠ gr) {a q : Nat} {ws ws' : List Nat} (ha : a = L - 1 - k)
    (hrs : valB B64 rs = valB B64 (rs.take a) + B64 ^ a * valB B64 ws) (hz : valB B64 (rs.drop (a + (n + 1))) = 0) (hD : 0 < D) (hq : q = valB B64 ws / D) (hqb : q < B64) (hr : valB B64 ws' = valB B64 ws % D)
    (hwr : Wr gr a (n + 1) wr wr') (hrow : Row wr' gr a (n + 1) ws') : DigRel w gq gr L n A D (k + 1) (qs.set a q) (winPut rs ws' a) (wr'.setCell ⟨gq, a, none⟩ (U q)) := by
  have hl := h.rowr.len; have hql := h.rowq.len; have hwl := hrow.len
  have hle : a + ws'.length ≤ rs.length := by omega
  have e1 : L - (k + 1) = a := by omega
  have e2 : L - k = a + 1 := by omega
  have hdrop : valB B64 ((winPut rs ws' a).drop a) = valB B64 ws % D := by
    rw [winPut_drop rs ws' a hle, valB_append, hwl, hz, Nat.mul_zero, Nat.add_zero, hr]
  refine ⟨fun B h1 h2 => ?_, ?_, ?_, fun b o h1 h2 => ?_, ?_, ?_⟩
  · exact ((h.bel B h1 h2).trans (hwr.below h2)).trans ((Wr.refl gq 0 L wr').setCell a ⟨by omega, by omega⟩ (U q) |>.below h1)
  · have := (h.rowq.wr hwr hne).set a q (by omega) hqb
    rw [Nat.zero_add] at this; exact this
  · exact (h.rowr.put hwr hrow (by omega)).other gq a _ (Ne.symm hne)
  · rw [World.cell?_setCell_other _ _ _ _ (by intro e; apply h1; have := congrArg Addr.block e; simp at this; omega), hwr.cell b o (.inl h2)]
    exact h.cell b o h1 h2
  · rw [e1, hdrop]; exact Nat.mod_lt _ hD
  · have hs := h.sum
    rw [e2, hrs, Nat.pow_succ] at hs
    rw [e1, valB_split B64 (winPut rs ws' a) a (by rw [winPut_len rs ws' a hle]; omega), winPut_take rs ws' a hle, hdrop, drop_set_at qs a q (by omega), valB_cons]
    refine dig_abs (W := valB B64 ws) (q := q) ?_ hs
    rw [hq, Nat.mul_comm]; exact Nat.div_add_mod _ _

theorem takedig_any {gq gr gd od cd L n : Nat} {qs rs ds : List Nat} {w : World} (hq : Row w gq 0 L qs) (hr : Row w gr 0 (L + n) rs) (hd : At w (some ⟨gd, od, none⟩) n cd ds) (hqr : gq ≠ gr) (hdq : gd ≠ gq) (hdr : gd ≠ gr) (hn : 2 ≤ n) (hn2 : n ≤ 8192) (hL : L ≤ 8193) (hlt : valB B64 (rs.drop L) < valB B64 ds) :
    Calls Try.prog 30 #[.slice (some ⟨gq, 0, none⟩) L L, .slice (some ⟨gr, 0, none⟩) (L + n : Nat) (L + n : Nat), .slice (some ⟨gd, od, none⟩) n cd] w fun e w' =>
      ∃ qs' rs', e = .returned (.tuple #[]) ∧ (∀ B, B ≤ gq → B ≤ gr → Below B w w') ∧ Row w' gq 0 L qs' ∧ Row w' gr 0 (L + n) rs' ∧ valB B64 rs' < valB B64 ds ∧ valB B64 rs' + valB B64 qs' * valB B64 ds = valB B64 rs := by
  have hDn := valB_lt B64_pos hd.dig
  rw [hd.len] at hDn
  have hD : 0 < valB B64 ds := by omega
  have dcap := hd.cap; have dbig := hd.big
  unfold maxLen at dbig
  have HD0 : Hid (At w (some ⟨gd, od, none⟩) n cd ds) := hd
  have HDN : Hid (valB B64 ds < B64 ^ n) := hDn
  have HDP : Hid (0 < valB B64 ds) := hD
  have HR0 : Hid (DigRel w gq gr L n (valB B64 rs) (valB B64 ds) 0 qs rs w) := by
    refine ⟨fun B _ _ => Below.refl _ _, hq, hr, fun _ _ _ _ => rfl, by rw [Nat.sub_zero]; exact hlt, ?_⟩
    rw [Nat.sub_zero, List.drop_of_length_le (by rw [hq.len]; omega)]; simp [valB]
  clear hq hr hd hDn hD hlt
  obtain ⟨m, hm⟩ : ∃ m, m = L + n := ⟨_, rfl⟩
  rw [← hm]
  have hm1 : L + n ≤ m := by omega
  have hm2 : m ≤ L + n := by omega
  have HM : Hid (m = L + n) := hm
  clear hm
  go_enter Try.func30, Try.ntmps30
  go_wp2
  go_step3
  go_wp2
  go_step3
  go_wp2
  go_loopg [16] L (fun gk i wr => ∃ (k : Nat) (qk rk : List Nat), k + gk = L ∧ i = .int .i64 k ∧ Hid (DigRel w gq gr L n (valB B64 rs) (valB B64 ds) k qk rk wr))
  case atStart => exact ⟨0, qs, rs, by omega, rfl, HR0⟩
  case round =>
    obtain ⟨k, qk, rk, hkg, rfl, HR⟩ := hrel
    cases gk with
    | zero =>
      have hkz : ¬ ((k : Int) < (L : Int)) := by omega
      obtain rfl : k = L := by omega
      clear hkg
      go_wp2
      try rw [Exit.noGoto_ret]
      go_end0
      have hh := HR.out
      have hs := hh.sum; have hlt := hh.lt
      rw [Nat.sub_self, List.drop_zero] at hlt
      rw [Nat.sub_self, List.drop_zero, Nat.pow_zero, Nat.one_mul] at hs
      have hrr := hh.rowr
      rw [← HM.out] at hrr
      exact ⟨qk, rk, rfl, hh.bel, hh.rowq, hrr, hlt, hs⟩
    | succ gg =>
      obtain ⟨wo, hwo⟩ : ∃ wo, wo = wr := ⟨_, rfl⟩
      subst hwo
      have hkz : (k : Int) < (L : Int) := by omega
      obtain ⟨a, ws, ha, hws, hrow, hwlt, hrs, hz⟩ := HR.out.window (by omega) HDN.out
      have HD1 : Hid (At wo (some ⟨gd, od, none⟩) n cd ds) := HD0.out.cells_of (fun o => HR.out.cell gd o hdq hdr)
      have HAW : Hid (a = L - 1 - k) := ha
      have HWS : Hid (valB B64 rk = valB B64 (rk.take a) + B64 ^ a * valB B64 ws) := hrs
      have HZ : Hid (valB B64 (rk.drop (a + (n + 1))) = 0) := hz
      have HROW : Hid (Row wo gr a (n + 1) ws) := hrow
      have HWL : Hid (valB B64 ws < B64 * valB B64 ds) := hwlt
      have hal : a < L := by omega
      have hea : L - 1 - k = a := ha.symm
      have HEA : Hid (L - 1 - k = a) := hea
      clear ha hws hrs hz hrow hwlt hea
      go_wp2_with fail
      rw [show L - 1 - k + n + 1 - (L - 1 - k) = n + 1 by omega, HEA.out]
      refine (trial_any (HROW.out.at_ (Nat.le_refl _) (by unfold maxLen; omega)) HD1.out hn HWL.out).mono ?_
      rintro e w1 ⟨d, rfl, hdb, hqd, r1, hw1⟩
      have HR1 : Hid (Row w1 gr a (n + 1) ws) := by rw [hw1]; exact HROW.out.drewN r1
      have HD2 : Hid (At w1 (some ⟨gd, od, none⟩) n cd ds) := by rw [hw1]; exact HD1.out.drewN r1
      have HW1 : Hid (Wr gr a (n + 1) wo w1) := by rw [hw1]; exact (Wr.refl _ _ _ _).drewN r1
      have HQD : Hid (valB B64 ws / valB B64 ds ≤ d) := hqd
      clear hw1 hqd HROW HD1
      go_wp2_with fail
      refine (takemul_any HR1.out HD2.out hn hn2 hdb hdr).mono ?_
      rintro e w2 ⟨b, ws2, rfl, hb1, hwr2, hrow2, hsum2⟩
      have HWIN : Hid (WinRel wo gr a n (valB B64 ws) (valB B64 ds) d b ws2 w2) := ⟨HW1.out.trans hwr2, hrow2, hdb, hb1, HQD.out, hsum2⟩
      clear hwr2 hrow2 hsum2 HR1 HD2 HW1 HQD
      go_wp2_with fail
      go_loopg [10, 11] d (fun g2 dv bv wy => ∃ (bb : Nat) (wsy : List Nat), dv = U g2 ∧ bv = .bool (decide (bb = 1)) ∧ Hid (WinRel wo gr a n (valB B64 ws) (valB B64 ds) g2 bb wsy wy))
      case atStart => exact ⟨b, ws2, rfl, rfl, HWIN⟩
      case round =>
        obtain ⟨bb, wsy, rfl, rfl, HY⟩ := hrel
        have hob := HY.out.bb
        have hgb := HY.out.db
        rcases Nat.eq_zero_or_pos bb with h0 | h0
        · subst h0
          have hdone := HY.out.done HDP.out
          have HQ : Hid (gk = valB B64 ws / valB B64 ds) := hdone.1
          have HM2 : Hid (valB B64 wsy = valB B64 ws % valB B64 ds) := hdone.2
          have hrq := HR.out.rowq.wr HY.out.wrs hqr
          have hcq : wr.cell? ⟨gq, L - 1 - k, none⟩ = some (U (qk.getD (L - 1 - k) 0)) := by
            have := hrq.cell (L - 1 - k) (by omega)
            rw [Nat.zero_add] at this; exact this
          have hfq : wr.frozen? ⟨gq, L - 1 - k, none⟩ = false := by
            have := hrq.frozen (L - 1 - k) (by omega)
            rw [Nat.zero_add] at this; exact this
          clear hdone hrq
          go_wp2_with fail
          go_roundg gg
          case measure => omega
          case rel =>
            refine ⟨k + 1, qk.set a gk, winPut rk wsy a, by omega, by go_num, ?_⟩
            rw [HEA.out]
            exact HR.out.step (by omega) hqr HAW.out HWS.out HZ.out HDP.out HQ.out hgb HM2.out HY.out.wrs HY.out.row
        · obtain rfl : bb = 1 := by omega
          have HD3 : Hid (At wr (some ⟨gd, od, none⟩) n cd ds) := (HD0.out.cells_of (fun o => HR.out.cell gd o hdq hdr)).wr HY.out.wrs hdr
          go_wp2_with fail
          refine (ladd_any gr a (n + 1) (n + 1) wsy (some ⟨gd, od, none⟩) n cd ds wr HY.out.row (Nat.le_refl _) (by omega) HD3.out (by omega) (fun g2 off2 _ he => by simp only [Option.some.injEq, Addr.mk.injEq, and_true] at he; exact .inl (by omega))).mono ?_
          rintro e w3 ⟨cy, zs, rfl, hcy, hwr3, hrow3, hsum3⟩
          have hmore := HY.out.more hcy hwr3 hrow3 hsum3
          have hge := hmore.1
          have HMO : Hid (WinRel wo gr a n (valB B64 ws) (valB B64 ds) (gk - 1) (1 - cy) zs w3) := hmore.2.2
          clear hmore hwr3 hrow3 hsum3
          go_wp2_with fail
          go_roundg (gk - 1)
          case measure => omega
          case rel =>
            have ew : IntKind.u64.wrap ((gk : Int) - 1) = ((gk - 1 : Nat) : Int) := wrap_mod _ _ (by rw [B64_eq] at hgb; omega)
            refine ⟨1 - cy, zs, by rw [ew], ?_, HMO⟩
            rcases Nat.eq_zero_or_pos cy with h | h
            · subst h; rfl
            · obtain rfl : cy = 1 := by omega
              rfl
structure Row32 (w : World) (g off n : Nat) (xs : List Nat) : Prop where
  len : xs.length = n
  dig : Dig B32 xs
  cell : ∀ j, j < n → w.cell? ⟨g, off + j, none⟩ = some (V (xs.getD j 0))
  frozen : ∀ j, j < n → w.frozen? ⟨g, off + j, none⟩ = false
theorem Row32.at_ {w : World} {g off n c : Nat} {xs : List Nat} (h : Row32 w g off n xs) (hc : n ≤ c) (hb : c ≤ maxLen) : At32 w (some ⟨g, off, none⟩) n c xs :=
  ⟨h.len, hc, hb, h.dig, .inr ⟨g, off, rfl, h.cell⟩⟩
theorem Row32.set {w : World} {g off n : Nat} {xs : List Nat} (h : Row32 w g off n xs) (k y : Nat) (hk : k < n) (hy : y < B32) : Row32 (w.setCell ⟨g, off + k, none⟩ (V y)) g off n (xs.set k y) := by
  refine ⟨by rw [List.length_set]; exact h.len, h.dig.set k hy, fun j hj => ?_, fun j hj => by rw [World.frozen?_setCell]; exact h.frozen j hj⟩
  rw [getD_set xs k y j (by rw [h.len]; exact hk)]
  by_cases e : j = k
  · subst e; rw [if_pos rfl]; exact World.cell?_setCell_same _ _ _ (h.cell j hj)
  · rw [if_neg e]
    exact (World.cell?_setCell_other _ _ _ _ (by intro e2; apply e; have := congrArg Addr.off e2; simp at this; omega)).trans (h.cell j hj)
theorem Row32.drewN {w : World} {g off n : Nat} {xs : List Nat} (h : Row32 w g off n xs) (q : Nat) : Row32 (w.drewN q) g off n xs := ⟨h.len, h.dig, h.cell, h.frozen⟩
theorem Row32.drew {w : World} {g off n : Nat} {xs : List Nat} (h : Row32 w g off n xs) : Row32 w.drew g off n xs := ⟨h.len, h.dig, h.cell, h.frozen⟩
theorem Blk32.frozen {w : World} {g : Nat} {xs : List Nat} (h : Blk32 w g xs) (j : Nat) : w.frozen? ⟨g, j, none⟩ = false := frozen_of_row w g j _ _ h
theorem Blk32.row {w : World} {g : Nat} {xs : List Nat} (h : Blk32 w g xs) (hd : Dig B32 xs) : Row32 w g 0 xs.length xs :=
  ⟨rfl, hd, fun j hj => by rw [Nat.zero_add]; exact h.cell j hj, fun j _ => h.frozen _⟩
theorem Row32.win {w : World} {g m : Nat} {rs : List Nat} (h : Row32 w g 0 m rs) (a l : Nat) (ha : a + l ≤ m) : Row32 w g a l ((rs.drop a).take l) := by
  have hl := h.len
  refine ⟨by simp; omega, (h.dig.drop a).take l, fun j hj => ?_, fun j hj => ?_⟩
  · have e : ((rs.drop a).take l).getD j 0 = rs.getD (a + j) 0 := by
      rw [List.getD_eq_getElem?_getD, List.getD_eq_getElem?_getD, List.getElem?_take, if_pos hj, List.getElem?_drop]
    rw [e]
    have := h.cell (a + j) (by omega)
    rw [Nat.zero_add] at this; exact this
  · have := h.frozen (a + j) (by omega)
    rw [Nat.zero_add] at this; exact this
theorem Row32.put {w w' : World} {g m a l : Nat} {rs ws : List Nat} (h : Row32 w g 0 m rs) (hwr : Wr g a l w w') (hr : Row32 w' g a l ws) (ha : a + l ≤ m) : Row32 w' g 0 m (winPut rs ws a) := by
  have hl := h.len; have hwl := hr.len
  have hle : a + ws.length ≤ rs.length := by omega
  refine ⟨by rw [winPut_len rs ws a hle]; exact hl, ?_, fun j hj => ?_, fun j hj => ?_⟩
  · unfold winPut; exact ((h.dig.take a).append hr.dig).append (h.dig.drop _)
  · rw [winPut_get rs ws a j hle, Nat.zero_add]
    by_cases hc : a ≤ j ∧ j < a + ws.length
    · rw [if_pos hc]
      have := hr.cell (j - a) (by omega)
      rw [show a + (j - a) = j by omega] at this; exact this
    · rw [if_neg hc, hwr.cell g j (by omega)]
      have := h.cell j hj
      rw [Nat.zero_add] at this; exact this
  · rw [hwr.frozen]; exact h.frozen j hj
theorem win_take32 (rs : List Nat) (a m : Nat) (h : a + m ≤ rs.length) : valB B32 rs = valB B32 (rs.take a) + B32 ^ a * (valB B32 ((rs.drop a).take m) + B32 ^ m * valB B32 (rs.drop (a + m))) := by
  rw [valB_split B32 rs a (by omega), valB_split B32 (rs.drop a) m (by rw [List.length_drop]; omega), List.drop_drop]

structure RMulRel (w : World) (g off m : Nat) (zs ys : List Nat) (v k cy : Nat) (dk : List Nat) (wr : World) : Prop where
  wrs : Wr g off m w wr
  row : Row32 wr g off m dk
  hi : dk.drop k = zs.drop k
  car : cy < B32
  sum : valB B32 (dk.take k) + B32 ^ k * cy = valB B32 (zs.take k) + valB B32 (ys.take k) * v
theorem RMulRel.step {w : World} {g off m : Nat} {zs ys : List Nat} {v k cy : Nat} {dk : List Nat} {wr : World} (h : RMulRel w g off m zs ys v k cy dk wr) (hk : k < m)
    {x z l d : Nat} (hz : z = dk.getD k 0) (hx : x = ys.getD k 0) (hs : x * v + z + cy = l + B32 * d) (hl : l < B32) (hd : d < B32) :
    RMulRel w g off m zs ys v (k + 1) d (dk.set k l) (wr.setCell ⟨g, off + k, none⟩ (V l)) := by
  have hlen := h.row.len
  refine ⟨h.wrs.setCell (off + k) ⟨by omega, by omega⟩ _, h.row.set k l hk hl, ?_, hd, ?_⟩
  · rw [drop_set_lt]; exact drop_succ_of_drop h.hi
  · have hzz : z = zs.getD k 0 := hz.trans (getD_of_drop h.hi)
    rw [take_set_succ dk k l (by omega), valB_snoc, List.length_take, hlen, Nat.min_eq_left (by omega), valB_take_any _ zs k, valB_take_any _ ys k, ← hzz, ← hx, Nat.pow_succ, Nat.add_mul]
    have e1 := h.sum
    have e2 : B32 ^ k * (x * v + z + cy) = B32 ^ k * (l + B32 * d) := by rw [hs]
    rw [Nat.mul_add, Nat.mul_add, Nat.mul_add, ← Nat.mul_assoc] at e2
    have e3 : B32 ^ k * x * v = B32 ^ k * (x * v) := Nat.mul_assoc _ _ _
    have e4 : B32 ^ k * B32 * d = B32 ^ k * (B32 * d) := Nat.mul_assoc _ _ _
    rw [e3, e4]
    rw [← Nat.mul_assoc] at e2
    generalize B32 ^ k * x * v = X0 at *
    generalize B32 ^ k * (x * v) = X1 at *
    generalize B32 ^ k * B32 * d = X2 at *
    generalize B32 ^ k * (B32 * d) = X3 at *
    generalize B32 ^ k * z = X4 at *
    generalize B32 ^ k * cy = X5 at *
    generalize B32 ^ k * l = X6 at *
    omega

theorem RMulRel.drewN {w : World} {g off m : Nat} {zs ys : List Nat} {v k cy : Nat} {dk : List Nat} {wr : World} (h : RMulRel w g off m zs ys v k cy dk wr) (q : Nat) : RMulRel w g off m zs ys v k cy dk (wr.drewN q) :=
  ⟨h.wrs.drewN q, h.row.drewN q, h.hi, h.car, h.sum⟩
theorem valB_set_zero (b : Nat) (xs : List Nat) (k y : Nat) (hk : k < xs.length) (h0 : xs.getD k 0 = 0) : valB b (xs.set k y) = valB b xs + b ^ k * y := by
  have h1 := valB_split b xs k (by omega)
  have h2 := valB_split b (xs.set k y) k (by simp; omega)
  rw [drop_set_at xs k y hk, take_set_at, valB_cons] at h2
  rw [valB_drop b xs k hk, h0] at h1
  rw [h2, h1, Nat.mul_add, Nat.zero_add]
  omega
theorem valB_drop_zero {b : Nat} (hb : 0 < b) {xs : List Nat} {k : Nat} (h : valB b (xs.drop k) = 0) : xs.getD k 0 = 0 ∧ valB b (xs.drop (k + 1)) = 0 := by
  by_cases hk : k < xs.length
  · rw [valB_drop b xs k hk] at h
    have h1 : b * valB b (xs.drop (k + 1)) = 0 := by omega
    refine ⟨by omega, ?_⟩
    rcases Nat.mul_eq_zero.1 h1 with e | e
    · omega
    · exact e
  · refine ⟨?_, ?_⟩
    · rw [List.getD_eq_getElem?_getD, List.getElem?_eq_none (by omega)]; rfl
    · rw [List.drop_of_length_le (by omega)]; rfl
structure RMulO (w : World) (g N m : Nat) (xs ys : List Nat) (i : Nat) (ps : List Nat) (wr : World) : Prop where
  bel : Below g w wr
  row : Row32 wr g 0 N ps
  val : valB B32 ps = valB B32 (xs.take i) * valB B32 ys
  zero : valB B32 (ps.drop (i + m)) = 0
theorem rmul_abs {P Y x T Z D V cy B m : Nat} (h1 : V = T + P * Z) (h2 : D + B ^ m * cy = Z + Y * x) : T + P * D + P * B ^ m * cy = V + P * (Y * x) := by
  have e1 : P * (D + B ^ m * cy) = P * (Z + Y * x) := by rw [h2]
  rw [Nat.mul_add, Nat.mul_add, ← Nat.mul_assoc] at e1
  omega
theorem RMulO.step {w : World} {g N m n : Nat} {xs ys : List Nat} {i : Nat} {ps : List Nat} {wr wr' : World} (h : RMulO w g N m xs ys i ps wr) (hi : i < n) (hN : N = n + m) (hx : xs.length = n) (hy : ys.length = m) {x cy : Nat} {dk : List Nat} (ex : x = xs.getD i 0) (hR : RMulRel wr g i m ((ps.drop i).take m) ys x m cy dk wr') :
    RMulO w g N m xs ys (i + 1) ((winPut ps dk i).set (i + m) cy) (wr'.setCell ⟨g, i + m, none⟩ (V cy)) := by
  have hl := h.row.len; have hdl := hR.row.len
  have hle : i + dk.length ≤ ps.length := by omega
  have hrow := h.row.put hR.wrs hR.row (by omega)
  have hz := valB_drop_zero B32_pos h.zero
  have hsum := hR.sum
  have t1 : dk.take m = dk := List.take_of_length_le (by omega)
  have t2 : ((ps.drop i).take m).take m = (ps.drop i).take m := by rw [List.take_take, Nat.min_self]
  have t3 : ys.take m = ys := List.take_of_length_le (by omega)
  rw [t1, t2, t3] at hsum
  have hv := win_take32 ps i m (by omega)
  rw [h.zero, Nat.mul_zero, Nat.add_zero] at hv
  have hv1 : valB B32 (winPut ps dk i) = valB B32 (ps.take i) + B32 ^ i * valB B32 dk := by
    rw [valB_split B32 (winPut ps dk i) i (by rw [winPut_len ps dk i hle]; omega), winPut_take ps dk i hle, winPut_drop ps dk i hle, valB_append, hdl, h.zero, Nat.mul_zero, Nat.add_zero]
  have hg0 : (winPut ps dk i).getD (i + m) 0 = 0 := by
    rw [winPut_get ps dk i (i + m) hle, if_neg (by omega)]; exact hz.1
  refine ⟨(h.bel.trans (hR.wrs.below (Nat.le_refl _))).trans (((Wr.refl g 0 N wr').setCell (i + m) ⟨by omega, by omega⟩ (V cy)).below (Nat.le_refl _)), ?_, ?_, ?_⟩
  · have := hrow.set (i + m) cy (by omega) hR.car
    rw [Nat.zero_add] at this; exact this
  · rw [valB_set_zero B32 _ (i + m) cy (by rw [winPut_len ps dk i hle]; omega) hg0, hv1, Nat.pow_add, rmul_abs hv hsum, h.val, valB_take_succ B32 xs i (by omega), ← ex, Nat.add_mul, Nat.mul_assoc, Nat.mul_comm (valB B32 ys) x]
  · rw [show i + 1 + m = i + m + 1 by omega, drop_set_lt]
    have e : (winPut ps dk i).drop (i + m + 1) = ps.drop (i + m + 1) := by
      have e1 : (winPut ps dk i).drop (i + m) = ps.drop (i + m) := by
        have := congrArg (List.drop dk.length) (winPut_drop ps dk i hle)
        rw [List.drop_drop, List.drop_left, hdl] at this
        exact this
      have := congrArg (List.drop 1) e1
      rw [List.drop_drop, List.drop_drop] at this; exact this
    rw [e]; exact hz.2
theorem rmul_digit {x y z cy : Nat} (hx : x < B32) (hy : y < B32) (hz : z < B32) (hc : cy < B32) : x * y + z + cy < B64 := by
  have h1 : x * y ≤ (B32 - 1) * (B32 - 1) := Nat.mul_le_mul (by omega) (by omega)
  have h2 : (B32 - 1) * (B32 - 1) + 2 * (B32 - 1) < B64 := by decide
  omega

theorem rmul_any {p q : Option Addr} {n m c d : Nat} {xs ys : List Nat} {a b : Nat} {w : World} (h : At32 w p n c xs) (k : At32 w q m d ys) (hx : Nf B32 xs a) (hy : Nf B32 ys b) (hn : n ≤ 1099511627776) (hm : m ≤ 1099511627776) :
    Calls Try.prog 16 #[.slice p n c, .slice q m d] w fun e w' => ∃ p' m' zs, e = .returned (.slice p' m' m') ∧ At32 w' p' m' m' zs ∧ Nf B32 zs (a * b) ∧ m' ≤ n + m ∧ Below w.heap.size w w' := by
  obtain ⟨i0, hi, hz0, hz1, hz2⟩ := info_parts Try.infoU32
  have HX : Hid (Nf B32 xs a) := hx
  have HY : Hid (Nf B32 ys b) := hy
  have HLX : Hid (xs.length = n) := h.len
  have HLY : Hid (ys.length = m) := k.len
  have hcap := h.cap; have hbig := h.big; have kcap := k.cap; have kbig := k.big
  unfold maxLen at hbig kbig
  obtain ⟨N, hN⟩ : ∃ N, N = n + m := ⟨_, rfl⟩
  have HN : Hid (N = n + m) := hN
  have hNi : (n : Int) + (m : Int) = (N : Int) := by omega
  have hNb : N ≤ 2199023255552 := by omega
  clear hx hy hN
  go_enter Try.func16, Try.ntmps16
  go_wp2_with (at_make; refine wpList_make_full _ rfl _ _ 36 rfl w.heap.size 49 i0 (.int .u32 0) 1 Try.underlying36 hi hz0 hz1 _ _ _ _ N rfl rfl (by omega) (by omega) (by rw [hz2]; omega) (by unfold maxLen; omega) (Nat.le_refl _) ?_; intro w1 hown hgrow; have hb := made_blk32 hown hgrow; clear hown hgrow)
  have HO : Hid (RMulO w w.heap.size N m xs ys 0 (List.replicate N 0) w1) := by
    have hr := hb.1.row (Dig.replicate B32 N B32_pos)
    rw [List.length_replicate] at hr
    refine ⟨hb.2, hr, by rw [valB_replicate]; simp [valB], by rw [List.drop_replicate, valB_replicate]⟩
  clear hb hNi
  go_loopg [6] n (fun gk iv wr => ∃ (i : Nat) (ps : List Nat), i + gk = n ∧ iv = .int .i64 i ∧ Hid (RMulO w w.heap.size N m xs ys i ps wr))
  case atStart => exact ⟨0, _, by omega, rfl, HO⟩
  case round =>
    obtain ⟨i, ps, hig, rfl, HR⟩ := hrel
    cases gk with
    | zero =>
      obtain rfl : i = n := by omega
      have hR := HR.out
      have A32 : At32 wr (some ⟨w.heap.size, 0, none⟩) N N ps := hR.row.at_ (Nat.le_refl _) (by unfold maxLen; omega)
      have hv := hR.val
      rw [List.take_of_length_le (by rw [HLX.out]; omega), HX.out.val, HY.out.val] at hv
      have HNF : Hid (Nf B32 (trimL ps) (a * b)) := by
        have := Nf.trim hR.row.dig
        rw [hv] at this; exact this
      have hle := trimL_length_le ps
      have HLE : Hid ((trimL ps).length ≤ i + m) := by have := hR.row.len; have := HN.out; show _ ≤ _; omega
      have hbx := hR.bel
      clear hR hv hle
      go_wp2_with fail
      refine (rnorm_any A32 (by omega)).mono ?_
      rintro e w5 ⟨g5, rfl, hg5, hblk5, hb5⟩
      have hd5 := HNF.out.dig
      generalize trimL ps = zs at *
      go_wp2_with fail
      go_ret
      exact ⟨_, _, zs, rfl, hblk5.at_ hd5 rfl (by have := HLE.out; unfold maxLen; omega), HNF.out, HLE.out, Below.on hbx hb5⟩
    | succ gg =>
      obtain ⟨wo, hwo⟩ : ∃ wo, wo = wr := ⟨_, rfl⟩
      subst hwo
      obtain ⟨g, off, rfl, hc⟩ := h.cells.resolve_left (by omega)
      obtain ⟨x, hx⟩ : ∃ x, x = xs.getD i 0 := ⟨_, rfl⟩
      have hcx0 : w.cell? ⟨g, off + i, none⟩ = some (V x) := by rw [hx]; exact hc i (by omega)
      have hcx : wo.cell? ⟨g, off + i, none⟩ = some (V x) := (HR.out.bel.cell (p := ⟨g, off + i, none⟩) (World.block_lt_of_cell? w _ hcx0)).trans hcx0
      have hxb : x < B32 := by rw [hx]; exact HX.out.dig.getD B32_pos i
      have hxw : IntKind.u64.wrap (x : Int) = (x : Int) := wrap_mod _ _ (by rw [B32_eq] at hxb; omega)
      have HXE : Hid (x = xs.getD i 0) := hx
      have hin : i < n := by omega
      clear hc hx hcx0
      go_wp2_with fail
      go_loopg [7, 9] m (fun g2 cv jv wy => ∃ (j cy : Nat) (dk : List Nat), j + g2 = m ∧ jv = .int .i64 j ∧ cv = U cy ∧ Hid (RMulRel wo w.heap.size i m ((ps.drop i).take m) ys x j cy dk wy))
      case atStart =>
        refine ⟨0, 0, (ps.drop i).take m, by omega, rfl, rfl, ⟨Wr.refl _ _ _ _, HR.out.row.win i m (by have := HN.out; omega), rfl, B32_pos, ?_⟩⟩
        simp [valB]
      case round =>
        obtain ⟨j, cy, dk, hjg, rfl, rfl, HI⟩ := hrel
        have hcyb := HI.out.car
        cases gk with
        | zero =>
          obtain rfl : j = m := by omega
          have hrow1 := HR.out.row.put HI.out.wrs HI.out.row (by have := HN.out; omega)
          have hct : wr.cell? ⟨w.heap.size, i + j, none⟩ = some (V ((winPut ps dk i).getD (i + j) 0)) := by
            have := hrow1.cell (i + j) (by have := HN.out; omega)
            rw [Nat.zero_add] at this; exact this
          have hft : wr.frozen? ⟨w.heap.size, i + j, none⟩ = false := by
            have := hrow1.frozen (i + j) (by have := HN.out; omega)
            rw [Nat.zero_add] at this; exact this
          have hnj : ¬ j < j := by omega
          have hiN : i + j < N := by have := HN.out; omega
          have hw32 : IntKind.u32.wrap (cy : Int) = (cy : Int) := wrap32 cy hcyb
          clear hrow1
          go_wp2_with fail
          go_roundg gg
          case measure => omega
          case rel => exact ⟨i + 1, (winPut ps dk i).set (i + j) cy, by omega, by go_num, HR.out.step (n := n) hin HN.out HLX.out HLY.out HXE.out HI.out⟩
        | succ g3 =>
          have hjm : j < m := by omega
          obtain ⟨gb, ob, rfl, hcb⟩ := k.cells.resolve_left (by omega)
          obtain ⟨z, hzz⟩ : ∃ z, z = dk.getD j 0 := ⟨_, rfl⟩
          obtain ⟨y, hyy⟩ : ∃ y, y = ys.getD j 0 := ⟨_, rfl⟩
          have hcy0 : w.cell? ⟨gb, ob + j, none⟩ = some (V y) := by rw [hyy]; exact hcb j hjm
          have hgb := World.block_lt_of_cell? w _ hcy0
          have hcy1 : wr.cell? ⟨gb, ob + j, none⟩ = some (V y) := by
            rw [HI.out.wrs.cell gb (ob + j) (.inl (by simp at hgb; omega))]
            exact (HR.out.bel.cell (p := ⟨gb, ob + j, none⟩) hgb).trans hcy0
          have hcz : wr.cell? ⟨w.heap.size, i + j, none⟩ = some (V z) := by rw [hzz]; exact HI.out.row.cell j hjm
          have hfz : wr.frozen? ⟨w.heap.size, i + j, none⟩ = false := HI.out.row.frozen j hjm
          have hzb : z < B32 := by rw [hzz]; exact HI.out.row.dig.getD B32_pos j
          have hyb : y < B32 := by rw [hyy]; exact HY.out.dig.getD B32_pos j
          have hall := rmul_digit hxb hyb hzb hcyb
          obtain ⟨xy, exy⟩ : ∃ xy, xy = x * y := ⟨_, rfl⟩
          rw [← exy] at hall
          rw [B64_eq] at hall
          have f0 : IntKind.u64.wrap (z : Int) = (z : Int) := wrap_mod _ _ (by rw [B32_eq] at hzb; omega)
          have f00 : IntKind.u64.wrap (y : Int) = (y : Int) := wrap_mod _ _ (by rw [B32_eq] at hyb; omega)
          have f1 : IntKind.u64.wrap ((x : Int) * (y : Int)) = (xy : Int) := by
            have e : ((x : Int) * (y : Int)) = ((x * y : Nat) : Int) := by simp
            rw [e, ← exy]; exact wrap_mod _ _ (by omega)
          obtain ⟨s1, es1⟩ : ∃ s1, s1 = z + xy := ⟨_, rfl⟩
          have f2 : IntKind.u64.wrap ((z : Int) + (xy : Int)) = (s1 : Int) := wrap_mod _ _ (by omega)
          obtain ⟨s2, es2⟩ : ∃ s2, s2 = cy + s1 := ⟨_, rfl⟩
          have f3 : IntKind.u64.wrap ((cy : Int) + (s1 : Int)) = (s2 : Int) := wrap_mod _ _ (by omega)
          have hs2 : s2 < 18446744073709551616 := by omega
          obtain ⟨lo, elo⟩ : ∃ lo, lo = s2 % B32 := ⟨_, rfl⟩
          obtain ⟨hh, ehh⟩ : ∃ hh, hh = s2 / B32 := ⟨_, rfl⟩
          have hlob : lo < B32 := by rw [elo]; exact Nat.mod_lt _ B32_pos
          have hhhb : hh < B32 := by rw [ehh]; exact Nat.div_lt_of_lt_mul (by rw [B32_two, B64_eq]; exact hs2)
          have f4 : bits .and .u64 (s2 : Int) 4294967295 = (lo : Int) := by rw [elo, B32_eq]; exact and32 s2 hs2
          have f5 : (s2 : Int) / 4294967296 = (hh : Int) := by rw [ehh, B32_eq]; exact div32 s2
          have f6 : IntKind.u32.wrap (lo : Int) = (lo : Int) := wrap32 lo hlob
          have HSUM : Hid (x * y + z + cy = lo + B32 * hh) := by
            have := Nat.mod_add_div s2 B32
            rw [← elo, ← ehh] at this
            show _ = _; omega
          have HZE : Hid (z = dk.getD j 0) := hzz
          have HYE : Hid (y = ys.getD j 0) := hyy
          have hij : IntKind.i64.wrap ((i : Int) + (j : Int)) = (i : Int) + (j : Int) := by
            have e : ((i : Int) + (j : Int)) = ((i + j : Nat) : Int) := by omega
            rw [e]
            simp [IntKind.wrap, IntKind.signed, IntKind.bits]
            omega
          have hiN : (i : Int) + (j : Int) < (N : Int) := by have := HN.out; omega
          clear hall exy es1 es2 elo ehh hzz hyy hcy0 hcb hgb
          go_wp2_with fail
          go_quiet (fail)
          go_wp2_with fail
          go_roundg g3
          case measure => omega
          case rel =>
            refine ⟨j + 1, hh, dk.set j lo, by omega, by go_num, rfl, ?_⟩
            exact (HI.out.drewN nq).step hjm HZE.out HYE.out (by have := HSUM.out; rw [Nat.mul_comm y x]; exact this) hlob hhhb
structure RAddR (w : World) (g N M : Nat) (xs ys : List Nat) (i cy : Nat) (ss : List Nat) (wr : World) : Prop where
  bel : Below g w wr
  own : wr.ownsRow g 49 1 (.slice (some ⟨g, 0, none⟩) i N) i (cellsV ss)
  len : ss.length = i
  dig : Dig B32 ss
  car : cy ≤ 1
  fin : i ≤ M + 1
  last : i = M + 1 → cy = 0
  sum : valB B32 ss + B32 ^ i * cy = valB B32 (xs.take i) + valB B32 (ys.take i)
theorem radd_step {xs ys ss : List Nat} {i cy x y lo hh : Nat} (h : valB B32 ss + B32 ^ i * cy = valB B32 (xs.take i) + valB B32 (ys.take i)) (hl : ss.length = i) (ex : x = xs.getD i 0) (ey : y = ys.getD i 0) (hs : cy + x + y = lo + B32 * hh) :
    valB B32 (ss ++ [lo]) + B32 ^ (i + 1) * hh = valB B32 (xs.take (i + 1)) + valB B32 (ys.take (i + 1)) := by
  rw [valB_snoc, hl, valB_take_any _ xs i, valB_take_any _ ys i, ← ex, ← ey, Nat.pow_succ]
  have e1 : B32 ^ i * (cy + x + y) = B32 ^ i * (lo + B32 * hh) := by rw [hs]
  rw [Nat.mul_add, Nat.mul_add, Nat.mul_add, ← Nat.mul_assoc] at e1
  omega
theorem RAddR.at_ {w : World} {g N M : Nat} {xs ys : List Nat} {i cy : Nat} {ss : List Nat} {wr : World} (h : RAddR w g N M xs ys i cy ss wr) : At32 wr (some ⟨g, 0, none⟩) i N ss := by
  rcases h.own.2 with ⟨h', _⟩ | ⟨g', cap', cur, h', hbase, hgc, hcap', hmx, hsz, htake⟩
  · simp at h'
  · simp only [Value.slice.injEq, Option.some.injEq, Addr.mk.injEq, and_true, true_and] at h'
    obtain ⟨rfl, rfl⟩ := h'
    refine ⟨h.len, hcap', hmx, h.dig, .inr ⟨g, 0, rfl, fun jj hj => ?_⟩⟩
    rw [Nat.zero_add, cell_of_row wr g jj _ _ _ hgc]
    have e1 := cellsV_get ss jj (by rw [h.len]; exact hj)
    rw [← htake, Nat.mul_one, List.getElem?_take, if_pos hj] at e1
    rw [← Array.getElem?_toList]; exact e1
theorem one_cell (w : World) (x : Nat) : ∀ (j : Nat) (u : Value), [V x][j]? = some u → (w.alloc (.cells #[V x] 49)).cell? ((⟨w.heap.size, 0, none⟩ : Addr).add j) = some u := by
  intro j u h
  have hb : Blk32 (w.alloc (.cells #[V x] 49)) w.heap.size [x] := heap_alloc_new w _
  have hj : j < 1 := by
    have := (List.getElem?_eq_some_iff.1 h).1
    simpa using this
  have hadd : (⟨w.heap.size, 0, none⟩ : Addr).add j = ⟨w.heap.size, j, none⟩ := by unfold Addr.add; split <;> simp_all
  rw [hadd, hb.cell j (by simpa using hj)]
  obtain rfl : j = 0 := by omega
  simpa using h

theorem radd_any {p q : Option Addr} {n m c d : Nat} {xs ys : List Nat} {a b : Nat} {w : World} (h : At32 w p n c xs) (k : At32 w q m d ys) (hx : Nf B32 xs a) (hy : Nf B32 ys b) (hn : n ≤ 4398046511104) (hm : m ≤ 4398046511104) :
    Calls Try.prog 15 #[.slice p n c, .slice q m d] w fun e w' => ∃ p' m' zs, e = .returned (.slice p' m' m') ∧ At32 w' p' m' m' zs ∧ Nf B32 zs (a + b) ∧ Below w.heap.size w w' := by
  obtain ⟨i0, hi, hz0, hz1, hz2⟩ := info_parts Try.infoU32
  have HX : Hid (Nf B32 xs a) := hx
  have HY : Hid (Nf B32 ys b) := hy
  have HLX : Hid (xs.length = n) := h.len
  have HLY : Hid (ys.length = m) := k.len
  have hcap := h.cap; have hbig := h.big; have kcap := k.cap; have kbig := k.big
  unfold maxLen at hbig kbig
  obtain ⟨M, hM⟩ : ∃ M, M = max n m := ⟨_, rfl⟩
  have hM1 : n ≤ M := by omega
  have hM2 : m ≤ M := by omega
  have HM : Hid (M = n ∨ M = m) := by show _ ∨ _; omega
  have hMi : max (n : Int) (m : Int) = (M : Int) := by omega
  have hMb : M ≤ 4398046511104 := by omega
  clear hx hy hM
  go_enter Try.func15, Try.ntmps15
  go_wp2_with (at_make; refine wpList_make_own _ rfl _ _ 36 rfl w.heap.size 49 i0 (.int .u32 0) 1 Try.underlying36 hi hz0 hz1 _ _ _ (M + 1) rfl rfl (by omega) (by rw [hz2]; omega) (by unfold maxLen; omega) (Nat.le_refl _) ?_; intro w1 hown hgrow)
  have hb1 : Below w.heap.size w w1 := (Below.refl _ _).grown hgrow (Nat.le_refl _) (fun k hk => by simp at hk)
  have HO : Hid (RAddR w w.heap.size (M + 1) M xs ys 0 0 [] w1) := ⟨hb1, hown, rfl, Dig.nil _, by omega, by omega, fun _ => rfl, by simp [valB]⟩
  clear hown hgrow hb1 hMi
  obtain ⟨N, hN⟩ : ∃ N, N = M + 1 := ⟨_, rfl⟩
  rw [← hN] at HO ⊢
  have HN : Hid (N = M + 1) := hN
  clear hN
  -- the loop
  go_loopg [5, 6, 7] (M + 1) (fun gk sv cv iv wr => ∃ (i cy : Nat) (ss : List Nat), i + gk = M + 1 ∧ iv = .int .i64 i ∧ cv = U cy ∧ sv = .slice (some ⟨w.heap.size, 0, none⟩) i N ∧ Hid (RAddR w w.heap.size N M xs ys i cy ss wr))
  case atStart => exact ⟨0, 0, [], by omega, rfl, rfl, rfl, HO⟩
  case round =>
    obtain ⟨i, cy, ss, hig, rfl, rfl, rfl, HR⟩ := hrel
    have hcy := HR.out.car
    by_cases hall : ¬ i < n ∧ ¬ i < m ∧ cy = 0
    · obtain ⟨ha, hb, rfl⟩ := hall
      have A32 := HR.out.at_
      have hv := HR.out.sum
      rw [Nat.mul_zero, Nat.add_zero, List.take_of_length_le (by rw [HLX.out]; omega), List.take_of_length_le (by rw [HLY.out]; omega), HX.out.val, HY.out.val] at hv
      have HNF : Hid (Nf B32 (trimL ss) (a + b)) := by
        have := Nf.trim HR.out.dig
        rw [hv] at this; exact this
      have hle := trimL_length_le ss
      have HLE : Hid ((trimL ss).length ≤ M + 1) := by have := HR.out.len; have := HR.out.fin; show _ ≤ _; omega
      have hib := HR.out.fin
      have hbx := HR.out.bel
      have hc0 : ¬ (0 : Int) < ((0 : Nat) : Int) := by omega
      clear hv hle
      go_wp2_with fail
      refine (rnorm_any A32 (by omega)).mono ?_
      rintro e w5 ⟨g5, rfl, hg5, hblk5, hb5⟩
      have hd5 := HNF.out.dig
      generalize trimL ss = zs at *
      go_wp2_with fail
      go_ret
      exact ⟨_, _, zs, rfl, hblk5.at_ hd5 rfl (by have := HLE.out; unfold maxLen; omega), HNF.out, Below.on hbx hb5⟩
    · obtain ⟨x, hx⟩ : ∃ x, x = xs.getD i 0 := ⟨_, rfl⟩
      obtain ⟨y, hy⟩ : ∃ y, y = ys.getD i 0 := ⟨_, rfl⟩
      have hxb : x < B32 := by rw [hx]; exact HX.out.dig.getD B32_pos i
      have hyb : y < B32 := by rw [hy]; exact HY.out.dig.getD B32_pos i
      have HXE : Hid (x = xs.getD i 0) := hx
      have HYE : Hid (y = ys.getD i 0) := hy
      clear hx hy
      cases gk with
      | zero =>
        exfalso
        have h1 := HR.out.last (by omega)
        exact hall ⟨by omega, by omega, h1⟩
      | succ gg =>
        by_cases ha : i < n
        · by_cases hb : i < m
          · have hin : i < n := ha
            obtain ⟨g, off, rfl, hc⟩ := h.cells.resolve_left (by omega)
            have hcx0 : w.cell? ⟨g, off + i, none⟩ = some (V x) := by rw [HXE.out]; exact hc i hin
            have hcx : wr.cell? ⟨g, off + i, none⟩ = some (V x) := (HR.out.bel.cell (p := ⟨g, off + i, none⟩) (World.block_lt_of_cell? w _ hcx0)).trans hcx0
            have hxw : IntKind.u64.wrap (x : Int) = (x : Int) := wrap_mod _ _ (by rw [B32_eq] at hxb; omega)
            clear hc hcx0
            have him : i < m := hb
            obtain ⟨g2, off2, rfl, hc2⟩ := k.cells.resolve_left (by omega)
            have hcy0 : w.cell? ⟨g2, off2 + i, none⟩ = some (V y) := by rw [HYE.out]; exact hc2 i him
            have hcy1 : wr.cell? ⟨g2, off2 + i, none⟩ = some (V y) := (HR.out.bel.cell (p := ⟨g2, off2 + i, none⟩) (World.block_lt_of_cell? w _ hcy0)).trans hcy0
            have hyw : IntKind.u64.wrap (y : Int) = (y : Int) := wrap_mod _ _ (by rw [B32_eq] at hyb; omega)
            clear hc2 hcy0
            obtain ⟨t1, et1⟩ : ∃ t1, t1 = cy + x := ⟨_, rfl⟩
            obtain ⟨t2, et2⟩ : ∃ t2, t2 = t1 + y := ⟨_, rfl⟩
            rw [B32_eq] at hxb hyb
            have f1 : IntKind.u64.wrap ((cy : Int) + (x : Int)) = (t1 : Int) := wrap_mod _ _ (by omega)
            have f2 : IntKind.u64.wrap ((t1 : Int) + (y : Int)) = (t2 : Int) := wrap_mod _ _ (by omega)
            have ht2 : t2 < 18446744073709551616 := by omega
            obtain ⟨lo, elo⟩ : ∃ lo, lo = t2 % B32 := ⟨_, rfl⟩
            obtain ⟨hh, ehh⟩ : ∃ hh, hh = t2 / B32 := ⟨_, rfl⟩
            have hlob : lo < B32 := by rw [elo]; exact Nat.mod_lt _ B32_pos
            have hhb : hh ≤ 1 := by rw [ehh, B32_eq]; omega
            have f4 : bits .and .u64 (t2 : Int) 4294967295 = (lo : Int) := by rw [elo, B32_eq]; exact and32 t2 ht2
            have f5 : (t2 : Int) / 4294967296 = (hh : Int) := by rw [ehh, B32_eq]; exact div32 t2
            have f6 : IntKind.u32.wrap (lo : Int) = (lo : Int) := wrap32 lo hlob
            have HSUM : Hid (cy + x + y = lo + B32 * hh) := by
              have := Nat.mod_add_div t2 B32
              rw [← elo, ← ehh] at this
              show _ = _; omega
            have HLAST : Hid (i + 1 = M + 1 → hh = 0) := by
              intro hl
              exfalso; omega
            have HI1 : Hid (i + 1 ≤ M + 1) := by
              have h1 := HR.out.fin; have h2 := HR.out.last
              show _ ≤ _; omega
            have HOA : Hid ((wr.alloc (.cells #[V lo] 49)).ownsRow w.heap.size 49 1 (.slice (some ⟨w.heap.size, 0, none⟩) i N) i (cellsV ss)) := HR.out.own.alloc _
            have hsp : i + 1 ≤ N := by have := HI1.out; have := HN.out; omega
            clear et1 et2 elo ehh hxb hyb
            go_wp2_with (at_builtin; refine wpList_append_fits _ rfl (.tmp 53) (.tmp 57) 36 rfl w.heap.size 49 i0 1 Try.underlying36 hi hz1 w.heap.size i N (cellsV ss) rfl HOA.out ⟨wr.heap.size, 0, none⟩ 1 1 [V lo] rfl rfl (one_cell wr lo) (by intro u hu; simp at hu; subst hu; rfl) hsp ?_; intro w3 hw3 hgr3)
            have HR3 : Hid (RAddR w w.heap.size N M xs ys (i + 1) hh (ss ++ [lo]) w3) := by
              have hR := HR.out
              refine ⟨(hR.bel.alloc hR.bel.size _).grown hgr3 (by have := hR.bel.size; simp; omega) (fun q hq => by simp at hq; omega), ?_, by simp [hR.len], hR.dig.append (Dig.cons hlob (Dig.nil _)), hhb, HI1.out, HLAST.out, radd_step hR.sum hR.len HXE.out HYE.out HSUM.out⟩
              have e0 : cellsV (ss ++ [lo]) = cellsV ss ++ [V lo] := by unfold cellsV; rw [List.map_append]; rfl
              rw [e0]; exact hw3
            clear hw3 hgr3
            go_roundg gg
            case measure => omega
            case rel => exact ⟨i + 1, hh, ss ++ [lo], by omega, by go_num, rfl, rfl, HR3⟩
          · have hin : i < n := ha
            obtain ⟨g, off, rfl, hc⟩ := h.cells.resolve_left (by omega)
            have hcx0 : w.cell? ⟨g, off + i, none⟩ = some (V x) := by rw [HXE.out]; exact hc i hin
            have hcx : wr.cell? ⟨g, off + i, none⟩ = some (V x) := (HR.out.bel.cell (p := ⟨g, off + i, none⟩) (World.block_lt_of_cell? w _ hcx0)).trans hcx0
            have hxw : IntKind.u64.wrap (x : Int) = (x : Int) := wrap_mod _ _ (by rw [B32_eq] at hxb; omega)
            clear hc hcx0
            have hy0 : y = 0 := by rw [HYE.out, List.getD_eq_getElem?_getD, List.getElem?_eq_none (by rw [HLY.out]; omega)]; rfl
            obtain ⟨t1, et1⟩ : ∃ t1, t1 = cy + x := ⟨_, rfl⟩
            obtain ⟨t2, et2⟩ : ∃ t2, t2 = t1 + y := ⟨_, rfl⟩
            rw [B32_eq] at hxb hyb
            have f1 : IntKind.u64.wrap ((cy : Int) + (x : Int)) = (t1 : Int) := wrap_mod _ _ (by omega)
            obtain rfl : t2 = t1 := by omega
            have ht2 : t2 < 18446744073709551616 := by omega
            obtain ⟨lo, elo⟩ : ∃ lo, lo = t2 % B32 := ⟨_, rfl⟩
            obtain ⟨hh, ehh⟩ : ∃ hh, hh = t2 / B32 := ⟨_, rfl⟩
            have hlob : lo < B32 := by rw [elo]; exact Nat.mod_lt _ B32_pos
            have hhb : hh ≤ 1 := by rw [ehh, B32_eq]; omega
            have f4 : bits .and .u64 (t2 : Int) 4294967295 = (lo : Int) := by rw [elo, B32_eq]; exact and32 t2 ht2
            have f5 : (t2 : Int) / 4294967296 = (hh : Int) := by rw [ehh, B32_eq]; exact div32 t2
            have f6 : IntKind.u32.wrap (lo : Int) = (lo : Int) := wrap32 lo hlob
            have HSUM : Hid (cy + x + y = lo + B32 * hh) := by
              have := Nat.mod_add_div t2 B32
              rw [← elo, ← ehh] at this
              show _ = _; omega
            have HLAST : Hid (i + 1 = M + 1 → hh = 0) := by
              intro hl
              exfalso; omega
            have HI1 : Hid (i + 1 ≤ M + 1) := by
              have h1 := HR.out.fin; have h2 := HR.out.last
              show _ ≤ _; omega
            have HOA : Hid ((wr.alloc (.cells #[V lo] 49)).ownsRow w.heap.size 49 1 (.slice (some ⟨w.heap.size, 0, none⟩) i N) i (cellsV ss)) := HR.out.own.alloc _
            have hsp : i + 1 ≤ N := by have := HI1.out; have := HN.out; omega
            clear et1 et2 elo ehh hxb hyb
            go_wp2_with (at_builtin; refine wpList_append_fits _ rfl (.tmp 53) (.tmp 57) 36 rfl w.heap.size 49 i0 1 Try.underlying36 hi hz1 w.heap.size i N (cellsV ss) rfl HOA.out ⟨wr.heap.size, 0, none⟩ 1 1 [V lo] rfl rfl (one_cell wr lo) (by intro u hu; simp at hu; subst hu; rfl) hsp ?_; intro w3 hw3 hgr3)
            have HR3 : Hid (RAddR w w.heap.size N M xs ys (i + 1) hh (ss ++ [lo]) w3) := by
              have hR := HR.out
              refine ⟨(hR.bel.alloc hR.bel.size _).grown hgr3 (by have := hR.bel.size; simp; omega) (fun q hq => by simp at hq; omega), ?_, by simp [hR.len], hR.dig.append (Dig.cons hlob (Dig.nil _)), hhb, HI1.out, HLAST.out, radd_step hR.sum hR.len HXE.out HYE.out HSUM.out⟩
              have e0 : cellsV (ss ++ [lo]) = cellsV ss ++ [V lo] := by unfold cellsV; rw [List.map_append]; rfl
              rw [e0]; exact hw3
            clear hw3 hgr3
            go_roundg gg
            case measure => omega
            case rel => exact ⟨i + 1, hh, ss ++ [lo], by omega, by go_num, rfl, rfl, HR3⟩
        · by_cases hb : i < m
          · have him : i < m := hb
            obtain ⟨g2, off2, rfl, hc2⟩ := k.cells.resolve_left (by omega)
            have hcy0 : w.cell? ⟨g2, off2 + i, none⟩ = some (V y) := by rw [HYE.out]; exact hc2 i him
            have hcy1 : wr.cell? ⟨g2, off2 + i, none⟩ = some (V y) := (HR.out.bel.cell (p := ⟨g2, off2 + i, none⟩) (World.block_lt_of_cell? w _ hcy0)).trans hcy0
            have hyw : IntKind.u64.wrap (y : Int) = (y : Int) := wrap_mod _ _ (by rw [B32_eq] at hyb; omega)
            clear hc2 hcy0
            have hx0 : x = 0 := by rw [HXE.out, List.getD_eq_getElem?_getD, List.getElem?_eq_none (by rw [HLX.out]; omega)]; rfl
            obtain ⟨t1, et1⟩ : ∃ t1, t1 = cy + x := ⟨_, rfl⟩
            obtain ⟨t2, et2⟩ : ∃ t2, t2 = t1 + y := ⟨_, rfl⟩
            rw [B32_eq] at hxb hyb
            obtain rfl : t1 = cy := by omega
            have f2 : IntKind.u64.wrap ((t1 : Int) + (y : Int)) = (t2 : Int) := wrap_mod _ _ (by omega)
            have ht2 : t2 < 18446744073709551616 := by omega
            obtain ⟨lo, elo⟩ : ∃ lo, lo = t2 % B32 := ⟨_, rfl⟩
            obtain ⟨hh, ehh⟩ : ∃ hh, hh = t2 / B32 := ⟨_, rfl⟩
            have hlob : lo < B32 := by rw [elo]; exact Nat.mod_lt _ B32_pos
            have hhb : hh ≤ 1 := by rw [ehh, B32_eq]; omega
            have f4 : bits .and .u64 (t2 : Int) 4294967295 = (lo : Int) := by rw [elo, B32_eq]; exact and32 t2 ht2
            have f5 : (t2 : Int) / 4294967296 = (hh : Int) := by rw [ehh, B32_eq]; exact div32 t2
            have f6 : IntKind.u32.wrap (lo : Int) = (lo : Int) := wrap32 lo hlob
            have HSUM : Hid (t1 + x + y = lo + B32 * hh) := by
              have := Nat.mod_add_div t2 B32
              rw [← elo, ← ehh] at this
              show _ = _; omega
            have HLAST : Hid (i + 1 = M + 1 → hh = 0) := by
              intro hl
              exfalso; omega
            have HI1 : Hid (i + 1 ≤ M + 1) := by
              have h1 := HR.out.fin; have h2 := HR.out.last
              show _ ≤ _; omega
            have HOA : Hid ((wr.alloc (.cells #[V lo] 49)).ownsRow w.heap.size 49 1 (.slice (some ⟨w.heap.size, 0, none⟩) i N) i (cellsV ss)) := HR.out.own.alloc _
            have hsp : i + 1 ≤ N := by have := HI1.out; have := HN.out; omega
            clear et1 et2 elo ehh hxb hyb
            go_wp2_with (at_builtin; refine wpList_append_fits _ rfl (.tmp 53) (.tmp 57) 36 rfl w.heap.size 49 i0 1 Try.underlying36 hi hz1 w.heap.size i N (cellsV ss) rfl HOA.out ⟨wr.heap.size, 0, none⟩ 1 1 [V lo] rfl rfl (one_cell wr lo) (by intro u hu; simp at hu; subst hu; rfl) hsp ?_; intro w3 hw3 hgr3)
            have HR3 : Hid (RAddR w w.heap.size N M xs ys (i + 1) hh (ss ++ [lo]) w3) := by
              have hR := HR.out
              refine ⟨(hR.bel.alloc hR.bel.size _).grown hgr3 (by have := hR.bel.size; simp; omega) (fun q hq => by simp at hq; omega), ?_, by simp [hR.len], hR.dig.append (Dig.cons hlob (Dig.nil _)), hhb, HI1.out, HLAST.out, radd_step hR.sum hR.len HXE.out HYE.out HSUM.out⟩
              have e0 : cellsV (ss ++ [lo]) = cellsV ss ++ [V lo] := by unfold cellsV; rw [List.map_append]; rfl
              rw [e0]; exact hw3
            clear hw3 hgr3
            go_roundg gg
            case measure => omega
            case rel => exact ⟨i + 1, hh, ss ++ [lo], by omega, by go_num, rfl, rfl, HR3⟩
          · have hcp : 0 < cy := by
              rcases Nat.eq_zero_or_pos cy with e | e
              · exact absurd ⟨ha, hb, e⟩ hall
              · exact e
            have hcp' : (0 : Int) < (cy : Int) := by omega
            have hx0 : x = 0 := by rw [HXE.out, List.getD_eq_getElem?_getD, List.getElem?_eq_none (by rw [HLX.out]; omega)]; rfl
            have hy0 : y = 0 := by rw [HYE.out, List.getD_eq_getElem?_getD, List.getElem?_eq_none (by rw [HLY.out]; omega)]; rfl
            obtain ⟨t1, et1⟩ : ∃ t1, t1 = cy + x := ⟨_, rfl⟩
            obtain ⟨t2, et2⟩ : ∃ t2, t2 = t1 + y := ⟨_, rfl⟩
            rw [B32_eq] at hxb hyb
            obtain rfl : t1 = cy := by omega
            obtain rfl : t2 = t1 := by omega
            have ht2 : t2 < 18446744073709551616 := by omega
            obtain ⟨lo, elo⟩ : ∃ lo, lo = t2 % B32 := ⟨_, rfl⟩
            obtain ⟨hh, ehh⟩ : ∃ hh, hh = t2 / B32 := ⟨_, rfl⟩
            have hlob : lo < B32 := by rw [elo]; exact Nat.mod_lt _ B32_pos
            have hhb : hh ≤ 1 := by rw [ehh, B32_eq]; omega
            have f4 : bits .and .u64 (t2 : Int) 4294967295 = (lo : Int) := by rw [elo, B32_eq]; exact and32 t2 ht2
            have f5 : (t2 : Int) / 4294967296 = (hh : Int) := by rw [ehh, B32_eq]; exact div32 t2
            have f6 : IntKind.u32.wrap (lo : Int) = (lo : Int) := wrap32 lo hlob
            have HSUM : Hid (t2 + x + y = lo + B32 * hh) := by
              have := Nat.mod_add_div t2 B32
              rw [← elo, ← ehh] at this
              show _ = _; omega
            have HLAST : Hid (i + 1 = M + 1 → hh = 0) := by
              intro hl
              rw [ehh, B32_eq]; omega
            have HI1 : Hid (i + 1 ≤ M + 1) := by
              have h1 := HR.out.fin; have h2 := HR.out.last
              show _ ≤ _; omega
            have HOA : Hid ((wr.alloc (.cells #[V lo] 49)).ownsRow w.heap.size 49 1 (.slice (some ⟨w.heap.size, 0, none⟩) i N) i (cellsV ss)) := HR.out.own.alloc _
            have hsp : i + 1 ≤ N := by have := HI1.out; have := HN.out; omega
            clear et1 et2 elo ehh hxb hyb
            go_wp2_with (at_builtin; refine wpList_append_fits _ rfl (.tmp 53) (.tmp 57) 36 rfl w.heap.size 49 i0 1 Try.underlying36 hi hz1 w.heap.size i N (cellsV ss) rfl HOA.out ⟨wr.heap.size, 0, none⟩ 1 1 [V lo] rfl rfl (one_cell wr lo) (by intro u hu; simp at hu; subst hu; rfl) hsp ?_; intro w3 hw3 hgr3)
            have HR3 : Hid (RAddR w w.heap.size N M xs ys (i + 1) hh (ss ++ [lo]) w3) := by
              have hR := HR.out
              refine ⟨(hR.bel.alloc hR.bel.size _).grown hgr3 (by have := hR.bel.size; simp; omega) (fun q hq => by simp at hq; omega), ?_, by simp [hR.len], hR.dig.append (Dig.cons hlob (Dig.nil _)), hhb, HI1.out, HLAST.out, radd_step hR.sum hR.len HXE.out HYE.out HSUM.out⟩
              have e0 : cellsV (ss ++ [lo]) = cellsV ss ++ [V lo] := by unfold cellsV; rw [List.map_append]; rfl
              rw [e0]; exact hw3
            clear hw3 hgr3
            go_roundg gg
            case measure => omega
            case rel => exact ⟨i + 1, hh, ss ++ [lo], by omega, by go_num, rfl, rfl, HR3⟩
theorem iv8 {a b l h l2 h2 : Nat} (H1 : l ≤ a ∧ a < h) (H2 : l2 ≤ b ∧ b < h2) (h3 : h ≤ l2) : a ≠ b := by omega
theorem vi8 {a b l h l2 h2 : Nat} (H1 : l ≤ a ∧ a < h) (H2 : l2 ≤ b ∧ b < h2) (h3 : h2 ≤ l) : a ≠ b := by omega
theorem rcmp8 {p q : Option Addr} {n m c d : Nat} {xs ys : List Nat} {a b : Nat} {w : World} (h : At32 w p n c xs) (k : At32 w q m d ys) (hx : Nf B32 xs a) (hy : Nf B32 ys b) :
    Calls Try.prog 14 #[.slice p n c, .slice q m d] w fun e w' => e = .returned (.int .i64 (cmpN a b)) ∧ Below w.heap.size w w' := by
  refine (rcmp_any h k hx hy).mono ?_
  rintro e w' ⟨rfl, r, rfl⟩
  exact ⟨rfl, bDrewN (Below.refl _ _) r⟩
theorem from8 {p : Option Addr} {n c : Nat} {xs : List Nat} {a : Nat} {w : World} (h : At w p n c xs) (hf : Nf B64 xs a) (hn : n ≤ 8192) :
    Calls Try.prog 13 #[.slice p n c] w fun e w' => ∃ p' m zs, e = .returned (.slice p' m m) ∧ At32 w' p' m m zs ∧ Nf B32 zs a ∧ m ≤ 16384 ∧ Below w.heap.size w w' := by
  refine (from_any h (by omega)).mono ?_
  rintro e w' ⟨g, zs, rfl, hg, hblk, hnf, hl, hb⟩
  rw [hf.val] at hnf
  exact ⟨_, _, zs, rfl, hblk.at_ hnf.dig rfl (by unfold maxLen; omega), hnf, by omega, hb⟩
theorem EK.at8 {w : World} {B : Nat} {p : Option Addr} {n b : Nat} {X : List Nat} (h : EK w B p n n b X) (hn : n ≤ 8192) : At w p n n X := by
  refine ⟨h.row.len, Nat.le_refl _, by unfold maxLen; omega, h.row.dig, ?_⟩
  rcases h.addr with h0 | h0
  · exact .inl h0
  · exact .inr ⟨b, 0, h0, h.row.cell⟩
theorem at_keep8 {w w' : World} {g n c : Nat} {xs : List Nat} (h : At w (some ⟨g, 0, none⟩) n c xs) (hb : n ≠ 0 → w'.heap[g]? = w.heap[g]?) : At w' (some ⟨g, 0, none⟩) n c xs := by
  refine ⟨h.len, h.cap, h.big, h.dig, ?_⟩
  rcases h.cells with h0 | ⟨g', off, e, hc⟩
  · exact .inl h0
  · simp only [Option.some.injEq, Addr.mk.injEq, and_true] at e
    obtain ⟨rfl, rfl⟩ := e
    exact .inr ⟨g, 0, rfl, fun j hj => (World.cell?_of_block (w := w) (hb (by omega))).trans (hc j hj)⟩
theorem at_lt8 {w : World} {g n c : Nat} {xs : List Nat} (h : At w (some ⟨g, 0, none⟩) n c xs) (h0 : n ≠ 0) : g < w.heap.size := by
  obtain ⟨g', off, e, hc⟩ := h.cells.resolve_left h0
  simp only [Option.some.injEq, Addr.mk.injEq, and_true] at e
  obtain ⟨rfl, rfl⟩ := e
  exact World.block_lt_of_cell? w _ (hc 0 (by omega))
theorem X7.keep8 {w w' : World} {B m g j : Nat} {zs : List Nat} (h : X7 w B m g j zs) (hb : w'.heap[g]? = w.heap[g]?) : X7 w' B m g j zs := ⟨own_keepB h.own hb, h.dig, h.mrk⟩
theorem X7.top8 {w : World} {B m g : Nat} {zs : List Nat} (h : X7 w B m g m zs) (hm : m ≤ 8192) : formB (zs.take m) = true := by
  have hl := h.len
  refine (formB_iff _).2 ⟨by rw [List.length_take]; omega, ?_⟩
  intro x hx
  by_cases h0 : m = 0
  · subst h0; simp at hx
  · rw [List.getLast?_eq_getElem?, List.length_take, Nat.min_eq_left (by omega), List.getElem?_take, if_pos (by omega)] at hx
    have h2 := h.mrk (m - 1) (by omega)
    rw [List.getD_eq_getElem?_getD, hx] at h2
    have h3 : x = mkR 92 (m - 1) := h2
    rw [h3]; unfold mkR; omega
theorem dm8 (A D : Nat) : A / D * D + A % D = A := by rw [Nat.mul_comm]; exact Nat.div_add_mod _ _
theorem pw14 {t1 t2 t3 t4 t5 t6 t7 t8 t9 t10 m k gX gY la ba lb bb lc bc le be ls bs lt bt lu bu lv bv lf1 bf1 lf2 bf2 lf3 bf3 lf4 bf4 : Nat} {za zb zc ze zs zt zu zv zf1 zf2 zf3 zf4 zX zY : List Nat} {qa qb qc qe qs qt qu qv qf1 qf2 qf3 qf4 : Option Addr} (c2 : t2 ≤ t3) (c3 : t3 ≤ t4) (c4 : t4 ≤ t5) (c5 : t5 ≤ t6) (c6 : t6 ≤ t7) (c7 : t7 ≤ t8) (c8 : t8 ≤ t9) (Ha : la ≠ 0 → t3 ≤ ba ∧ ba < t4) (Hb : lb ≠ 0 → t3 ≤ bb ∧ bb < t4) (Hc : lc ≠ 0 → t4 ≤ bc ∧ bc < t5) (He : le ≠ 0 → t4 ≤ be ∧ be < t5) (Hs : ls ≠ 0 → t5 ≤ bs ∧ bs < t6) (Ht : lt ≠ 0 → t5 ≤ bt ∧ bt < t6) (Hu : lu ≠ 0 → t6 ≤ bu ∧ bu < t7) (Hv : lv ≠ 0 → t6 ≤ bv ∧ bv < t7) (Hf1 : lf1 ≠ 0 → t8 ≤ bf1 ∧ bf1 < t9) (Hf2 : lf2 ≠ 0 → t8 ≤ bf2 ∧ bf2 < t9) (Hf3 : lf3 ≠ 0 → t9 ≤ bf3 ∧ bf3 < t10) (Hf4 : lf4 ≠ 0 → t9 ≤ bf4 ∧ bf4 < t10) (HX : t1 ≤ gX ∧ gX < t2) (HY : t2 ≤ gY ∧ gY < t3) (Pa : la ≠ 0 → lb ≠ 0 → ba ≠ bb) (Pc : lc ≠ 0 → le ≠ 0 → bc ≠ be) (Pf1 : lf1 ≠ 0 → lf2 ≠ 0 → bf1 ≠ bf2) (Pf3 : lf3 ≠ 0 → lf4 ≠ 0 → bf3 ≠ bf4) (Ps : ls ≠ 0 → lt ≠ 0 → bs ≠ bt) (Pu : lu ≠ 0 → lv ≠ 0 → bu ≠ bv) :
    ([⟨qa, la, la, ba, za⟩, ⟨qb, lb, lb, bb, zb⟩, ⟨qc, lc, lc, bc, zc⟩, ⟨qe, le, le, be, ze⟩, ⟨qs, ls, ls, bs, zs⟩, ⟨qt, lt, lt, bt, zt⟩, ⟨qu, lu, lu, bu, zu⟩, ⟨qv, lv, lv, bv, zv⟩, ⟨qf1, lf1, lf1, bf1, zf1⟩, ⟨qf2, lf2, lf2, bf2, zf2⟩, ⟨qf3, lf3, lf3, bf3, zf3⟩, ⟨qf4, lf4, lf4, bf4, zf4⟩, ⟨some ⟨gX, 0, none⟩, m, m + 6, gX, zX⟩, ⟨some ⟨gY, 0, none⟩, k, k + 6, gY, zY⟩] : List EN).Pairwise (fun a b => a.c ≠ 0 → b.c ≠ 0 → a.b ≠ b.b) := by
  have d23 : t2 ≤ t3 := by omega
  have d24 : t2 ≤ t4 := by omega
  have d25 : t2 ≤ t5 := by omega
  have d26 : t2 ≤ t6 := by omega
  have d28 : t2 ≤ t8 := by omega
  have d29 : t2 ≤ t9 := by omega
  have d34 : t3 ≤ t4 := by omega
  have d35 : t3 ≤ t5 := by omega
  have d36 : t3 ≤ t6 := by omega
  have d38 : t3 ≤ t8 := by omega
  have d39 : t3 ≤ t9 := by omega
  have d45 : t4 ≤ t5 := by omega
  have d46 : t4 ≤ t6 := by omega
  have d48 : t4 ≤ t8 := by omega
  have d49 : t4 ≤ t9 := by omega
  have d56 : t5 ≤ t6 := by omega
  have d58 : t5 ≤ t8 := by omega
  have d59 : t5 ≤ t9 := by omega
  have d68 : t6 ≤ t8 := by omega
  have d69 : t6 ≤ t9 := by omega
  have d78 : t7 ≤ t8 := by omega
  have d79 : t7 ≤ t9 := by omega
  exact (List.Pairwise.cons (List.forall_mem_cons.2 ⟨Pa, (List.forall_mem_cons.2 ⟨(fun h1 h2 => iv8 (Ha h1) (Hc h2) (Nat.le_refl _)), (List.forall_mem_cons.2 ⟨(fun h1 h2 => iv8 (Ha h1) (He h2) (Nat.le_refl _)), (List.forall_mem_cons.2 ⟨(fun h1 h2 => iv8 (Ha h1) (Hs h2) d45), (List.forall_mem_cons.2 ⟨(fun h1 h2 => iv8 (Ha h1) (Ht h2) d45), (List.forall_mem_cons.2 ⟨(fun h1 h2 => iv8 (Ha h1) (Hu h2) d46), (List.forall_mem_cons.2 ⟨(fun h1 h2 => iv8 (Ha h1) (Hv h2) d46), (List.forall_mem_cons.2 ⟨(fun h1 h2 => iv8 (Ha h1) (Hf1 h2) d48), (List.forall_mem_cons.2 ⟨(fun h1 h2 => iv8 (Ha h1) (Hf2 h2) d48), (List.forall_mem_cons.2 ⟨(fun h1 h2 => iv8 (Ha h1) (Hf3 h2) d49), (List.forall_mem_cons.2 ⟨(fun h1 h2 => iv8 (Ha h1) (Hf4 h2) d49), (List.forall_mem_cons.2 ⟨(fun h1 _ => vi8 (Ha h1) HX d23), (List.forall_mem_cons.2 ⟨(fun h1 _ => vi8 (Ha h1) HY (Nat.le_refl _)), (fun _ h => absurd h (List.not_mem_nil))⟩)⟩)⟩)⟩)⟩)⟩)⟩)⟩)⟩)⟩)⟩)⟩)⟩)
    (List.Pairwise.cons (List.forall_mem_cons.2 ⟨(fun h1 h2 => iv8 (Hb h1) (Hc h2) (Nat.le_refl _)), (List.forall_mem_cons.2 ⟨(fun h1 h2 => iv8 (Hb h1) (He h2) (Nat.le_refl _)), (List.forall_mem_cons.2 ⟨(fun h1 h2 => iv8 (Hb h1) (Hs h2) d45), (List.forall_mem_cons.2 ⟨(fun h1 h2 => iv8 (Hb h1) (Ht h2) d45), (List.forall_mem_cons.2 ⟨(fun h1 h2 => iv8 (Hb h1) (Hu h2) d46), (List.forall_mem_cons.2 ⟨(fun h1 h2 => iv8 (Hb h1) (Hv h2) d46), (List.forall_mem_cons.2 ⟨(fun h1 h2 => iv8 (Hb h1) (Hf1 h2) d48), (List.forall_mem_cons.2 ⟨(fun h1 h2 => iv8 (Hb h1) (Hf2 h2) d48), (List.forall_mem_cons.2 ⟨(fun h1 h2 => iv8 (Hb h1) (Hf3 h2) d49), (List.forall_mem_cons.2 ⟨(fun h1 h2 => iv8 (Hb h1) (Hf4 h2) d49), (List.forall_mem_cons.2 ⟨(fun h1 _ => vi8 (Hb h1) HX d23), (List.forall_mem_cons.2 ⟨(fun h1 _ => vi8 (Hb h1) HY (Nat.le_refl _)), (fun _ h => absurd h (List.not_mem_nil))⟩)⟩)⟩)⟩)⟩)⟩)⟩)⟩)⟩)⟩)⟩)⟩)
    (List.Pairwise.cons (List.forall_mem_cons.2 ⟨Pc, (List.forall_mem_cons.2 ⟨(fun h1 h2 => iv8 (Hc h1) (Hs h2) (Nat.le_refl _)), (List.forall_mem_cons.2 ⟨(fun h1 h2 => iv8 (Hc h1) (Ht h2) (Nat.le_refl _)), (List.forall_mem_cons.2 ⟨(fun h1 h2 => iv8 (Hc h1) (Hu h2) d56), (List.forall_mem_cons.2 ⟨(fun h1 h2 => iv8 (Hc h1) (Hv h2) d56), (List.forall_mem_cons.2 ⟨(fun h1 h2 => iv8 (Hc h1) (Hf1 h2) d58), (List.forall_mem_cons.2 ⟨(fun h1 h2 => iv8 (Hc h1) (Hf2 h2) d58), (List.forall_mem_cons.2 ⟨(fun h1 h2 => iv8 (Hc h1) (Hf3 h2) d59), (List.forall_mem_cons.2 ⟨(fun h1 h2 => iv8 (Hc h1) (Hf4 h2) d59), (List.forall_mem_cons.2 ⟨(fun h1 _ => vi8 (Hc h1) HX d24), (List.forall_mem_cons.2 ⟨(fun h1 _ => vi8 (Hc h1) HY d34), (fun _ h => absurd h (List.not_mem_nil))⟩)⟩)⟩)⟩)⟩)⟩)⟩)⟩)⟩)⟩)⟩)
    (List.Pairwise.cons (List.forall_mem_cons.2 ⟨(fun h1 h2 => iv8 (He h1) (Hs h2) (Nat.le_refl _)), (List.forall_mem_cons.2 ⟨(fun h1 h2 => iv8 (He h1) (Ht h2) (Nat.le_refl _)), (List.forall_mem_cons.2 ⟨(fun h1 h2 => iv8 (He h1) (Hu h2) d56), (List.forall_mem_cons.2 ⟨(fun h1 h2 => iv8 (He h1) (Hv h2) d56), (List.forall_mem_cons.2 ⟨(fun h1 h2 => iv8 (He h1) (Hf1 h2) d58), (List.forall_mem_cons.2 ⟨(fun h1 h2 => iv8 (He h1) (Hf2 h2) d58), (List.forall_mem_cons.2 ⟨(fun h1 h2 => iv8 (He h1) (Hf3 h2) d59), (List.forall_mem_cons.2 ⟨(fun h1 h2 => iv8 (He h1) (Hf4 h2) d59), (List.forall_mem_cons.2 ⟨(fun h1 _ => vi8 (He h1) HX d24), (List.forall_mem_cons.2 ⟨(fun h1 _ => vi8 (He h1) HY d34), (fun _ h => absurd h (List.not_mem_nil))⟩)⟩)⟩)⟩)⟩)⟩)⟩)⟩)⟩)⟩)
    (List.Pairwise.cons (List.forall_mem_cons.2 ⟨Ps, (List.forall_mem_cons.2 ⟨(fun h1 h2 => iv8 (Hs h1) (Hu h2) (Nat.le_refl _)), (List.forall_mem_cons.2 ⟨(fun h1 h2 => iv8 (Hs h1) (Hv h2) (Nat.le_refl _)), (List.forall_mem_cons.2 ⟨(fun h1 h2 => iv8 (Hs h1) (Hf1 h2) d68), (List.forall_mem_cons.2 ⟨(fun h1 h2 => iv8 (Hs h1) (Hf2 h2) d68), (List.forall_mem_cons.2 ⟨(fun h1 h2 => iv8 (Hs h1) (Hf3 h2) d69), (List.forall_mem_cons.2 ⟨(fun h1 h2 => iv8 (Hs h1) (Hf4 h2) d69), (List.forall_mem_cons.2 ⟨(fun h1 _ => vi8 (Hs h1) HX d25), (List.forall_mem_cons.2 ⟨(fun h1 _ => vi8 (Hs h1) HY d35), (fun _ h => absurd h (List.not_mem_nil))⟩)⟩)⟩)⟩)⟩)⟩)⟩)⟩)⟩)
    (List.Pairwise.cons (List.forall_mem_cons.2 ⟨(fun h1 h2 => iv8 (Ht h1) (Hu h2) (Nat.le_refl _)), (List.forall_mem_cons.2 ⟨(fun h1 h2 => iv8 (Ht h1) (Hv h2) (Nat.le_refl _)), (List.forall_mem_cons.2 ⟨(fun h1 h2 => iv8 (Ht h1) (Hf1 h2) d68), (List.forall_mem_cons.2 ⟨(fun h1 h2 => iv8 (Ht h1) (Hf2 h2) d68), (List.forall_mem_cons.2 ⟨(fun h1 h2 => iv8 (Ht h1) (Hf3 h2) d69), (List.forall_mem_cons.2 ⟨(fun h1 h2 => iv8 (Ht h1) (Hf4 h2) d69), (List.forall_mem_cons.2 ⟨(fun h1 _ => vi8 (Ht h1) HX d25), (List.forall_mem_cons.2 ⟨(fun h1 _ => vi8 (Ht h1) HY d35), (fun _ h => absurd h (List.not_mem_nil))⟩)⟩)⟩)⟩)⟩)⟩)⟩)⟩)
    (List.Pairwise.cons (List.forall_mem_cons.2 ⟨Pu, (List.forall_mem_cons.2 ⟨(fun h1 h2 => iv8 (Hu h1) (Hf1 h2) d78), (List.forall_mem_cons.2 ⟨(fun h1 h2 => iv8 (Hu h1) (Hf2 h2) d78), (List.forall_mem_cons.2 ⟨(fun h1 h2 => iv8 (Hu h1) (Hf3 h2) d79), (List.forall_mem_cons.2 ⟨(fun h1 h2 => iv8 (Hu h1) (Hf4 h2) d79), (List.forall_mem_cons.2 ⟨(fun h1 _ => vi8 (Hu h1) HX d26), (List.forall_mem_cons.2 ⟨(fun h1 _ => vi8 (Hu h1) HY d36), (fun _ h => absurd h (List.not_mem_nil))⟩)⟩)⟩)⟩)⟩)⟩)⟩)
    (List.Pairwise.cons (List.forall_mem_cons.2 ⟨(fun h1 h2 => iv8 (Hv h1) (Hf1 h2) d78), (List.forall_mem_cons.2 ⟨(fun h1 h2 => iv8 (Hv h1) (Hf2 h2) d78), (List.forall_mem_cons.2 ⟨(fun h1 h2 => iv8 (Hv h1) (Hf3 h2) d79), (List.forall_mem_cons.2 ⟨(fun h1 h2 => iv8 (Hv h1) (Hf4 h2) d79), (List.forall_mem_cons.2 ⟨(fun h1 _ => vi8 (Hv h1) HX d26), (List.forall_mem_cons.2 ⟨(fun h1 _ => vi8 (Hv h1) HY d36), (fun _ h => absurd h (List.not_mem_nil))⟩)⟩)⟩)⟩)⟩)⟩)
    (List.Pairwise.cons (List.forall_mem_cons.2 ⟨Pf1, (List.forall_mem_cons.2 ⟨(fun h1 h2 => iv8 (Hf1 h1) (Hf3 h2) (Nat.le_refl _)), (List.forall_mem_cons.2 ⟨(fun h1 h2 => iv8 (Hf1 h1) (Hf4 h2) (Nat.le_refl _)), (List.forall_mem_cons.2 ⟨(fun h1 _ => vi8 (Hf1 h1) HX d28), (List.forall_mem_cons.2 ⟨(fun h1 _ => vi8 (Hf1 h1) HY d38), (fun _ h => absurd h (List.not_mem_nil))⟩)⟩)⟩)⟩)⟩)
    (List.Pairwise.cons (List.forall_mem_cons.2 ⟨(fun h1 h2 => iv8 (Hf2 h1) (Hf3 h2) (Nat.le_refl _)), (List.forall_mem_cons.2 ⟨(fun h1 h2 => iv8 (Hf2 h1) (Hf4 h2) (Nat.le_refl _)), (List.forall_mem_cons.2 ⟨(fun h1 _ => vi8 (Hf2 h1) HX d28), (List.forall_mem_cons.2 ⟨(fun h1 _ => vi8 (Hf2 h1) HY d38), (fun _ h => absurd h (List.not_mem_nil))⟩)⟩)⟩)⟩)
    (List.Pairwise.cons (List.forall_mem_cons.2 ⟨Pf3, (List.forall_mem_cons.2 ⟨(fun h1 _ => vi8 (Hf3 h1) HX d29), (List.forall_mem_cons.2 ⟨(fun h1 _ => vi8 (Hf3 h1) HY d39), (fun _ h => absurd h (List.not_mem_nil))⟩)⟩)⟩)
    (List.Pairwise.cons (List.forall_mem_cons.2 ⟨(fun h1 _ => vi8 (Hf4 h1) HX d29), (List.forall_mem_cons.2 ⟨(fun h1 _ => vi8 (Hf4 h1) HY d39), (fun _ h => absurd h (List.not_mem_nil))⟩)⟩)
    (List.Pairwise.cons (List.forall_mem_cons.2 ⟨(fun _ _ => iv8 HX HY (Nat.le_refl _)), (fun _ h => absurd h (List.not_mem_nil))⟩)
    (List.Pairwise.cons (fun _ h => absurd h (List.not_mem_nil))
    List.Pairwise.nil))))))))))))))
end Go.Proofs.Ytjhopiaeppgioaa
