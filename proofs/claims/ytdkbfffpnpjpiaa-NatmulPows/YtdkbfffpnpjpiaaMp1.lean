import Derived.Test.YtdkbfffpnpjpiaaMm4
import Derived.Test.YtdkbfffpnpjpiaaPow
namespace Go.Proofs.Ytdkbfffpnpjpiaa
open Go.RowKit Go.Shelf

theorem DocIs.inj {v : Nat} {us us' : List Nat} {f f' : Int} (h : DocIs v us f) (k : DocIs v us' f') : us = us' ∧ f = f' := by
  rcases h with ⟨h1, h2, rfl⟩ | ⟨h1, rfl, rfl⟩ <;> rcases k with ⟨k1, k2, rfl⟩ | ⟨k1, rfl, rfl⟩
  · exact ⟨h2.inj B64_one k2, rfl⟩
  · omega
  · omega
  · exact ⟨rfl, rfl⟩
/-- What a power answers. -/
def PowIs (xs : List Nat) (t : Int) (us : List Nat) (f : Int) : Prop :=
  (t < 0 ∧ us = [] ∧ f = 1) ∨ (0 ≤ t ∧ formB xs = false ∧ us = [] ∧ f = 2) ∨ (0 ≤ t ∧ formB xs = true ∧ DocIs (valB B64 xs ^ t.toNat) us f)
theorem PowIs.inj {xs : List Nat} {t : Int} {us us' : List Nat} {f f' : Int} (h : PowIs xs t us f) (k : PowIs xs t us' f') : us = us' ∧ f = f' := by
  rcases h with ⟨h1, rfl, rfl⟩ | ⟨h1, h2, rfl, rfl⟩ | ⟨h1, h2, h3⟩ <;> rcases k with ⟨k1, rfl, rfl⟩ | ⟨k1, k2, rfl, rfl⟩ | ⟨k1, k2, k3⟩
  · exact ⟨rfl, rfl⟩
  · omega
  · omega
  · omega
  · exact ⟨rfl, rfl⟩
  · rw [k2] at h2; simp at h2
  · omega
  · rw [k2] at h2; simp at h2
  · exact h3.inj k3
theorem PowIs.er {xs us : List Nat} {t f : Int} (h : PowIs xs t us f) : f = 0 ∨ f = 1 ∨ f = 2 ∨ f = 5 := by
  rcases h with ⟨_, _, rfl⟩ | ⟨_, _, _, rfl⟩ | ⟨_, _, ⟨_, _, rfl⟩ | ⟨_, _, rfl⟩⟩ <;> simp

set_option maxRecDepth 20000 in
set_option maxHeartbeats 1000000 in
theorem pow_noform {p : Option Addr} {n c : Nat} {xs : List Nat} {w : World} (h : At w p n c xs) (t : Int) (ht : 0 ≤ t) (hf : formB xs = false) :
    Calls Try.prog 7 #[.slice p n c, .int .i64 t] w fun e w' => e = .returned (.tuple #[.slice none 0 0, .int .i64 2]) ∧ w' = w := by
  have hneg : decide (t < 0) = false := decide_eq_false (by omega)
  go_enter Try.func7, Try.ntmps7
  go_wp2_with fail
  refine (form_any h).mono ?_
  rintro e w1 ⟨rfl, hw⟩
  rw [hf]
  obtain rfl := hw.symm
  clear hw hf
  go_wp2_with fail
  go_ret2
  exact ⟨rfl, rfl⟩
theorem powP {p : Option Addr} {n c : Nat} {xs : List Nat} {w : World} (h : At w p n c xs) (t : Int) (ht : t ≤ 9223372036854775807) :
    Calls Try.prog 7 #[.slice p n c, .int .i64 t] w fun e w' => ∃ p' m' us f, e = .returned (.tuple #[.slice p' m' m', .int .i64 f]) ∧ At w' p' m' m' us ∧ PowIs xs t us f ∧ Below w.heap.size w w' := by
  rcases Int.lt_or_le t 0 with h0 | h0
  · refine (pow_neg _ t w h0).mono ?_
    rintro e w' ⟨rfl, hw⟩
    obtain rfl := hw.symm
    exact ⟨none, 0, [], 1, rfl, At.empty _ none 0 (by decide), .inl ⟨h0, rfl, rfl⟩, Below.refl _ _⟩
  · cases hf : formB xs
    · refine (pow_noform h t h0 hf).mono ?_
      rintro e w' ⟨rfl, hw⟩
      obtain rfl := hw.symm
      exact ⟨none, 0, [], 2, rfl, At.empty _ none 0 (by decide), .inr (.inl ⟨h0, hf, rfl, rfl⟩), Below.refl _ _⟩
    · obtain ⟨T, rfl⟩ := Int.eq_ofNat_of_zero_le h0
      refine (pow_any h (nf_of_form h.dig hf) (by have := form_len hf; rw [h.len] at this; exact this) T (by omega)).mono ?_
      rintro e w' ⟨ha, hb⟩
      rcases ha with ⟨hl, p1, m1, zs, rfl, ho, hn, hm⟩ | ⟨hl, rfl⟩
      · exact ⟨p1, m1, zs, 0, rfl, ho.at_ hm, .inr (.inr ⟨h0, hf, .inl ⟨hl, hn, rfl⟩⟩), hb⟩
      · exact ⟨none, 0, [], 5, rfl, At.empty _ none 0 (by decide), .inr (.inr ⟨h0, hf, .inr ⟨hl, rfl, rfl⟩⟩), hb⟩

theorem lit_at32 (w : World) (x y : Nat) (hx : x < B32) (hy : y < B32) : At32 (w.alloc (.cells #[V x, V y] 77)) (some ⟨w.heap.size, 0, none⟩) 2 2 [x, y] := by
  refine ⟨rfl, Nat.le_refl _, by decide, ?_, .inr ⟨w.heap.size, 0, rfl, ?_⟩⟩
  · intro z hz
    simp at hz
    rcases hz with rfl | rfl <;> assumption
  · intro j hj
    match j, hj with
    | 0, _ => exact World.cell?_alloc_new ..
    | 1, _ => exact World.cell?_alloc_new ..
theorem nf32_one : Nf B32 [1] 1 := ⟨by intro x hx; simp at hx; subst hx; decide, by intro x hx; simp at hx; omega, by simp [valB]⟩

set_option maxRecDepth 20000 in
set_option maxHeartbeats 1000000 in
theorem rword1 (w : World) : Calls Try.prog 43 #[.int .u64 1] w fun e w' => ∃ g, e = .returned (.slice (some ⟨g, 0, none⟩) 1 1) ∧ At32 w' (some ⟨g, 0, none⟩) 1 1 [1] ∧ Below w.heap.size w w' := by
  go_enter Try.func43, Try.ntmps43
  go_wp2_with fail
  refine (rnorm_any (lit_at32 w 1 0 (by decide) (by decide)) (by omega)).mono ?_
  rw [show trimL [1, 0] = [1] from by decide]
  rintro e w1 ⟨g, rfl, hg, hb, hbl⟩
  have HB : Hid (Blk32 w1 g [1]) := hb
  have hbw := Below.on (below1 w _) hbl
  clear hb hbl
  go_wp2_with fail
  go_ret
  exact ⟨g, rfl, HB.out.at_ nf32_one.dig rfl (by decide), hbw⟩

theorem pow_mono_lim {a m n : Nat} (ha : 1 ≤ a) (h : LIM ≤ a ^ m) (hm : m ≤ n) : LIM ≤ a ^ n := Nat.le_trans h (Nat.pow_le_pow_right ha hm)

theorem and_one_i64 (i : Nat) (hi : i < 9223372036854775808) : bits BinOp.and IntKind.i64 (i : Int) 1 = ((i % 2 : Nat) : Int) := by
  have h1 : (BitVec.ofInt 64 1).toNat = 2 ^ 1 - 1 := by decide
  have key : (BitVec.ofInt 64 (i : Int) &&& BitVec.ofInt 64 1).toNat = ((i : Int) % ((2 ^ 64 : Nat) : Int)).toNat % 2 ^ 1 := by
    rw [BitVec.toNat_and, BitVec.toNat_ofInt, h1, Nat.and_two_pow_sub_one_eq_mod]
  show IntKind.i64.wrap ((BitVec.ofInt 64 (i : Int) &&& BitVec.ofInt 64 1).toNat : Nat) = _
  rw [key, IntKind.wrap_i64]
  omega
set_option maxRecDepth 20000 in
set_option maxHeartbeats 4000000 in
theorem powerD {p : Option Addr} {n c : Nat} {xs : List Nat} {a : Nat} {w : World} (h : At32 w p n c xs) (hx : Nf B32 xs a) (hn : n ≤ 16384) (ha : 2 ≤ a) (t : Nat) (ht : 1 ≤ t) (ht2 : t ≤ 524288) :
    Calls Try.prog 47 #[.slice p n c, .int .i64 t] w fun e w' => ∃ p' m' N' us f, e = .returned (.tuple #[.slice p' m' N', .int .i64 f]) ∧ At w' p' m' N' us ∧ DocIs (a ^ t) us f ∧ Below w.heap.size w w' := by
  have HA : Hid (At32 w p n c xs) := h
  have HX : Hid (Nf B32 xs a) := hx
  have HA2 : Hid (2 ≤ a) := ha
  clear h hx ha
  go_enter Try.func47, Try.ntmps47
  go_wp2_with fail
  refine (rword1 w).mono ?_
  rintro e w1 ⟨g1, rfl, hA1, hb1⟩
  have A1 : Hid (At32 w1 (some ⟨g1, 0, none⟩) 1 1 [1]) := hA1
  have HA1 : Hid (At32 w1 p n c xs) := HA.out.below hb1
  clear hA1
  go_wp2_with fail
  go_loopg [7] 62 (fun gk tv wr => ∃ k : Nat, k + gk = 62 ∧ tv = .int .i64 k ∧ Hid (2 ^ k ≤ t) ∧ wr = w1)
  case atStart => exact ⟨0, by omega, rfl, by show _ ≤ _; simpa using ht, rfl⟩
  case round =>
    obtain ⟨k, hkg, rfl, HK, hwr⟩ := hrel
    obtain rfl := hwr.symm
    clear hwr
    have hk19 : k ≤ 19 := by
      rcases Nat.lt_or_ge 19 k with e | e
      · exfalso
        have h1 : (2:Nat) ^ 20 ≤ 2 ^ k := Nat.pow_le_pow_right (by decide) (by omega)
        have h2 := HK.out
        omega
      · exact e
    obtain ⟨S, hS⟩ : ∃ S, S = t / 2 ^ (k + 1) := ⟨_, rfl⟩
    have hSI : (t : Int) / 2 ^ (k + 1) = (S : Int) := by rw [hS]; norm_cast
    have HS : Hid (S = t / 2 ^ (k + 1)) := hS
    clear hS
    have hk62 : (k : Int) < 62 := by omega
    by_cases hS0 : S = 0
    · subst hS0
      have HT0 : Hid (t / 2 ^ (k + 1) = 0) := HS.out.symm
      clear HS HK
      go_wp2_with fail
      go_loopg [6, 8] (k + 1) (fun gj pv iv wr => ∃ (pp : Option Addr) (mm cc : Nat) (zs : List Nat) (z : Int), pv = .slice pp mm cc ∧ iv = .int .i64 z ∧ z = (gj : Int) - 1 ∧ gj ≤ k + 1 ∧ mm ≤ 16384 ∧ Hid (At32 wr pp mm cc zs ∧ Nf B32 zs (a ^ (t / 2 ^ gj)) ∧ a ^ (t / 2 ^ gj) < LIM) ∧ Below w.heap.size w wr)
      case atStart => exact ⟨_, 1, 1, [1], (k : Int), rfl, rfl, by omega, Nat.le_refl _, by omega, ⟨A1.out, by rw [HT0.out, Nat.pow_zero]; exact nf32_one, by rw [HT0.out, Nat.pow_zero]; exact LIM_one⟩, hb1⟩
      case round =>
        obtain ⟨pp, mm, cc, zs, z, rfl, rfl, hz, hgk1, hmm, HR, hbw⟩ := hrel
        cases gk with
        | zero =>
          obtain rfl : z = -1 := by omega
          have AP : Hid (At32 wr pp mm cc zs) := HR.out.1
          have NP : Hid (Nf B32 zs (a ^ t)) := by have := HR.out.2.1; rw [Nat.pow_zero, Nat.div_one] at this; exact this
          clear hz HR hSI HT0
          go_wp2_with fail
          refine (rtold_any AP.out NP.out (by omega)).mono ?_
          rintro e w5 ⟨p5, m5, N5, us, f5, rfl, hA5, hD5, hb5⟩
          have A5 : Hid (At w5 p5 m5 N5 us) := hA5
          have D5 : Hid (DocIs (a ^ t) us f5) := hD5
          have hbw5 := Below.on hbw hb5
          clear hA5 hD5 hb5
          go_wp2_with fail
          go_ret2
          exact ⟨p5, m5, N5, us, f5, rfl, A5.out, D5.out, hbw5⟩
        | succ j =>
          obtain rfl : z = (j : Int) := by omega
          have AP : Hid (At32 wr pp mm cc zs) := HR.out.1
          obtain ⟨M, hM⟩ : ∃ M, M = t / 2 ^ (j + 1) := ⟨_, rfl⟩
          have NP : Hid (Nf B32 zs (a ^ M)) := by rw [hM]; exact HR.out.2.1
          have LP : Hid (a ^ M < LIM) := by rw [hM]; exact HR.out.2.2
          obtain ⟨S2, hS2⟩ : ∃ S2, S2 = t / 2 ^ j := ⟨_, rfl⟩
          have hS2I : (t : Int) / 2 ^ j = (S2 : Int) := by rw [hS2]; norm_cast
          have h2M : S2 / 2 = M := by rw [hS2, hM, Nat.div_div_eq_div_mul, Nat.pow_succ]
          have hS2t : S2 ≤ t := by rw [hS2]; exact Nat.div_le_self _ _
          have HS2 : Hid (S2 = t / 2 ^ j ∧ S2 / 2 = M ∧ S2 ≤ t) := ⟨hS2, h2M, hS2t⟩
          have hjI : (0 : Int) ≤ (j : Int) := by omega
          have hj20 : j ≤ 20 := by omega
          have HAr : Hid (At32 wr p n c xs) := HA.out.below hbw
          clear hz HR hSI HT0 hM hS2 h2M hS2t
          go_wp2_with fail
          refine (productD AP.out AP.out NP.out NP.out hmm hmm).mono ?_
          rintro e wq ⟨pq, mq, Nq, us, fq, rfl, hAq, hDq, hbq⟩
          have hbwq := Below.on hbw hbq
          rcases hDq with ⟨hlq, hnq, rfl⟩ | ⟨hlq, rfl, rfl⟩
          · have AQ : Hid (At wq pq mq Nq us) := hAq
            have NQ : Hid (Nf B64 us (a ^ M * a ^ M)) := hnq
            have LQ : Hid (a ^ M * a ^ M < LIM) := hlq
            have hmq : mq ≤ 8192 := by rw [← hAq.len]; exact hnq.lim.2 hlq
            have HAQ : Hid (At32 wq p n c xs) := HAr.out.below hbq
            clear hAq hnq hlq hbq hbw HAr AP NP LP
            go_wp2_with fail
            refine (from_any AQ.out (by omega)).mono ?_
            rintro e wf ⟨gf, zf, rfl, hgf, hkf, hnf, hlf, hbf⟩
            have AF : Hid (At32 wf (some ⟨gf, 0, none⟩) zf.length zf.length zf) := hkf.at_ hnf.dig rfl (by unfold maxLen; omega)
            have NF : Hid (Nf B32 zf (a ^ M * a ^ M)) := by rw [NQ.out.val] at hnf; exact hnf
            obtain ⟨lf, hlfe⟩ : ∃ lf, lf = zf.length := ⟨_, rfl⟩
            rw [← hlfe] at AF hlf ⊢
            have hlf2 : lf ≤ 16384 := by omega
            have HAF : Hid (At32 wf p n c xs) := HAQ.out.below hbf
            have hbwf := Below.on hbwq hbf
            clear hkf hnf hgf hlfe hbf hbwq AQ NQ HAQ hlf
            have hand := and_one_i64 S2 (by have := HS2.out.2.2; omega)
            obtain ⟨bt, hbt⟩ : ∃ bt, bt = S2 % 2 := ⟨_, rfl⟩
            rw [← hbt] at hand
            have HBT : Hid (bt = S2 % 2) := hbt
            rcases (show bt = 0 ∨ bt = 1 by omega) with hb0 | hb0
            · subst hb0
              have HFIN : Hid (a ^ (t / 2 ^ j) = a ^ M * a ^ M) := by
                have h1 := HS2.out; have h2 := HBT.out
                show _ = _
                rw [← Nat.pow_add, ← h1.1]
                congr 1; omega
              clear hbt HBT
              go_wp2_with fail
              go_roundg j
              case measure => omega
              case rel => exact ⟨_, lf, lf, zf, (j : Int) - 1, rfl, rfl, rfl, by omega, hlf2, ⟨AF.out, by rw [HFIN.out]; exact NF.out, by rw [HFIN.out]; exact LQ.out⟩, hbwf⟩
            · subst hb0
              have HFIN : Hid (a ^ (t / 2 ^ j) = a ^ M * a ^ M * a) := by
                have h1 := HS2.out; have h2 := HBT.out
                show _ = _
                rw [← Nat.pow_add, ← Nat.pow_succ, ← h1.1]
                congr 1; omega
              have HLE : Hid (t / 2 ^ j ≤ t) := Nat.div_le_self _ _
              clear hbt HBT
              go_wp2_with fail
              refine (productD AF.out HAF.out NF.out HX.out hlf2 hn).mono ?_
              rintro e wq2 ⟨pq2, mq2, Nq2, us2, fq2, rfl, hAq, hDq, hbq⟩
              have hbwq := Below.on hbwf hbq
              rcases hDq with ⟨hlq, hnq, rfl⟩ | ⟨hlq, rfl, rfl⟩
              · have AQ : Hid (At wq2 pq2 mq2 Nq2 us2) := hAq
                have NQ : Hid (Nf B64 us2 (a ^ M * a ^ M * a)) := hnq
                have LQ2 : Hid (a ^ M * a ^ M * a < LIM) := hlq
                have hmq2 : mq2 ≤ 8192 := by rw [← hAq.len]; exact hnq.lim.2 hlq
                clear hAq hnq hlq hbq hbwf AF NF HAF
                go_wp2_with fail
                refine (from_any AQ.out (by omega)).mono ?_
                rintro e wf2 ⟨gf2, zf2, rfl, hgf, hkf, hnf, hlf, hbf⟩
                have AF2 : Hid (At32 wf2 (some ⟨gf2, 0, none⟩) zf2.length zf2.length zf2) := hkf.at_ hnf.dig rfl (by unfold maxLen; omega)
                have NF2 : Hid (Nf B32 zf2 (a ^ M * a ^ M * a)) := by rw [NQ.out.val] at hnf; exact hnf
                obtain ⟨lf2, hlfe⟩ : ∃ lf2, lf2 = zf2.length := ⟨_, rfl⟩
                rw [← hlfe] at AF2 hlf ⊢
                have hlf22 : lf2 ≤ 16384 := by omega
                have hbwf2 := Below.on hbwq hbf
                clear hkf hnf hgf hlfe hbf hbwq AQ NQ hlf
                go_wp2_with fail
                go_roundg j
                case measure => omega
                case rel => exact ⟨_, lf2, lf2, zf2, (j : Int) - 1, rfl, rfl, rfl, by omega, hlf22, ⟨AF2.out, by rw [HFIN.out]; exact NF2.out, by rw [HFIN.out]; exact LQ2.out⟩, hbwf2⟩
              · have HLQ : Hid (LIM ≤ a ^ t) := by
                  show _ ≤ _
                  rw [← HFIN.out] at hlq
                  exact pow_mono_lim (by have := HA2.out; omega) hlq HLE.out
                clear hAq hlq hbq hbwf AF NF HAF
                go_wp2_with fail
                go_ret2
                exact ⟨none, 0, 0, [], 5, rfl, At.empty _ none 0 (by decide), .inr ⟨HLQ.out, rfl, rfl⟩, hbwq⟩
          · have HLQ : Hid (LIM ≤ a ^ t) := by
              show _ ≤ _
              rw [← Nat.pow_add] at hlq
              have h1 := HS2.out
              have h2 := HA2.out
              exact pow_mono_lim (by omega) hlq (by omega)
            clear hAq hlq hbq hbw HAr AP NP LP
            go_wp2_with fail
            go_ret2
            exact ⟨none, 0, 0, [], 5, rfl, At.empty _ none 0 (by decide), .inr ⟨HLQ.out, rfl, rfl⟩, hbwq⟩
    · have hSp : (0 : Int) < (S : Int) := by omega
      have HK1 : Hid (2 ^ (k + 1) ≤ t) := by
        have h1 := HS.out
        show _ ≤ _
        rcases Nat.lt_or_ge t (2 ^ (k + 1)) with e | e
        · rw [Nat.div_eq_of_lt e] at h1; exact absurd h1 hS0
        · exact e
      clear HS hS0
      go_wp2_with fail
      go_roundg (gk - 1)
      case measure => omega
      case rel => exact ⟨k + 1, by omega, by go_num, HK1, rfl⟩

theorem two_pow_lim {v t b : Nat} (hv : 2 ≤ v) (hb : b = bitsN v) (h : 524288 < (b - 1) * t + 1 ∨ 524288 < t) : LIM ≤ v ^ t := by
  obtain ⟨E, hE⟩ : ∃ E, E = 524288 := ⟨_, rfl⟩
  rw [LIM_two hE]
  have h1 := bitsN_le v (by omega)
  rw [← hb] at h1
  rcases h with h | h
  · refine Nat.le_trans ?_ (Nat.pow_le_pow_left h1 t)
    rw [← Nat.pow_mul]
    exact Nat.pow_le_pow_right (by decide) (by omega)
  · refine Nat.le_trans ?_ (Nat.pow_le_pow_left hv t)
    exact Nat.pow_le_pow_right (by decide) (by omega)
theorem cmpN_one (v : Nat) : (((cmpN v 1 : Int)) == 0) = decide (v = 1) := by
  unfold cmpN
  by_cases h : v < 1
  · simp [h]; omega
  · by_cases h2 : v = 1
    · subst h2; simp
    · simp [h, h2]
theorem doc_one : DocIs 1 [1] 0 := .inl ⟨LIM_one, nf_one (by decide) (by decide), rfl⟩

set_option maxRecDepth 20000 in
set_option maxHeartbeats 4000000 in
theorem docpowD {p : Option Addr} {n c : Nat} {xs : List Nat} {w : World} (h : At w p n c xs) (t : Int) (ht : t ≤ 9223372036854775807) :
    Calls Try.prog 32 #[.slice p n c, .int .i64 t] w fun e w' => ∃ p' m' N' us f, e = .returned (.tuple #[.slice p' m' N', .int .i64 f]) ∧ At w' p' m' N' us ∧ PowIs xs t us f ∧ Below w.heap.size w w' := by
  have HA : Hid (At w p n c xs) := h
  clear h
  rcases Int.lt_or_le t 0 with h0 | h0
  · go_enter Try.func32, Try.ntmps32
    go_wp2_with fail
    go_ret2
    exact ⟨none, 0, 0, [], 1, rfl, At.empty _ none 0 (by decide), .inl ⟨h0, rfl, rfl⟩, Below.refl _ _⟩
  · have hneg : decide (t < 0) = false := decide_eq_false (by omega)
    cases hf : formB xs
    · go_enter Try.func32, Try.ntmps32
      go_wp2_with fail
      refine (docform_any HA.out).mono ?_
      rintro e w1 ⟨rfl, hw⟩
      rw [hf]
      obtain rfl := hw.symm
      clear hw
      go_wp2_with fail
      go_ret2
      exact ⟨none, 0, 0, [], 2, rfl, At.empty _ none 0 (by decide), .inr (.inl ⟨h0, hf, rfl, rfl⟩), Below.refl _ _⟩
    · have HF : Hid (formB xs = true) := hf
      have hn : n ≤ 8192 := by have := form_len hf; rw [HA.out.len] at this; exact this
      obtain ⟨T, rfl⟩ := Int.eq_ofNat_of_zero_le h0
      by_cases hT : T = 0
      · subst hT
        go_enter Try.func32, Try.ntmps32
        go_wp2_with fail
        refine (docform_any HA.out).mono ?_
        rintro e w1 ⟨rfl, hw⟩
        rw [hf]
        obtain rfl := hw.symm
        clear hw
        go_wp2_with fail
        refine (from_any HA.out (by omega)).mono ?_
        rintro e w1 ⟨g1, z1, rfl, hg1, hk1, hn1, hl1, hb1⟩
        have A1 : Hid (At32 w1 (some ⟨g1, 0, none⟩) z1.length z1.length z1) := hk1.at_ hn1.dig rfl (by unfold maxLen; omega)
        have N1 : Hid (Nf B32 z1 (valB B64 xs)) := hn1
        obtain ⟨l1, hl1e⟩ : ∃ l1, l1 = z1.length := ⟨_, rfl⟩
        have hz1 := nf32_zero hn1 hl1e.symm
        rw [← hl1e] at A1 hl1 ⊢
        obtain ⟨v, hv⟩ : ∃ v, v = valB B64 xs := ⟨_, rfl⟩
        rw [← hv] at N1 hz1
        have HV : Hid (v = valB B64 xs) := hv
        clear hk1 hn1 hg1 hl1e hv
        go_wp2_with fail
        refine (rword1 w1).mono ?_
        rintro e w5 ⟨g5, rfl, hA5, hb5⟩
        have A5 : Hid (At32 w5 (some ⟨g5, 0, none⟩) 1 1 [1]) := hA5
        have hbw5 := Below.on hb1 hb5
        clear hA5 hb5
        go_wp2_with fail
        refine (rto_any A5.out (by omega)).mono ?_
        rintro e w6 ⟨g6, k6, N6, us, rfl, hg6, hA6, hN6, hb6⟩
        have A6 : Hid (At w6 (some ⟨g6, 0, none⟩) k6 N6 us) := hA6
        obtain rfl : us = [1] := (by rw [nf32_one.val] at hN6; exact hN6.inj B64_one (nf_one (by decide) (by decide)))
        have hbw6 := Below.on hbw5 hb6
        clear hA6 hN6 hb6 hbw5 hg6
        go_wp2_with fail
        go_ret2
        exact ⟨_, k6, N6, [1], 0, rfl, A6.out, .inr (.inr ⟨by omega, HF.out, by rw [show ((0 : Nat) : Int).toNat = 0 from rfl, Nat.pow_zero]; exact doc_one⟩), hbw6⟩
      · have hT0 : ((T : Int) == 0) = false := by simp; omega
        have hTp : 1 ≤ T := by omega
        go_enter Try.func32, Try.ntmps32
        go_wp2_with fail
        refine (docform_any HA.out).mono ?_
        rintro e w1 ⟨rfl, hw⟩
        rw [hf]
        obtain rfl := hw.symm
        clear hw
        go_wp2_with fail
        refine (from_any HA.out (by omega)).mono ?_
        rintro e w1 ⟨g1, z1, rfl, hg1, hk1, hn1, hl1, hb1⟩
        have A1 : Hid (At32 w1 (some ⟨g1, 0, none⟩) z1.length z1.length z1) := hk1.at_ hn1.dig rfl (by unfold maxLen; omega)
        have N1 : Hid (Nf B32 z1 (valB B64 xs)) := hn1
        obtain ⟨l1, hl1e⟩ : ∃ l1, l1 = z1.length := ⟨_, rfl⟩
        have hz1 := nf32_zero hn1 hl1e.symm
        rw [← hl1e] at A1 hl1 ⊢
        obtain ⟨v, hv⟩ : ∃ v, v = valB B64 xs := ⟨_, rfl⟩
        rw [← hv] at N1 hz1
        have HV : Hid (v = valB B64 xs) := hv
        clear hk1 hn1 hg1 hl1e hv
        go_wp2_with fail
        refine (rword1 w1).mono ?_
        rintro e w2 ⟨g2, rfl, hA2, hb2⟩
        have A2 : Hid (At32 w2 (some ⟨g2, 0, none⟩) 1 1 [1]) := hA2
        have A1' : Hid (At32 w2 (some ⟨g1, 0, none⟩) l1 l1 z1) := A1.out.below hb2
        have hbw := Below.on hb1 hb2
        clear hA2 A1 hb1 hb2
        go_wp2_with fail
        refine (rcmp_any A1'.out A2.out N1.out nf32_one).mono ?_
        rintro e w3 ⟨rfl, r3, rfl⟩
        have A3 : Hid (At32 (w2.drewN r3) (some ⟨g1, 0, none⟩) l1 l1 z1) := A1'.out.drewN r3
        have hbw3 : Below w.heap.size w (w2.drewN r3) := bDrewN hbw r3
        clear A1' hbw A2
        have hcm := cmpN_one v
        by_cases hv1 : v = 1
        · rw [decide_eq_true hv1] at hcm
          go_wp2_with fail
          refine (rword1 (w2.drewN r3)).mono ?_
          rintro e w5 ⟨g5, rfl, hA5, hb5⟩
          have A5 : Hid (At32 w5 (some ⟨g5, 0, none⟩) 1 1 [1]) := hA5
          have hbw5 := Below.on hbw3 hb5
          clear hA5 hb5
          go_wp2_with fail
          refine (rto_any A5.out (by omega)).mono ?_
          rintro e w6 ⟨g6, k6, N6, us, rfl, hg6, hA6, hN6, hb6⟩
          have A6 : Hid (At w6 (some ⟨g6, 0, none⟩) k6 N6 us) := hA6
          obtain rfl : us = [1] := (by rw [nf32_one.val] at hN6; exact hN6.inj B64_one (nf_one (by decide) (by decide)))
          have hbw6 := Below.on hbw5 hb6
          clear hA6 hN6 hb6 hbw5 hg6
          go_wp2_with fail
          go_ret2
          exact ⟨_, k6, N6, [1], 0, rfl, A6.out, .inr (.inr ⟨by omega, HF.out, by rw [← HV.out, hv1, Nat.one_pow]; exact doc_one⟩), hbw6⟩
        · rw [decide_eq_false hv1] at hcm
          by_cases hl0 : l1 = 0
          · have HV0 : Hid (v = 0) := hz1.1 hl0
            subst hl0
            clear hz1 hv1
            go_wp2_with fail
            go_ret2
            exact ⟨none, 0, 0, [], 0, rfl, At.empty _ none 0 (by decide), .inr (.inr ⟨by omega, HF.out, by rw [← HV.out, HV0.out, show ((T : Int)).toNat = T from rfl, Nat.zero_pow (by omega)]; exact .inl ⟨LIM_pos, nf_nil, rfl⟩⟩), hbw3⟩
          · have hl0' : ((l1 : Int) == 0) = false := by simp; omega
            have hv2 : 2 ≤ v := by
              rcases Nat.eq_zero_or_pos v with e | e
              · exact absurd (hz1.2 e) hl0
              · omega
            have HV2 : Hid (2 ≤ v) := hv2
            clear hv1 hv2 hz1
            by_cases hbig : 524288 < T
            · have hbi : (524288 : Int) < (T : Int) := by omega
              go_wp2_with fail
              go_ret2
              exact ⟨none, 0, 0, [], 5, rfl, At.empty _ none 0 (by decide), .inr (.inr ⟨by omega, HF.out, .inr ⟨by rw [← HV.out]; exact two_pow_lim (t := T) HV2.out rfl (.inr hbig), rfl, rfl⟩⟩), hbw3⟩
            · have hbi : ¬ (524288 : Int) < (T : Int) := by omega
              go_wp2_with fail
              refine (rbits_any A3.out N1.out (by omega)).mono ?_
              rintro e w4 ⟨rfl, hw⟩
              obtain rfl := hw.symm
              clear hw
              obtain ⟨b, hb⟩ : ∃ b, b = bitsN v := ⟨_, rfl⟩
              rw [← hb]
              have HB : Hid (b = bitsN v) := hb
              have hbl : b ≤ 524288 := by rw [hb]; have := bits_len32 N1.out A3.out.len; omega
              have hb1 : 1 ≤ b := by rw [hb]; have := HV2.out; unfold bitsN; rw [if_neg (by omega)]; omega
              obtain ⟨b1, hb1e⟩ : ∃ b1, b1 = b - 1 := ⟨_, rfl⟩
              have hsub : (b : Int) - 1 = (b1 : Int) := by omega
              obtain ⟨M, hM⟩ : ∃ M, M = b1 * T := ⟨_, rfl⟩
              have hmulI : (b1 : Int) * (T : Int) = (M : Int) := by rw [hM]; simp
              have hMb : M ≤ 524288 * 524288 := by rw [hM]; exact Nat.mul_le_mul (by omega) (by omega)
              obtain ⟨M1, hM1⟩ : ∃ M1, M1 = M + 1 := ⟨_, rfl⟩
              have hM1I : (M : Int) + 1 = (M1 : Int) := by omega
              have HM1 : Hid (M1 = (b - 1) * T + 1) := by show _ = _; rw [hM1, hM, hb1e]
              have hM1b : M1 ≤ 1000000000000 := by omega
              clear hb hb1e hM hM1
              go_wp2_with fail
              refine (least_any M1 hM1b _).mono ?_
              rintro e w4 ⟨rfl, hw⟩
              obtain rfl := hw.symm
              clear hw
              obtain ⟨L, hL⟩ : ∃ L, L = (M1 + 63) / 64 := ⟨_, rfl⟩
              rw [← hL]
              have HL : Hid (L = (M1 + 63) / 64) := hL
              clear hL
              by_cases hc : 8192 < L
              · have hci : (8192 : Int) < (L : Int) := by omega
                go_wp2_with fail
                go_ret2
                exact ⟨none, 0, 0, [], 5, rfl, At.empty _ none 0 (by decide), .inr (.inr ⟨by omega, HF.out, .inr ⟨by rw [← HV.out]; exact two_pow_lim (t := T) HV2.out HB.out (.inl (by have h1 := HL.out; have h2 := HM1.out; omega)), rfl, rfl⟩⟩), hbw3⟩
              · have hci : ¬ (8192 : Int) < (L : Int) := by omega
                go_wp2_with fail
                refine (powerD A3.out N1.out (by omega) HV2.out T (by omega) (by omega)).mono ?_
                rintro e w5 ⟨p5, m5, N5, us, f5, rfl, hA5, hD5, hb5⟩
                have A5 : Hid (At w5 p5 m5 N5 us) := hA5
                have D5 : Hid (DocIs (v ^ T) us f5) := hD5
                have hbw5 := Below.on hbw3 hb5
                clear hA5 hD5 hb5
                go_wp2_with fail
                go_ret2
                exact ⟨p5, m5, N5, us, f5, rfl, A5.out, .inr (.inr ⟨by omega, HF.out, by rw [← HV.out]; exact D5.out⟩), hbw5⟩
end Go.Proofs.Ytdkbfffpnpjpiaa
