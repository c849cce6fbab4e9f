import Derived.Test.YtmkglkdhnbjjhaaProd
import Derived.Test.YtmkglkdhnbjjhaaTo32
import Derived.Test.YtmkglkdhnbjjhaaWords
import Derived.Test.YtmkglkdhnbjjhaaParts2
import Derived.Test.YtmkglkdhnbjjhaaPow
namespace Go.Proofs.Ytmkglkdhnbjjhaa
open Go.RowKit Go.Shelf

theorem tsame_any {p q : Option Addr} {n m c d : Nat} {xs ys : List Nat} {w : World} (h : At w p n c xs) (k : At w q m d ys) :
    Calls Try.prog 12 #[.slice p n c, .slice q m d] w fun e w' => e = .returned (.bool (decide (xs = ys))) ∧ ∃ r, w' = w.drewN r := by
  have hl := h.len; have hcap := h.cap; have hbig := h.big
  have kl := k.len; have kcap := k.cap; have kbig := k.big
  unfold maxLen at hbig kbig
  by_cases hne : n = m
  · subst hne
    have hnn : ((n : Int) != (n : Int)) = false := by simp
    obtain ⟨b, hb⟩ : ∃ b, b = decide (xs = ys) := ⟨_, rfl⟩
    rw [← hb]
    by_cases h0 : n = 0
    · subst h0
      have hx : xs = [] := List.eq_nil_of_length_eq_zero hl
      have hy : ys = [] := List.eq_nil_of_length_eq_zero kl
      have hb' : b = true := by rw [hx, hy] at hb; simpa using hb
      have HB : Hid (b = true) := hb'
      clear hb hb' hl kl hx hy
      go_enter Try.func12, Try.ntmps12
      go_wp2
      go_loop [5] (fun i => i = .int .i64 0) (fun _ => 0)
      case atStart => rfl
      case round =>
        subst hrel
        go_wp2
        go_ret
        exact ⟨ret_bool HB.out.symm, 0, rfl⟩
    · obtain ⟨g, off, rfl, hc⟩ := h.cells.resolve_left h0
      obtain ⟨g2, off2, rfl, hc2⟩ := k.cells.resolve_left h0
      have HB : Hid (b = decide (xs = ys)) := hb
      clear hb
      go_enter Try.func12, Try.ntmps12
      go_wp2
      go_loopw [5] (fun i wr => ∃ k r : Nat, k ≤ n ∧ i = .int .i64 k ∧ wr = w.drewN r ∧ ∀ j, j < k → xs.getD j 0 = ys.getD j 0) (fun i _ => n - (intOf i).toNat)
      case atStart => exact ⟨0, 0, Nat.zero_le _, rfl, rfl, fun j hj => by omega⟩
      case round =>
        obtain ⟨k, r, hk, rfl, rfl, hz⟩ := hrel
        have HZ : Hid (∀ j, j < k → xs.getD j 0 = ys.getD j 0) := hz
        clear hz
        by_cases hlt : k < n
        · obtain ⟨x, hx⟩ : ∃ x, x = xs.getD k 0 := ⟨_, rfl⟩
          obtain ⟨y, hy⟩ : ∃ y, y = ys.getD k 0 := ⟨_, rfl⟩
          have hcx : w.cell? ⟨g, off + k, none⟩ = some (U x) := by rw [hx]; exact hc _ (by omega)
          have hcy : w.cell? ⟨g2, off2 + k, none⟩ = some (U y) := by rw [hy]; exact hc2 _ (by omega)
          have HX : Hid (x = xs.getD k 0) := hx
          have HY : Hid (y = ys.getD k 0) := hy
          clear hx hy hc hc2
          go_wp2
          go_quiet (fail)
          go_wp2
          · have h0 : ((x : Int) != (y : Int)) = true := by assumption
            go_ret
            exact ⟨ret_bool (by rw [HB.out, same_not xs ys k x y HX.out HY.out h0]), r + nq, by simp⟩
          · have h0 : ((x : Int) != (y : Int)) = false := by assumption
            go_roundw
            case rel => exact ⟨k + 1, r + nq, by omega, by go_num, by simp, fun j hj => if e : j = k then by rw [e, ← HX.out, ← HY.out]; simp at h0; omega else HZ.out j (by omega)⟩
            case measure => simp [intOf]; omega
        · have hkn : k = n := by omega
          subst hkn
          have hy := same_yes xs ys _ hl kl HZ.out
          have HY : Hid (decide (xs = ys) = true) := hy
          clear hy
          go_wp2
          go_ret
          exact ⟨ret_bool (by rw [HB.out, HY.out]), r, rfl⟩
  · have hnn : ((n : Int) != (m : Int)) = true := by simp; omega
    have hf : decide (xs = ys) = false := by rw [decide_eq_false_iff_not]; intro e; subst e; omega
    rw [hf]
    clear hf
    go_enter Try.func12, Try.ntmps12
    go_wp2
    go_ret
    exact ⟨rfl, 0, rfl⟩
theorem tsame_t {p q : Option Addr} {n m c d : Nat} {xs : List Nat} {w : World} (h : At w p n c xs) (k : At w q m d xs) :
    Calls Try.prog 12 #[.slice p n c, .slice q m d] w fun e w' => e = .returned (.bool true) ∧ Below w.heap.size w w' := by
  refine (tsame_any h k).mono ?_
  rintro e w' ⟨rfl, r, rfl⟩
  exact ⟨ret_bool (by simp), bDrewN (Below.refl _ _) r⟩

/-- 250 limbs. -/
def L250 : Nat := B64 ^ 250
theorem lim_mul (i j : Nat) {a b : Nat} (ha : a < B64 ^ i) (hb : b < B64 ^ j) : a * b < B64 ^ (i + j) := by
  rw [Nat.pow_add]
  exact Nat.mul_lt_mul'' ha hb
theorem lim_up {i j a : Nat} (h : a < B64 ^ i) (hij : i ≤ j) : a < B64 ^ j := Nat.lt_of_lt_of_le h (Nat.pow_le_pow_right B64_pos hij)
theorem lim_add {i a b : Nat} (ha : a < B64 ^ i) (hb : b < B64 ^ i) : a + b < B64 ^ (i + 1) := by
  rw [Nat.pow_succ]
  have : B64 ^ i * 2 ≤ B64 ^ i * B64 := Nat.mul_le_mul_left _ B64_two
  omega
theorem lim_of (i : Nat) {a : Nat} (h : a < B64 ^ i) (hi : i ≤ 8192) : a < LIM := by
  obtain ⟨K, hK⟩ : ∃ K, K = 8192 := ⟨8192, rfl⟩
  rw [LIM_eq K hK]; exact lim_up h (by omega)

set_option maxRecDepth 20000 in
set_option maxHeartbeats 1000000 in
theorem natural_any {p : Option Addr} {n c : Nat} {xs : List Nat} {w : World} (h : At w p n c xs) (i : Nat) (hi : i = 250) :
    Calls Try.prog 13 #[.slice p n c, .int .i64 250] w fun e w' => ∃ p' k N us a, e = .returned (.slice p' k N) ∧ Num w' p' k N us a ∧ a < B64 ^ i ∧ Below w.heap.size w w' := by
  have cap := h.cap; have big := h.big
  unfold maxLen at big
  obtain ⟨k, hk⟩ : ∃ k, k = min n 250 := ⟨_, rfl⟩
  have HK : Hid (k ≤ i) := by show _ ≤ _; omega
  have hkn : k ≤ n := by omega
  have hkb : k ≤ 250 := by omega
  have A0 := h.take k hkn c (by omega) (by unfold maxLen; omega)
  have HV : Hid (valB B64 (xs.take k) < B64 ^ i) := by
    have h1 := valB_lt B64_pos A0.dig
    rw [A0.len] at h1
    exact lim_up h1 (by omega)
  by_cases hn : 250 < n
  · obtain rfl : k = 250 := by omega
    have hd : decide ((250 : Int) < (n : Int)) = true := decide_eq_true (by omega)
    obtain ⟨g, off, rfl, _⟩ := h.cells.resolve_left (by omega)
    clear h hk
    go_enter Try.func13, Try.ntmps13
    go_wp2_with fail
    refine (from_any A0 (by omega)).mono ?_
    rintro e w1 ⟨g1, zs, rfl, hg1, hblk1, hnf1, hl1, hb1⟩
    have A1 : At32 w1 (some ⟨g1, 0, none⟩) zs.length zs.length zs := hblk1.at_ hnf1.dig rfl (by unfold maxLen; omega)
    have HN1 : Hid (Nf B32 zs (valB B64 (xs.take 250))) := hnf1
    clear hblk1 hnf1
    go_wp2_with fail
    refine (rto_any A1 (by omega)).mono ?_
    rintro e w2 ⟨g2, k2, N2, us, rfl, hg2, hA2, hnf2, hb2⟩
    have HA2 : Hid (At w2 (some ⟨g2, 0, none⟩) k2 N2 us) := hA2
    have HN2 : Hid (Nf B64 us (valB B64 (xs.take 250))) := by have h := hnf2; rw [HN1.out.val] at h; exact h
    have hbw := Below.on hb1 hb2
    clear hA2 hnf2 hb1 hb2
    go_wp2_with fail
    go_ret
    refine ⟨_, k2, N2, us, _, rfl, ⟨HA2.out, HN2.out, ?_⟩, HV.out, hbw⟩
    have h1 := (HN2.out.len_le (k := i) B64_one).2 HV.out
    rw [HA2.out.len] at h1; omega
  · obtain rfl : k = n := by omega
    have hd : decide ((250 : Int) < (k : Int)) = false := decide_eq_false (by omega)
    have hn' : ¬ 250 < k := hn
    clear hk
    go_enter Try.func13, Try.ntmps13
    go_wp2_with fail
    refine (from_any A0 (by omega)).mono ?_
    rintro e w1 ⟨g1, zs, rfl, hg1, hblk1, hnf1, hl1, hb1⟩
    have A1 : At32 w1 (some ⟨g1, 0, none⟩) zs.length zs.length zs := hblk1.at_ hnf1.dig rfl (by unfold maxLen; omega)
    have HN1 : Hid (Nf B32 zs (valB B64 (xs.take k))) := hnf1
    clear hblk1 hnf1
    go_wp2_with fail
    refine (rto_any A1 (by omega)).mono ?_
    rintro e w2 ⟨g2, k2, N2, us, rfl, hg2, hA2, hnf2, hb2⟩
    have HA2 : Hid (At w2 (some ⟨g2, 0, none⟩) k2 N2 us) := hA2
    have HN2 : Hid (Nf B64 us (valB B64 (xs.take k))) := by have h := hnf2; rw [HN1.out.val] at h; exact h
    have hbw := Below.on hb1 hb2
    clear hA2 hnf2 hb1 hb2
    go_wp2_with fail
    go_ret
    refine ⟨_, k2, N2, us, _, rfl, ⟨HA2.out, HN2.out, ?_⟩, HV.out, hbw⟩
    have h1 := (HN2.out.len_le (k := i) B64_one).2 HV.out
    rw [HA2.out.len] at h1; omega

theorem among_any (x m : Int) (w : World) (_hx : -9223372036854775808 ≤ x ∧ x ≤ 9223372036854775807) (hm : 0 < m ∧ m ≤ 1000000) :
    Calls Try.prog 17 #[.int .i64 x, .int .i64 m] w fun e w' => ∃ r : Nat, e = .returned (.int .i64 r) ∧ (r : Int) < m ∧ w' = w := by
  obtain ⟨q, hq⟩ : ∃ q : Int, q = x.tmod m := ⟨_, rfl⟩
  have h1 : -m < q ∧ q < m := by
    rw [hq]
    exact ⟨Int.lt_tmod_of_pos x hm.1, Int.tmod_lt_of_pos x hm.1⟩
  have hm0 : (m == 0) = false := by simp; omega
  by_cases hn : q < 0
  · obtain ⟨r, hr⟩ := Int.eq_ofNat_of_zero_le (show 0 ≤ q + m by omega)
    have hd : decide (q < 0) = true := decide_eq_true hn
    have hw : IntKind.i64.wrap (q + m) = (r : Int) := by rw [hr]; simp [IntKind.wrap, IntKind.signed, IntKind.bits]; omega
    have hqq : x.tmod m = q := hq.symm
    clear hq
    go_enter Try.func17, Try.ntmps17
    go_wp2_with fail
    go_ret
    exact ⟨r, by first | rfl | (rw [hr]), by omega, rfl⟩
  · obtain ⟨r, hr⟩ := Int.eq_ofNat_of_zero_le (show 0 ≤ q by omega)
    have hd : decide (q < 0) = false := decide_eq_false hn
    have hqq : x.tmod m = q := hq.symm
    clear hq
    go_enter Try.func17, Try.ntmps17
    go_wp2_with fail
    go_ret
    exact ⟨r, by first | rfl | (rw [hr]), by omega, rfl⟩
end Go.Proofs.Ytmkglkdhnbjjhaa
