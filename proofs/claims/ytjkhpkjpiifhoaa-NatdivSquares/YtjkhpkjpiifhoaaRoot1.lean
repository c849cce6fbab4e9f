import Derived.Test.YtjkhpkjpiifhoaaQuoRem
namespace Go.Proofs.Ytjkhpkjpiifhoaa
open Go.RowKit Go.Shelf

/-- Newton's step never falls below the root. -/
theorem newton_ge {x s r : Nat} (_hs : 0 < s) (hr : r * r ≤ x) : r ≤ (s + x / s) / 2 := by
  rw [Nat.le_div_iff_mul_le (by decide)]
  by_cases h : 2 * r ≤ s
  · have h3 : 0 ≤ x / s := Nat.zero_le _
    generalize x / s = e at *
    omega
  · have h1 : (2 * r - s) * s ≤ x := by
      refine Nat.le_trans ?_ hr
      obtain ⟨t, ht⟩ : ∃ t, 2 * r = s + t := ⟨2 * r - s, by omega⟩
      rw [ht, Nat.add_sub_cancel_left]
      rcases Nat.le_total s r with hsr | hsr
      · obtain ⟨u, hu⟩ : ∃ u, r = s + u := ⟨r - s, by omega⟩
        subst hu
        obtain rfl : t = s + 2 * u := by omega
        rw [Nat.add_mul, Nat.mul_add, Nat.add_mul, Nat.add_mul s u u]
        have : 2 * u * s = s * u + u * s := by rw [Nat.mul_comm s u, Nat.mul_assoc]; omega
        omega
      · obtain ⟨u, hu⟩ : ∃ u, s = r + u := ⟨s - r, by omega⟩
        subst hu
        obtain ⟨t', ht'⟩ : ∃ t', r = t' + u := ⟨r - u, by omega⟩
        subst ht'
        obtain rfl : t = t' := by omega
        have e : t * (t + u + u) + u * u = (t + u) * (t + u) := by rw [Nat.mul_add, Nat.mul_add, Nat.add_mul, Nat.mul_add, Nat.mul_add, Nat.mul_comm u t]; omega
        omega
    have h2 : 2 * r - s ≤ x / s := (Nat.le_div_iff_mul_le _hs).2 h1
    generalize x / s = e at *
    omega
/-- The state of Newton's loop. -/
structure NewR (x s : Nat) : Prop where
  pos : 0 < s
  le : s ≤ 4294967296
  lt : x < (s + 1) * (s + 1)
theorem NewR.step {x s : Nat} (h : NewR x s) (h0 : x ≠ 0) (hlt : (s + x / s) / 2 < s) : NewR x ((s + x / s) / 2) := by
  have h1 := h.le
  have hx : x < ((s + x / s) / 2 + 1) * ((s + x / s) / 2 + 1) := by
    rcases Nat.lt_or_ge x (((s + x / s) / 2 + 1) * ((s + x / s) / 2 + 1)) with e | e
    · exact e
    · have := newton_ge h.pos e; omega
  refine ⟨?_, by omega, hx⟩
  rcases Nat.eq_zero_or_pos ((s + x / s) / 2) with e | e
  · rw [e] at hx; omega
  · exact e
theorem NewR.done {x s : Nat} (h : NewR x s) (hge : s ≤ (s + x / s) / 2) : s * s ≤ x ∧ x ≤ s * s + 2 * s := by
  have h1 : s ≤ x / s := by omega
  have h2 := (Nat.le_div_iff_mul_le h.pos).1 h1
  have h3 := h.lt
  rw [Nat.add_mul, Nat.mul_add] at h3
  exact ⟨h2, by omega⟩
theorem NewR.start {x k L : Nat} (hL : L = bitsN x) (hk : k = (L + 1) / 2) (hb : L ≤ 64) : NewR x (2 ^ k) := by
  refine ⟨Nat.two_pow_pos k, ?_, ?_⟩
  · exact Nat.le_trans (Nat.pow_le_pow_right (by decide) (show k ≤ 32 by omega)) (by decide)
  · have h1 := bitsN_lt x
    rw [← hL] at h1
    have h2 : (2:Nat) ^ L ≤ 2 ^ (k + k) := Nat.pow_le_pow_right (by decide) (by omega)
    rw [Nat.pow_add] at h2
    rw [Nat.add_mul, Nat.mul_add]; omega

theorem newton_words {x s : Nat} (h : NewR x s) (hxb : x < B64) : ∃ q t n2 : Nat, IntKind.u64.wrap ((x : Int) / (s : Int)) = (q : Int) ∧ IntKind.u64.wrap ((s : Int) + (q : Int)) = (t : Int) ∧ (t : Int).tdiv 2 = (n2 : Int) ∧ IntKind.u64.wrap (n2 : Int) = (n2 : Int) ∧ n2 = (s + x / s) / 2 ∧ n2 < B64 := by
  have h1 := h.lt; have h2 := h.le; have h3 := h.pos
  have hq : x / s ≤ s + 2 := by
    refine Nat.lt_succ_iff.1 (Nat.div_lt_of_lt_mul ?_)
    rw [Nat.mul_succ, Nat.mul_add]
    rw [Nat.add_mul, Nat.mul_add] at h1
    omega
  rw [B64_eq] at *
  refine ⟨x / s, s + x / s, (s + x / s) / 2, u_quo x s (by rw [B64_eq]; exact hxb), ?_, ?_, ?_, rfl, ?_⟩ <;> generalize x / s = e at *
  · exact wrap_mod _ _ (by omega)
  · rw [Int.tdiv_eq_ediv_of_nonneg (by omega)]; omega
  · exact wrap_mod _ _ (by omega)
  · omega

/-- What a root answers. -/
structure RootTo (w : World) (a : Nat) (v1 v2 : Value) (w' : World) : Prop where
  val : ∃ s p m zs p' m' zs', s * s ≤ a ∧ a ≤ s * s + 2 * s ∧ v1 = .slice p m m ∧ Own w.heap.size w' p m zs ∧ Nf B64 zs s ∧ m ≤ 8192 ∧ v2 = .slice p' m' m' ∧ Own w.heap.size w' p' m' zs' ∧ Nf B64 zs' (a - s * s) ∧ m' ≤ 8192
  bel : Below w.heap.size w w'

set_option maxHeartbeats 1000000 in
theorem wordroot_any {g off c x : Nat} {w : World} (h : At w (some ⟨g, off, none⟩) 1 c [x]) (h0 : x ≠ 0) :
    Calls Try.prog 70 #[.slice (some ⟨g, off, none⟩) 1 c] w fun e w' => ∃ v1 v2, e = .returned (.tuple #[v1, v2]) ∧ RootTo w x v1 v2 w' := by
  have hxb : x < B64 := h.dig.head
  have hcx : w.cell? ⟨g, off, none⟩ = some (U x) := h.cellAt 0 (by omega)
  have cap := h.cap
  obtain ⟨L, hL⟩ : ∃ L, L = bitsN x := ⟨_, rfl⟩
  have hLb : L ≤ 64 := by rw [hL]; exact bits64 hxb
  obtain ⟨k, hk⟩ : ∃ k, k = (L + 1) / 2 := ⟨_, rfl⟩
  have HN : Hid (NewR x (2 ^ k)) := NewR.start hL hk hLb
  have hkt : ((L : Int) + 1).tdiv 2 = (k : Int) := by rw [Int.tdiv_eq_ediv_of_nonneg (by omega)]; omega
  have hk32 : k ≤ 32 := by omega
  have HL : Hid (L = bitsN x) := hL
  clear hL hk
  obtain ⟨s0, hs0⟩ : ∃ s0, s0 = 2 ^ k := ⟨_, rfl⟩
  have HN0 : Hid (NewR x s0) := by rw [hs0]; exact HN.out
  have hw0 : IntKind.u64.wrap (2 ^ k) = (s0 : Int) := by
    rw [int_pow, ← hs0]
    have h1 := HN0.out.le
    exact wrap_mod _ _ (by omega)
  have hp0 : ¬ (s0 : Int) = 0 := by have := HN0.out.pos; omega
  obtain ⟨q0, t0, n0, e1, e2, e3, e4, e5, e6⟩ := newton_words HN0.out hxb
  have HE5 : Hid (n0 = (s0 + x / s0) / 2) := e5
  clear hs0 HN e5
  go_enter Try.func70, Try.ntmps70
  go_wp2_with fail
  refine (len_any x w hxb).mono ?_
  rintro e w' ⟨rfl, hw⟩
  obtain rfl := hw.symm
  clear hw
  rw [← HL.out]
  go_wp2_with fail
  clear hw0 hp0 e1 e2 e3 e4
  go_loopg [5, 6] s0 (fun gk sv nv wr => sv = U gk ∧ ∃ n2 : Nat, nv = U n2 ∧ Hid (n2 = (gk + x / gk) / 2) ∧ Hid (NewR x gk) ∧ wr = w)
  case atStart => exact ⟨rfl, n0, rfl, HE5, HN0, rfl⟩
  case round =>
    obtain ⟨rfl, n2, rfl, HE, HR, hwr⟩ := hrel
    obtain rfl := hwr.symm
    clear hwr
    by_cases hlt : n2 < gk
    · have HR2 : Hid (NewR x n2) := by rw [HE.out]; exact HR.out.step h0 (by rw [← HE.out]; exact hlt)
      obtain ⟨q2, t2, n3, f1, f2, f3, f4, f5, f6⟩ := newton_words HR2.out hxb
      have HF5 : Hid (n3 = (n2 + x / n2) / 2) := f5
      have hp2 : ¬ (n2 : Int) = 0 := by have := HR2.out.pos; omega
      have hlt' : (n2 : Int) < (gk : Int) := by omega
      clear f5
      go_wp2_with fail
      go_roundg n2
      case measure => omega
      case rel => exact ⟨rfl, n3, rfl, HF5, HR2, rfl⟩
    · have hlt' : ¬ (n2 : Int) < (gk : Int) := by omega
      have hd := HR.out.done (by rw [← HE.out]; omega)
      have HD : Hid (gk * gk ≤ x ∧ x ≤ gk * gk + 2 * gk) := hd
      have hgb := HR.out.le
      obtain ⟨sq, hsq⟩ : ∃ sq, sq = gk * gk := ⟨_, rfl⟩
      have g1 : IntKind.u64.wrap ((gk : Int) * (gk : Int)) = (sq : Int) := by
        have e : ((gk : Int) * (gk : Int)) = ((gk * gk : Nat) : Int) := by simp
        rw [e, ← hsq]
        refine wrap_mod _ _ ?_
        rw [B64_eq] at hxb
        omega
      obtain ⟨re, hre⟩ : ∃ re, re = x - sq := ⟨_, rfl⟩
      have g2 : IntKind.u64.wrap ((x : Int) - (sq : Int)) = (re : Int) := wrap_mod _ _ (by rw [B64_eq] at hxb; omega)
      have hreb : re < B64 := by omega
      have HRE : Hid (re = x - gk * gk) := by rw [← hsq]; exact hre
      have hgk : gk < B64 := by rw [B64_eq]; omega
      clear hd hsq hre hlt
      go_wp2_with fail
      refine (word_any gk w hgk).mono ?_
      rintro e w1 ⟨p1, m1, z1, rfl, ho1, hn1, hm1, hb1⟩
      have N1 : Hid (Nf B64 z1 gk) := hn1
      clear hn1
      go_wp2_with fail
      refine (word_any re w1 hreb).mono ?_
      rintro e w2 ⟨p2, m2, z2, rfl, ho2, hn2, hm2, hb2⟩
      have N2 : Hid (Nf B64 z2 re) := hn2
      clear hn2
      go_wp2_with fail
      go_ret2
      refine ⟨_, _, rfl, ⟨gk, p1, m1, z1, p2, m2, z2, HD.out.1, HD.out.2, rfl, ho1.below hb2, N1.out, by omega, rfl, ho2.mono hb1.size, ?_, by omega⟩, Below.on hb1 hb2⟩
      rw [← HRE.out]; exact N2.out
end Go.Proofs.Ytjkhpkjpiifhoaa
