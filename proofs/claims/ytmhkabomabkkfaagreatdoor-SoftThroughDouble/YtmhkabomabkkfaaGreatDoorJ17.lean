import Derived.Test.YtmhkabomabkkfaaGreatDoorJ12
import Derived.Test.YtmhkabomabkkfaaGreatDoorJ11
import Derived.Test.YtmhkabomabkkfaaGreatDoorJ15
import Derived.Test.YtmhkabomabkkfaaGreatDoorJ8
import Derived.Test.YtmhkabomabkkfaaGreatDoorJ10
import Derived.Test.YtmhkabomabkkfaaGreatDoorJ16
import Derived.Test.YtmhkabomabkkfaaGreatDoorJ14
import Derived.Test.YtmhkabomabkkfaaGreatDoorJ13
namespace Go.Proofs.YtmhkabomabkkfaaGreatDoor
open Go.RowKit Go.Shelf
set_option maxRecDepth 20000
set_option maxHeartbeats 0
theorem newton_ge {x s r : Nat} (_hs : 0 < s) (hr : r * r ≤ x) : r ≤ (s + x / s) / 2 := by
  rw [Nat.le_div_iff_mul_le (by decide)]
  by_cases h : 2 * r ≤ s
  · have h3 : 0 ≤ x / s := Nat.zero_le _
    generalize x / s = e at *
    omega
  · have h1 : (2 * r - s) * s ≤ x := by
      refine Nat.le_trans ?_ hr
      obtain ⟨t, ht⟩ : ∃ t, 2 * r = s + t := ⟨2 * r - s, by omega⟩
      rw [ht, Nat.add_sub_cancel_left]
      rcases Nat.le_total s r with hsr | hsr
      · obtain ⟨u, hu⟩ : ∃ u, r = s + u := ⟨r - s, by omega⟩
        subst hu
        obtain rfl : t = s + 2 * u := by omega
        rw [Nat.add_mul, Nat.mul_add, Nat.add_mul, Nat.add_mul s u u]
        have : 2 * u * s = s * u + u * s := by rw [Nat.mul_comm s u, Nat.mul_assoc]; omega
        omega
      · obtain ⟨u, hu⟩ : ∃ u, s = r + u := ⟨s - r, by omega⟩
        subst hu
        obtain ⟨t', ht'⟩ : ∃ t', r = t' + u := ⟨r - u, by omega⟩
        subst ht'
        obtain rfl : t = t' := by omega
        have e : t * (t + u + u) + u * u = (t + u) * (t + u) := by rw [Nat.mul_add, Nat.mul_add, Nat.add_mul, Nat.mul_add, Nat.mul_add, Nat.mul_comm u t]; omega
        omega
    have h2 : 2 * r - s ≤ x / s := (Nat.le_div_iff_mul_le _hs).2 h1
    generalize x / s = e at *
    omega
structure NewR (x s : Nat) : Prop where
  pos : 0 < s
  le : s ≤ 4294967296
  lt : x < (s + 1) * (s + 1)
theorem NewR.step {x s : Nat} (h : NewR x s) (h0 : x ≠ 0) (hlt : (s + x / s) / 2 < s) : NewR x ((s + x / s) / 2) := by
  have h1 := h.le
  have hx : x < ((s + x / s) / 2 + 1) * ((s + x / s) / 2 + 1) := by
    rcases Nat.lt_or_ge x (((s + x / s) / 2 + 1) * ((s + x / s) / 2 + 1)) with e | e
    · exact e
    · have := newton_ge h.pos e; omega
  refine ⟨?_, by omega, hx⟩
  rcases Nat.eq_zero_or_pos ((s + x / s) / 2) with e | e
  · rw [e] at hx; omega
  · exact e
theorem NewR.done {x s : Nat} (h : NewR x s) (hge : s ≤ (s + x / s) / 2) : s * s ≤ x ∧ x ≤ s * s + 2 * s := by
  have h1 : s ≤ x / s := by omega
  have h2 := (Nat.le_div_iff_mul_le h.pos).1 h1
  have h3 := h.lt
  rw [Nat.add_mul, Nat.mul_add] at h3
  exact ⟨h2, by omega⟩
theorem NewR.start {x k L : Nat} (hL : L = bitsN x) (hk : k = (L + 1) / 2) (hb : L ≤ 64) : NewR x (2 ^ k) := by
  refine ⟨Nat.two_pow_pos k, ?_, ?_⟩
  · exact Nat.le_trans (Nat.pow_le_pow_right (by decide) (show k ≤ 32 by omega)) (by decide)
  · have h1 := bitsN_lt x
    rw [← hL] at h1
    have h2 : (2:Nat) ^ L ≤ 2 ^ (k + k) := Nat.pow_le_pow_right (by decide) (by omega)
    rw [Nat.pow_add] at h2
    rw [Nat.add_mul, Nat.mul_add]; omega

theorem newton_words {x s : Nat} (h : NewR x s) (hxb : x < B64) : ∃ q t n2 : Nat, IntKind.u64.wrap ((x : Int) / (s : Int)) = (q : Int) ∧ IntKind.u64.wrap ((s : Int) + (q : Int)) = (t : Int) ∧ (t : Int).tdiv 2 = (n2 : Int) ∧ IntKind.u64.wrap (n2 : Int) = (n2 : Int) ∧ n2 = (s + x / s) / 2 ∧ n2 < B64 := by
  have h1 := h.lt; have h2 := h.le; have h3 := h.pos
  have hq : x / s ≤ s + 2 := by
    refine Nat.lt_succ_iff.1 (Nat.div_lt_of_lt_mul ?_)
    rw [Nat.mul_succ, Nat.mul_add]
    rw [Nat.add_mul, Nat.mul_add] at h1
    omega
  rw [B64_eq] at *
  refine ⟨x / s, s + x / s, (s + x / s) / 2, u_quo x s (by rw [B64_eq]; exact hxb), ?_, ?_, ?_, rfl, ?_⟩ <;> generalize x / s = e at *
  · exact wrap_mod _ _ (by omega)
  · rw [Int.tdiv_eq_ediv_of_nonneg (by omega)]; omega
  · exact wrap_mod _ _ (by omega)
  · omega

structure RootTo (w : World) (a : Nat) (v1 v2 : Value) (w' : World) : Prop where
  val : ∃ s p m zs p' m' zs', s * s ≤ a ∧ a ≤ s * s + 2 * s ∧ v1 = .slice p m m ∧ Own w.heap.size w' p m zs ∧ Nf B64 zs s ∧ m ≤ 8192 ∧ v2 = .slice p' m' m' ∧ Own w.heap.size w' p' m' zs' ∧ Nf B64 zs' (a - s * s) ∧ m' ≤ 8192
  bel : Below w.heap.size w w'
  ap : Ap2 v1 v2

theorem wordroot_any {g off c x : Nat} {w : World} (h : At w (some ⟨g, off, none⟩) 1 c [x]) (h0 : x ≠ 0) :
    Calls Tryz.prog 148 #[.slice (some ⟨g, off, none⟩) 1 c] w fun e w' => ∃ v1 v2, e = .returned (.tuple #[v1, v2]) ∧ RootTo w x v1 v2 w' := by
  have hxb : x < B64 := h.dig.head
  have hcx : w.cell? ⟨g, off, none⟩ = some (U x) := h.cellAt 0 (by omega)
  have cap := h.cap
  obtain ⟨L, hL⟩ : ∃ L, L = bitsN x := ⟨_, rfl⟩
  have hLb : L ≤ 64 := by rw [hL]; exact bits64 hxb
  obtain ⟨k, hk⟩ : ∃ k, k = (L + 1) / 2 := ⟨_, rfl⟩
  have HN : Hid (NewR x (2 ^ k)) := NewR.start hL hk hLb
  have hkt : ((L : Int) + 1).tdiv 2 = (k : Int) := by rw [Int.tdiv_eq_ediv_of_nonneg (by omega)]; omega
  have hk32 : k ≤ 32 := by omega
  have HL : Hid (L = bitsN x) := hL
  clear hL hk
  obtain ⟨s0, hs0⟩ : ∃ s0, s0 = 2 ^ k := ⟨_, rfl⟩
  have HN0 : Hid (NewR x s0) := by rw [hs0]; exact HN.out
  have hw0 : IntKind.u64.wrap (2 ^ k) = (s0 : Int) := by
    rw [int_pow, ← hs0]
    have h1 := HN0.out.le
    exact wrap_mod _ _ (by omega)
  have hp0 : ¬ (s0 : Int) = 0 := by have := HN0.out.pos; omega
  obtain ⟨q0, t0, n0, e1, e2, e3, e4, e5, e6⟩ := newton_words HN0.out hxb
  have HE5 : Hid (n0 = (s0 + x / s0) / 2) := e5
  clear hs0 HN e5
  go_enter Tryz.func148, Tryz.ntmps148
  go_wp2_with fail
  refine (len_any x w hxb).mono ?_
  rintro e w' ⟨rfl, hw⟩
  obtain rfl := hw.symm
  clear hw
  rw [← HL.out]
  go_wp2_with fail
  clear hw0 hp0 e1 e2 e3 e4
  go_loopg [5, 6] s0 (fun gk sv nv wr => sv = U gk ∧ ∃ n2 : Nat, nv = U n2 ∧ Hid (n2 = (gk + x / gk) / 2) ∧ Hid (NewR x gk) ∧ wr = w)
  case atStart => exact ⟨rfl, n0, rfl, HE5, HN0, rfl⟩
  case round =>
    obtain ⟨rfl, n2, rfl, HE, HR, hwr⟩ := hrel
    obtain rfl := hwr.symm
    clear hwr
    by_cases hlt : n2 < gk
    · have HR2 : Hid (NewR x n2) := by rw [HE.out]; exact HR.out.step h0 (by rw [← HE.out]; exact hlt)
      obtain ⟨q2, t2, n3, f1, f2, f3, f4, f5, f6⟩ := newton_words HR2.out hxb
      have HF5 : Hid (n3 = (n2 + x / n2) / 2) := f5
      have hp2 : ¬ (n2 : Int) = 0 := by have := HR2.out.pos; omega
      have hlt' : (n2 : Int) < (gk : Int) := by omega
      clear f5
      go_wp2_with fail
      go_roundg n2
      case measure => omega
      case rel => exact ⟨rfl, n3, rfl, HF5, HR2, rfl⟩
    · have hlt' : ¬ (n2 : Int) < (gk : Int) := by omega
      have hd := HR.out.done (by rw [← HE.out]; omega)
      have HD : Hid (gk * gk ≤ x ∧ x ≤ gk * gk + 2 * gk) := hd
      have hgb := HR.out.le
      obtain ⟨sq, hsq⟩ : ∃ sq, sq = gk * gk := ⟨_, rfl⟩
      have g1 : IntKind.u64.wrap ((gk : Int) * (gk : Int)) = (sq : Int) := by
        have e : ((gk : Int) * (gk : Int)) = ((gk * gk : Nat) : Int) := by simp
        rw [e, ← hsq]
        refine wrap_mod _ _ ?_
        rw [B64_eq] at hxb
        omega
      obtain ⟨re, hre⟩ : ∃ re, re = x - sq := ⟨_, rfl⟩
      have g2 : IntKind.u64.wrap ((x : Int) - (sq : Int)) = (re : Int) := wrap_mod _ _ (by rw [B64_eq] at hxb; omega)
      have hreb : re < B64 := by omega
      have HRE : Hid (re = x - gk * gk) := by rw [← hsq]; exact hre
      have hgk : gk < B64 := by rw [B64_eq]; omega
      clear hd hsq hre hlt
      go_wp2_with fail
      refine (word_any gk w hgk).mono ?_
      rintro e w1 ⟨p1, m1, z1, rfl, ho1, hn1, hm1, hb1⟩
      have N1 : Hid (Nf B64 z1 gk) := hn1
      clear hn1
      go_wp2_with fail
      refine (word_any re w1 hreb).mono ?_
      rintro e w2 ⟨p2, m2, z2, rfl, ho2, hn2, hm2, hb2⟩
      have N2 : Hid (Nf B64 z2 re) := hn2
      clear hn2
      go_wp2_with fail
      go_ret2
      refine ⟨_, _, rfl, ⟨gk, p1, m1, z1, p2, m2, z2, HD.out.1, HD.out.2, rfl, ho1.below hb2, N1.out, by omega, rfl, ho2.mono hb1.size, ?_, by omega⟩, Below.on hb1 hb2, ap_own ho1 ho2⟩
      rw [← HRE.out]; exact N2.out
end Go.Proofs.YtmhkabomabkkfaaGreatDoor
namespace Go.Proofs.YtmhkabomabkkfaaGreatDoor
set_option maxRecDepth 20000
set_option maxHeartbeats 0
structure RootC (a h P d o last : Nat) : Prop where
  id : a + d * d = (P * h + d) * (P * h + d) + (P * o + last)
  dP : d ≤ P
  big : (P * h) * (P * h) ≤ a
  lf : P * o + last < 2 * (P * h)
  dd : d * d ≤ 2 * (P * h)
  hh : 6 ≤ h
  pp : 1 ≤ P
theorem root_core {a h l P next last d o : Nat} (ha : a = (h * h + l) * (P * P) + (P * next + last)) (hl : l ≤ 2 * h) (hn : next < P) (hla : last < P) (hd : P * l + next = d * (2 * h) + o) (ho : o < 2 * h) (hP : P ≤ 2 * h) (h6 : 6 ≤ h) : RootC a h P d o last := by
  have hdP : d ≤ P := by
    have h1 : d * (2 * h) < (P + 1) * (2 * h) := by
      have h2 : P * l ≤ P * (2 * h) := Nat.mul_le_mul_left _ hl
      rw [Nat.add_mul, Nat.one_mul]; omega
    have := Nat.lt_of_mul_lt_mul_right h1
    omega
  have hid : a + d * d = (P * h + d) * (P * h + d) + (P * o + last) := by
    have h1 : P * (P * l + next) = P * (d * (2 * h) + o) := by rw [hd]
    rw [Nat.mul_add, Nat.mul_add] at h1
    have h2 : (h * h + l) * (P * P) = (P * h) * (P * h) + P * (P * l) := by
      rw [Nat.add_mul]
      have e1 : h * h * (P * P) = P * h * (P * h) := by rw [Nat.mul_mul_mul_comm, Nat.mul_comm h P]
      have e2 : l * (P * P) = P * (P * l) := by rw [Nat.mul_comm, Nat.mul_assoc]
      omega
    have h3 : (P * h + d) * (P * h + d) = (P * h) * (P * h) + P * (d * (2 * h)) + d * d := by
      have e1 : P * (d * (2 * h)) = P * h * d + d * (P * h) := by
        rw [Nat.mul_comm 2 h, ← Nat.mul_assoc d h 2, ← Nat.mul_assoc P (d * h) 2, Nat.mul_comm d (P * h), Nat.mul_comm d h, ← Nat.mul_assoc P h d]; omega
      rw [Nat.add_mul, Nat.mul_add, Nat.mul_add]; omega
    omega
  refine ⟨hid, hdP, ?_, ?_, ?_, h6, by omega⟩
  · have e1 : h * h * (P * P) = P * h * (P * h) := by rw [Nat.mul_mul_mul_comm, Nat.mul_comm h P]
    rw [ha, Nat.add_mul]; omega
  · have h1 : P * (o + 1) ≤ P * (2 * h) := Nat.mul_le_mul_left _ ho
    rw [Nat.mul_add, Nat.mul_one, Nat.mul_left_comm] at h1
    omega
  · have h1 : d * d ≤ P * P := Nat.mul_le_mul hdP hdP
    have h2 : P * P ≤ P * (2 * h) := Nat.mul_le_mul_left _ hP
    rw [Nat.mul_left_comm] at h2
    omega
theorem RootC.le {a h P d o last : Nat} (c : RootC a h P d o last) : 6 * (P * h) ≤ a ∧ P ≤ P * h ∧ h ≤ P * h := by
  have h1 : P * 6 ≤ P * h := Nat.mul_le_mul_left _ c.hh
  have h2 : 1 * h ≤ P * h := Nat.mul_le_mul_right _ c.pp
  have h3 : 6 * (P * h) ≤ (P * h) * (P * h) := Nat.mul_le_mul_right _ (by have := c.pp; omega)
  have := c.big
  exact ⟨by omega, by omega, by omega⟩
theorem RootC.fin {a h P d o last : Nat} (c : RootC a h P d o last) :
    (P * o + last < d * d → 1 ≤ P * h + d ∧ d * d ≤ P * o + last + 2 * (P * h + d) - 1) ∧
    (let S := if P * o + last < d * d then P * h + d - 1 else P * h + d
     let T := if P * o + last < d * d then P * o + last + 2 * (P * h + d) - 1 - d * d else P * o + last - d * d
     S * S ≤ a ∧ a ≤ S * S + 2 * S ∧ T = a - S * S) := by
  have h1 := c.id; have h2 := c.lf; have h3 := c.dd
  have hl := c.le
  refine ⟨fun hlt => ?_, ?_⟩
  · have hd1 : 1 ≤ d := by
      rcases Nat.eq_zero_or_pos d with e | e
      · subst e; simp at hlt
      · exact e
    exact ⟨by omega, by omega⟩
  · by_cases hlt : P * o + last < d * d
    · have hd1 : 1 ≤ d := by
        rcases Nat.eq_zero_or_pos d with e | e
        · subst e; simp at hlt
        · exact e
      simp only [if_pos hlt]
      generalize P * o + last = lf at *
      obtain ⟨S, hS⟩ : ∃ S, P * h + d = S + 1 := ⟨P * h + d - 1, by omega⟩
      rw [hS] at h1 ⊢
      have e1 : (S + 1) * (S + 1) = S * S + 2 * S + 1 := by rw [Nat.add_mul, Nat.mul_add]; omega
      rw [Nat.add_sub_cancel]
      rw [e1] at h1
      have h4 : d * d ≤ 2 * (S + 1) := by omega
      generalize d * d = dd at *
      generalize S * S = ss at *
      exact ⟨by omega, by omega, by omega⟩
    · simp only [if_neg hlt]
      generalize P * o + last = lf at *
      have h4 : lf ≤ 2 * (P * h + d) := by omega
      generalize P * h + d = S at *
      generalize d * d = dd at *
      generalize S * S = ss at *
      exact ⟨by omega, by omega, by omega⟩
theorem half_big {a n k h : Nat} (hn : n = bitsN a) (hk : k = n / 4) (hn65 : 65 ≤ n) (hh : a / 2 ^ (2 * k) ≤ h * h + 2 * h) : 2 ^ k ≤ 2 * h ∧ 6 ≤ h := by
  have ha : a ≠ 0 := by intro e; subst e; rw [bitsN_zero] at hn; omega
  have h1 := bitsN_le a ha
  rw [← hn] at h1
  have h2 : 2 ^ (2 * k - 1) ≤ a / 2 ^ (2 * k) := by
    rw [Nat.le_div_iff_mul_le (Nat.two_pow_pos _), ← Nat.pow_add]
    exact Nat.le_trans (Nat.pow_le_pow_right (by decide) (by omega)) h1
  have h3 : 2 ^ (k - 1) ≤ h := by
    rcases Nat.lt_or_ge h (2 ^ (k - 1)) with e | e
    · exfalso
      have e1 : (h + 1) * (h + 1) ≤ 2 ^ (k - 1) * 2 ^ (k - 1) := Nat.mul_le_mul e e
      rw [← Nat.pow_add] at e1
      have e2 : (2:Nat) ^ (k - 1 + (k - 1)) ≤ 2 ^ (2 * k - 1) := Nat.pow_le_pow_right (by decide) (by omega)
      have e3 : (h + 1) * (h + 1) = h * h + 2 * h + 1 := by rw [Nat.add_mul, Nat.mul_add]; omega
      omega
    · exact e
  have h4 : (2:Nat) ^ 3 ≤ 2 ^ (k - 1) := Nat.pow_le_pow_right (by decide) (by omega)
  have h5 : (2:Nat) ^ k = 2 * 2 ^ (k - 1) := by rw [← Nat.pow_succ', show (k - 1).succ = k by omega]
  exact ⟨by omega, by omega⟩
theorem split_low (a k : Nat) : a = a / 2 ^ (2 * k) * (2 ^ k * 2 ^ k) + (2 ^ k * (a % 2 ^ (2 * k) / 2 ^ k) + a % 2 ^ (2 * k) % 2 ^ k) := by
  have h1 := Nat.div_add_mod a (2 ^ (2 * k))
  have h2 := Nat.div_add_mod (a % 2 ^ (2 * k)) (2 ^ k)
  rw [h2, ← Nat.pow_add, show k + k = 2 * k by omega, Nat.mul_comm]; omega
end Go.Proofs.YtmhkabomabkkfaaGreatDoor
namespace Go.Proofs.YtmhkabomabkkfaaGreatDoor
open Go.RowKit Go.Shelf
set_option maxRecDepth 20000
set_option maxHeartbeats 0
theorem join_any {p q : Option Addr} {n m c d : Nat} {xs ys : List Nat} {a b : Nat} {w : World} (h : Num w p n c xs a) (k : Num w q m d ys b) (K : Nat) (hK : K ≤ 9223372036854775807) (hl : 2 ^ K * a + b < LIM) :
    Calls Tryz.prog 151 #[.slice p n c, .slice q m d, .int .i64 K] w fun e w' => ∃ p' m' zs, e = .returned (.slice p' m' m') ∧ Own w.heap.size w' p' m' zs ∧ Nf B64 zs (2 ^ K * a + b) ∧ m' ≤ 8192 ∧ Below w.heap.size w w' := by
  have H : Hid (Num w p n c xs a) := h
  have KK : Hid (Num w q m d ys b) := k
  have L : Hid (2 ^ K * a + b < LIM) := hl
  clear h k hl
  go_enter Tryz.func151, Tryz.ntmps151
  go_wp2_with fail
  refine (shl_nf H.out.at_ H.out.nf H.out.le K hK).mono ?_
  rintro e w1 ⟨ha1, hb1⟩
  obtain ⟨p1, m1, z1, rfl, ho1, hn1, hm1⟩ := ha1.ok (Nat.lt_of_le_of_lt (Nat.le_add_right _ _) L.out)
  have N1 : Hid (Num w1 p1 m1 m1 z1 (2 ^ K * a)) := Num.of ho1 hn1 hm1
  have K1 : Hid (Num w1 q m d ys b) := KK.out.below hb1
  clear ha1 ho1 hn1
  go_wp2_with fail
  refine (add_ord N1.out.at_ K1.out.at_ N1.out.nf K1.out.nf N1.out.le K1.out.le).mono ?_
  rintro e w2 ⟨ha2, hb2⟩
  obtain ⟨p2, m2, z2, rfl, ho2, hn2, hm2⟩ := ha2.ok L.out
  have N2 : Hid (Nf B64 z2 (2 ^ K * a + b)) := hn2
  have hbw := Below.on hb1 hb2
  have hsz := hb1.size
  clear ha2 hn2
  go_wp2_with fail
  go_ret
  exact ⟨p2, m2, z2, rfl, ho2.mono hsz, N2.out, hm2, hbw⟩

theorem cmp_nf {p q : Option Addr} {n m c d : Nat} {xs ys : List Nat} {a b : Nat} {w : World} (h : Num w p n c xs a) (k : Num w q m d ys b) :
    Calls Tryz.prog 154 #[.slice p n c, .slice q m d] w fun e w' => e = .returned (.int .i64 (cmpN a b)) ∧ Below w.heap.size w w' := by
  have := cmp_w h.at_ k.at_
  rw [h.nf.val, k.nf.val] at this; exact this

structure SettleTo (B : Nat) (s r : Nat) (v1 v2 : Value) (w w' : World) : Prop where
  ap : Ap2 v1 v2
  v1 : ∃ p m zs, v1 = .slice p m m ∧ Own B w' p m zs ∧ Nf B64 zs s ∧ m ≤ 8192
  v2 : ∃ p m zs, v2 = .slice p m m ∧ Own B w' p m zs ∧ Nf B64 zs r ∧ m ≤ 8192
  bel : Below w.heap.size w w'

theorem sub_ok {p q : Option Addr} {n m c d : Nat} {xs ys : List Nat} {a b : Nat} {w : World} (h : Num w p n c xs a) (k : Num w q m d ys b) (hle : b ≤ a) :
    Calls Tryz.prog 155 #[.slice p n c, .slice q m d] w fun e w' => (∃ p m zs, e = .returned (.tuple #[.slice p m m, .int .i64 0]) ∧ Own w.heap.size w' p m zs ∧ Nf B64 zs (a - b) ∧ m ≤ 8192) ∧ Below w.heap.size w w' := by
  refine (sub_nf h.at_ k.at_ h.nf k.nf h.le k.le).mono ?_
  rintro e w' ⟨h1 | h1, hb⟩
  · exact ⟨h1.2, hb⟩
  · exact absurd h1.1 (by omega)

theorem settle_any {p q r : Option Addr} {n m l : Nat} {xs ys zs : List Nat} {R Lft D B : Nat} {w : World} (h0 : Own B w p n xs) (hB : B ≤ w.heap.size) (h : Num w p n n xs R) (k : Num w q m m ys Lft) (t : Num w r l l zs D) (hD : D * D < LIM) (hR : 2 * R < LIM) (hL : Lft + 2 * R < LIM) (hlow : Lft < D * D → 1 ≤ R ∧ D * D ≤ Lft + 2 * R - 1) :
    Calls Tryz.prog 152 #[.slice p n n, .slice q m m, .slice r l l] w fun e w' => ∃ v1 v2, e = .returned (.tuple #[v1, v2]) ∧
      SettleTo B (if Lft < D * D then R - 1 else R) (if Lft < D * D then Lft + 2 * R - 1 - D * D else Lft - D * D) v1 v2 w w' := by
  obtain ⟨S, hS⟩ : ∃ S, S = if Lft < D * D then R - 1 else R := ⟨_, rfl⟩
  obtain ⟨T, hT⟩ : ∃ T, T = if Lft < D * D then Lft + 2 * R - 1 - D * D else Lft - D * D := ⟨_, rfl⟩
  rw [← hS, ← hT]
  have HS : Hid (S = if Lft < D * D then R - 1 else R) := hS
  have HT : Hid (T = if Lft < D * D then Lft + 2 * R - 1 - D * D else Lft - D * D) := hT
  have HO : Hid (Own B w p n xs) := h0
  have H : Hid (Num w p n n xs R) := h
  have K : Hid (Num w q m m ys Lft) := k
  have TT : Hid (Num w r l l zs D) := t
  have LD : Hid (D * D < LIM) := hD
  have LR : Hid (2 * R < LIM) := hR
  have LL : Hid (Lft + 2 * R < LIM) := hL
  have HLOW : Hid (Lft < D * D → 1 ≤ R ∧ D * D ≤ Lft + 2 * R - 1) := hlow
  have hBs := hB
  clear hS hT h0 h k t hD hR hL hlow
  go_enter Tryz.func152, Tryz.ntmps152
  go_wp2_with fail
  refine (sqr_any TT.out.at_ TT.out.nf TT.out.le).mono ?_
  rintro e v1 ⟨ha1, hb1⟩
  obtain ⟨r1, t1, y1, rfl, ho1, hn1, hm1⟩ := ha1.ok LD.out
  have SQ : Hid (Num v1 r1 t1 t1 y1 (D * D)) := Num.of ho1 hn1 hm1
  clear ha1 ho1 hn1
  have hBsy : B ≤ v1.heap.size := Nat.le_trans hBs hb1.size
  clear hBs
  have hBs := hBsy
  clear hBsy
  replace HO : Hid (Own B v1 p n xs) := HO.out.below hb1
  replace H : Hid _ := H.out.below hb1
  replace K : Hid _ := K.out.below hb1
  have hbw := hb1
  clear hb1
  clear TT
  go_wp2_with fail
  refine (cmp_nf K.out SQ.out).mono ?_
  rintro e v2 ⟨rfl, hb2⟩
  have hBsy : B ≤ v2.heap.size := Nat.le_trans hBs hb2.size
  clear hBs
  have hBs := hBsy
  clear hBsy
  replace HO : Hid (Own B v2 p n xs) := HO.out.below hb2
  replace H : Hid _ := H.out.below hb2
  replace K : Hid _ := K.out.below hb2
  replace SQ : Hid _ := SQ.out.below hb2
  have hbwy := Below.on hbw hb2
  clear hbw
  have hbw := hbwy
  clear hbwy
  clear hb2
  by_cases hlt : Lft < D * D
  · have hc : cmpN Lft (D * D) = -1 := cmpN_lt hlt
    rw [hc]
    have HL : Hid (1 ≤ R ∧ D * D ≤ Lft + 2 * R - 1) := HLOW.out hlt
    have ES : Hid (S = R - 1) := by have := HS.out; rw [if_pos hlt] at this; exact this
    have ET : Hid (T = Lft + 2 * R - 1 - D * D) := by have := HT.out; rw [if_pos hlt] at this; exact this
    clear hc hlt HS HT
    go_wp2_with fail
    rw [show Value.int IntKind.i64 1 = .int .i64 ((1 : Nat) : Int) from rfl]
    go_wp2_with fail
    refine (shl_nf H.out.at_ H.out.nf H.out.le 1 (by omega)).mono ?_
    rintro e v3 ⟨ha3, hb3⟩
    rw [Nat.pow_one] at ha3
    obtain ⟨r3, t3, y3, rfl, ho3, hn3, hm3⟩ := ha3.ok LR.out
    have TW : Hid (Num v3 r3 t3 t3 y3 (2 * R)) := Num.of ho3 hn3 hm3
    clear ha3 ho3 hn3
    have hBsy : B ≤ v3.heap.size := Nat.le_trans hBs hb3.size
    clear hBs
    have hBs := hBsy
    clear hBsy
    replace HO : Hid (Own B v3 p n xs) := HO.out.below hb3
    replace H : Hid _ := H.out.below hb3
    replace K : Hid _ := K.out.below hb3
    replace SQ : Hid _ := SQ.out.below hb3
    have hbwy := Below.on hbw hb3
    clear hbw
    have hbw := hbwy
    clear hbwy
    clear hb3
    go_wp2_with fail
    rw [show Value.int IntKind.u64 1 = U 1 from rfl]
    refine (word_any 1 v3 (by decide)).mono ?_
    rintro e v4 ⟨r4, t4, y4, rfl, ho4, hn4, hm4, hb4⟩
    have ONE : Hid (Num v4 r4 t4 t4 y4 1) := Num.of ho4 hn4 (by omega)
    clear ho4 hn4
    have hBsy : B ≤ v4.heap.size := Nat.le_trans hBs hb4.size
    clear hBs
    have hBs := hBsy
    clear hBsy
    replace HO : Hid (Own B v4 p n xs) := HO.out.below hb4
    replace H : Hid _ := H.out.below hb4
    replace K : Hid _ := K.out.below hb4
    replace SQ : Hid _ := SQ.out.below hb4
    replace TW : Hid _ := TW.out.below hb4
    have hbwy := Below.on hbw hb4
    clear hbw
    have hbw := hbwy
    clear hbwy
    clear hb4
    go_wp2_with fail
    refine (sub_ok H.out ONE.out HL.out.1).mono ?_
    rintro e v5 ⟨⟨r5, t5, y5, rfl, ho5, hn5, hm5⟩, hb5⟩
    have RM : Hid (Num v5 r5 t5 t5 y5 (R - 1)) := Num.of ho5 hn5 hm5
    have RMo : Hid (Own B v5 r5 t5 y5) := ho5.mono hBs
    clear ho5 hn5
    have hBsy : B ≤ v5.heap.size := Nat.le_trans hBs hb5.size
    clear hBs
    have hBs := hBsy
    clear hBsy
    replace HO : Hid (Own B v5 p n xs) := HO.out.below hb5
    replace H : Hid _ := H.out.below hb5
    replace K : Hid _ := K.out.below hb5
    replace SQ : Hid _ := SQ.out.below hb5
    replace TW : Hid _ := TW.out.below hb5
    replace ONE : Hid _ := ONE.out.below hb5
    have hbwy := Below.on hbw hb5
    clear hbw
    have hbw := hbwy
    clear hbwy
    clear hb5
    clear ONE
    clear H
    clear HO
    go_wp2_with fail
    refine (add_ord K.out.at_ TW.out.at_ K.out.nf TW.out.nf K.out.le TW.out.le).mono ?_
    rintro e v6 ⟨ha6, hb6⟩
    obtain ⟨r6, t6, y6, rfl, ho6, hn6, hm6⟩ := ha6.ok LL.out
    have LT : Hid (Num v6 r6 t6 t6 y6 (Lft + 2 * R)) := Num.of ho6 hn6 hm6
    clear ha6 ho6 hn6
    have hBsy : B ≤ v6.heap.size := Nat.le_trans hBs hb6.size
    clear hBs
    have hBs := hBsy
    clear hBsy
    replace K : Hid _ := K.out.below hb6
    replace SQ : Hid _ := SQ.out.below hb6
    replace TW : Hid _ := TW.out.below hb6
    replace RM : Hid _ := RM.out.below hb6
    replace RMo : Hid (Own B v6 r5 t5 y5) := RMo.out.below hb6
    have hbwy := Below.on hbw hb6
    clear hbw
    have hbw := hbwy
    clear hbwy
    clear hb6
    clear K
    clear TW
    go_wp2_with fail
    rw [show Value.int IntKind.u64 1 = U 1 from rfl]
    refine (word_any 1 v6 (by decide)).mono ?_
    rintro e v7 ⟨r7, t7, y7, rfl, ho7, hn7, hm7, hb7⟩
    have ONE : Hid (Num v7 r7 t7 t7 y7 1) := Num.of ho7 hn7 (by omega)
    clear ho7 hn7
    have hBsy : B ≤ v7.heap.size := Nat.le_trans hBs hb7.size
    clear hBs
    have hBs := hBsy
    clear hBsy
    replace SQ : Hid _ := SQ.out.below hb7
    replace RM : Hid _ := RM.out.below hb7
    replace RMo : Hid (Own B v7 r5 t5 y5) := RMo.out.below hb7
    replace LT : Hid _ := LT.out.below hb7
    have hbwy := Below.on hbw hb7
    clear hbw
    have hbw := hbwy
    clear hbwy
    clear hb7
    go_wp2_with fail
    refine (sub_ok LT.out ONE.out (by have := HL.out.1; omega)).mono ?_
    rintro e v8 ⟨⟨r8, t8, y8, rfl, ho8, hn8, hm8⟩, hb8⟩
    have LM : Hid (Num v8 r8 t8 t8 y8 (Lft + 2 * R - 1)) := Num.of ho8 hn8 hm8
    clear ho8 hn8
    have hBsy : B ≤ v8.heap.size := Nat.le_trans hBs hb8.size
    clear hBs
    have hBs := hBsy
    clear hBsy
    replace SQ : Hid _ := SQ.out.below hb8
    replace RM : Hid _ := RM.out.below hb8
    replace RMo : Hid (Own B v8 r5 t5 y5) := RMo.out.below hb8
    replace LT : Hid _ := LT.out.below hb8
    replace ONE : Hid _ := ONE.out.below hb8
    have hbwy := Below.on hbw hb8
    clear hbw
    have hbw := hbwy
    clear hbwy
    clear hb8
    clear ONE
    clear LT
    go_wp2_with fail
    refine (sub_ok LM.out SQ.out HL.out.2).mono ?_
    rintro e v9 ⟨⟨r9, t9, y9, rfl, ho9, hn9, hm9⟩, hb9⟩
    have RE : Hid (Num v9 r9 t9 t9 y9 (Lft + 2 * R - 1 - D * D)) := Num.of ho9 hn9 hm9
    have REo : Hid (Own B v9 r9 t9 y9) := ho9.mono hBs
    have HAP : Hid (Ap2 (.slice r5 t5 t5) (.slice r9 t9 t9)) := ap_own RMo.out ho9
    clear ho9 hn9
    have hBsy : B ≤ v9.heap.size := Nat.le_trans hBs hb9.size
    clear hBs
    have hBs := hBsy
    clear hBsy
    replace SQ : Hid _ := SQ.out.below hb9
    replace RM : Hid _ := RM.out.below hb9
    replace RMo : Hid (Own B v9 r5 t5 y5) := RMo.out.below hb9
    replace LM : Hid _ := LM.out.below hb9
    have hbwy := Below.on hbw hb9
    clear hbw
    have hbw := hbwy
    clear hbwy
    clear hb9
    clear LM
    clear SQ
    go_wp2_with fail
    go_ret2
    refine ⟨_, _, rfl, HAP.out, ⟨_, _, _, rfl, RMo.out, ?_, RM.out.le⟩, ⟨_, _, _, rfl, REo.out, ?_, RE.out.le⟩, hbw⟩
    · rw [ES.out]; exact RM.out.nf
    · rw [ET.out]; exact RE.out.nf
  · have ES : Hid (S = R) := by have := HS.out; rw [if_neg hlt] at this; exact this
    have ET : Hid (T = Lft - D * D) := by have := HT.out; rw [if_neg hlt] at this; exact this
    have HGE : Hid (D * D ≤ Lft) := by show _ ≤ _; omega
    obtain ⟨cc, hcc⟩ : ∃ cc, cc = cmpN Lft (D * D) := ⟨_, rfl⟩
    have hcn : decide (cc < 0) = false := decide_eq_false (by rw [hcc, cmpN_neg]; exact hlt)
    rw [← hcc]
    clear hcc hlt HS HT
    go_wp2_with fail
    refine (sub_ok K.out SQ.out HGE.out).mono ?_
    rintro e v3 ⟨⟨r3, t3, y3, rfl, ho3, hn3, hm3⟩, hb3⟩
    have RE : Hid (Num v3 r3 t3 t3 y3 (Lft - D * D)) := Num.of ho3 hn3 hm3
    have REo : Hid (Own B v3 r3 t3 y3) := ho3.mono hBs
    have HAP : Hid (Ap2 (.slice p n n) (.slice r3 t3 t3)) := ap_own HO.out ho3
    clear ho3 hn3
    have hBsy : B ≤ v3.heap.size := Nat.le_trans hBs hb3.size
    clear hBs
    have hBs := hBsy
    clear hBsy
    replace HO : Hid (Own B v3 p n xs) := HO.out.below hb3
    replace H : Hid _ := H.out.below hb3
    replace K : Hid _ := K.out.below hb3
    replace SQ : Hid _ := SQ.out.below hb3
    have hbwy := Below.on hbw hb3
    clear hbw
    have hbw := hbwy
    clear hbwy
    clear hb3
    clear K
    clear SQ
    go_wp2_with fail
    go_ret2
    refine ⟨_, _, rfl, HAP.out, ⟨_, _, _, rfl, HO.out, ?_, H.out.le⟩, ⟨_, _, _, rfl, REo.out, ?_, RE.out.le⟩, hbw⟩
    · rw [ES.out]; exact H.out.nf
    · rw [ET.out]; exact RE.out.nf
theorem wordroot_nil (p : Option Addr) (c : Nat) (w : World) :
    Calls Tryz.prog 148 #[.slice p 0 c] w fun e w' => e = .returned (.tuple #[.slice none 0 0, .slice none 0 0]) ∧ w' = w := by
  go_enter Tryz.func148, Tryz.ntmps148
  go_wp2_with fail
  go_ret2
  exact ⟨rfl, rfl⟩
theorem rootto_zero (w : World) : RootTo w 0 (.slice none 0 0) (.slice none 0 0) w :=
  ⟨⟨0, none, 0, [], none, 0, [], by omega, by omega, rfl, ⟨rfl, Dig.nil _, .inl rfl⟩, Nf.nil _, by omega, rfl, ⟨rfl, Dig.nil _, .inl rfl⟩, Nf.nil _, by omega⟩, Below.refl _ _, ap_nil⟩
theorem wrap_two (k : Nat) (h : k ≤ 1000000) : IntKind.i64.wrap ((2 : Int) * (k : Int)) = ((2 * k : Nat) : Int) := by
  have : ((2 : Int) * (k : Int)) = ((2 * k : Nat) : Int) := by simp
  rw [this]
  simp [IntKind.wrap, IntKind.signed, IntKind.bits]
  omega

theorem rootof_any : ∀ (N a : Nat), a ≤ N → ∀ {p : Option Addr} {n c : Nat} {xs : List Nat} {w : World}, At w p n c xs → Nf B64 xs a → n ≤ 8192 →
    Calls Tryz.prog 133 #[.slice p n c] w fun e w' => ∃ v1 v2, e = .returned (.tuple #[v1, v2]) ∧ RootTo w a v1 v2 w' := by
  intro N
  induction N with
  | zero =>
    intro a ha p n c xs w h hx hn
    obtain rfl : a = 0 := by omega
    have hn0 : n = 0 := by
      have := (hx.zero_iff B64_one).2 rfl
      rw [← h.len, this]; rfl
    subst hn0
    clear h hx
    go_enter Tryz.func133, Tryz.ntmps133
    go_wp2_with fail
    refine (wordroot_nil p c w).mono ?_
    rintro e w' ⟨rfl, hw⟩
    obtain rfl := hw.symm
    clear hw
    go_wp2_with fail
    go_ret2
    exact ⟨_, _, rfl, rootto_zero w⟩
  | succ N ih =>
    intro a ha p n c xs w h hx hn
    by_cases hn0 : n = 0
    · subst hn0
      have ha0 : a = 0 := (hx.zero_iff B64_one).1 (List.eq_nil_of_length_eq_zero h.len)
      have HA0 : Hid (a = 0) := ha0
      clear h hx ih ha ha0
      go_enter Tryz.func133, Tryz.ntmps133
      go_wp2_with fail
      refine (wordroot_nil p c w).mono ?_
      rintro e w' ⟨rfl, hw⟩
      obtain rfl := hw.symm
      clear hw
      go_wp2_with fail
      go_ret2
      rw [HA0.out]
      exact ⟨_, _, rfl, rootto_zero w⟩
    · obtain ⟨g, off, rfl, _⟩ := h.cells.resolve_left hn0
      by_cases hn1 : n = 1
      · subst hn1
        have e1 := hx.one h.len
        subst e1
        have ha0 : a ≠ 0 := hx.top a (by simp)
        clear ih ha hx
        go_enter Tryz.func133, Tryz.ntmps133
        go_wp2_with fail
        refine (wordroot_any h ha0).mono ?_
        rintro e w1 ⟨v1, v2, rfl, hR⟩
        have HR : Hid (RootTo w a v1 v2 w1) := hR
        clear hR
        go_wp2_with fail
        go_ret2
        exact ⟨_, _, rfl, HR.out⟩
      · have hbig := hx.big h.len (by omega)
        have h64 : 2 ^ 64 ≤ a := by
          refine Nat.le_trans ?_ hbig
          rw [show (2 : Nat) ^ 64 = B64 ^ 1 from rfl]
          exact Nat.pow_le_pow_right B64_pos (by omega)
        have hal : a < LIM := hx.lim.1 (by rw [h.len]; exact hn)
        obtain ⟨nb, hnb⟩ : ∃ nb, nb = bitsN a := ⟨_, rfl⟩
        have hnb65 : 65 ≤ nb := by
          rcases Nat.lt_or_ge nb 65 with e | e
          · have := (lt_pow_bits a 64).2 (by omega); omega
          · exact e
        have hnbt : nb ≤ 524288 := by rw [hnb, ← lim_bits]; exact hal
        obtain ⟨k, hk⟩ : ∃ k, k = nb / 4 := ⟨_, rfl⟩
        have hkb : k ≤ 131072 := by omega
        have hup : a / 2 ^ (2 * k) ≤ N := by
          have : a / 2 ^ (2 * k) < a := Nat.div_lt_self (by omega) (Nat.one_lt_two_pow (by omega))
          omega
        have HUP : Hid (a / 2 ^ (2 * k) ≤ N) := hup
        have HAL : Hid (a < LIM) := hal
        have HNB : Hid (nb = bitsN a) := hnb
        have HKE : Hid (k = nb / 4) := hk
        have HIH : Hid (∀ a, a ≤ N → ∀ {p : Option Addr} {n c : Nat} {xs : List Nat} {w : World}, At w p n c xs → Nf B64 xs a → n ≤ 8192 → Calls Tryz.prog 133 #[.slice p n c] w fun e w' => ∃ v1 v2, e = .returned (.tuple #[v1, v2]) ∧ RootTo w a v1 v2 w') := ih
        have hkt : (nb : Int).tdiv 4 = (k : Int) := by rw [Int.tdiv_eq_ediv_of_nonneg (by omega)]; omega
        have hw2 : IntKind.i64.wrap ((2 : Int) * (k : Int)) = ((2 * k : Nat) : Int) := wrap_two k (by omega)
        have A : Hid (Num w (some ⟨g, off, none⟩) n c xs a) := ⟨h, hx, hn⟩
        have hBs : w.heap.size ≤ w.heap.size := Nat.le_refl _
        have hn2 : decide ((n : Int) < 2) = false := decide_eq_false (by omega)
        clear h hx hbig h64 hal hnb hk hup ih ha
        go_enter Tryz.func133, Tryz.ntmps133
        go_wp2_with fail
        refine (bits_any A.out.at_ (by omega)).mono ?_
        rintro e w' ⟨rfl, hw⟩
        obtain rfl := hw.symm
        clear hw
        rw [A.out.nf.val, ← HNB.out]
        go_wp2_with fail
        rw [show ((2 : Int) * (k : Int)) = ((2 * k : Nat) : Int) by omega]
        go_wp2_with fail
        refine (shr_nf A.out.at_ A.out.nf A.out.le (2 * k) (by omega)).mono ?_
        rintro e v1 ⟨⟨r1, t1, y1, rfl, ho1, hn1, hm1⟩, hb1⟩
        have UP : Hid (Num v1 r1 t1 t1 y1 (a / 2 ^ (2 * k))) := Num.of ho1 hn1 hm1
        clear ho1 hn1
        have hBsy : w.heap.size ≤ v1.heap.size := Nat.le_trans hBs hb1.size
        clear hBs
        have hBs := hBsy
        clear hBsy
        replace A : Hid _ := A.out.below hb1
        have hbw := hb1
        clear hb1
        go_wp2_with fail
        refine (HIH.out _ HUP.out UP.out.at_ UP.out.nf UP.out.le).mono ?_
        rintro e v2 ⟨u1, u2, rfl, hR2⟩
        obtain ⟨hf, ph, mh, zh, pl, ml, zl, hh1, hh2, rfl, oh, nh, lh, rfl, ol, nl, ll⟩ := hR2.val
        have hb2 := hR2.bel
        have HF : Hid (Num v2 ph mh mh zh hf) := Num.of oh nh lh
        have LE : Hid (Num v2 pl ml ml zl (a / 2 ^ (2 * k) - hf * hf)) := Num.of ol nl ll
        have HH : Hid (hf * hf ≤ a / 2 ^ (2 * k) ∧ a / 2 ^ (2 * k) ≤ hf * hf + 2 * hf) := ⟨hh1, hh2⟩
        clear hR2 hh1 hh2 oh nh ol nl
        clear UP
        have hBsy : w.heap.size ≤ v2.heap.size := Nat.le_trans hBs hb2.size
        clear hBs
        have hBs := hBsy
        clear hBsy
        replace A : Hid _ := A.out.below hb2
        have hbwy := Below.on hbw hb2
        clear hbw
        have hbw := hbwy
        clear hbwy
        clear hb2
        go_wp2_with fail
        rw [show ((2 : Int) * (k : Int)) = ((2 * k : Nat) : Int) by omega]
        go_wp2_with fail
        refine (low_nf A.out.at_ A.out.nf A.out.le (2 * k) (by omega)).mono ?_
        rintro e v3 ⟨⟨r3, t3, y3, rfl, ho3, hn3, hm3⟩, hb3⟩
        have LOW : Hid (Num v3 r3 t3 t3 y3 (a % 2 ^ (2 * k))) := Num.of ho3 hn3 hm3
        clear ho3 hn3
        have hBsy : w.heap.size ≤ v3.heap.size := Nat.le_trans hBs hb3.size
        clear hBs
        have hBs := hBsy
        clear hBsy
        replace A : Hid _ := A.out.below hb3
        replace HF : Hid _ := HF.out.below hb3
        replace LE : Hid _ := LE.out.below hb3
        have hbwy := Below.on hbw hb3
        clear hbw
        have hbw := hbwy
        clear hbwy
        clear hb3
        clear A
        go_wp2_with fail
        refine (shr_nf LOW.out.at_ LOW.out.nf LOW.out.le k (by omega)).mono ?_
        rintro e v4 ⟨⟨r4, t4, y4, rfl, ho4, hn4, hm4⟩, hb4⟩
        have NX : Hid (Num v4 r4 t4 t4 y4 (a % 2 ^ (2 * k) / 2 ^ k)) := Num.of ho4 hn4 hm4
        clear ho4 hn4
        have hBsy : w.heap.size ≤ v4.heap.size := Nat.le_trans hBs hb4.size
        clear hBs
        have hBs := hBsy
        clear hBsy
        replace HF : Hid _ := HF.out.below hb4
        replace LE : Hid _ := LE.out.below hb4
        replace LOW : Hid _ := LOW.out.below hb4
        have hbwy := Below.on hbw hb4
        clear hbw
        have hbw := hbwy
        clear hbwy
        clear hb4
        go_wp2_with fail
        refine (low_nf LOW.out.at_ LOW.out.nf LOW.out.le k (by omega)).mono ?_
        rintro e v5 ⟨⟨r5, t5, y5, rfl, ho5, hn5, hm5⟩, hb5⟩
        have LA : Hid (Num v5 r5 t5 t5 y5 (a % 2 ^ (2 * k) % 2 ^ k)) := Num.of ho5 hn5 hm5
        clear ho5 hn5
        have hBsy : w.heap.size ≤ v5.heap.size := Nat.le_trans hBs hb5.size
        clear hBs
        have hBs := hBsy
        clear hBsy
        replace HF : Hid _ := HF.out.below hb5
        replace LE : Hid _ := LE.out.below hb5
        replace LOW : Hid _ := LOW.out.below hb5
        replace NX : Hid _ := NX.out.below hb5
        have hbwy := Below.on hbw hb5
        clear hbw
        have hbw := hbwy
        clear hbwy
        clear hb5
        clear LOW
        obtain ⟨l, hl⟩ : ∃ l, l = a / 2 ^ (2 * k) - hf * hf := ⟨_, rfl⟩
        obtain ⟨nx, hnx⟩ : ∃ nx, nx = a % 2 ^ (2 * k) / 2 ^ k := ⟨_, rfl⟩
        obtain ⟨la, hla⟩ : ∃ la, la = a % 2 ^ (2 * k) % 2 ^ k := ⟨_, rfl⟩
        rw [← hl] at LE
        rw [← hnx] at NX
        rw [← hla] at LA
        have hhb := half_big HNB.out HKE.out hnb65 HH.out.2
        have hC : RootC a hf (2 ^ k) ((2 ^ k * l + nx) / (2 * hf)) ((2 ^ k * l + nx) % (2 * hf)) la := by
          have hs := split_low a k
          rw [← hnx, ← hla] at hs
          refine root_core (l := l) (next := nx) ?_ ?_ ?_ ?_ ?_ ?_ hhb.1 hhb.2
          · have h1 := HH.out.1
            have h2 : hf * hf + l = a / 2 ^ (2 * k) := by omega
            rw [h2]; exact hs
          · have := HH.out; omega
          · rw [hnx]; refine Nat.div_lt_of_lt_mul ?_
            rw [← Nat.pow_add, show k + k = 2 * k by omega]; exact Nat.mod_lt _ (Nat.two_pow_pos _)
          · rw [hla]; exact Nat.mod_lt _ (Nat.two_pow_pos _)
          · have h9 := Nat.div_add_mod (2 ^ k * l + nx) (2 * hf)
            rw [Nat.mul_comm (2 * hf) ((2 ^ k * l + nx) / (2 * hf))] at h9
            exact h9.symm
          · exact Nat.mod_lt _ (by omega)
        have hX : 2 ^ k * l + nx < LIM := by
          have h1 := Nat.div_add_mod (2 ^ k * l + nx) (2 * hf)
          have h2 := Nat.mod_lt (2 ^ k * l + nx) (show 2 * hf > 0 by omega)
          have h3 := hC.le; have h4 := HAL.out; have h5 := hC.dP
          have h6 : 2 * hf * ((2 ^ k * l + nx) / (2 * hf)) ≤ 2 * hf * 2 ^ k := Nat.mul_le_mul_left _ h5
          have h7 : 2 * hf * 2 ^ k = 2 * (2 ^ k * hf) := by rw [Nat.mul_assoc, Nat.mul_comm hf]
          generalize 2 * hf * ((2 ^ k * l + nx) / (2 * hf)) = Y at *
          omega
        have HX : Hid (2 ^ k * l + nx < LIM) := hX
        have H2 : Hid (2 * hf < LIM) := by have := hC.le; have := HAL.out; show _ < _; omega
        have HF0 : Hid (2 * hf ≠ 0) := by have := hhb.2; show _ ≠ _; omega
        clear hX
        obtain ⟨X, eX⟩ : ∃ X, X = 2 ^ k * l + nx := ⟨_, rfl⟩
        obtain ⟨D, eD⟩ : ∃ D, D = (2 ^ k * l + nx) / (2 * hf) := ⟨_, rfl⟩
        obtain ⟨O, eO⟩ : ∃ O, O = (2 ^ k * l + nx) % (2 * hf) := ⟨_, rfl⟩
        rw [← eD, ← eO] at hC
        have ED : Hid (D = (2 ^ k * l + nx) / (2 * hf)) := eD
        have EO : Hid (O = (2 ^ k * l + nx) % (2 * hf)) := eO
        have HC : Hid (RootC a hf (2 ^ k) D O la) := hC
        have hlm := HAL.out
        have hle := hC.le; have hdp := hC.dP; have hlf := hC.lf; have hdd := hC.dd
        have L1 : Hid (2 ^ k * hf + D < LIM) := by show _ < _; omega
        have L2 : Hid (2 ^ k * O + la < LIM) := by show _ < _; omega
        have L3 : Hid (D * D < LIM) := by show _ < _; omega
        have L4 : Hid (2 * (2 ^ k * hf + D) < LIM) := by show _ < _; omega
        have L5 : Hid (2 ^ k * O + la + 2 * (2 ^ k * hf + D) < LIM) := by show _ < _; omega
        have FIN := hC.fin
        have F1 : Hid (2 ^ k * O + la < D * D → 1 ≤ 2 ^ k * hf + D ∧ D * D ≤ 2 ^ k * O + la + 2 * (2 ^ k * hf + D) - 1) := FIN.1
        have F2 : Hid ((if 2 ^ k * O + la < D * D then 2 ^ k * hf + D - 1 else 2 ^ k * hf + D) * (if 2 ^ k * O + la < D * D then 2 ^ k * hf + D - 1 else 2 ^ k * hf + D) ≤ a ∧
          a ≤ (if 2 ^ k * O + la < D * D then 2 ^ k * hf + D - 1 else 2 ^ k * hf + D) * (if 2 ^ k * O + la < D * D then 2 ^ k * hf + D - 1 else 2 ^ k * hf + D) + 2 * (if 2 ^ k * O + la < D * D then 2 ^ k * hf + D - 1 else 2 ^ k * hf + D) ∧
          (if 2 ^ k * O + la < D * D then 2 ^ k * O + la + 2 * (2 ^ k * hf + D) - 1 - D * D else 2 ^ k * O + la - D * D) = a - (if 2 ^ k * O + la < D * D then 2 ^ k * hf + D - 1 else 2 ^ k * hf + D) * (if 2 ^ k * O + la < D * D then 2 ^ k * hf + D - 1 else 2 ^ k * hf + D)) := FIN.2
        clear FIN hC hlm hle hdp hlf hdd hhb eD eO eX hl hnx hla
        go_wp2_with fail
        rw [show Value.int IntKind.i64 1 = .int .i64 ((1 : Nat) : Int) from rfl]
        go_wp2_with fail
        refine (shl_nf HF.out.at_ HF.out.nf HF.out.le 1 (by omega)).mono ?_
        rintro e v6 ⟨ha6, hb6⟩
        rw [Nat.pow_one] at ha6
        obtain ⟨r6, t6, y6, rfl, ho6, hn6, hm6⟩ := ha6.ok H2.out
        have TW : Hid (Num v6 r6 t6 t6 y6 (2 * hf)) := Num.of ho6 hn6 hm6
        clear ha6 ho6 hn6
        have hBsy : w.heap.size ≤ v6.heap.size := Nat.le_trans hBs hb6.size
        clear hBs
        have hBs := hBsy
        clear hBsy
        replace HF : Hid _ := HF.out.below hb6
        replace LE : Hid _ := LE.out.below hb6
        replace NX : Hid _ := NX.out.below hb6
        replace LA : Hid _ := LA.out.below hb6
        have hbwy := Below.on hbw hb6
        clear hbw
        have hbw := hbwy
        clear hbwy
        clear hb6
        go_wp2_with fail
        refine (join_any LE.out NX.out k (by omega) HX.out).mono ?_
        rintro e v7 ⟨r7, t7, y7, rfl, ho7, hn7, hm7, hb7⟩
        have JX : Hid (Num v7 r7 t7 t7 y7 (2 ^ k * l + nx)) := Num.of ho7 hn7 hm7
        clear ho7 hn7
        have hBsy : w.heap.size ≤ v7.heap.size := Nat.le_trans hBs hb7.size
        clear hBs
        have hBs := hBsy
        clear hBsy
        replace HF : Hid _ := HF.out.below hb7
        replace LE : Hid _ := LE.out.below hb7
        replace NX : Hid _ := NX.out.below hb7
        replace LA : Hid _ := LA.out.below hb7
        replace TW : Hid _ := TW.out.below hb7
        have hbwy := Below.on hbw hb7
        clear hbw
        have hbw := hbwy
        clear hbwy
        clear hb7
        clear LE
        clear NX
        go_wp2_with fail
        refine (quorem_any JX.out.at_ TW.out.at_ JX.out.nf TW.out.nf JX.out.le TW.out.le HF0.out).mono ?_
        rintro e v8 ⟨x1, x2, rfl, hD8⟩
        obtain ⟨pd, md, zd, rfl, od, nd, ld⟩ := hD8.quo
        obtain ⟨po, mo, zo, rfl, oo, no, lo⟩ := hD8.rem
        have hb8 := hD8.bel
        rw [← ED.out] at nd
        rw [← EO.out] at no
        have DG : Hid (Num v8 pd md md zd D) := Num.of od nd ld
        have OV : Hid (Num v8 po mo mo zo O) := Num.of oo no lo
        clear hD8 od nd oo no
        clear JX
        clear TW
        have hBsy : w.heap.size ≤ v8.heap.size := Nat.le_trans hBs hb8.size
        clear hBs
        have hBs := hBsy
        clear hBsy
        replace HF : Hid _ := HF.out.below hb8
        replace LA : Hid _ := LA.out.below hb8
        have hbwy := Below.on hbw hb8
        clear hbw
        have hbw := hbwy
        clear hbwy
        clear hb8
        go_wp2_with fail
        refine (join_any HF.out DG.out k (by omega) L1.out).mono ?_
        rintro e v9 ⟨r9, t9, y9, rfl, ho9, hn9, hm9, hb9⟩
        have RT : Hid (Num v9 r9 t9 t9 y9 (2 ^ k * hf + D)) := Num.of ho9 hn9 hm9
        have RTo : Hid (Own w.heap.size v9 r9 t9 y9) := ho9.mono hBs
        clear ho9 hn9
        have hBsy : w.heap.size ≤ v9.heap.size := Nat.le_trans hBs hb9.size
        clear hBs
        have hBs := hBsy
        clear hBsy
        replace HF : Hid _ := HF.out.below hb9
        replace LA : Hid _ := LA.out.below hb9
        replace DG : Hid _ := DG.out.below hb9
        replace OV : Hid _ := OV.out.below hb9
        have hbwy := Below.on hbw hb9
        clear hbw
        have hbw := hbwy
        clear hbwy
        clear hb9
        clear HF
        go_wp2_with fail
        refine (join_any OV.out LA.out k (by omega) L2.out).mono ?_
        rintro e v10 ⟨r10, t10, y10, rfl, ho10, hn10, hm10, hb10⟩
        have LF : Hid (Num v10 r10 t10 t10 y10 (2 ^ k * O + la)) := Num.of ho10 hn10 hm10
        clear ho10 hn10
        have hBsy : w.heap.size ≤ v10.heap.size := Nat.le_trans hBs hb10.size
        clear hBs
        have hBs := hBsy
        clear hBsy
        replace LA : Hid _ := LA.out.below hb10
        replace DG : Hid _ := DG.out.below hb10
        replace OV : Hid _ := OV.out.below hb10
        replace RT : Hid _ := RT.out.below hb10
        replace RTo : Hid (Own w.heap.size v10 r9 t9 y9) := RTo.out.below hb10
        have hbwy := Below.on hbw hb10
        clear hbw
        have hbw := hbwy
        clear hbwy
        clear hb10
        clear OV
        clear LA
        go_wp2_with fail
        refine (settle_any RTo.out hBs RT.out LF.out DG.out L3.out L4.out L5.out F1.out).mono ?_
        rintro e v11 ⟨x1, x2, rfl, hS⟩
        obtain ⟨q1, l1, s1, rfl, o1, n1, g1⟩ := hS.v1
        obtain ⟨q2, l2, s2, rfl, o2, n2, g2⟩ := hS.v2
        have hbz := Below.on hbw hS.bel
        have N1 : Hid (Nf B64 s1 (if 2 ^ k * O + la < D * D then 2 ^ k * hf + D - 1 else 2 ^ k * hf + D)) := n1
        have N2 : Hid (Nf B64 s2 (if 2 ^ k * O + la < D * D then 2 ^ k * O + la + 2 * (2 ^ k * hf + D) - 1 - D * D else 2 ^ k * O + la - D * D)) := n2
        have HAP : Hid (Ap2 (.slice q1 l1 l1) (.slice q2 l2 l2)) := hS.ap
        clear n1 n2 hS hbw RT RTo LF DG hBs
        go_wp2_with fail
        go_ret2
        refine ⟨_, _, rfl, ⟨_, q1, l1, s1, q2, l2, s2, F2.out.1, F2.out.2.1, rfl, o1, N1.out, g1, rfl, o2, ?_, g2⟩, hbz, HAP.out⟩
        rw [← F2.out.2.2]; exact N2.out
theorem root_any {p : Option Addr} {n c : Nat} {xs : List Nat} {a : Nat} {w : World} (h : Num w p n c xs a) :
    Calls Tryz.prog 112 #[.slice p n c] w fun e w' => ∃ v1 v2, e = .returned (.tuple #[v1, v2, .int .i64 0]) ∧ RootTo w a v1 v2 w' := by
  have fx := h.nf.form (by rw [h.at_.len]; exact h.le)
  have H : Hid (Num w p n c xs a) := h
  clear h
  go_enter Tryz.func112, Tryz.ntmps112
  go_wp2_with fail
  refine (form_true H.out.at_ fx).mono ?_
  rintro e w' ⟨rfl, hw⟩
  obtain rfl := hw.symm
  clear hw fx
  go_wp2_with fail
  refine (rootof_any a a (Nat.le_refl _) H.out.at_ H.out.nf H.out.le).mono ?_
  rintro e w1 ⟨v1, v2, rfl, hR⟩
  have HR : Hid (RootTo w a v1 v2 w1) := hR
  clear hR
  go_wp2_with fail
  go_ret3
  exact ⟨_, _, rfl, HR.out⟩
theorem toolong {p : Option Addr} {m c : Nat} {w : World} {e : Int} {s : Bool} (hm : m ≤ 4096) :
    Calls Tryz.prog 107 #[DV s p m c e] w fun en w' => en = .returned (.bool false) ∧ Below w.heap.size w w' := by
  have d1 : decide ((4096 : Int) < (m : Int)) = false := decide_eq_false (by omega)
  clear hm
  go_enter Tryz.func107, Tryz.ntmps107
  go_wp2_with fail
  go_ret
  exact ⟨rfl, below1 w _⟩
theorem enough_ok {p m l : Int} {w : World} (hm : 0 ≤ m ∧ m ≤ 1000) :
    Calls Tryz.prog 108 #[WV p m l] w fun en w' => en = .returned (.int .i64 (m + 1)) ∧ Below w.heap.size w w' := by
  have d1 : wrap64 (m + 1) = m + 1 := by simp only [wrap64]; omega
  have d2 : IntKind.i64.wrap (m + 1) = m + 1 := by simp [IntKind.wrap, IntKind.signed, IntKind.bits]; omega
  clear hm
  go_enter Tryz.func108, Tryz.ntmps108
  go_wp2_with fail
  go_ret
  exact ⟨rfl, below1 w _⟩
theorem withmark_z {p q : Option Addr} {n c k d : Nat} {xs ys : List Nat} {F r : Nat} {w : World} (s : Bool) (h : Num w p n c xs F) (g : Num w q k d ys r) (hl : 2 * F + 1 < LIM) (hr : r = 0) :
    Calls Tryz.prog 111 #[.bool s, .slice p n c, .slice q k d] w fun en w' => ∃ p1 m1 zs, en = .returned (ZV s p1 m1 m1) ∧ Own w.heap.size w' p1 m1 zs ∧ Nf B64 zs (2 * F + (if r = 0 then 0 else 1)) ∧ m1 ≤ 8192 ∧ Below w.heap.size w w' := by
  have A : Hid (Num w p n c xs F) := h
  have B : Hid (Num w q k d ys r) := g
  have HL : Hid (2 * F + 1 < LIM ∧ 2 ^ 1 * F < LIM) := ⟨hl, by omega⟩
  obtain ⟨L, hL⟩ : ∃ L, L = bitsN r := ⟨_, rfl⟩
  have HLB : Hid (bitsN (valB B64 ys) = L) := by rw [hL, g.nf.val]; rfl
  have HK : Hid (k ≤ 17592186044416) := Nat.le_trans g.le (by decide)
  have d1 : decide ((0 : Int) < (L : Int)) = false := by
    rw [hL, hr]; rfl
  have d2 : ¬ 0 < L := by have := of_decide_eq_false d1; omega
  rw [if_pos hr]
  clear h g hl hr hL
  go_enter Tryz.func111, Tryz.ntmps111
  go_wp2_with fail
  obtain ⟨W0, hW0⟩ : ∃ W0, W0 = (w.alloc (.cells #[.bool false, .slice none 0 0] 95)) := ⟨_, rfl⟩
  have Xr : Hid (Box W0 (w.heap.size) (.bool false) (.slice none 0 0)) := by rw [hW0]; exact ⟨by go_simp, by go_simp, by go_simp, by go_simp⟩
  have hb0 : Below w.heap.size w W0 := by rw [hW0]; exact below1 w _
  rw [← hW0]
  clear hW0
  have hbw : Below w.heap.size w w := Below.refl _ _
  obtain ⟨gr, hgr⟩ : ∃ g, g = w.heap.size := ⟨_, rfl⟩
  have HGr : Hid (w.heap.size ≤ gr) := by rw [hgr]; show _ ≤ _; omega
  rw [← hgr] at Xr
  try rw [← hgr]
  clear hgr
  replace hbw := Below.on hbw hb0
  clear hb0
  have HRL : Hid (gr < W0.heap.size ∧ w.heap.size ≤ W0.heap.size) := ⟨Xr.out.lt, hbw.size⟩
  refine (shl_nf (A.out.at_.below hbw) A.out.nf A.out.le 1 (by decide)).mono ?_
  rintro e2 v1 ⟨ha, hb1⟩
  obtain ⟨p1, m1, z1, rfl, ho1, hn1, hm1⟩ := ha.ok HL.out.2
  clear ha
  replace Xr : Hid _ := Xr.out.below hb1
  replace hbw := Below.on hbw hb1
  clear hb1
  have O1 : Hid (Own W0.heap.size v1 p1 m1 z1) := ho1
  have N1 : Hid (Nf B64 z1 (2 ^ 1 * F) ∧ m1 ≤ 8192) := ⟨hn1, hm1⟩
  clear ho1 hn1 hm1
  go_wp2_with fail
  refine (bits_any (B.out.at_.below hbw) HK.out).mono ?_
  rintro e v2 ⟨rfl, hw⟩
  obtain rfl := hw.symm
  clear hw
  rw [HLB.out]
  have N9 : Hid (Nf B64 z1 (2 * F + 0) ∧ m1 ≤ 8192) := by have := N1.out; rw [Nat.pow_one] at this; exact this
  clear N1
  have N1 := N9
  obtain ⟨cr0, cr1, fr0, fr1⟩ := Xr.out
  have hner := Xr.out.lt
  go_wp2_with fail
  refine bodyPost_ret (v := ZV s p1 m1 m1) (by rw [results_cell1 rfl]; go_simp) rfl ⟨p1, m1, z1, rfl, ?_, N1.out.1, N1.out.2, ?_⟩
  · exact own_set2 O1.out HRL.out.1 HRL.out.2 _ _
  · exact bSet (bSet hbw _ _ _ HGr.out) _ _ _ HGr.out
theorem withmark_n {p q : Option Addr} {n c k d : Nat} {xs ys : List Nat} {F r : Nat} {w : World} (s : Bool) (h : Num w p n c xs F) (g : Num w q k d ys r) (hl : 2 * F + 1 < LIM) (hr : r ≠ 0) :
    Calls Tryz.prog 111 #[.bool s, .slice p n c, .slice q k d] w fun en w' => ∃ p1 m1 zs, en = .returned (ZV s p1 m1 m1) ∧ Own w.heap.size w' p1 m1 zs ∧ Nf B64 zs (2 * F + (if r = 0 then 0 else 1)) ∧ m1 ≤ 8192 ∧ Below w.heap.size w w' := by
  have A : Hid (Num w p n c xs F) := h
  have B : Hid (Num w q k d ys r) := g
  have HL : Hid (2 * F + 1 < LIM ∧ 2 ^ 1 * F < LIM) := ⟨hl, by omega⟩
  obtain ⟨L, hL⟩ : ∃ L, L = bitsN r := ⟨_, rfl⟩
  have HLB : Hid (bitsN (valB B64 ys) = L) := by rw [hL, g.nf.val]; rfl
  have HK : Hid (k ≤ 17592186044416) := Nat.le_trans g.le (by decide)
  have d1 : decide ((0 : Int) < (L : Int)) = true := by
    have := bitsN_pos hr; rw [hL]; exact decide_eq_true (by omega)
  have d2 : 0 < L := by have := of_decide_eq_true d1; omega
  rw [if_neg hr]
  clear h g hl hr hL
  go_enter Tryz.func111, Tryz.ntmps111
  go_wp2_with fail
  obtain ⟨W0, hW0⟩ : ∃ W0, W0 = (w.alloc (.cells #[.bool false, .slice none 0 0] 95)) := ⟨_, rfl⟩
  have Xr : Hid (Box W0 (w.heap.size) (.bool false) (.slice none 0 0)) := by rw [hW0]; exact ⟨by go_simp, by go_simp, by go_simp, by go_simp⟩
  have hb0 : Below w.heap.size w W0 := by rw [hW0]; exact below1 w _
  rw [← hW0]
  clear hW0
  have hbw : Below w.heap.size w w := Below.refl _ _
  obtain ⟨gr, hgr⟩ : ∃ g, g = w.heap.size := ⟨_, rfl⟩
  have HGr : Hid (w.heap.size ≤ gr) := by rw [hgr]; show _ ≤ _; omega
  rw [← hgr] at Xr
  try rw [← hgr]
  clear hgr
  replace hbw := Below.on hbw hb0
  clear hb0
  have HRL : Hid (gr < W0.heap.size ∧ w.heap.size ≤ W0.heap.size) := ⟨Xr.out.lt, hbw.size⟩
  refine (shl_nf (A.out.at_.below hbw) A.out.nf A.out.le 1 (by decide)).mono ?_
  rintro e2 v1 ⟨ha, hb1⟩
  obtain ⟨p1, m1, z1, rfl, ho1, hn1, hm1⟩ := ha.ok HL.out.2
  clear ha
  replace Xr : Hid _ := Xr.out.below hb1
  replace hbw := Below.on hbw hb1
  clear hb1
  have O1 : Hid (Own W0.heap.size v1 p1 m1 z1) := ho1
  have N1 : Hid (Nf B64 z1 (2 ^ 1 * F) ∧ m1 ≤ 8192) := ⟨hn1, hm1⟩
  clear ho1 hn1 hm1
  go_wp2_with fail
  refine (bits_any (B.out.at_.below hbw) HK.out).mono ?_
  rintro e v2 ⟨rfl, hw⟩
  obtain rfl := hw.symm
  clear hw
  rw [HLB.out]
  go_wp2_with fail
  refine (word_any 1 _ (by decide)).mono ?_
  rintro e2 v3 ⟨p3, m3, z3, rfl, ho3, hn3, hm3, hb3⟩
  replace Xr : Hid _ := Xr.out.below hb3
  replace O1 : Hid (Own W0.heap.size v3 p1 m1 z1) := O1.out.below hb3
  replace hbw := Below.on hbw hb3
  clear hb3
  have O3 : Hid (Own v1.heap.size v3 p3 m3 z3) := ho3
  have N3 : Hid (Nf B64 z3 1 ∧ m3 ≤ 8192) := ⟨hn3, Nat.le_trans hm3 (by decide)⟩
  clear ho3 hn3 hm3
  go_wp2_with fail
  refine (add_ord (Num.of O1.out N1.out.1 N1.out.2).at_ (Num.of O3.out N3.out.1 N3.out.2).at_ N1.out.1 N3.out.1 N1.out.2 N3.out.2).mono ?_
  rintro e2 v4 ⟨ha, hb4⟩
  obtain ⟨p4, m4, z4, rfl, ho4, hn4, hm4⟩ := ha.ok (by have := HL.out.1; omega)
  clear ha
  have HQ : Hid (gr < v3.heap.size ∧ w.heap.size ≤ v3.heap.size) := ⟨Xr.out.lt, hbw.size⟩
  replace Xr : Hid _ := Xr.out.below hb4
  replace O1 : Hid (Own W0.heap.size v4 p1 m1 z1) := O1.out.below hb4
  replace O3 : Hid (Own v1.heap.size v4 p3 m3 z3) := O3.out.below hb4
  replace hbw := Below.on hbw hb4
  clear hb4
  have O4 : Hid (Own v3.heap.size v4 p4 m4 z4) := ho4
  have N4 : Hid (Nf B64 z4 (2 * F + 1) ∧ m4 ≤ 8192) := ⟨by rw [Nat.pow_one] at hn4; exact hn4, hm4⟩
  clear ho4 hn4 hm4 HRL
  have HRL := HQ
  obtain ⟨cr0, cr1, fr0, fr1⟩ := Xr.out
  have hner := Xr.out.lt
  go_wp2_with fail
  refine bodyPost_ret (v := ZV s p4 m4 m4) (by rw [results_cell1 rfl]; go_simp) rfl ⟨p4, m4, z4, rfl, ?_, N4.out.1, N4.out.2, ?_⟩
  · exact own_set2 O4.out HRL.out.1 HRL.out.2 _ _
  · exact bSet (bSet hbw _ _ _ HGr.out) _ _ _ HGr.out
theorem withmark {p q : Option Addr} {n c k d : Nat} {xs ys : List Nat} {F r : Nat} {w : World} (s : Bool) (h : Num w p n c xs F) (g : Num w q k d ys r) (hl : 2 * F + 1 < LIM) :
    Calls Tryz.prog 111 #[.bool s, .slice p n c, .slice q k d] w fun en w' => ∃ p1 m1 zs, en = .returned (ZV s p1 m1 m1) ∧ Own w.heap.size w' p1 m1 zs ∧ Nf B64 zs (2 * F + (if r = 0 then 0 else 1)) ∧ m1 ≤ 8192 ∧ Below w.heap.size w w' := by
  by_cases hr : r = 0
  · exact withmark_z s h g hl hr
  · exact withmark_n s h g hl hr
theorem half_bits {w : World} {s : Bool} {p : Option Addr} {m c : Nat} {z : Int} (h : ZN w s p m c z) (hm : m ≤ 4096) : bitsN z.natAbs ≤ 262144 := by
  obtain ⟨ys, hY⟩ := h.ex
  have h1 := (hY.nf.len_le B64_one (k := 4096)).1 (by rw [hY.at_.len]; exact hm)
  obtain ⟨k, hk⟩ : ∃ k, k = 4096 := ⟨_, rfl⟩
  rw [← hk, B64_pow] at h1
  by_cases h0 : z.natAbs = 0
  · rw [h0, bitsN_zero]; omega
  have h2 := bitsN_le z.natAbs h0
  have h3 := (Nat.pow_lt_pow_iff_right (by omega : 1 < 2)).1 (Nat.lt_of_le_of_lt h2 h1)
  omega
structure WB (x y : Int) (P : Nat) (X Y L : Int) : Prop where
  l : L = P + bitsN y.natAbs - bitsN x.natAbs
  xv : X = x * 2 ^ L.toNat
  yv : Y = y * 2 ^ (-L).toNat
theorem quo_big {x y sd P : Nat} (hx : x ≠ 0) (hy : y ≠ 0) (hP : sd + 2 + bitsN y ≤ bitsN x + P) : 2 * 2 ^ sd ≤ 2 ^ P * x / y := by
  rw [Nat.le_div_iff_mul_le (by omega)]
  have h1 := bitsN_lt y
  have h2 := bitsN_le x hx
  have h3 := bitsN_pos hx
  calc 2 * 2 ^ sd * y ≤ 2 * 2 ^ sd * 2 ^ bitsN y := Nat.mul_le_mul_left _ (Nat.le_of_lt h1)
    _ = 2 ^ (sd + 1 + bitsN y) := by rw [Nat.pow_add, Nat.pow_succ, Nat.mul_comm 2]
    _ ≤ 2 ^ (P + (bitsN x - 1)) := Nat.pow_le_pow_right (by omega) (by omega)
    _ = 2 ^ P * 2 ^ (bitsN x - 1) := Nat.pow_add _ _ _
    _ ≤ 2 ^ P * x := Nat.mul_le_mul_left _ h2
theorem shl_lim2 {x P : Nat} (h : bitsN x + P ≤ 524288) : 2 ^ P * x < LIM := by
  by_cases h0 : x = 0
  · rw [h0, Nat.mul_zero]; exact lt_LIM (L := 1) (by decide) (by decide)
  · exact (lim_shl x P h0).2 (by omega)
def SgB (S : Nat) (s t : Bool) (b Z : Nat) : Prop := b = if s = t then Z else S + Z
theorem signed_is (s t : Bool) {M : Nat} (hM : M ≠ 0) {z : Int} (hz : z = if s = t then (M : Int) else -(M : Int)) : z.natAbs = M ∧ decide (z < 0) = (s != t) ∧ z ≠ 0 := by
  rw [hz]
  cases s <;> cases t <;> simp <;> omega
theorem quotient_n {f p m l : Int} {S I H sd : Nat} {Be : Int} (J : Jn f p m l S I H sd Be) (hmd : m = (sd : Int) + 1) {pa pb : Option Addr} {na ca nb cb : Nat} {w : World} {x y e g : Int} {s t : Bool} (h : DN w s pa na ca e x) (k : DN w t pb nb cb g y) (hla : na ≤ 4096) (hlb : nb ≤ 4096) (hT : Tab w) (hy : y ≠ 0) (hx : x ≠ 0) :
    Calls Tryz.prog 78 #[.int .i64 f, DV s pa na ca e, DV t pb nb cb g] w fun en w' => ∃ b Z V, en = .returned (.tuple #[U b, .int .i64 0]) ∧ SgB S s t b Z ∧ RNz H l I V Z ∧ Mk H l I (fun τ => (y.natAbs : Int) * τ) (dv (x.natAbs : Int) (e - g)) V ∧ Below w.heap.size w w' := by
  have HJN : Hid (Jn f p m l S I H sd Be) := J
  have A : Hid (DN w s pa na ca e x) := h
  have B : Hid (DN w t pb nb cb g y) := k
  have HLL : Hid (na ≤ 4096 ∧ nb ≤ 4096) := ⟨hla, hlb⟩
  have TB : Hid (Tab w) := hT
  have hsg : (sgnI y == 0) = false := by
    have : sgnI y ≠ 0 := by rcases sgn3 y with ⟨_, h2⟩ | ⟨h1, _⟩ | ⟨_, h2⟩ <;> omega
    simp [this]
  obtain ⟨sy, hsy⟩ : ∃ sy, sy = sgnI y := ⟨_, rfl⟩
  rw [← hsy] at hsg
  have HSY : Hid (sgnI y = sy) := hsy.symm
  have hsl := J.jm.sl
  obtain ⟨xs, hX⟩ := h.zn.ex
  obtain ⟨ys, hY⟩ := k.zn.ex
  have HX : Hid (Num w pa na ca xs x.natAbs) := hX
  have HY : Hid (Num w pb nb cb ys y.natAbs) := hY
  obtain ⟨L1, hL1⟩ : ∃ L1, L1 = bitsN x.natAbs := ⟨_, rfl⟩
  obtain ⟨L2, hL2⟩ : ∃ L2, L2 = bitsN y.natAbs := ⟨_, rfl⟩
  have hb1 := half_bits h.zn hla
  have hb2 := half_bits k.zn hlb
  rw [← hL1] at hb1
  rw [← hL2] at hb2
  have HBX : Hid (bitsN (valB B64 xs) = L1) := by rw [hL1, hX.nf.val]; rfl
  have HBY : Hid (bitsN (valB B64 ys) = L2) := by rw [hL2, hY.nf.val]; rfl
  obtain ⟨D1, hD1⟩ : ∃ D1 : Int, D1 = m + 1 + L2 := ⟨_, rfl⟩
  obtain ⟨D2, hD2⟩ : ∃ D2 : Int, D2 = D1 - L1 := ⟨_, rfl⟩
  obtain ⟨P, hP⟩ : ∃ P : Nat, P = (max D2 0).toNat := ⟨_, rfl⟩
  have c1 : wrap64 (m + 1 + (L2 : Int)) = D1 := by rw [hD1]; simp only [wrap64]; omega
  have c2 : IntKind.i64.wrap (m + 1 + (L2 : Int)) = D1 := by rw [hD1]; simp [IntKind.wrap, IntKind.signed, IntKind.bits]; omega
  have c3 : wrap64 (D1 - (L1 : Int)) = D2 := by rw [hD2]; simp only [wrap64]; omega
  have c4 : IntKind.i64.wrap (D1 - (L1 : Int)) = D2 := by rw [hD2]; simp [IntKind.wrap, IntKind.signed, IntKind.bits]; omega
  have HMX : Hid (max D2 0 = (P : Int)) := by show max D2 0 = (P : Int); omega
  have HM9 : Hid (0 ≤ m ∧ m ≤ 1000) := by show _ ∧ _; omega
  have HP : Hid (P ≤ 9223372036854775807 ∧ 2 ^ P * x.natAbs < LIM) := ⟨by omega, shl_lim2 (by rw [← hL1]; omega)⟩
  obtain ⟨F, hF⟩ : ∃ F, F = 2 ^ P * x.natAbs / y.natAbs := ⟨_, rfl⟩
  obtain ⟨r, hr⟩ : ∃ r, r = 2 ^ P * x.natAbs % y.natAbs := ⟨_, rfl⟩
  have HFR : Hid (2 ^ P * x.natAbs / y.natAbs = F ∧ 2 ^ P * x.natAbs % y.natAbs = r) := ⟨hF.symm, hr.symm⟩
  have HMX2 : Hid (2 * F + 1 < LIM ∧ y.natAbs ≠ 0) := ⟨by
    have h1 : F ≤ 2 ^ P * x.natAbs := by rw [hF]; exact Nat.div_le_self _ _
    have h2 : 2 ^ (P + 1) * x.natAbs + 1 ≤ 2 ^ (P + 2 + L1) := by
      have h3 := bitsN_lt x.natAbs
      rw [← hL1] at h3
      have h4 : 2 ^ (P + 1) * x.natAbs ≤ 2 ^ (P + 1) * 2 ^ L1 := Nat.mul_le_mul_left _ (Nat.le_of_lt h3)
      have h5 : 2 ^ (P + 2 + L1) = 2 * (2 ^ (P + 1) * 2 ^ L1) := by rw [← Nat.pow_add, ← Nat.pow_succ']; congr 1; omega
      have h6 : 0 < 2 ^ (P + 1) * 2 ^ L1 := Nat.mul_pos (Nat.pow_pos (by omega)) (Nat.pow_pos (by omega))
      omega
    have h7 : 2 ^ (P + 2 + L1) < LIM := by
      obtain ⟨n, hn⟩ : ∃ n, n = 524288 := ⟨_, rfl⟩
      rw [LIM_two n hn]
      exact Nat.pow_lt_pow_right (by omega) (by omega)
    have h8 : 2 ^ (P + 1) * x.natAbs = 2 * (2 ^ P * x.natAbs) := by rw [Nat.pow_succ, Nat.mul_comm (2 ^ P) 2, Nat.mul_assoc]
    omega, by omega⟩
  obtain ⟨E1, hE1⟩ : ∃ E1 : Int, E1 = e - g := ⟨_, rfl⟩
  obtain ⟨E2, hE2⟩ : ∃ E2 : Int, E2 = E1 - P := ⟨_, rfl⟩
  obtain ⟨E3, hE3⟩ : ∃ E3 : Int, E3 = E2 - 1 := ⟨_, rfl⟩
  have hfe : -1048576 ≤ e ∧ e ≤ 1048576 := by rcases h.fm with ⟨_, h2⟩ | ⟨_, h2, h3⟩ <;> omega
  have hfg : -1048576 ≤ g ∧ g ≤ 1048576 := by rcases k.fm with ⟨_, h2⟩ | ⟨_, h2, h3⟩ <;> omega
  have c5 : wrap64 (e - g) = E1 := by rw [hE1]; simp only [wrap64]; omega
  have c6 : IntKind.i64.wrap (e - g) = E1 := by rw [hE1]; simp [IntKind.wrap, IntKind.signed, IntKind.bits]; omega
  have c7 : wrap64 (E1 - (P : Int)) = E2 := by rw [hE2]; simp only [wrap64]; omega
  have c8 : IntKind.i64.wrap (E1 - (P : Int)) = E2 := by rw [hE2]; simp [IntKind.wrap, IntKind.signed, IntKind.bits]; omega
  have c9 : wrap64 (E2 - 1) = E3 := by rw [hE3]; simp only [wrap64]; omega
  have c10 : IntKind.i64.wrap (E2 - 1) = E3 := by rw [hE3]; simp [IntKind.wrap, IntKind.signed, IntKind.bits]; omega
  have HE : Hid (-4194304 ≤ E3 ∧ E3 ≤ 4194304) := by show _ ∧ _; omega
  have HMK : Hid (∀ V, V = dv ((2 * F + (if r = 0 then 0 else 1) : Nat) : Int) E3 → Mk H l I (fun τ => (y.natAbs : Int) * τ) (dv (x.natAbs : Int) (e - g)) V) := by
    intro V hV
    rw [hV]
    refine mk_quo J.jm.pm.hp (by have := J.jm.pm.lo; omega) (k := P) (F := F) (r := r) (by omega) (by omega) ?_ ?_ ?_ rfl
    · rw [J.jm.hs, hF]
      exact quo_big (by omega) (by omega) (by rw [← hL1, ← hL2]; omega)
    · rw [Nat.mul_comm, hF, hr, Nat.mul_comm (_ / _)]
      exact (Nat.div_add_mod _ _).symm
    · rw [hr]; exact Nat.mod_lt _ (by omega)
  have HF0 : Hid (F ≠ 0) := by
    have := quo_big (x := x.natAbs) (y := y.natAbs) (sd := sd) (P := P) (by omega) (by omega) (by rw [← hL1, ← hL2]; omega)
    have h2 : 0 < 2 ^ sd := Nat.pow_pos (by omega)
    show F ≠ 0
    omega
  clear J hmd h k hla hlb hT hy hx hsl hX hY hL1 hL2 hb1 hb2 hD1 hD2 hP hF hr hE1 hE2 hE3 hfe hfg hsy
  go_enter Tryz.func78, Tryz.ntmps78
  go_wp2_with fail
  obtain ⟨W0, hW0⟩ : ∃ W0, W0 = ((w.alloc (.cells #[.bool s, .slice pa na ca, .int .i64 e] 97)).alloc (.cells #[.bool t, .slice pb nb cb, .int .i64 g] 97)) := ⟨_, rfl⟩
  have Xa : Hid (B3q W0 (w.heap.size) (.bool s) (.slice pa na ca) (.int .i64 e)) := by rw [hW0]; exact ⟨by go_simp, by go_simp, by go_simp, by go_simp, by go_simp, by go_simp⟩
  have Xb : Hid (B3q W0 (w.heap.size + 1) (.bool t) (.slice pb nb cb) (.int .i64 g)) := by rw [hW0]; exact ⟨by go_simp, by go_simp, by go_simp, by go_simp, by go_simp, by go_simp⟩
  have hb0 : Below w.heap.size w W0 := by rw [hW0]; exact below2 w _ _
  rw [← hW0]
  clear hW0
  have hbw : Below w.heap.size w w := Below.refl _ _
  obtain ⟨gb, hgb⟩ : ∃ g, g = w.heap.size + 1 := ⟨_, rfl⟩
  have HGb : Hid (w.heap.size ≤ gb) := by rw [hgb]; show _ ≤ _; omega
  rw [← hgb] at Xb
  try rw [← hgb]
  obtain ⟨ga, hga⟩ : ∃ g, g = w.heap.size := ⟨_, rfl⟩
  have HGa : Hid (w.heap.size ≤ ga) := by rw [hga]; show _ ≤ _; omega
  rw [← hga] at Xa
  try rw [← hga]
  have HGD : Hid (ga ≠ gb ∧ gb ≠ ga) := by rw [hga, hgb]; exact ⟨by omega, by omega⟩
  clear hga hgb
  replace hbw := Below.on hbw hb0
  clear hb0
  refine (HJN.out.jm.pm.fm.of _).mono ?_
  rintro e v1 ⟨rfl, hb1⟩
  replace Xa : Hid _ := Xa.out.below hb1
  replace Xb : Hid _ := Xb.out.below hb1
  replace hbw := Below.on hbw hb1
  clear hb1
  obtain ⟨ca0, ca1, ca2, fa0, fa1, fa2⟩ := Xa.out
  have hnea : ga < v1.heap.size := World.block_lt_of_cell? v1 _ ca0
  obtain ⟨cb0, cb1, cb2, fb0, fb1, fb2⟩ := Xb.out
  have hneb : gb < v1.heap.size := World.block_lt_of_cell? v1 _ cb0
  go_wp2_with fail
  clear ca0 ca1 ca2 fa0 fa1 fa2 hnea
  clear cb0 cb1 cb2 fb0 fb1 fb2 hneb
  have Xg0 : Hid (B3q (v1.alloc (.cells #[.int .i64 p, .int .i64 m, .int .i64 l] 75)) v1.heap.size (.int .i64 p) (.int .i64 m) (.int .i64 l)) := B3q.new v1 _ _ _ _
  have hbn : Below v1.heap.size v1 (v1.alloc (.cells #[.int .i64 p, .int .i64 m, .int .i64 l] 75)) := below1 v1 _
  generalize v1.alloc (.cells #[.int .i64 p, .int .i64 m, .int .i64 l] 75) = Wg at *
  have HGg : Hid (w.heap.size ≤ v1.heap.size) := hbw.size
  replace Xa : Hid _ := Xa.out.below hbn
  replace Xb : Hid _ := Xb.out.below hbn
  replace hbw := Below.on hbw hbn
  clear hbn
  generalize v1.heap.size = gg at *
  have Xg := Xg0
  clear Xg0
  refine (dform_t (A.out.below hbw)).mono ?_
  rintro e v2 ⟨rfl, hb2⟩
  replace Xa : Hid _ := Xa.out.below hb2
  replace Xb : Hid _ := Xb.out.below hb2
  replace Xg : Hid _ := Xg.out.below hb2
  replace hbw := Below.on hbw hb2
  clear hb2
  obtain ⟨ca0, ca1, ca2, fa0, fa1, fa2⟩ := Xa.out
  have hnea : ga < v2.heap.size := World.block_lt_of_cell? v2 _ ca0
  obtain ⟨cb0, cb1, cb2, fb0, fb1, fb2⟩ := Xb.out
  have hneb : gb < v2.heap.size := World.block_lt_of_cell? v2 _ cb0
  obtain ⟨cg0, cg1, cg2, fg0, fg1, fg2⟩ := Xg.out
  have hneg : gg < v2.heap.size := World.block_lt_of_cell? v2 _ cg0
  go_wp2_with fail
  clear ca0 ca1 ca2 fa0 fa1 fa2 hnea
  clear cb0 cb1 cb2 fb0 fb1 fb2 hneb
  clear cg0 cg1 cg2 fg0 fg1 fg2 hneg
  refine (dform_t (B.out.below hbw)).mono ?_
  rintro e v3 ⟨rfl, hb3⟩
  replace Xa : Hid _ := Xa.out.below hb3
  replace Xb : Hid _ := Xb.out.below hb3
  replace Xg : Hid _ := Xg.out.below hb3
  replace hbw := Below.on hbw hb3
  clear hb3
  obtain ⟨ca0, ca1, ca2, fa0, fa1, fa2⟩ := Xa.out
  have hnea : ga < v3.heap.size := World.block_lt_of_cell? v3 _ ca0
  obtain ⟨cb0, cb1, cb2, fb0, fb1, fb2⟩ := Xb.out
  have hneb : gb < v3.heap.size := World.block_lt_of_cell? v3 _ cb0
  obtain ⟨cg0, cg1, cg2, fg0, fg1, fg2⟩ := Xg.out
  have hneg : gg < v3.heap.size := World.block_lt_of_cell? v3 _ cg0
  go_wp2_with fail
  clear ca0 ca1 ca2 fa0 fa1 fa2 hnea
  clear cb0 cb1 cb2 fb0 fb1 fb2 hneb
  clear cg0 cg1 cg2 fg0 fg1 fg2 hneg
  refine (zsign (B.out.zn.below hbw)).mono ?_
  rintro e v4 ⟨rfl, hb4⟩
  rw [HSY.out]
  replace Xa : Hid _ := Xa.out.below hb4
  replace Xb : Hid _ := Xb.out.below hb4
  replace Xg : Hid _ := Xg.out.below hb4
  replace hbw := Below.on hbw hb4
  clear hb4
  obtain ⟨ca0, ca1, ca2, fa0, fa1, fa2⟩ := Xa.out
  have hnea : ga < v4.heap.size := World.block_lt_of_cell? v4 _ ca0
  obtain ⟨cb0, cb1, cb2, fb0, fb1, fb2⟩ := Xb.out
  have hneb : gb < v4.heap.size := World.block_lt_of_cell? v4 _ cb0
  obtain ⟨cg0, cg1, cg2, fg0, fg1, fg2⟩ := Xg.out
  have hneg : gg < v4.heap.size := World.block_lt_of_cell? v4 _ cg0
  go_wp2_with fail
  clear ca0 ca1 ca2 fa0 fa1 fa2 hnea
  clear cb0 cb1 cb2 fb0 fb1 fb2 hneb
  clear cg0 cg1 cg2 fg0 fg1 fg2 hneg
  refine (toolong HLL.out.1).mono ?_
  rintro e v5 ⟨rfl, hb5⟩
  replace Xa : Hid _ := Xa.out.below hb5
  replace Xb : Hid _ := Xb.out.below hb5
  replace Xg : Hid _ := Xg.out.below hb5
  replace hbw := Below.on hbw hb5
  clear hb5
  obtain ⟨ca0, ca1, ca2, fa0, fa1, fa2⟩ := Xa.out
  have hnea : ga < v5.heap.size := World.block_lt_of_cell? v5 _ ca0
  obtain ⟨cb0, cb1, cb2, fb0, fb1, fb2⟩ := Xb.out
  have hneb : gb < v5.heap.size := World.block_lt_of_cell? v5 _ cb0
  obtain ⟨cg0, cg1, cg2, fg0, fg1, fg2⟩ := Xg.out
  have hneg : gg < v5.heap.size := World.block_lt_of_cell? v5 _ cg0
  go_wp2_with fail
  clear ca0 ca1 ca2 fa0 fa1 fa2 hnea
  clear cb0 cb1 cb2 fb0 fb1 fb2 hneb
  clear cg0 cg1 cg2 fg0 fg1 fg2 hneg
  refine (toolong HLL.out.2).mono ?_
  rintro e v6 ⟨rfl, hb6⟩
  replace Xa : Hid _ := Xa.out.below hb6
  replace Xb : Hid _ := Xb.out.below hb6
  replace Xg : Hid _ := Xg.out.below hb6
  replace hbw := Below.on hbw hb6
  clear hb6
  obtain ⟨ca0, ca1, ca2, fa0, fa1, fa2⟩ := Xa.out
  have hnea : ga < v6.heap.size := World.block_lt_of_cell? v6 _ ca0
  obtain ⟨cb0, cb1, cb2, fb0, fb1, fb2⟩ := Xb.out
  have hneb : gb < v6.heap.size := World.block_lt_of_cell? v6 _ cb0
  obtain ⟨cg0, cg1, cg2, fg0, fg1, fg2⟩ := Xg.out
  have hneg : gg < v6.heap.size := World.block_lt_of_cell? v6 _ cg0
  go_wp2_with fail
  clear ca0 ca1 ca2 fa0 fa1 fa2 hnea
  clear cb0 cb1 cb2 fb0 fb1 fb2 hneb
  clear cg0 cg1 cg2 fg0 fg1 fg2 hneg
  obtain ⟨W6, hW6⟩ : ∃ W1, W1 = v6.drew := ⟨_, rfl⟩
  have hbd : Below v6.heap.size v6 W6 := by rw [hW6]; exact bDrew1 (Below.refl _ _)
  replace Xa : Hid _ := Xa.out.below hbd
  replace Xb : Hid _ := Xb.out.below hbd
  replace Xg : Hid _ := Xg.out.below hbd
  replace hbw := Below.on hbw hbd
  clear hbd
  have HJ : Hid ((fun W' : World => W'.cell? ⟨gg, 0, none⟩ = some (.int .i64 p) ∧ W'.cell? ⟨gg, 1, none⟩ = some (.int .i64 m) ∧ W'.cell? ⟨gg, 2, none⟩ = some (.int .i64 l) ∧ W'.cell? ⟨gb, 0, none⟩ = some (.bool t) ∧ W'.cell? ⟨gb, 1, none⟩ = some (.slice pb nb cb) ∧ W'.cell? ⟨gb, 2, none⟩ = some (.int .i64 g) ∧ W'.cell? ⟨ga, 0, none⟩ = some (.bool s) ∧ W'.cell? ⟨ga, 1, none⟩ = some (.slice pa na ca) ∧ W'.cell? ⟨ga, 2, none⟩ = some (.int .i64 e)) W6) := ⟨Xg.out.c0, Xg.out.c1, Xg.out.c2, Xb.out.c0, Xb.out.c1, Xb.out.c2, Xa.out.c0, Xa.out.c1, Xa.out.c2⟩
  refine wp_region_J (fun W' => W'.cell? ⟨gg, 0, none⟩ = some (.int .i64 p) ∧ W'.cell? ⟨gg, 1, none⟩ = some (.int .i64 m) ∧ W'.cell? ⟨gg, 2, none⟩ = some (.int .i64 l) ∧ W'.cell? ⟨gb, 0, none⟩ = some (.bool t) ∧ W'.cell? ⟨gb, 1, none⟩ = some (.slice pb nb cb) ∧ W'.cell? ⟨gb, 2, none⟩ = some (.int .i64 g) ∧ W'.cell? ⟨ga, 0, none⟩ = some (.bool s) ∧ W'.cell? ⟨ga, 1, none⟩ = some (.slice pa na ca) ∧ W'.cell? ⟨ga, 2, none⟩ = some (.int .i64 e)) (by kernel_rfl) ?_
  rw [← hW6]
  clear hW6
  refine wpJ_tq 0 rfl HJ.out ?_
  refine wpJ_tq 2 rfl HJ.out ?_
  refine wpJ_tq 3 rfl HJ.out ?_
  refine wpJ_tq 4 rfl HJ.out ?_
  refine wpJ_tq 7 rfl HJ.out ?_
  go_simp
  refine wpJ_tq 8 rfl HJ.out ?_
  refine wpJ_tq 9 rfl HJ.out ?_
  refine wpJ_on 1 rfl fun KJ hK => ?_
  go_simp
  refine (enough_ok HM9.out).mono ?_
  rintro e v7 ⟨rfl, hb7⟩
  replace Xa : Hid _ := Xa.out.below hb7
  replace Xb : Hid _ := Xb.out.below hb7
  replace Xg : Hid _ := Xg.out.below hb7
  replace hbw := Below.on hbw hb7
  clear hb7
  refine hK _ _ ⟨Xg.out.c0, Xg.out.c1, Xg.out.c2, Xb.out.c0, Xb.out.c1, Xb.out.c2, Xa.out.c0, Xa.out.c1, Xa.out.c2⟩ ?_
  clear hK
  refine wpJ_on 5 rfl fun KJ hK => ?_
  go_simp
  refine (bits_any (HY.out.at_.below hbw) (Nat.le_trans HY.out.le (by decide))).mono ?_
  rintro e v8 ⟨rfl, hw⟩
  obtain rfl := hw.symm
  clear hw
  rw [HBY.out]
  clear HJ
  have HJ : Hid ((fun W' : World => W'.cell? ⟨gg, 0, none⟩ = some (.int .i64 p) ∧ W'.cell? ⟨gg, 1, none⟩ = some (.int .i64 m) ∧ W'.cell? ⟨gg, 2, none⟩ = some (.int .i64 l) ∧ W'.cell? ⟨gb, 0, none⟩ = some (.bool t) ∧ W'.cell? ⟨gb, 1, none⟩ = some (.slice pb nb cb) ∧ W'.cell? ⟨gb, 2, none⟩ = some (.int .i64 g) ∧ W'.cell? ⟨ga, 0, none⟩ = some (.bool s) ∧ W'.cell? ⟨ga, 1, none⟩ = some (.slice pa na ca) ∧ W'.cell? ⟨ga, 2, none⟩ = some (.int .i64 e)) v7) := ⟨Xg.out.c0, Xg.out.c1, Xg.out.c2, Xb.out.c0, Xb.out.c1, Xb.out.c2, Xa.out.c0, Xa.out.c1, Xa.out.c2⟩
  refine hK _ _ HJ.out ?_
  clear hK
  refine wpJ_tq 6 rfl HJ.out ?_
  refine wpJ_on 10 rfl fun KJ hK => ?_
  go_simp
  refine (bits_any (HX.out.at_.below hbw) (Nat.le_trans HX.out.le (by decide))).mono ?_
  rintro e v9 ⟨rfl, hw⟩
  obtain rfl := hw.symm
  clear hw
  rw [HBX.out]
  clear HJ
  have HJ : Hid ((fun W' : World => W'.cell? ⟨gg, 0, none⟩ = some (.int .i64 p) ∧ W'.cell? ⟨gg, 1, none⟩ = some (.int .i64 m) ∧ W'.cell? ⟨gg, 2, none⟩ = some (.int .i64 l) ∧ W'.cell? ⟨gb, 0, none⟩ = some (.bool t) ∧ W'.cell? ⟨gb, 1, none⟩ = some (.slice pb nb cb) ∧ W'.cell? ⟨gb, 2, none⟩ = some (.int .i64 g) ∧ W'.cell? ⟨ga, 0, none⟩ = some (.bool s) ∧ W'.cell? ⟨ga, 1, none⟩ = some (.slice pa na ca) ∧ W'.cell? ⟨ga, 2, none⟩ = some (.int .i64 e)) v7) := ⟨Xg.out.c0, Xg.out.c1, Xg.out.c2, Xb.out.c0, Xb.out.c1, Xb.out.c2, Xa.out.c0, Xa.out.c1, Xa.out.c2⟩
  refine hK _ _ HJ.out ?_
  clear hK
  refine wpJ_tq 11 rfl HJ.out ?_
  refine wpJ_tq 12 rfl HJ.out ?_
  refine wpJ_tq 13 rfl HJ.out ?_
  refine wpJ_done (by kernel_rfl) ?_ _
  clear HJ
  obtain ⟨ca0, ca1, ca2, fa0, fa1, fa2⟩ := Xa.out
  have hnea : ga < v7.heap.size := World.block_lt_of_cell? v7 _ ca0
  obtain ⟨cb0, cb1, cb2, fb0, fb1, fb2⟩ := Xb.out
  have hneb : gb < v7.heap.size := World.block_lt_of_cell? v7 _ cb0
  obtain ⟨cg0, cg1, cg2, fg0, fg1, fg2⟩ := Xg.out
  have hneg : gg < v7.heap.size := World.block_lt_of_cell? v7 _ cg0
  go_wp2_with fail
  clear ca0 ca1 ca2 fa0 fa1 fa2 hnea
  clear cb0 cb1 cb2 fb0 fb1 fb2 hneb
  clear cg0 cg1 cg2 fg0 fg1 fg2 hneg
  rw [HMX.out]
  refine (shl_nf (HX.out.at_.below hbw) HX.out.nf HX.out.le P HP.out.1).mono ?_
  rintro e2 v10 ⟨ha, hb10⟩
  obtain ⟨p1, m1, z1, rfl, ho1, hn1, hm1⟩ := ha.ok HP.out.2
  clear ha
  replace Xa : Hid _ := Xa.out.below hb10
  replace Xb : Hid _ := Xb.out.below hb10
  replace Xg : Hid _ := Xg.out.below hb10
  replace hbw := Below.on hbw hb10
  clear hb10
  have O1 : Hid (Own v7.heap.size v10 p1 m1 z1) := ho1
  have N1 : Hid (Nf B64 z1 (2 ^ P * x.natAbs) ∧ m1 ≤ 8192) := ⟨hn1, hm1⟩
  clear ho1 hn1 hm1
  obtain ⟨ca0, ca1, ca2, fa0, fa1, fa2⟩ := Xa.out
  have hnea : ga < v10.heap.size := World.block_lt_of_cell? v10 _ ca0
  obtain ⟨cb0, cb1, cb2, fb0, fb1, fb2⟩ := Xb.out
  have hneb : gb < v10.heap.size := World.block_lt_of_cell? v10 _ cb0
  obtain ⟨cg0, cg1, cg2, fg0, fg1, fg2⟩ := Xg.out
  have hneg : gg < v10.heap.size := World.block_lt_of_cell? v10 _ cg0
  go_wp2_with fail
  clear ca0 ca1 ca2 fa0 fa1 fa2 hnea
  clear cb0 cb1 cb2 fb0 fb1 fb2 hneb
  clear cg0 cg1 cg2 fg0 fg1 fg2 hneg
  refine (quorem_any (Num.of O1.out N1.out.1 N1.out.2).at_ (HY.out.at_.below hbw) N1.out.1 HY.out.nf N1.out.2 HY.out.le HMX2.out.2).mono ?_
  rintro e2 v11 ⟨u1, u2, rfl, hdt⟩
  obtain ⟨p2, m2, z2, rfl, ho2, hn2, hm2⟩ := hdt.quo
  obtain ⟨p3, m3, z3, rfl, ho3, hn3, hm3⟩ := hdt.rem
  rw [HFR.out.1] at hn2
  rw [HFR.out.2] at hn3
  have hb11 := hdt.bel
  clear hdt
  clear O1
  replace Xa : Hid _ := Xa.out.below hb11
  replace Xb : Hid _ := Xb.out.below hb11
  replace Xg : Hid _ := Xg.out.below hb11
  replace hbw := Below.on hbw hb11
  clear hb11
  have O2 : Hid (Own v10.heap.size v11 p2 m2 z2) := ho2
  have O3 : Hid (Own v10.heap.size v11 p3 m3 z3) := ho3
  have N2 : Hid (Nf B64 z2 F ∧ m2 ≤ 8192) := ⟨hn2, hm2⟩
  have N3 : Hid (Nf B64 z3 r ∧ m3 ≤ 8192) := ⟨hn3, hm3⟩
  clear ho2 hn2 hm2 ho3 hn3 hm3
  obtain ⟨ca0, ca1, ca2, fa0, fa1, fa2⟩ := Xa.out
  have hnea : ga < v11.heap.size := World.block_lt_of_cell? v11 _ ca0
  obtain ⟨cb0, cb1, cb2, fb0, fb1, fb2⟩ := Xb.out
  have hneb : gb < v11.heap.size := World.block_lt_of_cell? v11 _ cb0
  obtain ⟨cg0, cg1, cg2, fg0, fg1, fg2⟩ := Xg.out
  have hneg : gg < v11.heap.size := World.block_lt_of_cell? v11 _ cg0
  go_wp2_with fail
  clear ca0 ca1 ca2 fa0 fa1 fa2 hnea
  clear cb0 cb1 cb2 fb0 fb1 fb2 hneb
  clear cg0 cg1 cg2 fg0 fg1 fg2 hneg
  rw [show (!s == t) = (s != t) from by cases s <;> cases t <;> rfl]
  refine (withmark (s != t) (Num.of O2.out N2.out.1 N2.out.2) (Num.of O3.out N3.out.1 N3.out.2) HMX2.out.1).mono ?_
  rintro e2 v12 ⟨p4, m4, z4, rfl, ho4, hn4, hm4, hb12⟩
  clear O2
  clear O3
  replace Xa : Hid _ := Xa.out.below hb12
  replace Xb : Hid _ := Xb.out.below hb12
  replace Xg : Hid _ := Xg.out.below hb12
  replace hbw := Below.on hbw hb12
  clear hb12
  have O4 : Hid (Own v11.heap.size v12 p4 m4 z4) := ho4
  have N4 : Hid (Nf B64 z4 (2 * F + (if r = 0 then 0 else 1)) ∧ m4 ≤ 8192) := ⟨hn4, hm4⟩
  clear ho4 hn4 hm4
  obtain ⟨sg, hsg2⟩ : ∃ sg, sg = (s != t) := ⟨_, rfl⟩
  have HSG : Hid (sg = (s != t)) := hsg2
  rw [← hsg2]
  clear hsg2
  obtain ⟨ca0, ca1, ca2, fa0, fa1, fa2⟩ := Xa.out
  have hnea : ga < v12.heap.size := World.block_lt_of_cell? v12 _ ca0
  obtain ⟨cb0, cb1, cb2, fb0, fb1, fb2⟩ := Xb.out
  have hneb : gb < v12.heap.size := World.block_lt_of_cell? v12 _ cb0
  obtain ⟨cg0, cg1, cg2, fg0, fg1, fg2⟩ := Xg.out
  have hneg : gg < v12.heap.size := World.block_lt_of_cell? v12 _ cg0
  go_wp2_with fail
  clear ca0 ca1 ca2 fa0 fa1 fa2 hnea
  clear cb0 cb1 cb2 fb0 fb1 fb2 hneb
  clear cg0 cg1 cg2 fg0 fg1 fg2 hneg
  have Xm0 : Hid (Box (v12.alloc (.cells #[.bool sg, .slice p4 m4 m4] 95)) v12.heap.size (.bool sg) (.slice p4 m4 m4)) := Box.new v12 _ _ _
  have hbn : Below v12.heap.size v12 (v12.alloc (.cells #[.bool sg, .slice p4 m4 m4] 95)) := below1 v12 _
  generalize v12.alloc (.cells #[.bool sg, .slice p4 m4 m4] 95) = Wm at *
  have HGm : Hid (w.heap.size ≤ v12.heap.size) := hbw.size
  replace Xa : Hid _ := Xa.out.below hbn
  replace Xb : Hid _ := Xb.out.below hbn
  replace Xg : Hid _ := Xg.out.below hbn
  replace O4 : Hid (Own v11.heap.size Wm p4 m4 z4) := O4.out.below hbn
  replace hbw := Below.on hbw hbn
  clear hbn
  generalize v12.heap.size = gm at *
  have Xm := Xm0
  clear Xm0
  obtain ⟨M, hM⟩ : ∃ M, M = 2 * F + (if r = 0 then 0 else 1) := ⟨_, rfl⟩
  obtain ⟨z, hz⟩ : ∃ z : Int, z = if s = t then (M : Int) else -(M : Int) := ⟨_, rfl⟩
  obtain ⟨q1, q2, q3⟩ := signed_is s t (M := M) (by have := HF0.out; omega) hz
  have ZZ : ZN Wm sg p4 m4 m4 z := ⟨⟨z4, by rw [q1]; exact Num.of O4.out (by rw [hM]; exact N4.out.1) N4.out.2⟩, by rw [q2, HSG.out]⟩
  obtain ⟨Zq, hZ1, hZ2, hZ3, _⟩ := rnp_is HJN.out z E3 HE.out.1
  rw [q1] at hZ2
  have HRZ : Hid (RNz H l I (dv (M : Int) E3) Zq ∧ Mk H l I (fun τ => (y.natAbs : Int) * τ) (dv (x.natAbs : Int) (e - g)) (dv (M : Int) E3)) := ⟨hZ2, HMK.out _ (by rw [hM])⟩
  obtain ⟨b, hb⟩ : ∃ b, b = rnp l sd Be S I z E3 := ⟨_, rfl⟩
  have HB : Hid (SgB S s t b Zq) := by
    show b = if s = t then Zq else S + Zq
    rw [hb, hZ3]
    by_cases h9 : s = t
    · rw [if_pos h9, if_neg (by rw [hz, if_pos h9]; omega)]
    · rw [if_neg h9, if_pos (by rw [hz, if_neg h9]; omega)]
  refine (nearest_ok HJN.out ZZ HE.out (TB.out.below hbw)).mono ?_
  rintro e2 v13 ⟨rfl, hb13⟩
  rw [← hb]
  clear ZZ hz q1 q2 q3 hZ1 hZ2 hZ3 hb hM
  replace Xa : Hid _ := Xa.out.below hb13
  replace Xb : Hid _ := Xb.out.below hb13
  replace Xg : Hid _ := Xg.out.below hb13
  replace Xm : Hid _ := Xm.out.below hb13
  replace O4 : Hid (Own v11.heap.size v13 p4 m4 z4) := O4.out.below hb13
  replace hbw := Below.on hbw hb13
  clear hb13
  go_wp2_with fail
  go_ret2
  exact ⟨b, Zq, _, rfl, HB.out, HRZ.out.1, HRZ.out.2, hbw⟩
theorem and_one_i64 (z : Int) : bits BinOp.and IntKind.i64 z 1 = z % 2 := by
  have h1 : (BitVec.ofInt 64 1).toNat = 2 ^ 1 - 1 := by decide
  have key : (BitVec.ofInt 64 z &&& BitVec.ofInt 64 1).toNat = (z % ((2 ^ 64 : Nat) : Int)).toNat % 2 ^ 1 := by
    rw [BitVec.toNat_and, BitVec.toNat_ofInt, h1, Nat.and_two_pow_sub_one_eq_mod]
  show IntKind.i64.wrap ((BitVec.ofInt 64 z &&& BitVec.ofInt 64 1).toNat : Nat) = _
  rw [key]
  simp only [IntKind.wrap, IntKind.signed, IntKind.bits]
  simp
  omega
theorem root_big {x sd P F : Nat} (hx : x ≠ 0) (hP : 2 * (sd + 2) ≤ bitsN x + P) (h : 2 ^ P * x ≤ F * F + 2 * F) : 2 * 2 ^ sd ≤ F := by
  refine Nat.le_of_not_lt fun hlt => ?_
  have h2 := bitsN_le x hx
  have h3 := bitsN_pos hx
  have h4 : 2 ^ (2 * sd + 3) ≤ 2 ^ P * x := by
    have h5 : 2 ^ (2 * sd + 3) ≤ 2 ^ (P + (bitsN x - 1)) := Nat.pow_le_pow_right (by omega) (by omega)
    have h6 : 2 ^ P * 2 ^ (bitsN x - 1) ≤ 2 ^ P * x := Nat.mul_le_mul_left _ h2
    rw [← Nat.pow_add] at h6
    omega
  have h7 : (F + 1) * (F + 1) ≤ 2 * 2 ^ sd * (2 * 2 ^ sd) := Nat.mul_le_mul hlt hlt
  have h8 : 2 * 2 ^ sd * (2 * 2 ^ sd) * 2 = 2 ^ (2 * sd + 3) := by
    rw [← Nat.pow_succ', ← Nat.pow_add, ← Nat.pow_succ]; congr 1; omega
  have h9 : (F + 1) * (F + 1) = F * F + 2 * F + 1 := by rw [Nat.add_mul, Nat.mul_add]; omega
  omega
theorem w64_of {z : Int} (h1 : -4611686018427387904 ≤ z) (h2 : z ≤ 4611686018427387904) : wrap64 z = z := by simp only [wrap64]; omega
theorem wi64_of {z : Int} (h1 : -4611686018427387904 ≤ z) (h2 : z ≤ 4611686018427387904) : IntKind.i64.wrap z = z := by simp [IntKind.wrap, IntKind.signed, IntKind.bits]; omega
theorem root_lim {x P : Nat} (h : bitsN x + P ≤ 524000) (F : Nat) (hF : F * F ≤ 2 ^ P * x) : 2 * F + 1 < LIM := by
  have h3 : 4 * 2 ^ (P + bitsN x) ≤ LIM := by
    obtain ⟨n, hn⟩ : ∃ n, n = 524288 := ⟨_, rfl⟩
    rw [LIM_two n hn, show 4 * 2 ^ (P + bitsN x) = 2 ^ (P + bitsN x + 2) from by rw [Nat.pow_add _ _ 2, Nat.mul_comm]]
    exact Nat.pow_le_pow_right (by omega) (by omega)
  have h2 : 2 ^ P * x < 2 ^ (P + bitsN x) := by
    rw [Nat.pow_add]
    exact Nat.mul_lt_mul_of_pos_left (bitsN_lt _) (Nat.pow_pos (by omega))
  generalize 2 ^ (P + bitsN x) = Y at h2 h3
  generalize 2 ^ P * x = X at hF h2
  have h5 : F ≤ F * F := by
    rcases Nat.eq_zero_or_pos F with h6 | h6
    · rw [h6]; omega
    · exact Nat.le_mul_of_pos_left F h6
  omega
theorem root_n {f p m l : Int} {S I H sd : Nat} {Be : Int} (J : Jn f p m l S I H sd Be) (hmd : m = (sd : Int) + 1) {pa : Option Addr} {na ca : Nat} {w : World} {x e : Int} {s : Bool} (h : DN w s pa na ca e x) (hla : na ≤ 4096) (hT : Tab w) (hx : x > 0) :
    Calls Tryz.prog 92 #[.int .i64 f, DV s pa na ca e] w fun en w' => ∃ Z V, en = .returned (.tuple #[U Z, .int .i64 0]) ∧ RNz H l I V Z ∧ Mk H l I (fun τ => τ * τ) ((x.natAbs : Int) * ((2 ^ (e + 2 * 4194304).toNat : Nat) : Int)) V ∧ Below w.heap.size w w' := by
  have HJN : Hid (Jn f p m l S I H sd Be) := J
  have A : Hid (DN w s pa na ca e x) := h
  have HLL : Hid (na ≤ 4096) := hla
  have TB : Hid (Tab w) := hT
  have hsg : (decide (sgnI x < 0)) = false := by
    refine decide_eq_false ?_
    rcases sgn3 x with ⟨_, h2⟩ | ⟨h1, _⟩ | ⟨h1, h2⟩ <;> omega
  obtain ⟨sx, hsx⟩ : ∃ sx, sx = sgnI x := ⟨_, rfl⟩
  rw [← hsx] at hsg
  have HSX : Hid (sgnI x = sx) := hsx.symm
  have hsl := J.jm.sl
  obtain ⟨xs, hX⟩ := h.zn.ex
  have HX : Hid (Num w pa na ca xs x.natAbs) := hX
  obtain ⟨L1, hL1⟩ : ∃ L1, L1 = bitsN x.natAbs := ⟨_, rfl⟩
  have hb1 := half_bits h.zn hla
  rw [← hL1] at hb1
  have HBX : Hid (bitsN (valB B64 xs) = L1) := by rw [hL1, hX.nf.val]; rfl
  obtain ⟨D1, hD1⟩ : ∃ D1 : Int, D1 = 2 * (m + 1) := ⟨_, rfl⟩
  obtain ⟨D2, hD2⟩ : ∃ D2 : Int, D2 = D1 - L1 := ⟨_, rfl⟩
  obtain ⟨P0, hP0⟩ : ∃ P0 : Nat, (P0 : Int) = max D2 0 := ⟨(max D2 0).toNat, by omega⟩
  have HM9 : Hid (0 ≤ m ∧ m ≤ 1000) := by show _ ∧ _; omega
  have hfe : -1048576 ≤ e ∧ e ≤ 1048576 := by rcases h.fm with ⟨_, h2⟩ | ⟨_, h2, h3⟩ <;> omega
  have hP0b : P0 ≤ 200 ∧ 2 * (sd + 2) ≤ L1 + P0 := by omega
  have b1 : -4611686018427387904 ≤ D1 ∧ D1 ≤ 4611686018427387904 := by omega
  have b2 : -4611686018427387904 ≤ D2 ∧ D2 ≤ 4611686018427387904 := by omega
  have HMX : max D2 0 = (P0 : Int) := hP0.symm
  clear hP0
  obtain ⟨D3, hD3⟩ : ∃ D3 : Int, D3 = e - P0 := ⟨_, rfl⟩
  obtain ⟨D4, hD4⟩ : ∃ D4 : Nat, (D4 : Int) = D3 % 2 := ⟨(D3 % 2).toNat, by omega⟩
  have hD4b : D4 ≤ 1 := by omega
  obtain ⟨P, hP⟩ : ∃ P : Nat, P = P0 + D4 := ⟨_, rfl⟩
  have hPP : (P0 : Int) + (D4 : Int) = (P : Int) := by omega
  obtain ⟨E1, hE1⟩ : ∃ E1 : Int, E1 = e - P := ⟨_, rfl⟩
  obtain ⟨E2, hE2⟩ : ∃ E2 : Int, E1 = 2 * E2 := ⟨E1 / 2, by omega⟩
  obtain ⟨E3, hE3⟩ : ∃ E3 : Int, E3 = E2 - 1 := ⟨_, rfl⟩
  have b3 : -4611686018427387904 ≤ D3 ∧ D3 ≤ 4611686018427387904 := by omega
  have b4 : -4611686018427387904 ≤ (P : Int) ∧ (P : Int) ≤ 4611686018427387904 := by omega
  have b5 : -4611686018427387904 ≤ E1 ∧ E1 ≤ 4611686018427387904 := by omega
  have b6 : -4611686018427387904 ≤ E2 ∧ E2 ≤ 4611686018427387904 := by omega
  have b7 : -4611686018427387904 ≤ E3 ∧ E3 ≤ 4611686018427387904 := by omega
  have HE : Hid (-4194304 ≤ E3 ∧ E3 ≤ 4194304) := by show _ ∧ _; omega
  have HP : Hid (P ≤ 9223372036854775807 ∧ 2 ^ P * x.natAbs < LIM) := ⟨by omega, shl_lim2 (by rw [← hL1]; omega)⟩
  have HLF : Hid (∀ F : Nat, F * F ≤ 2 ^ P * x.natAbs → 2 * F + 1 < LIM) := root_lim (by rw [hL1] at hb1; omega)
  have HMK : Hid (∀ F r M : Nat, 2 ^ P * x.natAbs = F * F + r → r ≤ 2 * F → M = 2 * F + (if r = 0 then 0 else 1) → M ≠ 0 ∧ Mk H l I (fun τ => τ * τ) ((x.natAbs : Int) * ((2 ^ (e + 2 * 4194304).toNat : Nat) : Int)) (dv (M : Int) E3)) := fun F r M hF hr hM => by
    have hb := root_big (x := x.natAbs) (sd := sd) (P := P) (F := F) (by omega) (by rw [← hL1]; omega) (by rw [hF]; omega)
    rw [← J.jm.hs] at hb
    have hp := J.jm.pm.hp
    exact ⟨by omega, mk_root hp (by have := J.jm.pm.lo; omega) (k := P) (F := F) (r := r) (by omega) (by omega) hb (by rw [Nat.mul_comm]; exact hF) hr hM⟩
  have c16 : E1.tdiv 2 = E2 := by rw [hE2]; exact Int.mul_tdiv_cancel_left E2 (by decide)
  have c1 : wrap64 (2 * (m + 1)) = D1 := by rw [← hD1]; exact w64_of b1.1 b1.2
  have c2 : IntKind.i64.wrap (2 * (m + 1)) = D1 := by rw [← hD1]; exact wi64_of b1.1 b1.2
  have c3 : wrap64 (D1 - (L1 : Int)) = D2 := by rw [← hD2]; exact w64_of b2.1 b2.2
  have c4 : IntKind.i64.wrap (D1 - (L1 : Int)) = D2 := by rw [← hD2]; exact wi64_of b2.1 b2.2
  have c5 : wrap64 (e - (P0 : Int)) = D3 := by rw [← hD3]; exact w64_of b3.1 b3.2
  have c6 : IntKind.i64.wrap (e - (P0 : Int)) = D3 := by rw [← hD3]; exact wi64_of b3.1 b3.2
  have c7 : bits BinOp.and IntKind.i64 D3 1 = (D4 : Int) := by rw [and_one_i64]; exact hD4.symm
  have c8 : wrap64 ((P0 : Int) + (D4 : Int)) = (P : Int) := by rw [hPP]; exact w64_of b4.1 b4.2
  have c9 : IntKind.i64.wrap ((P0 : Int) + (D4 : Int)) = (P : Int) := by rw [hPP]; exact wi64_of b4.1 b4.2
  have c10 : wrap64 (e - (P : Int)) = E1 := by rw [← hE1]; exact w64_of b5.1 b5.2
  have c11 : IntKind.i64.wrap (e - (P : Int)) = E1 := by rw [← hE1]; exact wi64_of b5.1 b5.2
  have c12 : wrap64 E2 = E2 := w64_of b6.1 b6.2
  have c13 : IntKind.i64.wrap E2 = E2 := wi64_of b6.1 b6.2
  have c14 : wrap64 (E2 - 1) = E3 := by rw [← hE3]; exact w64_of b7.1 b7.2
  have c15 : IntKind.i64.wrap (E2 - 1) = E3 := by rw [← hE3]; exact wi64_of b7.1 b7.2
  clear J hmd h hla hT hx hsl hX hL1 hb1 hD1 hD2 hP0b hD3 hD4 hD4b hP hPP hE1 hE2 hE3 b1 b2 b3 b4 b5 b6 b7 hfe hsx
  go_enter Tryz.func92, Tryz.ntmps92
  go_wp2_with fail
  obtain ⟨W0, hW0⟩ : ∃ W0, W0 = (w.alloc (.cells #[.bool s, .slice pa na ca, .int .i64 e] 97)) := ⟨_, rfl⟩
  have Xa : Hid (B3q W0 (w.heap.size) (.bool s) (.slice pa na ca) (.int .i64 e)) := by rw [hW0]; exact ⟨by go_simp, by go_simp, by go_simp, by go_simp, by go_simp, by go_simp⟩
  have hb0 : Below w.heap.size w W0 := by rw [hW0]; exact below1 w _
  rw [← hW0]
  clear hW0
  have hbw : Below w.heap.size w w := Below.refl _ _
  obtain ⟨ga, hga⟩ : ∃ g, g = w.heap.size := ⟨_, rfl⟩
  have HGa : Hid (w.heap.size ≤ ga) := by rw [hga]; show _ ≤ _; omega
  rw [← hga] at Xa
  try rw [← hga]
  clear hga
  replace hbw := Below.on hbw hb0
  clear hb0
  refine (HJN.out.jm.pm.fm.of _).mono ?_
  rintro e v1 ⟨rfl, hb1⟩
  replace Xa : Hid _ := Xa.out.below hb1
  replace hbw := Below.on hbw hb1
  clear hb1
  obtain ⟨ca0, ca1, ca2, fa0, fa1, fa2⟩ := Xa.out
  have hnea : ga < v1.heap.size := World.block_lt_of_cell? v1 _ ca0
  go_wp2_with fail
  clear ca0 ca1 ca2 fa0 fa1 fa2 hnea
  have Xg0 : Hid (B3q (v1.alloc (.cells #[.int .i64 p, .int .i64 m, .int .i64 l] 75)) v1.heap.size (.int .i64 p) (.int .i64 m) (.int .i64 l)) := B3q.new v1 _ _ _ _
  have hbn : Below v1.heap.size v1 (v1.alloc (.cells #[.int .i64 p, .int .i64 m, .int .i64 l] 75)) := below1 v1 _
  generalize v1.alloc (.cells #[.int .i64 p, .int .i64 m, .int .i64 l] 75) = Wg at *
  have HGg : Hid (w.heap.size ≤ v1.heap.size) := hbw.size
  replace Xa : Hid _ := Xa.out.below hbn
  replace hbw := Below.on hbw hbn
  clear hbn
  generalize v1.heap.size = gg at *
  have Xg := Xg0
  clear Xg0
  refine (dform_t (A.out.below hbw)).mono ?_
  rintro e v2 ⟨rfl, hb2⟩
  replace Xa : Hid _ := Xa.out.below hb2
  replace Xg : Hid _ := Xg.out.below hb2
  replace hbw := Below.on hbw hb2
  clear hb2
  obtain ⟨ca0, ca1, ca2, fa0, fa1, fa2⟩ := Xa.out
  have hnea : ga < v2.heap.size := World.block_lt_of_cell? v2 _ ca0
  obtain ⟨cg0, cg1, cg2, fg0, fg1, fg2⟩ := Xg.out
  have hneg : gg < v2.heap.size := World.block_lt_of_cell? v2 _ cg0
  go_wp2_with fail
  clear ca0 ca1 ca2 fa0 fa1 fa2 hnea
  clear cg0 cg1 cg2 fg0 fg1 fg2 hneg
  refine (zsign (A.out.zn.below hbw)).mono ?_
  rintro e v4 ⟨rfl, hb4⟩
  rw [HSX.out]
  replace Xa : Hid _ := Xa.out.below hb4
  replace Xg : Hid _ := Xg.out.below hb4
  replace hbw := Below.on hbw hb4
  clear hb4
  obtain ⟨ca0, ca1, ca2, fa0, fa1, fa2⟩ := Xa.out
  have hnea : ga < v4.heap.size := World.block_lt_of_cell? v4 _ ca0
  obtain ⟨cg0, cg1, cg2, fg0, fg1, fg2⟩ := Xg.out
  have hneg : gg < v4.heap.size := World.block_lt_of_cell? v4 _ cg0
  go_wp2_with fail
  clear ca0 ca1 ca2 fa0 fa1 fa2 hnea
  clear cg0 cg1 cg2 fg0 fg1 fg2 hneg
  refine (toolong HLL.out).mono ?_
  rintro e v5 ⟨rfl, hb5⟩
  replace Xa : Hid _ := Xa.out.below hb5
  replace Xg : Hid _ := Xg.out.below hb5
  replace hbw := Below.on hbw hb5
  clear hb5
  obtain ⟨ca0, ca1, ca2, fa0, fa1, fa2⟩ := Xa.out
  have hnea : ga < v5.heap.size := World.block_lt_of_cell? v5 _ ca0
  obtain ⟨cg0, cg1, cg2, fg0, fg1, fg2⟩ := Xg.out
  have hneg : gg < v5.heap.size := World.block_lt_of_cell? v5 _ cg0
  go_wp2_with fail
  clear ca0 ca1 ca2 fa0 fa1 fa2 hnea
  clear cg0 cg1 cg2 fg0 fg1 fg2 hneg
  obtain ⟨W6, hW6⟩ : ∃ W1, W1 = v5.drew := ⟨_, rfl⟩
  have hbd : Below v5.heap.size v5 W6 := by rw [hW6]; exact bDrew1 (Below.refl _ _)
  replace Xa : Hid _ := Xa.out.below hbd
  replace Xg : Hid _ := Xg.out.below hbd
  replace hbw := Below.on hbw hbd
  clear hbd
  have HJ : Hid ((fun W' : World => W'.cell? ⟨gg, 0, none⟩ = some (.int .i64 p) ∧ W'.cell? ⟨gg, 1, none⟩ = some (.int .i64 m) ∧ W'.cell? ⟨gg, 2, none⟩ = some (.int .i64 l) ∧ W'.cell? ⟨ga, 0, none⟩ = some (.bool s) ∧ W'.cell? ⟨ga, 1, none⟩ = some (.slice pa na ca) ∧ W'.cell? ⟨ga, 2, none⟩ = some (.int .i64 e)) W6) := ⟨Xg.out.c0, Xg.out.c1, Xg.out.c2, Xa.out.c0, Xa.out.c1, Xa.out.c2⟩
  refine wp_region_J (fun W' => W'.cell? ⟨gg, 0, none⟩ = some (.int .i64 p) ∧ W'.cell? ⟨gg, 1, none⟩ = some (.int .i64 m) ∧ W'.cell? ⟨gg, 2, none⟩ = some (.int .i64 l) ∧ W'.cell? ⟨ga, 0, none⟩ = some (.bool s) ∧ W'.cell? ⟨ga, 1, none⟩ = some (.slice pa na ca) ∧ W'.cell? ⟨ga, 2, none⟩ = some (.int .i64 e)) (by kernel_rfl) ?_
  rw [← hW6]
  clear hW6
  refine wpJ_tq 0 rfl HJ.out ?_
  refine wpJ_tq 3 rfl HJ.out ?_
  refine wpJ_tq 4 rfl HJ.out ?_
  refine wpJ_tq 5 rfl HJ.out ?_
  refine wpJ_on 1 rfl fun KJ hK => ?_
  go_simp
  refine (enough_ok HM9.out).mono ?_
  rintro e v7 ⟨rfl, hb7⟩
  replace Xa : Hid _ := Xa.out.below hb7
  replace Xg : Hid _ := Xg.out.below hb7
  replace hbw := Below.on hbw hb7
  clear hb7
  clear HJ
  have HJ : Hid ((fun W' : World => W'.cell? ⟨gg, 0, none⟩ = some (.int .i64 p) ∧ W'.cell? ⟨gg, 1, none⟩ = some (.int .i64 m) ∧ W'.cell? ⟨gg, 2, none⟩ = some (.int .i64 l) ∧ W'.cell? ⟨ga, 0, none⟩ = some (.bool s) ∧ W'.cell? ⟨ga, 1, none⟩ = some (.slice pa na ca) ∧ W'.cell? ⟨ga, 2, none⟩ = some (.int .i64 e)) v7) := ⟨Xg.out.c0, Xg.out.c1, Xg.out.c2, Xa.out.c0, Xa.out.c1, Xa.out.c2⟩
  refine hK _ _ HJ.out ?_
  clear hK
  refine wpJ_tq 2 rfl HJ.out ?_
  refine wpJ_on 6 rfl fun KJ hK => ?_
  go_simp
  refine (bits_any (HX.out.at_.below hbw) (Nat.le_trans HX.out.le (by decide))).mono ?_
  rintro e v9 ⟨rfl, hw⟩
  obtain rfl := hw.symm
  clear hw
  rw [HBX.out]
  clear HJ
  have HJ : Hid ((fun W' : World => W'.cell? ⟨gg, 0, none⟩ = some (.int .i64 p) ∧ W'.cell? ⟨gg, 1, none⟩ = some (.int .i64 m) ∧ W'.cell? ⟨gg, 2, none⟩ = some (.int .i64 l) ∧ W'.cell? ⟨ga, 0, none⟩ = some (.bool s) ∧ W'.cell? ⟨ga, 1, none⟩ = some (.slice pa na ca) ∧ W'.cell? ⟨ga, 2, none⟩ = some (.int .i64 e)) v7) := ⟨Xg.out.c0, Xg.out.c1, Xg.out.c2, Xa.out.c0, Xa.out.c1, Xa.out.c2⟩
  refine hK _ _ HJ.out ?_
  clear hK
  refine wpJ_tq 7 rfl HJ.out ?_
  refine wpJ_tq 8 rfl HJ.out ?_
  refine wpJ_tq 9 rfl HJ.out ?_
  refine wpJ_done (by kernel_rfl) ?_ _
  clear HJ
  obtain ⟨ca0, ca1, ca2, fa0, fa1, fa2⟩ := Xa.out
  have hnea : ga < v7.heap.size := World.block_lt_of_cell? v7 _ ca0
  obtain ⟨cg0, cg1, cg2, fg0, fg1, fg2⟩ := Xg.out
  have hneg : gg < v7.heap.size := World.block_lt_of_cell? v7 _ cg0
  go_wp2_with fail
  clear ca0 ca1 ca2 fa0 fa1 fa2 hnea
  clear cg0 cg1 cg2 fg0 fg1 fg2 hneg
  refine (shl_nf (HX.out.at_.below hbw) HX.out.nf HX.out.le P HP.out.1).mono ?_
  rintro e2 v10 ⟨ha, hb10⟩
  obtain ⟨p1, m1, z1, rfl, ho1, hn1, hm1⟩ := ha.ok HP.out.2
  clear ha
  replace Xa : Hid _ := Xa.out.below hb10
  replace Xg : Hid _ := Xg.out.below hb10
  replace hbw := Below.on hbw hb10
  clear hb10
  have O1 : Hid (Own v7.heap.size v10 p1 m1 z1) := ho1
  have N1 : Hid (Nf B64 z1 (2 ^ P * x.natAbs) ∧ m1 ≤ 8192) := ⟨hn1, hm1⟩
  clear ho1 hn1 hm1
  obtain ⟨ca0, ca1, ca2, fa0, fa1, fa2⟩ := Xa.out
  have hnea : ga < v10.heap.size := World.block_lt_of_cell? v10 _ ca0
  obtain ⟨cg0, cg1, cg2, fg0, fg1, fg2⟩ := Xg.out
  have hneg : gg < v10.heap.size := World.block_lt_of_cell? v10 _ cg0
  go_wp2_with fail
  clear ca0 ca1 ca2 fa0 fa1 fa2 hnea
  clear cg0 cg1 cg2 fg0 fg1 fg2 hneg
  refine (root_any (Num.of O1.out N1.out.1 N1.out.2)).mono ?_
  rintro e2 v11 ⟨u1, u2, rfl, hdt⟩
  obtain ⟨F, p2, m2, z2, p3, m3, z3, hF1, hF2, rfl, ho2, hn2, hm2, rfl, ho3, hn3, hm3⟩ := hdt.val
  have hb11 := hdt.bel
  obtain ⟨r, hr⟩ : ∃ r, r = 2 ^ P * x.natAbs - F * F := ⟨_, rfl⟩
  rw [← hr] at hn3
  have HFR : Hid (F * F ≤ 2 ^ P * x.natAbs ∧ 2 ^ P * x.natAbs = F * F + r ∧ r ≤ 2 * F) := ⟨hF1, by omega, by omega⟩
  clear hdt hF1 hF2 hr
  clear O1
  replace Xa : Hid _ := Xa.out.below hb11
  replace Xg : Hid _ := Xg.out.below hb11
  replace hbw := Below.on hbw hb11
  clear hb11
  have O2 : Hid (Own v10.heap.size v11 p2 m2 z2) := ho2
  have O3 : Hid (Own v10.heap.size v11 p3 m3 z3) := ho3
  have N2 : Hid (Nf B64 z2 F ∧ m2 ≤ 8192) := ⟨hn2, hm2⟩
  have N3 : Hid (Nf B64 z3 r ∧ m3 ≤ 8192) := ⟨hn3, hm3⟩
  clear ho2 hn2 hm2 ho3 hn3 hm3
  obtain ⟨ca0, ca1, ca2, fa0, fa1, fa2⟩ := Xa.out
  have hnea : ga < v11.heap.size := World.block_lt_of_cell? v11 _ ca0
  obtain ⟨cg0, cg1, cg2, fg0, fg1, fg2⟩ := Xg.out
  have hneg : gg < v11.heap.size := World.block_lt_of_cell? v11 _ cg0
  go_wp2_with fail
  clear ca0 ca1 ca2 fa0 fa1 fa2 hnea
  clear cg0 cg1 cg2 fg0 fg1 fg2 hneg
  obtain ⟨W12, hW12⟩ : ∃ W1, W1 = v11.drew := ⟨_, rfl⟩
  have hbd : Below v11.heap.size v11 W12 := by rw [hW12]; exact bDrew1 (Below.refl _ _)
  replace Xa : Hid _ := Xa.out.below hbd
  replace Xg : Hid _ := Xg.out.below hbd
  replace O2 : Hid (Own v10.heap.size W12 p2 m2 z2) := O2.out.below hbd
  replace O3 : Hid (Own v10.heap.size W12 p3 m3 z3) := O3.out.below hbd
  replace hbw := Below.on hbw hbd
  clear hbd
  have HJ : Hid ((fun W' : World => W'.cell? ⟨gg, 0, none⟩ = some (.int .i64 p) ∧ W'.cell? ⟨gg, 1, none⟩ = some (.int .i64 m) ∧ W'.cell? ⟨gg, 2, none⟩ = some (.int .i64 l) ∧ W'.cell? ⟨ga, 0, none⟩ = some (.bool s) ∧ W'.cell? ⟨ga, 1, none⟩ = some (.slice pa na ca) ∧ W'.cell? ⟨ga, 2, none⟩ = some (.int .i64 e)) W12) := ⟨Xg.out.c0, Xg.out.c1, Xg.out.c2, Xa.out.c0, Xa.out.c1, Xa.out.c2⟩
  refine wp_region_J (fun W' => W'.cell? ⟨gg, 0, none⟩ = some (.int .i64 p) ∧ W'.cell? ⟨gg, 1, none⟩ = some (.int .i64 m) ∧ W'.cell? ⟨gg, 2, none⟩ = some (.int .i64 l) ∧ W'.cell? ⟨ga, 0, none⟩ = some (.bool s) ∧ W'.cell? ⟨ga, 1, none⟩ = some (.slice pa na ca) ∧ W'.cell? ⟨ga, 2, none⟩ = some (.int .i64 e)) (by kernel_rfl) ?_
  rw [← hW12]
  clear hW12
  refine wpJ_tq 0 rfl HJ.out ?_
  refine wpJ_tq 1 rfl HJ.out ?_
  refine wpJ_tq 2 rfl HJ.out ?_
  refine wpJ_tq 4 rfl HJ.out ?_
  refine wpJ_tq 5 rfl HJ.out ?_
  go_simp
  refine wpJ_tq 6 rfl HJ.out ?_
  refine wpJ_tq 7 rfl HJ.out ?_
  refine wpJ_tq 8 rfl HJ.out ?_
  refine wpJ_tq 9 rfl HJ.out ?_
  refine wpJ_on 3 rfl fun KJ hK => ?_
  go_simp
  refine (withmark false (Num.of O2.out N2.out.1 N2.out.2) (Num.of O3.out N3.out.1 N3.out.2) (HLF.out F HFR.out.1)).mono ?_
  rintro e2 v12 ⟨p4, m4, z4, rfl, ho4, hn4, hm4, hb12⟩
  clear O2
  clear O3
  replace Xa : Hid _ := Xa.out.below hb12
  replace Xg : Hid _ := Xg.out.below hb12
  replace hbw := Below.on hbw hb12
  clear hb12
  have O4 : Hid (Own W12.heap.size v12 p4 m4 z4) := ho4
  have N4 : Hid (Nf B64 z4 (2 * F + (if r = 0 then 0 else 1)) ∧ m4 ≤ 8192) := ⟨hn4, hm4⟩
  clear ho4 hn4 hm4
  refine hK _ _ ⟨Xg.out.c0, Xg.out.c1, Xg.out.c2, Xa.out.c0, Xa.out.c1, Xa.out.c2⟩ ?_
  clear hK
  refine wpJ_on 10 rfl fun KJ hK => ?_
  go_simp
  obtain ⟨M, hM⟩ : ∃ M, M = 2 * F + (if r = 0 then 0 else 1) := ⟨_, rfl⟩
  obtain ⟨q0, hMk⟩ := HMK.out F r M HFR.out.2.1 HFR.out.2.2 hM
  have ZZ : ZN v12 false p4 m4 m4 (M : Int) := ⟨⟨z4, by rw [Int.natAbs_natCast]; exact Num.of O4.out (by rw [hM]; exact N4.out.1) N4.out.2⟩, (decide_eq_false (Int.not_lt.2 (Int.natCast_nonneg M))).symm⟩
  obtain ⟨Zq, hZ1, hZ2, hZ3, _⟩ := rnp_is HJN.out (M : Int) E3 HE.out.1
  rw [Int.natAbs_natCast] at hZ2
  rw [if_neg (Int.not_lt.2 (Int.natCast_nonneg M))] at hZ3
  have HRZ : Hid (RNz H l I (dv (M : Int) E3) Zq ∧ Mk H l I (fun τ => τ * τ) ((x.natAbs : Int) * ((2 ^ (e + 2 * 4194304).toNat : Nat) : Int)) (dv (M : Int) E3)) := ⟨hZ2, hMk⟩
  refine (nearest_ok HJN.out ZZ HE.out (TB.out.below hbw)).mono ?_
  rintro e2 v13 ⟨rfl, hb13⟩
  rw [hZ3]
  clear ZZ hZ1 hZ2 hZ3 hM q0 hMk
  replace Xa : Hid _ := Xa.out.below hb13
  replace Xg : Hid _ := Xg.out.below hb13
  replace O4 : Hid (Own W12.heap.size v13 p4 m4 z4) := O4.out.below hb13
  replace hbw := Below.on hbw hb13
  clear hb13
  clear HJ
  have HJ : Hid ((fun W' : World => W'.cell? ⟨gg, 0, none⟩ = some (.int .i64 p) ∧ W'.cell? ⟨gg, 1, none⟩ = some (.int .i64 m) ∧ W'.cell? ⟨gg, 2, none⟩ = some (.int .i64 l) ∧ W'.cell? ⟨ga, 0, none⟩ = some (.bool s) ∧ W'.cell? ⟨ga, 1, none⟩ = some (.slice pa na ca) ∧ W'.cell? ⟨ga, 2, none⟩ = some (.int .i64 e)) v13) := ⟨Xg.out.c0, Xg.out.c1, Xg.out.c2, Xa.out.c0, Xa.out.c1, Xa.out.c2⟩
  refine hK _ _ HJ.out ?_
  clear hK
  refine wpJ_tq 11 rfl HJ.out ?_
  refine wpJ_tq 12 rfl HJ.out ?_
  refine wpJ_done (by kernel_rfl) ?_ _
  clear HJ
  go_wp2_with fail
  go_ret2
  exact ⟨Zq, _, rfl, HRZ.out.1, HRZ.out.2, hbw⟩
theorem Mk.uniq {H : Nat} {l : Int} {I : Nat} {g : Int → Int} {A V U : Int} {Z Y : Nat} (h : Mk H l I g A V) (k : Mk H l I g A U) (hZ : RNz H l I V Z) (hY : RNz H l I U Y) : Z ≤ Y := by
  refine Nat.le_of_not_lt fun hlt => ?_
  have hYI : Y < I := Nat.lt_of_lt_of_le hlt hZ.le
  have h1 : U ≤ dv (hv H Y : Int) (l - 1) := Int.not_lt.1 fun h2 => by have := hY.hi Y hYI h2; omega
  have h2 : dv (hv H Y : Int) (l - 1) ≤ V := Int.not_lt.1 fun h2 => by have := hZ.lo Y hYI h2; omega
  rcases Int.lt_or_eq_of_le h1 with h3 | h3 <;> rcases Int.lt_or_eq_of_le h2 with h4 | h4
  · have := k.lt Y hYI h3; have := h.gt Y hYI h4; omega
  · have := k.lt Y hYI h3; have := h.eq Y hYI h4.symm; omega
  · have := k.eq Y hYI h3; have := h.gt Y hYI h4; omega
  · rw [← h4, ← h3] at hZ
    have := hZ.uniq hY
    omega
def GP (up : Bool) (z e E zo eo : Int) : Prop := DFm zo eo ∧ ((E ≤ e ∧ zo = z ∧ eo = e) ∨ (e < E ∧ dv zo eo = dv (rd up z (2 ^ (E - e).toNat)) E ∧ (zo = 0 ∨ E ≤ eo)))
theorem dv_grid {F e E : Int} (h : e < E) (he : -4194304 ≤ e) : dv F E = dv (F * ((2 ^ (E - e).toNat : Nat) : Int)) e := dv_shift (by omega) he
theorem GP.lo {z e E zo eo : Int} (h : GP false z e E zo eo) (he : -4194304 ≤ e) : dv zo eo ≤ dv z e := by
  rcases h.2 with ⟨_, rfl, rfl⟩ | ⟨h1, h2, _⟩
  · exact Int.le_refl _
  · rw [h2, dv_grid h1 he]
    exact dv_le _ (rd_down z (Nat.pow_pos (by omega))).1
theorem GP.hi {z e E zo eo : Int} (h : GP true z e E zo eo) (he : -4194304 ≤ e) : dv z e ≤ dv zo eo := by
  rcases h.2 with ⟨_, rfl, rfl⟩ | ⟨h1, h2, _⟩
  · exact Int.le_refl _
  · rw [h2, dv_grid h1 he]
    exact dv_le _ (rd_up z (Nat.pow_pos (by omega))).1
theorem GP.neg {z e E zo eo : Int} (h : GP true z e E zo eo) : GP false (-z) e E (-zo) eo := by
  refine ⟨h.1.neg, ?_⟩
  rcases h.2 with ⟨h1, rfl, rfl⟩ | ⟨h1, h2, h3⟩
  · exact .inl ⟨h1, rfl, rfl⟩
  · refine .inr ⟨h1, by rw [rd_neg, dv_neg, dv_neg, h2], ?_⟩
    rcases h3 with h3 | h3
    · exact .inl (by omega)
    · exact .inr h3
theorem GP.gap {z e E zl el zh eh : Int} (hl : GP false z e E zl el) (hh : GP true z e E zh eh) (he : -1048576 ≤ e) (hb : bitsN z.natAbs ≤ 524288) (hne : ¬ (zl = zh ∧ el = eh)) :
    e < E ∧ (zl = 0 ∨ E ≤ el) ∧ (zh = 0 ∨ E ≤ eh) ∧ dv zl el = dv zh eh - dv 1 E ∧ (zh ≠ 0 → (zh * 2 ^ (eh - min eh E).toNat).natAbs < LIM ∧ ((1 : Int) * 2 ^ (E - min eh E).toNat).natAbs < LIM ∧ (zh * 2 ^ (eh - min eh E).toNat - 1 * 2 ^ (E - min eh E).toNat).natAbs < LIM) := by
  rcases hl.2 with ⟨h1, h2, h3⟩ | ⟨h1, h2, h3⟩
  · rcases hh.2 with ⟨_, g2, g3⟩ | ⟨g1, _⟩
    · exact absurd ⟨by rw [h2, g2], by rw [h3, g3]⟩ hne
    · omega
  · rcases hh.2 with ⟨g1, _⟩ | ⟨_, g2, g3⟩
    · omega
    · have hs := rd_step z (d := 2 ^ (E - e).toNat) (Nat.pow_pos (by omega))
      have hsz := rd_size true (n := (E - e).toNat) (bitsN_lt z.natAbs)
      have hC : rd true z (2 ^ (E - e).toNat) = rd false z (2 ^ (E - e).toNat) + 1 := by
        rcases hs with ⟨h4, _⟩ | h4
        · rw [h4, ← h2] at g2
          obtain ⟨a1, a2⟩ := dv_inj hl.1 hh.1 g2.symm
          exact absurd ⟨a1, a2⟩ hne
        · exact h4
      generalize rd true z (2 ^ (E - e).toNat) = C at *
      generalize rd false z (2 ^ (E - e).toNat) = F at *
      refine ⟨h1, h3, g3, by rw [h2, g2, hC, dv_add]; omega, ?_⟩
      intro h0
      have h5 : E ≤ eh := by rcases g3 with g3 | g3; (exact absurd g3 h0); exact g3
      have h6 := form_len (h := E) g2 (by omega) h5 (by omega)
      rw [show min eh E = E from by omega, show (E - E).toNat = 0 from by omega]
      generalize zh * 2 ^ (eh - E).toNat = X at *
      obtain ⟨L, hL⟩ : ∃ L, L = bitsN z.natAbs - (E - e).toNat := ⟨_, rfl⟩
      rw [← hL] at hsz
      have h7 : 2 ^ (L + 1) = 2 * 2 ^ L := by rw [Nat.pow_succ]; omega
      have h8 : 0 < 2 ^ L := Nat.pow_pos (by omega)
      refine ⟨lt_LIM (L := L + 1) (by omega) (by omega), lt_LIM (L := 1) (by decide) (by omega), ?_⟩
      refine Nat.lt_of_le_of_lt (m := 2 ^ L + 1) (by omega) ?_
      rcases Nat.eq_zero_or_pos L with h9 | h9
      · subst h9; exact lt_LIM (L := 2) (by decide) (by omega)
      · exact lt_LIM (L := L + 1) (by have : 2 ≤ 2 ^ L := by { have := Nat.pow_le_pow_right (show 0 < 2 by omega) h9; omega }; omega) (by omega)
theorem WB.bits {x y X Y L : Int} {P : Nat} (h : WB x y P X Y L) (hx : x ≠ 0) (hy : y ≠ 0) : bitsN X.natAbs = P + bitsN Y.natAbs ∧ X ≠ 0 ∧ Y ≠ 0 := by
  obtain ⟨h1, h2, h3⟩ := h
  have key : ∀ (z : Int) (N : Nat), z ≠ 0 → bitsN (z * 2 ^ N).natAbs = bitsN z.natAbs + N ∧ z * 2 ^ N ≠ 0 := by
    intro z N hz
    refine ⟨?_, Int.mul_ne_zero hz (by rw [pow_cast]; exact pow_pos_int _)⟩
    rw [Int.natAbs_mul, pow_cast, Int.natAbs_natCast, Nat.mul_comm, bitsN_shl _ _ (by omega)]
    omega
  obtain ⟨a1, a2⟩ := key x L.toNat hx
  obtain ⟨b1, b2⟩ := key y (-L).toNat hy
  rw [h2, h3]
  exact ⟨by omega, a2, b2⟩
theorem ZN.abs {w : World} {s : Bool} {p : Option Addr} {m c : Nat} {z : Int} (h : ZN w s p m c z) : ZN w false p m c (z.natAbs : Int) := by
  obtain ⟨xs, hx⟩ := h.ex
  exact ⟨⟨xs, by rw [Int.natAbs_natCast]; exact hx⟩, (decide_eq_false (Int.not_lt.2 (Int.natCast_nonneg _))).symm⟩
structure B1q (W : World) (g : Nat) (v0 : Value) : Prop where
  c0 : W.cell? ⟨g, 0, none⟩ = some v0
  f0 : W.frozen? ⟨g, 0, none⟩ = false
theorem B1q.lt {w : World} {g : Nat} {a : Value} (h : B1q w g a) : g < w.heap.size := World.block_lt_of_cell? w _ h.c0
theorem B1q.below {W W' : World} {g : Nat} {v0 : Value} (h : B1q W g v0) (hb : Below W.heap.size W W') : B1q W' g v0 := by
  have hl : g < W.heap.size := World.block_lt_of_cell? W _ h.c0
  exact ⟨(hb.cell (p := ⟨g, 0, none⟩) hl).trans h.c0, (hb.frozen (p := ⟨g, 0, none⟩) hl).trans h.f0⟩
theorem B1q.new (w : World) (ty : TypeId) (v0 : Value) : B1q (w.alloc (.cells #[v0] ty)) w.heap.size v0 := ⟨by go_simp, by go_simp⟩
theorem mul_dv (y n : Nat) (d : Int) : (y : Int) * dv (n : Int) d = dv ((n * y : Nat) : Int) d := by
  unfold dv
  rw [Int.natCast_mul, ← Int.mul_assoc, Int.mul_comm (y : Int)]
theorem len_db {w : World} {s : Bool} {p : Option Addr} {m c : Nat} {e z : Int} {K E : Nat} (h : DN w s p m c e z) (hb : DB z e K E) (hK : K ≤ 262144) : m ≤ 4096 := by
  obtain ⟨xs, hx⟩ := h.zn.ex
  have h1 := (hx.nf.len_le B64_one (k := 4096)).2 (by
    obtain ⟨k, hk⟩ : ∃ k, k = 4096 := ⟨_, rfl⟩
    rw [← hk, B64_pow]
    exact Nat.lt_of_lt_of_le hb.sz (Nat.pow_le_pow_right (by omega) (by omega)))
  rw [hx.at_.len] at h1
  exact h1
theorem dv_abs6 (x e : Int) : dv (x.natAbs : Int) e = ((dv x e).natAbs : Int) := by
  rcases dv3 x e with ⟨h1, h2⟩ | ⟨h1, h2⟩ | ⟨h1, h2⟩
  · rw [show (x.natAbs : Int) = -x from by omega, dv_neg]; omega
  · rw [h1]; rw [h1] at h2; rw [h2]; exact dv_zero e
  · rw [show (x.natAbs : Int) = x from by omega]; omega
theorem quot_ff {f p m l : Int} {S I H sd : Nat} {Be : Int} {Q : Nat} (J : Jo f p m l S I H sd Be Q) (hmd : m = (sd : Int) + 1) {s t : Bool} {pa pb : Option Addr} {na ca nb cb : Nat} {x y e g : Int} {w : World} (h : DN w s pa na ca e x) (k : DN w t pb nb cb g y) (hla : na ≤ 4096) (hlb : nb ≤ 4096) (hx : x ≠ 0) (hy : y ≠ 0) (hT : Tab w) :
    Calls Tryz.prog 42 #[.int .i64 f, VFin s pa na ca e, VFin t pb nb cb g] w fun en w' => ∃ b Z V, en = .returned (U b) ∧ SgB S s t b Z ∧ RNz H l I V Z ∧ Mk H l I (fun τ => (y.natAbs : Int) * τ) (dv (x.natAbs : Int) (e - g)) V ∧ Below w.heap.size w w' := by
  have hanan := ta_fin_nan
  have hainf := ta_fin_inf
  have hano := ta_fin_no
  have hafin := ta_fin_fin
  have HJO : Hid (Jo f p m l S I H sd Be Q ∧ m = (sd : Int) + 1) := ⟨J, hmd⟩
  have A : Hid (DN w s pa na ca e x) := h
  have B : Hid (DN w t pb nb cb g y) := k
  have HLL : Hid (na ≤ 4096 ∧ nb ≤ 4096 ∧ x ≠ 0 ∧ y ≠ 0) := ⟨hla, hlb, hx, hy⟩
  have TB : Hid (Tab w) := hT
  clear J hmd h k hla hlb hx hy hT
  go_enter Tryz.func42, Tryz.ntmps42
  go_wp2_with fail
  have hbw := below2 w (.cells #[.bool s, .slice pa na ca, .int .i64 e] 122) (.cells #[.bool t, .slice pb nb cb, .int .i64 g] 122)
  refine (quotient_n HJO.out.1.jq.jn HJO.out.2 (A.out.below hbw) (B.out.below hbw) HLL.out.1 HLL.out.2.1 (TB.out.below hbw) HLL.out.2.2.2 HLL.out.2.2.1).mono ?_
  rintro e9 v1 ⟨b, Z, V, rfl, k1, k2, k3, hb1⟩
  have HQ : Hid (SgB S s t b Z ∧ RNz H l I V Z ∧ Mk H l I (fun τ => (y.natAbs : Int) * τ) (dv (x.natAbs : Int) (e - g)) V) := ⟨k1, k2, k3⟩
  have hbw2 := Below.on hbw hb1
  clear k1 k2 k3 hb1 hbw
  go_wp2_with fail
  go_ret
  exact ⟨b, Z, V, rfl, HQ.out.1, HQ.out.2.1, HQ.out.2.2, hbw2⟩
theorem root_f {f p m l : Int} {S I H sd : Nat} {Be : Int} {Q : Nat} (J : Jo f p m l S I H sd Be Q) (hmd : m = (sd : Int) + 1) {s : Bool} {pa : Option Addr} {na ca : Nat} {x e : Int} {w : World} (h : DN w s pa na ca e x) (hla : na ≤ 4096) (hx : x > 0) (hT : Tab w) :
    Calls Tryz.prog 55 #[.int .i64 f, VFin s pa na ca e] w fun en w' => ∃ Z V, en = .returned (U Z) ∧ RNz H l I V Z ∧ Mk H l I (fun τ => τ * τ) ((x.natAbs : Int) * ((2 ^ (e + 2 * 4194304).toNat : Nat) : Int)) V ∧ Below w.heap.size w w' := by
  have hanan := ta_fin_nan
  have hainf := ta_fin_inf
  have hano := ta_fin_no
  have hafin := ta_fin_fin
  have HJO : Hid (Jo f p m l S I H sd Be Q ∧ m = (sd : Int) + 1) := ⟨J, hmd⟩
  have hs := h.zn.sg
  rw [decide_eq_false (show ¬ x < 0 by omega)] at hs
  subst hs
  have A : Hid (DN w false pa na ca e x) := h
  have HLL : Hid (na ≤ 4096 ∧ x > 0) := ⟨hla, hx⟩
  have TB : Hid (Tab w) := hT
  clear J hmd h hla hx hT
  go_enter Tryz.func55, Tryz.ntmps55
  go_wp2_with fail
  obtain ⟨W0, hW0⟩ : ∃ W0, W0 = (w.alloc (.cells #[.bool false, .slice pa na ca, .int .i64 e] 122)) := ⟨_, rfl⟩
  have Xx : Hid (B3q W0 (w.heap.size) (.bool false) (.slice pa na ca) (.int .i64 e)) := by rw [hW0]; exact ⟨by go_simp, by go_simp, by go_simp, by go_simp, by go_simp, by go_simp⟩
  have hb0 : Below w.heap.size w W0 := by rw [hW0]; exact below1 w _
  rw [← hW0]
  clear hW0
  have hbw : Below w.heap.size w w := Below.refl _ _
  obtain ⟨gx, hgx⟩ : ∃ g, g = w.heap.size := ⟨_, rfl⟩
  have HGx : Hid (w.heap.size ≤ gx) := by rw [hgx]; show _ ≤ _; omega
  rw [← hgx] at Xx
  try rw [← hgx]
  clear hgx
  replace hbw := Below.on hbw hb0
  clear hb0
  refine (below_fin _).mono ?_
  rintro e v1 ⟨rfl, hb1⟩
  replace Xx : Hid _ := Xx.out.below hb1
  replace hbw := Below.on hbw hb1
  clear hb1
  obtain ⟨cx0, cx1, cx2, fx0, fx1, fx2⟩ := Xx.out
  have hnex : gx < v1.heap.size := World.block_lt_of_cell? v1 _ cx0
  go_wp2_with fail
  clear cx0 cx1 cx2 fx0 fx1 fx2 hnex
  refine (root_n HJO.out.1.jq.jn HJO.out.2 (A.out.below hbw) HLL.out.1 (TB.out.below hbw) HLL.out.2).mono ?_
  rintro e9 v2 ⟨Z, V, rfl, k2, k3, hb2⟩
  have HQ : Hid (RNz H l I V Z ∧ Mk H l I (fun τ => τ * τ) ((x.natAbs : Int) * ((2 ^ (e + 2 * 4194304).toNat : Nat) : Int)) V) := ⟨k2, k3⟩
  clear k2 k3
  replace Xx : Hid _ := Xx.out.below hb2
  replace hbw := Below.on hbw hb2
  clear hb2
  obtain ⟨cx0, cx1, cx2, fx0, fx1, fx2⟩ := Xx.out
  have hnex : gx < v2.heap.size := World.block_lt_of_cell? v2 _ cx0
  go_wp2_with fail
  clear cx0 cx1 cx2 fx0 fx1 fx2 hnex
  go_ret
  exact ⟨Z, V, rfl, HQ.out.1, HQ.out.2, hbw⟩
end Go.Proofs.YtmhkabomabkkfaaGreatDoor
