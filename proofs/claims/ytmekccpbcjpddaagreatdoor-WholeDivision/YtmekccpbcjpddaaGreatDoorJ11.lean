import Derived.Test.YtmekccpbcjpddaaGreatDoorJ10
import Derived.Test.YtmekccpbcjpddaaGreatDoorJ8
import Derived.Shelf.Strings.Repeat
import Derived.Shelf.Strings.Trim
import Derived.Shelf.Strings.Builder1
import Derived.Shelf.Strconv.Itoa3
import Derived.Test.YtmekccpbcjpddaaGreatDoorSmall
import Derived.Lib.ItoaNum
import Derived.Lib.TrimByte
import Derived.Lib.Repeat
import Derived.Test.YtmekccpbcjpddaaGreatDoorMem
import Derived.Laws.ResultCell
import Derived.Deep.RegionWith
namespace Go.Proofs.YtmekccpbcjpddaaGreatDoor
open Go.RowKit Go.Shelf
set_option maxRecDepth 100000
set_option maxHeartbeats 0
theorem newton_ge {x s r : Nat} (_hs : 0 < s) (hr : r * r ≤ x) : r ≤ (s + x / s) / 2 := by
  rw [Nat.le_div_iff_mul_le (by decide)]
  by_cases h : 2 * r ≤ s
  · have h3 : 0 ≤ x / s := Nat.zero_le _
    generalize x / s = e at *
    omega
  · have h1 : (2 * r - s) * s ≤ x := by
      refine Nat.le_trans ?_ hr
      obtain ⟨t, ht⟩ : ∃ t, 2 * r = s + t := ⟨2 * r - s, by omega⟩
      rw [ht, Nat.add_sub_cancel_left]
      rcases Nat.le_total s r with hsr | hsr
      · obtain ⟨u, hu⟩ : ∃ u, r = s + u := ⟨r - s, by omega⟩
        subst hu
        obtain rfl : t = s + 2 * u := by omega
        rw [Nat.add_mul, Nat.mul_add, Nat.add_mul, Nat.add_mul s u u]
        have : 2 * u * s = s * u + u * s := by rw [Nat.mul_comm s u, Nat.mul_assoc]; omega
        omega
      · obtain ⟨u, hu⟩ : ∃ u, s = r + u := ⟨s - r, by omega⟩
        subst hu
        obtain ⟨t', ht'⟩ : ∃ t', r = t' + u := ⟨r - u, by omega⟩
        subst ht'
        obtain rfl : t = t' := by omega
        have e : t * (t + u + u) + u * u = (t + u) * (t + u) := by rw [Nat.mul_add, Nat.mul_add, Nat.add_mul, Nat.mul_add, Nat.mul_add, Nat.mul_comm u t]; omega
        omega
    have h2 : 2 * r - s ≤ x / s := (Nat.le_div_iff_mul_le _hs).2 h1
    generalize x / s = e at *
    omega
structure NewR (x s : Nat) : Prop where
  pos : 0 < s
  le : s ≤ 4294967296
  lt : x < (s + 1) * (s + 1)
theorem NewR.step {x s : Nat} (h : NewR x s) (h0 : x ≠ 0) (hlt : (s + x / s) / 2 < s) : NewR x ((s + x / s) / 2) := by
  have h1 := h.le
  have hx : x < ((s + x / s) / 2 + 1) * ((s + x / s) / 2 + 1) := by
    rcases Nat.lt_or_ge x (((s + x / s) / 2 + 1) * ((s + x / s) / 2 + 1)) with e | e
    · exact e
    · have := newton_ge h.pos e; omega
  refine ⟨?_, by omega, hx⟩
  rcases Nat.eq_zero_or_pos ((s + x / s) / 2) with e | e
  · rw [e] at hx; omega
  · exact e
theorem NewR.done {x s : Nat} (h : NewR x s) (hge : s ≤ (s + x / s) / 2) : s * s ≤ x ∧ x ≤ s * s + 2 * s := by
  have h1 : s ≤ x / s := by omega
  have h2 := (Nat.le_div_iff_mul_le h.pos).1 h1
  have h3 := h.lt
  rw [Nat.add_mul, Nat.mul_add] at h3
  exact ⟨h2, by omega⟩
theorem NewR.start {x k L : Nat} (hL : L = bitsN x) (hk : k = (L + 1) / 2) (hb : L ≤ 64) : NewR x (2 ^ k) := by
  refine ⟨Nat.two_pow_pos k, ?_, ?_⟩
  · exact Nat.le_trans (Nat.pow_le_pow_right (by decide) (show k ≤ 32 by omega)) (by decide)
  · have h1 := bitsN_lt x
    rw [← hL] at h1
    have h2 : (2:Nat) ^ L ≤ 2 ^ (k + k) := Nat.pow_le_pow_right (by decide) (by omega)
    rw [Nat.pow_add] at h2
    rw [Nat.add_mul, Nat.mul_add]; omega

theorem newton_words {x s : Nat} (h : NewR x s) (hxb : x < B64) : ∃ q t n2 : Nat, IntKind.u64.wrap ((x : Int) / (s : Int)) = (q : Int) ∧ IntKind.u64.wrap ((s : Int) + (q : Int)) = (t : Int) ∧ (t : Int).tdiv 2 = (n2 : Int) ∧ IntKind.u64.wrap (n2 : Int) = (n2 : Int) ∧ n2 = (s + x / s) / 2 ∧ n2 < B64 := by
  have h1 := h.lt; have h2 := h.le; have h3 := h.pos
  have hq : x / s ≤ s + 2 := by
    refine Nat.lt_succ_iff.1 (Nat.div_lt_of_lt_mul ?_)
    rw [Nat.mul_succ, Nat.mul_add]
    rw [Nat.add_mul, Nat.mul_add] at h1
    omega
  rw [B64_eq] at *
  refine ⟨x / s, s + x / s, (s + x / s) / 2, u_quo x s (by rw [B64_eq]; exact hxb), ?_, ?_, ?_, rfl, ?_⟩ <;> generalize x / s = e at *
  · exact wrap_mod _ _ (by omega)
  · rw [Int.tdiv_eq_ediv_of_nonneg (by omega)]; omega
  · exact wrap_mod _ _ (by omega)
  · omega

structure RootTo (w : World) (a : Nat) (v1 v2 : Value) (w' : World) : Prop where
  val : ∃ s p m zs p' m' zs', s * s ≤ a ∧ a ≤ s * s + 2 * s ∧ v1 = .slice p m m ∧ Own w.heap.size w' p m zs ∧ Nf B64 zs s ∧ m ≤ 8192 ∧ v2 = .slice p' m' m' ∧ Own w.heap.size w' p' m' zs' ∧ Nf B64 zs' (a - s * s) ∧ m' ≤ 8192
  bel : Below w.heap.size w w'

theorem wordroot_any {g off c x : Nat} {w : World} (h : At w (some ⟨g, off, none⟩) 1 c [x]) (h0 : x ≠ 0) :
    Calls Tryz.prog 77 #[.slice (some ⟨g, off, none⟩) 1 c] w fun e w' => ∃ v1 v2, e = .returned (.tuple #[v1, v2]) ∧ RootTo w x v1 v2 w' := by
  have hxb : x < B64 := h.dig.head
  have hcx : w.cell? ⟨g, off, none⟩ = some (U x) := h.cellAt 0 (by omega)
  have cap := h.cap
  obtain ⟨L, hL⟩ : ∃ L, L = bitsN x := ⟨_, rfl⟩
  have hLb : L ≤ 64 := by rw [hL]; exact bits64 hxb
  obtain ⟨k, hk⟩ : ∃ k, k = (L + 1) / 2 := ⟨_, rfl⟩
  have HN : Hid (NewR x (2 ^ k)) := NewR.start hL hk hLb
  have hkt : ((L : Int) + 1).tdiv 2 = (k : Int) := by rw [Int.tdiv_eq_ediv_of_nonneg (by omega)]; omega
  have hk32 : k ≤ 32 := by omega
  have HL : Hid (L = bitsN x) := hL
  clear hL hk
  obtain ⟨s0, hs0⟩ : ∃ s0, s0 = 2 ^ k := ⟨_, rfl⟩
  have HN0 : Hid (NewR x s0) := by rw [hs0]; exact HN.out
  have hw0 : IntKind.u64.wrap (2 ^ k) = (s0 : Int) := by
    rw [int_pow, ← hs0]
    have h1 := HN0.out.le
    exact wrap_mod _ _ (by omega)
  have hp0 : ¬ (s0 : Int) = 0 := by have := HN0.out.pos; omega
  obtain ⟨q0, t0, n0, e1, e2, e3, e4, e5, e6⟩ := newton_words HN0.out hxb
  have HE5 : Hid (n0 = (s0 + x / s0) / 2) := e5
  clear hs0 HN e5
  go_enter Tryz.func77, Tryz.ntmps77
  go_wp2_with fail
  refine (len_any x w hxb).mono ?_
  rintro e w' ⟨rfl, hw⟩
  obtain rfl := hw.symm
  clear hw
  rw [← HL.out]
  go_wp2_with fail
  clear hw0 hp0 e1 e2 e3 e4
  go_loopg [5, 6] s0 (fun gk sv nv wr => sv = U gk ∧ ∃ n2 : Nat, nv = U n2 ∧ Hid (n2 = (gk + x / gk) / 2) ∧ Hid (NewR x gk) ∧ wr = w)
  case atStart => exact ⟨rfl, n0, rfl, HE5, HN0, rfl⟩
  case round =>
    obtain ⟨rfl, n2, rfl, HE, HR, hwr⟩ := hrel
    obtain rfl := hwr.symm
    clear hwr
    by_cases hlt : n2 < gk
    · have HR2 : Hid (NewR x n2) := by rw [HE.out]; exact HR.out.step h0 (by rw [← HE.out]; exact hlt)
      obtain ⟨q2, t2, n3, f1, f2, f3, f4, f5, f6⟩ := newton_words HR2.out hxb
      have HF5 : Hid (n3 = (n2 + x / n2) / 2) := f5
      have hp2 : ¬ (n2 : Int) = 0 := by have := HR2.out.pos; omega
      have hlt' : (n2 : Int) < (gk : Int) := by omega
      clear f5
      go_wp2_with fail
      go_roundg n2
      case measure => omega
      case rel => exact ⟨rfl, n3, rfl, HF5, HR2, rfl⟩
    · have hlt' : ¬ (n2 : Int) < (gk : Int) := by omega
      have hd := HR.out.done (by rw [← HE.out]; omega)
      have HD : Hid (gk * gk ≤ x ∧ x ≤ gk * gk + 2 * gk) := hd
      have hgb := HR.out.le
      obtain ⟨sq, hsq⟩ : ∃ sq, sq = gk * gk := ⟨_, rfl⟩
      have g1 : IntKind.u64.wrap ((gk : Int) * (gk : Int)) = (sq : Int) := by
        have e : ((gk : Int) * (gk : Int)) = ((gk * gk : Nat) : Int) := by simp
        rw [e, ← hsq]
        refine wrap_mod _ _ ?_
        rw [B64_eq] at hxb
        omega
      obtain ⟨re, hre⟩ : ∃ re, re = x - sq := ⟨_, rfl⟩
      have g2 : IntKind.u64.wrap ((x : Int) - (sq : Int)) = (re : Int) := wrap_mod _ _ (by rw [B64_eq] at hxb; omega)
      have hreb : re < B64 := by omega
      have HRE : Hid (re = x - gk * gk) := by rw [← hsq]; exact hre
      have hgk : gk < B64 := by rw [B64_eq]; omega
      clear hd hsq hre hlt
      go_wp2_with fail
      refine (word_any gk w hgk).mono ?_
      rintro e w1 ⟨p1, m1, z1, rfl, ho1, hn1, hm1, hb1⟩
      have N1 : Hid (Nf B64 z1 gk) := hn1
      clear hn1
      go_wp2_with fail
      refine (word_any re w1 hreb).mono ?_
      rintro e w2 ⟨p2, m2, z2, rfl, ho2, hn2, hm2, hb2⟩
      have N2 : Hid (Nf B64 z2 re) := hn2
      clear hn2
      go_wp2_with fail
      go_ret2
      refine ⟨_, _, rfl, ⟨gk, p1, m1, z1, p2, m2, z2, HD.out.1, HD.out.2, rfl, ho1.below hb2, N1.out, by omega, rfl, ho2.mono hb1.size, ?_, by omega⟩, Below.on hb1 hb2⟩
      rw [← HRE.out]; exact N2.out
end Go.Proofs.YtmekccpbcjpddaaGreatDoor
namespace Go.Proofs.YtmekccpbcjpddaaGreatDoor
set_option maxRecDepth 100000
set_option maxHeartbeats 0
structure RootC (a h P d o last : Nat) : Prop where
  id : a + d * d = (P * h + d) * (P * h + d) + (P * o + last)
  dP : d ≤ P
  big : (P * h) * (P * h) ≤ a
  lf : P * o + last < 2 * (P * h)
  dd : d * d ≤ 2 * (P * h)
  hh : 6 ≤ h
  pp : 1 ≤ P
theorem root_core {a h l P next last d o : Nat} (ha : a = (h * h + l) * (P * P) + (P * next + last)) (hl : l ≤ 2 * h) (hn : next < P) (hla : last < P) (hd : P * l + next = d * (2 * h) + o) (ho : o < 2 * h) (hP : P ≤ 2 * h) (h6 : 6 ≤ h) : RootC a h P d o last := by
  have hdP : d ≤ P := by
    have h1 : d * (2 * h) < (P + 1) * (2 * h) := by
      have h2 : P * l ≤ P * (2 * h) := Nat.mul_le_mul_left _ hl
      rw [Nat.add_mul, Nat.one_mul]; omega
    have := Nat.lt_of_mul_lt_mul_right h1
    omega
  have hid : a + d * d = (P * h + d) * (P * h + d) + (P * o + last) := by
    have h1 : P * (P * l + next) = P * (d * (2 * h) + o) := by rw [hd]
    rw [Nat.mul_add, Nat.mul_add] at h1
    have h2 : (h * h + l) * (P * P) = (P * h) * (P * h) + P * (P * l) := by
      rw [Nat.add_mul]
      have e1 : h * h * (P * P) = P * h * (P * h) := by rw [Nat.mul_mul_mul_comm, Nat.mul_comm h P]
      have e2 : l * (P * P) = P * (P * l) := by rw [Nat.mul_comm, Nat.mul_assoc]
      omega
    have h3 : (P * h + d) * (P * h + d) = (P * h) * (P * h) + P * (d * (2 * h)) + d * d := by
      have e1 : P * (d * (2 * h)) = P * h * d + d * (P * h) := by
        rw [Nat.mul_comm 2 h, ← Nat.mul_assoc d h 2, ← Nat.mul_assoc P (d * h) 2, Nat.mul_comm d (P * h), Nat.mul_comm d h, ← Nat.mul_assoc P h d]; omega
      rw [Nat.add_mul, Nat.mul_add, Nat.mul_add]; omega
    omega
  refine ⟨hid, hdP, ?_, ?_, ?_, h6, by omega⟩
  · have e1 : h * h * (P * P) = P * h * (P * h) := by rw [Nat.mul_mul_mul_comm, Nat.mul_comm h P]
    rw [ha, Nat.add_mul]; omega
  · have h1 : P * (o + 1) ≤ P * (2 * h) := Nat.mul_le_mul_left _ ho
    rw [Nat.mul_add, Nat.mul_one, Nat.mul_left_comm] at h1
    omega
  · have h1 : d * d ≤ P * P := Nat.mul_le_mul hdP hdP
    have h2 : P * P ≤ P * (2 * h) := Nat.mul_le_mul_left _ hP
    rw [Nat.mul_left_comm] at h2
    omega
theorem RootC.le {a h P d o last : Nat} (c : RootC a h P d o last) : 6 * (P * h) ≤ a ∧ P ≤ P * h ∧ h ≤ P * h := by
  have h1 : P * 6 ≤ P * h := Nat.mul_le_mul_left _ c.hh
  have h2 : 1 * h ≤ P * h := Nat.mul_le_mul_right _ c.pp
  have h3 : 6 * (P * h) ≤ (P * h) * (P * h) := Nat.mul_le_mul_right _ (by have := c.pp; omega)
  have := c.big
  exact ⟨by omega, by omega, by omega⟩
theorem RootC.fin {a h P d o last : Nat} (c : RootC a h P d o last) :
    (P * o + last < d * d → 1 ≤ P * h + d ∧ d * d ≤ P * o + last + 2 * (P * h + d) - 1) ∧
    (let S := if P * o + last < d * d then P * h + d - 1 else P * h + d
     let T := if P * o + last < d * d then P * o + last + 2 * (P * h + d) - 1 - d * d else P * o + last - d * d
     S * S ≤ a ∧ a ≤ S * S + 2 * S ∧ T = a - S * S) := by
  have h1 := c.id; have h2 := c.lf; have h3 := c.dd
  have hl := c.le
  refine ⟨fun hlt => ?_, ?_⟩
  · have hd1 : 1 ≤ d := by
      rcases Nat.eq_zero_or_pos d with e | e
      · subst e; simp at hlt
      · exact e
    exact ⟨by omega, by omega⟩
  · by_cases hlt : P * o + last < d * d
    · have hd1 : 1 ≤ d := by
        rcases Nat.eq_zero_or_pos d with e | e
        · subst e; simp at hlt
        · exact e
      simp only [if_pos hlt]
      generalize P * o + last = lf at *
      obtain ⟨S, hS⟩ : ∃ S, P * h + d = S + 1 := ⟨P * h + d - 1, by omega⟩
      rw [hS] at h1 ⊢
      have e1 : (S + 1) * (S + 1) = S * S + 2 * S + 1 := by rw [Nat.add_mul, Nat.mul_add]; omega
      rw [Nat.add_sub_cancel]
      rw [e1] at h1
      have h4 : d * d ≤ 2 * (S + 1) := by omega
      generalize d * d = dd at *
      generalize S * S = ss at *
      exact ⟨by omega, by omega, by omega⟩
    · simp only [if_neg hlt]
      generalize P * o + last = lf at *
      have h4 : lf ≤ 2 * (P * h + d) := by omega
      generalize P * h + d = S at *
      generalize d * d = dd at *
      generalize S * S = ss at *
      exact ⟨by omega, by omega, by omega⟩
theorem half_big {a n k h : Nat} (hn : n = bitsN a) (hk : k = n / 4) (hn65 : 65 ≤ n) (hh : a / 2 ^ (2 * k) ≤ h * h + 2 * h) : 2 ^ k ≤ 2 * h ∧ 6 ≤ h := by
  have ha : a ≠ 0 := by intro e; subst e; rw [bitsN_zero] at hn; omega
  have h1 := bitsN_le a ha
  rw [← hn] at h1
  have h2 : 2 ^ (2 * k - 1) ≤ a / 2 ^ (2 * k) := by
    rw [Nat.le_div_iff_mul_le (Nat.two_pow_pos _), ← Nat.pow_add]
    exact Nat.le_trans (Nat.pow_le_pow_right (by decide) (by omega)) h1
  have h3 : 2 ^ (k - 1) ≤ h := by
    rcases Nat.lt_or_ge h (2 ^ (k - 1)) with e | e
    · exfalso
      have e1 : (h + 1) * (h + 1) ≤ 2 ^ (k - 1) * 2 ^ (k - 1) := Nat.mul_le_mul e e
      rw [← Nat.pow_add] at e1
      have e2 : (2:Nat) ^ (k - 1 + (k - 1)) ≤ 2 ^ (2 * k - 1) := Nat.pow_le_pow_right (by decide) (by omega)
      have e3 : (h + 1) * (h + 1) = h * h + 2 * h + 1 := by rw [Nat.add_mul, Nat.mul_add]; omega
      omega
    · exact e
  have h4 : (2:Nat) ^ 3 ≤ 2 ^ (k - 1) := Nat.pow_le_pow_right (by decide) (by omega)
  have h5 : (2:Nat) ^ k = 2 * 2 ^ (k - 1) := by rw [← Nat.pow_succ', show (k - 1).succ = k by omega]
  exact ⟨by omega, by omega⟩
theorem split_low (a k : Nat) : a = a / 2 ^ (2 * k) * (2 ^ k * 2 ^ k) + (2 ^ k * (a % 2 ^ (2 * k) / 2 ^ k) + a % 2 ^ (2 * k) % 2 ^ k) := by
  have h1 := Nat.div_add_mod a (2 ^ (2 * k))
  have h2 := Nat.div_add_mod (a % 2 ^ (2 * k)) (2 ^ k)
  rw [h2, ← Nat.pow_add, show k + k = 2 * k by omega, Nat.mul_comm]; omega
end Go.Proofs.YtmekccpbcjpddaaGreatDoor
namespace Go.Proofs.YtmekccpbcjpddaaGreatDoor
open Go.RowKit Go.Shelf
set_option maxRecDepth 100000
set_option maxHeartbeats 0
theorem join_any {p q : Option Addr} {n m c d : Nat} {xs ys : List Nat} {a b : Nat} {w : World} (h : Num w p n c xs a) (k : Num w q m d ys b) (K : Nat) (hK : K ≤ 9223372036854775807) (hl : 2 ^ K * a + b < LIM) :
    Calls Tryz.prog 80 #[.slice p n c, .slice q m d, .int .i64 K] w fun e w' => ∃ p' m' zs, e = .returned (.slice p' m' m') ∧ Own w.heap.size w' p' m' zs ∧ Nf B64 zs (2 ^ K * a + b) ∧ m' ≤ 8192 ∧ Below w.heap.size w w' := by
  have H : Hid (Num w p n c xs a) := h
  have KK : Hid (Num w q m d ys b) := k
  have L : Hid (2 ^ K * a + b < LIM) := hl
  clear h k hl
  go_enter Tryz.func80, Tryz.ntmps80
  go_wp2_with fail
  refine (shl_nf H.out.at_ H.out.nf H.out.le K hK).mono ?_
  rintro e w1 ⟨ha1, hb1⟩
  obtain ⟨p1, m1, z1, rfl, ho1, hn1, hm1⟩ := ha1.ok (Nat.lt_of_le_of_lt (Nat.le_add_right _ _) L.out)
  have N1 : Hid (Num w1 p1 m1 m1 z1 (2 ^ K * a)) := Num.of ho1 hn1 hm1
  have K1 : Hid (Num w1 q m d ys b) := KK.out.below hb1
  clear ha1 ho1 hn1
  go_wp2_with fail
  refine (add_ord N1.out.at_ K1.out.at_ N1.out.nf K1.out.nf N1.out.le K1.out.le).mono ?_
  rintro e w2 ⟨ha2, hb2⟩
  obtain ⟨p2, m2, z2, rfl, ho2, hn2, hm2⟩ := ha2.ok L.out
  have N2 : Hid (Nf B64 z2 (2 ^ K * a + b)) := hn2
  have hbw := Below.on hb1 hb2
  have hsz := hb1.size
  clear ha2 hn2
  go_wp2_with fail
  go_ret
  exact ⟨p2, m2, z2, rfl, ho2.mono hsz, N2.out, hm2, hbw⟩

theorem cmp_nf {p q : Option Addr} {n m c d : Nat} {xs ys : List Nat} {a b : Nat} {w : World} (h : Num w p n c xs a) (k : Num w q m d ys b) :
    Calls Tryz.prog 22 #[.slice p n c, .slice q m d] w fun e w' => e = .returned (.int .i64 (cmpN a b)) ∧ Below w.heap.size w w' := by
  have := cmp_w h.at_ k.at_
  rw [h.nf.val, k.nf.val] at this; exact this

structure SettleTo (B : Nat) (s r : Nat) (v1 v2 : Value) (w w' : World) : Prop where
  v1 : ∃ p m zs, v1 = .slice p m m ∧ Own B w' p m zs ∧ Nf B64 zs s ∧ m ≤ 8192
  v2 : ∃ p m zs, v2 = .slice p m m ∧ Own B w' p m zs ∧ Nf B64 zs r ∧ m ≤ 8192
  bel : Below w.heap.size w w'

theorem sub_ok {p q : Option Addr} {n m c d : Nat} {xs ys : List Nat} {a b : Nat} {w : World} (h : Num w p n c xs a) (k : Num w q m d ys b) (hle : b ≤ a) :
    Calls Tryz.prog 66 #[.slice p n c, .slice q m d] w fun e w' => (∃ p m zs, e = .returned (.tuple #[.slice p m m, .int .i64 0]) ∧ Own w.heap.size w' p m zs ∧ Nf B64 zs (a - b) ∧ m ≤ 8192) ∧ Below w.heap.size w w' := by
  refine (sub_nf h.at_ k.at_ h.nf k.nf h.le k.le).mono ?_
  rintro e w' ⟨h1 | h1, hb⟩
  · exact ⟨h1.2, hb⟩
  · exact absurd h1.1 (by omega)

theorem settle_any {p q r : Option Addr} {n m l : Nat} {xs ys zs : List Nat} {R Lft D B : Nat} {w : World} (h0 : Own B w p n xs) (hB : B ≤ w.heap.size) (h : Num w p n n xs R) (k : Num w q m m ys Lft) (t : Num w r l l zs D) (hD : D * D < LIM) (hR : 2 * R < LIM) (hL : Lft + 2 * R < LIM) (hlow : Lft < D * D → 1 ≤ R ∧ D * D ≤ Lft + 2 * R - 1) :
    Calls Tryz.prog 81 #[.slice p n n, .slice q m m, .slice r l l] w fun e w' => ∃ v1 v2, e = .returned (.tuple #[v1, v2]) ∧
      SettleTo B (if Lft < D * D then R - 1 else R) (if Lft < D * D then Lft + 2 * R - 1 - D * D else Lft - D * D) v1 v2 w w' := by
  obtain ⟨S, hS⟩ : ∃ S, S = if Lft < D * D then R - 1 else R := ⟨_, rfl⟩
  obtain ⟨T, hT⟩ : ∃ T, T = if Lft < D * D then Lft + 2 * R - 1 - D * D else Lft - D * D := ⟨_, rfl⟩
  rw [← hS, ← hT]
  have HS : Hid (S = if Lft < D * D then R - 1 else R) := hS
  have HT : Hid (T = if Lft < D * D then Lft + 2 * R - 1 - D * D else Lft - D * D) := hT
  have HO : Hid (Own B w p n xs) := h0
  have H : Hid (Num w p n n xs R) := h
  have K : Hid (Num w q m m ys Lft) := k
  have TT : Hid (Num w r l l zs D) := t
  have LD : Hid (D * D < LIM) := hD
  have LR : Hid (2 * R < LIM) := hR
  have LL : Hid (Lft + 2 * R < LIM) := hL
  have HLOW : Hid (Lft < D * D → 1 ≤ R ∧ D * D ≤ Lft + 2 * R - 1) := hlow
  have hBs := hB
  clear hS hT h0 h k t hD hR hL hlow
  go_enter Tryz.func81, Tryz.ntmps81
  go_wp2_with fail
  refine (sqr_any TT.out.at_ TT.out.nf TT.out.le).mono ?_
  rintro e v1 ⟨ha1, hb1⟩
  obtain ⟨r1, t1, y1, rfl, ho1, hn1, hm1⟩ := ha1.ok LD.out
  have SQ : Hid (Num v1 r1 t1 t1 y1 (D * D)) := Num.of ho1 hn1 hm1
  clear ha1 ho1 hn1
  have hBsy : B ≤ v1.heap.size := Nat.le_trans hBs hb1.size
  clear hBs
  have hBs := hBsy
  clear hBsy
  replace HO : Hid (Own B v1 p n xs) := HO.out.below hb1
  replace H : Hid _ := H.out.below hb1
  replace K : Hid _ := K.out.below hb1
  have hbw := hb1
  clear hb1
  clear TT
  go_wp2_with fail
  refine (cmp_nf K.out SQ.out).mono ?_
  rintro e v2 ⟨rfl, hb2⟩
  have hBsy : B ≤ v2.heap.size := Nat.le_trans hBs hb2.size
  clear hBs
  have hBs := hBsy
  clear hBsy
  replace HO : Hid (Own B v2 p n xs) := HO.out.below hb2
  replace H : Hid _ := H.out.below hb2
  replace K : Hid _ := K.out.below hb2
  replace SQ : Hid _ := SQ.out.below hb2
  have hbwy := Below.on hbw hb2
  clear hbw
  have hbw := hbwy
  clear hbwy
  clear hb2
  by_cases hlt : Lft < D * D
  · have hc : cmpN Lft (D * D) = -1 := cmpN_lt hlt
    rw [hc]
    have HL : Hid (1 ≤ R ∧ D * D ≤ Lft + 2 * R - 1) := HLOW.out hlt
    have ES : Hid (S = R - 1) := by have := HS.out; rw [if_pos hlt] at this; exact this
    have ET : Hid (T = Lft + 2 * R - 1 - D * D) := by have := HT.out; rw [if_pos hlt] at this; exact this
    clear hc hlt HS HT
    go_wp2_with fail
    rw [show Value.int IntKind.i64 1 = .int .i64 ((1 : Nat) : Int) from rfl]
    go_wp2_with fail
    refine (shl_nf H.out.at_ H.out.nf H.out.le 1 (by omega)).mono ?_
    rintro e v3 ⟨ha3, hb3⟩
    rw [Nat.pow_one] at ha3
    obtain ⟨r3, t3, y3, rfl, ho3, hn3, hm3⟩ := ha3.ok LR.out
    have TW : Hid (Num v3 r3 t3 t3 y3 (2 * R)) := Num.of ho3 hn3 hm3
    clear ha3 ho3 hn3
    have hBsy : B ≤ v3.heap.size := Nat.le_trans hBs hb3.size
    clear hBs
    have hBs := hBsy
    clear hBsy
    replace HO : Hid (Own B v3 p n xs) := HO.out.below hb3
    replace H : Hid _ := H.out.below hb3
    replace K : Hid _ := K.out.below hb3
    replace SQ : Hid _ := SQ.out.below hb3
    have hbwy := Below.on hbw hb3
    clear hbw
    have hbw := hbwy
    clear hbwy
    clear hb3
    go_wp2_with fail
    rw [show Value.int IntKind.u64 1 = U 1 from rfl]
    refine (word_any 1 v3 (by decide)).mono ?_
    rintro e v4 ⟨r4, t4, y4, rfl, ho4, hn4, hm4, hb4⟩
    have ONE : Hid (Num v4 r4 t4 t4 y4 1) := Num.of ho4 hn4 (by omega)
    clear ho4 hn4
    have hBsy : B ≤ v4.heap.size := Nat.le_trans hBs hb4.size
    clear hBs
    have hBs := hBsy
    clear hBsy
    replace HO : Hid (Own B v4 p n xs) := HO.out.below hb4
    replace H : Hid _ := H.out.below hb4
    replace K : Hid _ := K.out.below hb4
    replace SQ : Hid _ := SQ.out.below hb4
    replace TW : Hid _ := TW.out.below hb4
    have hbwy := Below.on hbw hb4
    clear hbw
    have hbw := hbwy
    clear hbwy
    clear hb4
    go_wp2_with fail
    refine (sub_ok H.out ONE.out HL.out.1).mono ?_
    rintro e v5 ⟨⟨r5, t5, y5, rfl, ho5, hn5, hm5⟩, hb5⟩
    have RM : Hid (Num v5 r5 t5 t5 y5 (R - 1)) := Num.of ho5 hn5 hm5
    have RMo : Hid (Own B v5 r5 t5 y5) := ho5.mono hBs
    clear ho5 hn5
    have hBsy : B ≤ v5.heap.size := Nat.le_trans hBs hb5.size
    clear hBs
    have hBs := hBsy
    clear hBsy
    replace HO : Hid (Own B v5 p n xs) := HO.out.below hb5
    replace H : Hid _ := H.out.below hb5
    replace K : Hid _ := K.out.below hb5
    replace SQ : Hid _ := SQ.out.below hb5
    replace TW : Hid _ := TW.out.below hb5
    replace ONE : Hid _ := ONE.out.below hb5
    have hbwy := Below.on hbw hb5
    clear hbw
    have hbw := hbwy
    clear hbwy
    clear hb5
    clear ONE
    clear H
    clear HO
    go_wp2_with fail
    refine (add_ord K.out.at_ TW.out.at_ K.out.nf TW.out.nf K.out.le TW.out.le).mono ?_
    rintro e v6 ⟨ha6, hb6⟩
    obtain ⟨r6, t6, y6, rfl, ho6, hn6, hm6⟩ := ha6.ok LL.out
    have LT : Hid (Num v6 r6 t6 t6 y6 (Lft + 2 * R)) := Num.of ho6 hn6 hm6
    clear ha6 ho6 hn6
    have hBsy : B ≤ v6.heap.size := Nat.le_trans hBs hb6.size
    clear hBs
    have hBs := hBsy
    clear hBsy
    replace K : Hid _ := K.out.below hb6
    replace SQ : Hid _ := SQ.out.below hb6
    replace TW : Hid _ := TW.out.below hb6
    replace RM : Hid _ := RM.out.below hb6
    replace RMo : Hid (Own B v6 r5 t5 y5) := RMo.out.below hb6
    have hbwy := Below.on hbw hb6
    clear hbw
    have hbw := hbwy
    clear hbwy
    clear hb6
    clear K
    clear TW
    go_wp2_with fail
    rw [show Value.int IntKind.u64 1 = U 1 from rfl]
    refine (word_any 1 v6 (by decide)).mono ?_
    rintro e v7 ⟨r7, t7, y7, rfl, ho7, hn7, hm7, hb7⟩
    have ONE : Hid (Num v7 r7 t7 t7 y7 1) := Num.of ho7 hn7 (by omega)
    clear ho7 hn7
    have hBsy : B ≤ v7.heap.size := Nat.le_trans hBs hb7.size
    clear hBs
    have hBs := hBsy
    clear hBsy
    replace SQ : Hid _ := SQ.out.below hb7
    replace RM : Hid _ := RM.out.below hb7
    replace RMo : Hid (Own B v7 r5 t5 y5) := RMo.out.below hb7
    replace LT : Hid _ := LT.out.below hb7
    have hbwy := Below.on hbw hb7
    clear hbw
    have hbw := hbwy
    clear hbwy
    clear hb7
    go_wp2_with fail
    refine (sub_ok LT.out ONE.out (by have := HL.out.1; omega)).mono ?_
    rintro e v8 ⟨⟨r8, t8, y8, rfl, ho8, hn8, hm8⟩, hb8⟩
    have LM : Hid (Num v8 r8 t8 t8 y8 (Lft + 2 * R - 1)) := Num.of ho8 hn8 hm8
    clear ho8 hn8
    have hBsy : B ≤ v8.heap.size := Nat.le_trans hBs hb8.size
    clear hBs
    have hBs := hBsy
    clear hBsy
    replace SQ : Hid _ := SQ.out.below hb8
    replace RM : Hid _ := RM.out.below hb8
    replace RMo : Hid (Own B v8 r5 t5 y5) := RMo.out.below hb8
    replace LT : Hid _ := LT.out.below hb8
    replace ONE : Hid _ := ONE.out.below hb8
    have hbwy := Below.on hbw hb8
    clear hbw
    have hbw := hbwy
    clear hbwy
    clear hb8
    clear ONE
    clear LT
    go_wp2_with fail
    refine (sub_ok LM.out SQ.out HL.out.2).mono ?_
    rintro e v9 ⟨⟨r9, t9, y9, rfl, ho9, hn9, hm9⟩, hb9⟩
    have RE : Hid (Num v9 r9 t9 t9 y9 (Lft + 2 * R - 1 - D * D)) := Num.of ho9 hn9 hm9
    have REo : Hid (Own B v9 r9 t9 y9) := ho9.mono hBs
    clear ho9 hn9
    have hBsy : B ≤ v9.heap.size := Nat.le_trans hBs hb9.size
    clear hBs
    have hBs := hBsy
    clear hBsy
    replace SQ : Hid _ := SQ.out.below hb9
    replace RM : Hid _ := RM.out.below hb9
    replace RMo : Hid (Own B v9 r5 t5 y5) := RMo.out.below hb9
    replace LM : Hid _ := LM.out.below hb9
    have hbwy := Below.on hbw hb9
    clear hbw
    have hbw := hbwy
    clear hbwy
    clear hb9
    clear LM
    clear SQ
    go_wp2_with fail
    go_ret2
    refine ⟨_, _, rfl, ⟨_, _, _, rfl, RMo.out, ?_, RM.out.le⟩, ⟨_, _, _, rfl, REo.out, ?_, RE.out.le⟩, hbw⟩
    · rw [ES.out]; exact RM.out.nf
    · rw [ET.out]; exact RE.out.nf
  · have ES : Hid (S = R) := by have := HS.out; rw [if_neg hlt] at this; exact this
    have ET : Hid (T = Lft - D * D) := by have := HT.out; rw [if_neg hlt] at this; exact this
    have HGE : Hid (D * D ≤ Lft) := by show _ ≤ _; omega
    obtain ⟨cc, hcc⟩ : ∃ cc, cc = cmpN Lft (D * D) := ⟨_, rfl⟩
    have hcn : decide (cc < 0) = false := decide_eq_false (by rw [hcc, cmpN_neg]; exact hlt)
    rw [← hcc]
    clear hcc hlt HS HT
    go_wp2_with fail
    refine (sub_ok K.out SQ.out HGE.out).mono ?_
    rintro e v3 ⟨⟨r3, t3, y3, rfl, ho3, hn3, hm3⟩, hb3⟩
    have RE : Hid (Num v3 r3 t3 t3 y3 (Lft - D * D)) := Num.of ho3 hn3 hm3
    have REo : Hid (Own B v3 r3 t3 y3) := ho3.mono hBs
    clear ho3 hn3
    have hBsy : B ≤ v3.heap.size := Nat.le_trans hBs hb3.size
    clear hBs
    have hBs := hBsy
    clear hBsy
    replace HO : Hid (Own B v3 p n xs) := HO.out.below hb3
    replace H : Hid _ := H.out.below hb3
    replace K : Hid _ := K.out.below hb3
    replace SQ : Hid _ := SQ.out.below hb3
    have hbwy := Below.on hbw hb3
    clear hbw
    have hbw := hbwy
    clear hbwy
    clear hb3
    clear K
    clear SQ
    go_wp2_with fail
    go_ret2
    refine ⟨_, _, rfl, ⟨_, _, _, rfl, HO.out, ?_, H.out.le⟩, ⟨_, _, _, rfl, REo.out, ?_, RE.out.le⟩, hbw⟩
    · rw [ES.out]; exact H.out.nf
    · rw [ET.out]; exact RE.out.nf
theorem wordroot_nil (p : Option Addr) (c : Nat) (w : World) :
    Calls Tryz.prog 77 #[.slice p 0 c] w fun e w' => e = .returned (.tuple #[.slice none 0 0, .slice none 0 0]) ∧ w' = w := by
  go_enter Tryz.func77, Tryz.ntmps77
  go_wp2_with fail
  go_ret2
  exact ⟨rfl, rfl⟩
theorem rootto_zero (w : World) : RootTo w 0 (.slice none 0 0) (.slice none 0 0) w :=
  ⟨⟨0, none, 0, [], none, 0, [], by omega, by omega, rfl, ⟨rfl, Dig.nil _, .inl rfl⟩, Nf.nil _, by omega, rfl, ⟨rfl, Dig.nil _, .inl rfl⟩, Nf.nil _, by omega⟩, Below.refl _ _⟩
theorem wrap_two (k : Nat) (h : k ≤ 1000000) : IntKind.i64.wrap ((2 : Int) * (k : Int)) = ((2 * k : Nat) : Int) := by
  have : ((2 : Int) * (k : Int)) = ((2 * k : Nat) : Int) := by simp
  rw [this]
  simp [IntKind.wrap, IntKind.signed, IntKind.bits]
  omega

theorem rootof_any : ∀ (N a : Nat), a ≤ N → ∀ {p : Option Addr} {n c : Nat} {xs : List Nat} {w : World}, At w p n c xs → Nf B64 xs a → n ≤ 8192 →
    Calls Tryz.prog 55 #[.slice p n c] w fun e w' => ∃ v1 v2, e = .returned (.tuple #[v1, v2]) ∧ RootTo w a v1 v2 w' := by
  intro N
  induction N with
  | zero =>
    intro a ha p n c xs w h hx hn
    obtain rfl : a = 0 := by omega
    have hn0 : n = 0 := by
      have := (hx.zero_iff B64_one).2 rfl
      rw [← h.len, this]; rfl
    subst hn0
    clear h hx
    go_enter Tryz.func55, Tryz.ntmps55
    go_wp2_with fail
    refine (wordroot_nil p c w).mono ?_
    rintro e w' ⟨rfl, hw⟩
    obtain rfl := hw.symm
    clear hw
    go_wp2_with fail
    go_ret2
    exact ⟨_, _, rfl, rootto_zero w⟩
  | succ N ih =>
    intro a ha p n c xs w h hx hn
    by_cases hn0 : n = 0
    · subst hn0
      have ha0 : a = 0 := (hx.zero_iff B64_one).1 (List.eq_nil_of_length_eq_zero h.len)
      have HA0 : Hid (a = 0) := ha0
      clear h hx ih ha ha0
      go_enter Tryz.func55, Tryz.ntmps55
      go_wp2_with fail
      refine (wordroot_nil p c w).mono ?_
      rintro e w' ⟨rfl, hw⟩
      obtain rfl := hw.symm
      clear hw
      go_wp2_with fail
      go_ret2
      rw [HA0.out]
      exact ⟨_, _, rfl, rootto_zero w⟩
    · obtain ⟨g, off, rfl, _⟩ := h.cells.resolve_left hn0
      by_cases hn1 : n = 1
      · subst hn1
        have e1 := hx.one h.len
        subst e1
        have ha0 : a ≠ 0 := hx.top a (by simp)
        clear ih ha hx
        go_enter Tryz.func55, Tryz.ntmps55
        go_wp2_with fail
        refine (wordroot_any h ha0).mono ?_
        rintro e w1 ⟨v1, v2, rfl, hR⟩
        have HR : Hid (RootTo w a v1 v2 w1) := hR
        clear hR
        go_wp2_with fail
        go_ret2
        exact ⟨_, _, rfl, HR.out⟩
      · have hbig := hx.big h.len (by omega)
        have h64 : 2 ^ 64 ≤ a := by
          refine Nat.le_trans ?_ hbig
          rw [show (2 : Nat) ^ 64 = B64 ^ 1 from rfl]
          exact Nat.pow_le_pow_right B64_pos (by omega)
        have hal : a < LIM := hx.lim.1 (by rw [h.len]; exact hn)
        obtain ⟨nb, hnb⟩ : ∃ nb, nb = bitsN a := ⟨_, rfl⟩
        have hnb65 : 65 ≤ nb := by
          rcases Nat.lt_or_ge nb 65 with e | e
          · have := (lt_pow_bits a 64).2 (by omega); omega
          · exact e
        have hnbt : nb ≤ 524288 := by rw [hnb, ← lim_bits]; exact hal
        obtain ⟨k, hk⟩ : ∃ k, k = nb / 4 := ⟨_, rfl⟩
        have hkb : k ≤ 131072 := by omega
        have hup : a / 2 ^ (2 * k) ≤ N := by
          have : a / 2 ^ (2 * k) < a := Nat.div_lt_self (by omega) (Nat.one_lt_two_pow (by omega))
          omega
        have HUP : Hid (a / 2 ^ (2 * k) ≤ N) := hup
        have HAL : Hid (a < LIM) := hal
        have HNB : Hid (nb = bitsN a) := hnb
        have HKE : Hid (k = nb / 4) := hk
        have HIH : Hid (∀ a, a ≤ N → ∀ {p : Option Addr} {n c : Nat} {xs : List Nat} {w : World}, At w p n c xs → Nf B64 xs a → n ≤ 8192 → Calls Tryz.prog 55 #[.slice p n c] w fun e w' => ∃ v1 v2, e = .returned (.tuple #[v1, v2]) ∧ RootTo w a v1 v2 w') := ih
        have hkt : (nb : Int).tdiv 4 = (k : Int) := by rw [Int.tdiv_eq_ediv_of_nonneg (by omega)]; omega
        have hw2 : IntKind.i64.wrap ((2 : Int) * (k : Int)) = ((2 * k : Nat) : Int) := wrap_two k (by omega)
        have A : Hid (Num w (some ⟨g, off, none⟩) n c xs a) := ⟨h, hx, hn⟩
        have hBs : w.heap.size ≤ w.heap.size := Nat.le_refl _
        have hn2 : decide ((n : Int) < 2) = false := decide_eq_false (by omega)
        clear h hx hbig h64 hal hnb hk hup ih ha
        go_enter Tryz.func55, Tryz.ntmps55
        go_wp2_with fail
        refine (bits_any A.out.at_ (by omega)).mono ?_
        rintro e w' ⟨rfl, hw⟩
        obtain rfl := hw.symm
        clear hw
        rw [A.out.nf.val, ← HNB.out]
        go_wp2_with fail
        rw [show ((2 : Int) * (k : Int)) = ((2 * k : Nat) : Int) by omega]
        go_wp2_with fail
        refine (shr_nf A.out.at_ A.out.nf A.out.le (2 * k) (by omega)).mono ?_
        rintro e v1 ⟨⟨r1, t1, y1, rfl, ho1, hn1, hm1⟩, hb1⟩
        have UP : Hid (Num v1 r1 t1 t1 y1 (a / 2 ^ (2 * k))) := Num.of ho1 hn1 hm1
        clear ho1 hn1
        have hBsy : w.heap.size ≤ v1.heap.size := Nat.le_trans hBs hb1.size
        clear hBs
        have hBs := hBsy
        clear hBsy
        replace A : Hid _ := A.out.below hb1
        have hbw := hb1
        clear hb1
        go_wp2_with fail
        refine (HIH.out _ HUP.out UP.out.at_ UP.out.nf UP.out.le).mono ?_
        rintro e v2 ⟨u1, u2, rfl, hR2⟩
        obtain ⟨hf, ph, mh, zh, pl, ml, zl, hh1, hh2, rfl, oh, nh, lh, rfl, ol, nl, ll⟩ := hR2.val
        have hb2 := hR2.bel
        have HF : Hid (Num v2 ph mh mh zh hf) := Num.of oh nh lh
        have LE : Hid (Num v2 pl ml ml zl (a / 2 ^ (2 * k) - hf * hf)) := Num.of ol nl ll
        have HH : Hid (hf * hf ≤ a / 2 ^ (2 * k) ∧ a / 2 ^ (2 * k) ≤ hf * hf + 2 * hf) := ⟨hh1, hh2⟩
        clear hR2 hh1 hh2 oh nh ol nl
        clear UP
        have hBsy : w.heap.size ≤ v2.heap.size := Nat.le_trans hBs hb2.size
        clear hBs
        have hBs := hBsy
        clear hBsy
        replace A : Hid _ := A.out.below hb2
        have hbwy := Below.on hbw hb2
        clear hbw
        have hbw := hbwy
        clear hbwy
        clear hb2
        go_wp2_with fail
        rw [show ((2 : Int) * (k : Int)) = ((2 * k : Nat) : Int) by omega]
        go_wp2_with fail
        refine (low_nf A.out.at_ A.out.nf A.out.le (2 * k) (by omega)).mono ?_
        rintro e v3 ⟨⟨r3, t3, y3, rfl, ho3, hn3, hm3⟩, hb3⟩
        have LOW : Hid (Num v3 r3 t3 t3 y3 (a % 2 ^ (2 * k))) := Num.of ho3 hn3 hm3
        clear ho3 hn3
        have hBsy : w.heap.size ≤ v3.heap.size := Nat.le_trans hBs hb3.size
        clear hBs
        have hBs := hBsy
        clear hBsy
        replace A : Hid _ := A.out.below hb3
        replace HF : Hid _ := HF.out.below hb3
        replace LE : Hid _ := LE.out.below hb3
        have hbwy := Below.on hbw hb3
        clear hbw
        have hbw := hbwy
        clear hbwy
        clear hb3
        clear A
        go_wp2_with fail
        refine (shr_nf LOW.out.at_ LOW.out.nf LOW.out.le k (by omega)).mono ?_
        rintro e v4 ⟨⟨r4, t4, y4, rfl, ho4, hn4, hm4⟩, hb4⟩
        have NX : Hid (Num v4 r4 t4 t4 y4 (a % 2 ^ (2 * k) / 2 ^ k)) := Num.of ho4 hn4 hm4
        clear ho4 hn4
        have hBsy : w.heap.size ≤ v4.heap.size := Nat.le_trans hBs hb4.size
        clear hBs
        have hBs := hBsy
        clear hBsy
        replace HF : Hid _ := HF.out.below hb4
        replace LE : Hid _ := LE.out.below hb4
        replace LOW : Hid _ := LOW.out.below hb4
        have hbwy := Below.on hbw hb4
        clear hbw
        have hbw := hbwy
        clear hbwy
        clear hb4
        go_wp2_with fail
        refine (low_nf LOW.out.at_ LOW.out.nf LOW.out.le k (by omega)).mono ?_
        rintro e v5 ⟨⟨r5, t5, y5, rfl, ho5, hn5, hm5⟩, hb5⟩
        have LA : Hid (Num v5 r5 t5 t5 y5 (a % 2 ^ (2 * k) % 2 ^ k)) := Num.of ho5 hn5 hm5
        clear ho5 hn5
        have hBsy : w.heap.size ≤ v5.heap.size := Nat.le_trans hBs hb5.size
        clear hBs
        have hBs := hBsy
        clear hBsy
        replace HF : Hid _ := HF.out.below hb5
        replace LE : Hid _ := LE.out.below hb5
        replace LOW : Hid _ := LOW.out.below hb5
        replace NX : Hid _ := NX.out.below hb5
        have hbwy := Below.on hbw hb5
        clear hbw
        have hbw := hbwy
        clear hbwy
        clear hb5
        clear LOW
        obtain ⟨l, hl⟩ : ∃ l, l = a / 2 ^ (2 * k) - hf * hf := ⟨_, rfl⟩
        obtain ⟨nx, hnx⟩ : ∃ nx, nx = a % 2 ^ (2 * k) / 2 ^ k := ⟨_, rfl⟩
        obtain ⟨la, hla⟩ : ∃ la, la = a % 2 ^ (2 * k) % 2 ^ k := ⟨_, rfl⟩
        rw [← hl] at LE
        rw [← hnx] at NX
        rw [← hla] at LA
        have hhb := half_big HNB.out HKE.out hnb65 HH.out.2
        have hC : RootC a hf (2 ^ k) ((2 ^ k * l + nx) / (2 * hf)) ((2 ^ k * l + nx) % (2 * hf)) la := by
          have hs := split_low a k
          rw [← hnx, ← hla] at hs
          refine root_core (l := l) (next := nx) ?_ ?_ ?_ ?_ ?_ ?_ hhb.1 hhb.2
          · have h1 := HH.out.1
            have h2 : hf * hf + l = a / 2 ^ (2 * k) := by omega
            rw [h2]; exact hs
          · have := HH.out; omega
          · rw [hnx]; refine Nat.div_lt_of_lt_mul ?_
            rw [← Nat.pow_add, show k + k = 2 * k by omega]; exact Nat.mod_lt _ (Nat.two_pow_pos _)
          · rw [hla]; exact Nat.mod_lt _ (Nat.two_pow_pos _)
          · have h9 := Nat.div_add_mod (2 ^ k * l + nx) (2 * hf)
            rw [Nat.mul_comm (2 * hf) ((2 ^ k * l + nx) / (2 * hf))] at h9
            exact h9.symm
          · exact Nat.mod_lt _ (by omega)
        have hX : 2 ^ k * l + nx < LIM := by
          have h1 := Nat.div_add_mod (2 ^ k * l + nx) (2 * hf)
          have h2 := Nat.mod_lt (2 ^ k * l + nx) (show 2 * hf > 0 by omega)
          have h3 := hC.le; have h4 := HAL.out; have h5 := hC.dP
          have h6 : 2 * hf * ((2 ^ k * l + nx) / (2 * hf)) ≤ 2 * hf * 2 ^ k := Nat.mul_le_mul_left _ h5
          have h7 : 2 * hf * 2 ^ k = 2 * (2 ^ k * hf) := by rw [Nat.mul_assoc, Nat.mul_comm hf]
          generalize 2 * hf * ((2 ^ k * l + nx) / (2 * hf)) = Y at *
          omega
        have HX : Hid (2 ^ k * l + nx < LIM) := hX
        have H2 : Hid (2 * hf < LIM) := by have := hC.le; have := HAL.out; show _ < _; omega
        have HF0 : Hid (2 * hf ≠ 0) := by have := hhb.2; show _ ≠ _; omega
        clear hX
        obtain ⟨X, eX⟩ : ∃ X, X = 2 ^ k * l + nx := ⟨_, rfl⟩
        obtain ⟨D, eD⟩ : ∃ D, D = (2 ^ k * l + nx) / (2 * hf) := ⟨_, rfl⟩
        obtain ⟨O, eO⟩ : ∃ O, O = (2 ^ k * l + nx) % (2 * hf) := ⟨_, rfl⟩
        rw [← eD, ← eO] at hC
        have ED : Hid (D = (2 ^ k * l + nx) / (2 * hf)) := eD
        have EO : Hid (O = (2 ^ k * l + nx) % (2 * hf)) := eO
        have HC : Hid (RootC a hf (2 ^ k) D O la) := hC
        have hlm := HAL.out
        have hle := hC.le; have hdp := hC.dP; have hlf := hC.lf; have hdd := hC.dd
        have L1 : Hid (2 ^ k * hf + D < LIM) := by show _ < _; omega
        have L2 : Hid (2 ^ k * O + la < LIM) := by show _ < _; omega
        have L3 : Hid (D * D < LIM) := by show _ < _; omega
        have L4 : Hid (2 * (2 ^ k * hf + D) < LIM) := by show _ < _; omega
        have L5 : Hid (2 ^ k * O + la + 2 * (2 ^ k * hf + D) < LIM) := by show _ < _; omega
        have FIN := hC.fin
        have F1 : Hid (2 ^ k * O + la < D * D → 1 ≤ 2 ^ k * hf + D ∧ D * D ≤ 2 ^ k * O + la + 2 * (2 ^ k * hf + D) - 1) := FIN.1
        have F2 : Hid ((if 2 ^ k * O + la < D * D then 2 ^ k * hf + D - 1 else 2 ^ k * hf + D) * (if 2 ^ k * O + la < D * D then 2 ^ k * hf + D - 1 else 2 ^ k * hf + D) ≤ a ∧
          a ≤ (if 2 ^ k * O + la < D * D then 2 ^ k * hf + D - 1 else 2 ^ k * hf + D) * (if 2 ^ k * O + la < D * D then 2 ^ k * hf + D - 1 else 2 ^ k * hf + D) + 2 * (if 2 ^ k * O + la < D * D then 2 ^ k * hf + D - 1 else 2 ^ k * hf + D) ∧
          (if 2 ^ k * O + la < D * D then 2 ^ k * O + la + 2 * (2 ^ k * hf + D) - 1 - D * D else 2 ^ k * O + la - D * D) = a - (if 2 ^ k * O + la < D * D then 2 ^ k * hf + D - 1 else 2 ^ k * hf + D) * (if 2 ^ k * O + la < D * D then 2 ^ k * hf + D - 1 else 2 ^ k * hf + D)) := FIN.2
        clear FIN hC hlm hle hdp hlf hdd hhb eD eO eX hl hnx hla
        go_wp2_with fail
        rw [show Value.int IntKind.i64 1 = .int .i64 ((1 : Nat) : Int) from rfl]
        go_wp2_with fail
        refine (shl_nf HF.out.at_ HF.out.nf HF.out.le 1 (by omega)).mono ?_
        rintro e v6 ⟨ha6, hb6⟩
        rw [Nat.pow_one] at ha6
        obtain ⟨r6, t6, y6, rfl, ho6, hn6, hm6⟩ := ha6.ok H2.out
        have TW : Hid (Num v6 r6 t6 t6 y6 (2 * hf)) := Num.of ho6 hn6 hm6
        clear ha6 ho6 hn6
        have hBsy : w.heap.size ≤ v6.heap.size := Nat.le_trans hBs hb6.size
        clear hBs
        have hBs := hBsy
        clear hBsy
        replace HF : Hid _ := HF.out.below hb6
        replace LE : Hid _ := LE.out.below hb6
        replace NX : Hid _ := NX.out.below hb6
        replace LA : Hid _ := LA.out.below hb6
        have hbwy := Below.on hbw hb6
        clear hbw
        have hbw := hbwy
        clear hbwy
        clear hb6
        go_wp2_with fail
        refine (join_any LE.out NX.out k (by omega) HX.out).mono ?_
        rintro e v7 ⟨r7, t7, y7, rfl, ho7, hn7, hm7, hb7⟩
        have JX : Hid (Num v7 r7 t7 t7 y7 (2 ^ k * l + nx)) := Num.of ho7 hn7 hm7
        clear ho7 hn7
        have hBsy : w.heap.size ≤ v7.heap.size := Nat.le_trans hBs hb7.size
        clear hBs
        have hBs := hBsy
        clear hBsy
        replace HF : Hid _ := HF.out.below hb7
        replace LE : Hid _ := LE.out.below hb7
        replace NX : Hid _ := NX.out.below hb7
        replace LA : Hid _ := LA.out.below hb7
        replace TW : Hid _ := TW.out.below hb7
        have hbwy := Below.on hbw hb7
        clear hbw
        have hbw := hbwy
        clear hbwy
        clear hb7
        clear LE
        clear NX
        go_wp2_with fail
        refine (quorem_any JX.out.at_ TW.out.at_ JX.out.nf TW.out.nf JX.out.le TW.out.le HF0.out).mono ?_
        rintro e v8 ⟨x1, x2, rfl, hD8⟩
        obtain ⟨pd, md, zd, rfl, od, nd, ld⟩ := hD8.quo
        obtain ⟨po, mo, zo, rfl, oo, no, lo⟩ := hD8.rem
        have hb8 := hD8.bel
        rw [← ED.out] at nd
        rw [← EO.out] at no
        have DG : Hid (Num v8 pd md md zd D) := Num.of od nd ld
        have OV : Hid (Num v8 po mo mo zo O) := Num.of oo no lo
        clear hD8 od nd oo no
        clear JX
        clear TW
        have hBsy : w.heap.size ≤ v8.heap.size := Nat.le_trans hBs hb8.size
        clear hBs
        have hBs := hBsy
        clear hBsy
        replace HF : Hid _ := HF.out.below hb8
        replace LA : Hid _ := LA.out.below hb8
        have hbwy := Below.on hbw hb8
        clear hbw
        have hbw := hbwy
        clear hbwy
        clear hb8
        go_wp2_with fail
        refine (join_any HF.out DG.out k (by omega) L1.out).mono ?_
        rintro e v9 ⟨r9, t9, y9, rfl, ho9, hn9, hm9, hb9⟩
        have RT : Hid (Num v9 r9 t9 t9 y9 (2 ^ k * hf + D)) := Num.of ho9 hn9 hm9
        have RTo : Hid (Own w.heap.size v9 r9 t9 y9) := ho9.mono hBs
        clear ho9 hn9
        have hBsy : w.heap.size ≤ v9.heap.size := Nat.le_trans hBs hb9.size
        clear hBs
        have hBs := hBsy
        clear hBsy
        replace HF : Hid _ := HF.out.below hb9
        replace LA : Hid _ := LA.out.below hb9
        replace DG : Hid _ := DG.out.below hb9
        replace OV : Hid _ := OV.out.below hb9
        have hbwy := Below.on hbw hb9
        clear hbw
        have hbw := hbwy
        clear hbwy
        clear hb9
        clear HF
        go_wp2_with fail
        refine (join_any OV.out LA.out k (by omega) L2.out).mono ?_
        rintro e v10 ⟨r10, t10, y10, rfl, ho10, hn10, hm10, hb10⟩
        have LF : Hid (Num v10 r10 t10 t10 y10 (2 ^ k * O + la)) := Num.of ho10 hn10 hm10
        clear ho10 hn10
        have hBsy : w.heap.size ≤ v10.heap.size := Nat.le_trans hBs hb10.size
        clear hBs
        have hBs := hBsy
        clear hBsy
        replace LA : Hid _ := LA.out.below hb10
        replace DG : Hid _ := DG.out.below hb10
        replace OV : Hid _ := OV.out.below hb10
        replace RT : Hid _ := RT.out.below hb10
        replace RTo : Hid (Own w.heap.size v10 r9 t9 y9) := RTo.out.below hb10
        have hbwy := Below.on hbw hb10
        clear hbw
        have hbw := hbwy
        clear hbwy
        clear hb10
        clear OV
        clear LA
        go_wp2_with fail
        refine (settle_any RTo.out hBs RT.out LF.out DG.out L3.out L4.out L5.out F1.out).mono ?_
        rintro e v11 ⟨x1, x2, rfl, hS⟩
        obtain ⟨q1, l1, s1, rfl, o1, n1, g1⟩ := hS.v1
        obtain ⟨q2, l2, s2, rfl, o2, n2, g2⟩ := hS.v2
        have hbz := Below.on hbw hS.bel
        have N1 : Hid (Nf B64 s1 (if 2 ^ k * O + la < D * D then 2 ^ k * hf + D - 1 else 2 ^ k * hf + D)) := n1
        have N2 : Hid (Nf B64 s2 (if 2 ^ k * O + la < D * D then 2 ^ k * O + la + 2 * (2 ^ k * hf + D) - 1 - D * D else 2 ^ k * O + la - D * D)) := n2
        clear n1 n2 hS hbw RT RTo LF DG hBs
        go_wp2_with fail
        go_ret2
        refine ⟨_, _, rfl, ⟨_, q1, l1, s1, q2, l2, s2, F2.out.1, F2.out.2.1, rfl, o1, N1.out, g1, rfl, o2, ?_, g2⟩, hbz⟩
        rw [← F2.out.2.2]; exact N2.out
theorem root_any {p : Option Addr} {n c : Nat} {xs : List Nat} {a : Nat} {w : World} (h : Num w p n c xs a) :
    Calls Tryz.prog 23 #[.slice p n c] w fun e w' => ∃ v1 v2, e = .returned (.tuple #[v1, v2, .int .i64 0]) ∧ RootTo w a v1 v2 w' := by
  have fx := h.nf.form (by rw [h.at_.len]; exact h.le)
  have H : Hid (Num w p n c xs a) := h
  clear h
  go_enter Tryz.func23, Tryz.ntmps23
  go_wp2_with fail
  refine (form_true H.out.at_ fx).mono ?_
  rintro e w' ⟨rfl, hw⟩
  obtain rfl := hw.symm
  clear hw fx
  go_wp2_with fail
  refine (rootof_any a a (Nat.le_refl _) H.out.at_ H.out.nf H.out.le).mono ?_
  rintro e w1 ⟨v1, v2, rfl, hR⟩
  have HR : Hid (RootTo w a v1 v2 w1) := hR
  clear hR
  go_wp2_with fail
  go_ret3
  exact ⟨_, _, rfl, HR.out⟩
def renS : Ren := ⟨fun x => match x with | 99 => 105 | 105 => 89 | 119 => 121 | 129 => 59 | 134 => 45 | 137 => 120 | 151 => 101 | 152 => 111 | 161 => 57 | 165 => 106 | 166 => 88 | 169 => 90 | 170 => 107 | 197 => 100 | 206 => 118 | 212 => 104 | 217 => 129 | 224 => 122 | 225 => 123 | 227 => 84 | 228 => 99 | 231 => 83 | 233 => 85 | 235 => 86 | 240 => 103 | 241 => 119 | 260 => 110 | 263 => 117 | 264 => 82 | 266 => 131 | 276 => 116 | 277 => 128 | 283 => 112 | 284 => 113 | 285 => 114 | 286 => 115 | 317 => 124 | 318 => 125 | 319 => 126 | 320 => 127 | 337 => 130 | 338 => 108 | n => n, fun x => match x with | 0 => 0 | 1 => 1 | 2 => 2 | 3 => 3 | 4 => 4 | 5 => 5 | 6 => 6 | 7 => 7 | 8 => 8 | 9 => 9 | 10 => 10 | 11 => 11 | 12 => 12 | 13 => 13 | 14 => 14 | 15 => 15 | 16 => 16 | 17 => 17 | 18 => 18 | 19 => 19 | 20 => 20 | 21 => 21 | 22 => 121 | 23 => 77 | 26 => 109 | 27 => 142 | 37 => 103 | 40 => 141 | 41 => 115 | 43 => 36 | 46 => 71 | 47 => 146 | 51 => 70 | 52 => 148 | 53 => 28 | 54 => 64 | 55 => 140 | 63 => 118 | 64 => 125 | 70 => 102 | 71 => 104 | 72 => 105 | 73 => 122 | 74 => 89 | 75 => 90 | 76 => 107 | 77 => 108 | 80 => 110 | 81 => 123 | 83 => 126 | 105 => 116 | 106 => 117 | 109 => 119 | 110 => 120 | 111 => 145 | 114 => 113 | 115 => 96 | 116 => 97 | 117 => 98 | 118 => 99 | 119 => 136 | 122 => 95 | 123 => 100 | 124 => 101 | 127 => 124 | 137 => 137 | 138 => 138 | 139 => 139 | 143 => 150 | 144 => 163 | 145 => 164 | 146 => 133 | 147 => 134 | 148 => 61 | 149 => 94 | 164 => 131 | 165 => 132 | 166 => 147 | 171 => 127 | 172 => 128 | 173 => 129 | 174 => 130 | 211 => 74 | 212 => 143 | 213 => 144 | 232 => 149 | 233 => 135 | 236 => 46 | 238 => 151 | 239 => 152 | 240 => 153 | 241 => 154 | 242 => 155 | 243 => 156 | 244 => 157 | 245 => 158 | 246 => 159 | 247 => 160 | 248 => 161 | 249 => 162 | n => n, fun x => match x with | 1 => 6 | 3 => 3 | 4 => 4 | 17 => 5 | 18 => 7 | 19 => 2 | n => n⟩
theorem laysn105 : Lays.n105 Tryz.prog renS :=
  { mixed := by kernel_rfl, f99 := Tryz.func105.trans (congrArg some (by kernel_rfl)), f105 := Tryz.func89.trans (congrArg some (by kernel_rfl)), f165 := Tryz.func106.trans (congrArg some (by kernel_rfl)), f166 := Tryz.func88.trans (congrArg some (by kernel_rfl)), f169 := Tryz.func90.trans (congrArg some (by kernel_rfl)), f170 := Tryz.func107.trans (congrArg some (by kernel_rfl)), f206 := Tryz.func118.trans (congrArg some (by kernel_rfl)), f212 := Tryz.func104.trans (congrArg some (by kernel_rfl)), f240 := Tryz.func103.trans (congrArg some (by kernel_rfl)), f241 := Tryz.func119.trans (congrArg some (by kernel_rfl)), f263 := Tryz.func117.trans (congrArg some (by kernel_rfl)), f264 := Tryz.func82.trans (congrArg some (by kernel_rfl)), f276 := Tryz.func116.trans (congrArg some (by kernel_rfl)), f277 := Tryz.func128.trans (congrArg some (by kernel_rfl)), t0 := Tryz.underlying0, a0 := Tryz.isAgg0, z0 := Tryz.sizeOf0, v0 := Tryz.zeroValue0, t3 := Tryz.underlying3, a3 := Tryz.isAgg3, z3 := Tryz.sizeOf3, v3 := Tryz.zeroValue3, t4 := Tryz.underlying4, a4 := Tryz.isAgg4, z4 := Tryz.sizeOf4, v4 := Tryz.zeroValue4, t5 := Tryz.underlying5, a5 := Tryz.isAgg5, z5 := Tryz.sizeOf5, v5 := Tryz.zeroValue5, t9 := Tryz.underlying9, a9 := Tryz.isAgg9, z9 := Tryz.sizeOf9, v9 := Tryz.zeroValue9, t20 := Tryz.underlying20, a20 := Tryz.isAgg20, z20 := Tryz.sizeOf20, v20 := Tryz.zeroValue20, t37 := Tryz.underlying103, a37 := Tryz.isAgg103, z37 := Tryz.sizeOf103, v37 := Tryz.zeroValue103, t46 := Tryz.underlying71, a46 := Tryz.isAgg71, z46 := Tryz.sizeOf71, v46 := Tryz.zeroValue71, t51 := Tryz.underlying70, a51 := Tryz.isAgg70, z51 := Tryz.sizeOf70, v51 := Tryz.zeroValue70, t53 := Tryz.underlying28, a53 := Tryz.isAgg28, z53 := Tryz.sizeOf28, v53 := Tryz.zeroValue28, t70 := Tryz.underlying102, a70 := Tryz.isAgg102, z70 := Tryz.sizeOf102, v70 := Tryz.zeroValue102, t72 := Tryz.underlying105, a72 := Tryz.isAgg105, z72 := Tryz.sizeOf105, v72 := Tryz.zeroValue105, t75 := Tryz.underlying90, a75 := Tryz.isAgg90, z75 := Tryz.sizeOf90, v75 := Tryz.zeroValue90, t76 := Tryz.underlying107, a76 := Tryz.isAgg107, z76 := Tryz.sizeOf107, v76 := Tryz.zeroValue107, t109 := Tryz.underlying119, a109 := Tryz.isAgg119, z109 := Tryz.sizeOf119, v109 := Tryz.zeroValue119, t127 := Tryz.underlying124, a127 := Tryz.isAgg124, z127 := Tryz.sizeOf124, v127 := Tryz.zeroValue124, t146 := Tryz.underlying133, a146 := Tryz.isAgg133, z146 := Tryz.sizeOf133, v146 := Tryz.zeroValue133, t148 := Tryz.underlying61, a148 := Tryz.isAgg61, z148 := Tryz.sizeOf61, v148 := Tryz.zeroValue61, t164 := Tryz.underlying131, a164 := Tryz.isAgg131, z164 := Tryz.sizeOf131, v164 := Tryz.zeroValue131 }
theorem laysn161 : Lays.n161 Tryz.prog renS :=
  { mixed := by kernel_rfl, f119 := Tryz.func121.trans (congrArg some (by kernel_rfl)), f137 := Tryz.func120.trans (congrArg some (by kernel_rfl)), f151 := Tryz.func101.trans (congrArg some (by kernel_rfl)), f152 := Tryz.func111.trans (congrArg some (by kernel_rfl)), f161 := Tryz.func57.trans (congrArg some (by kernel_rfl)), f197 := Tryz.func100.trans (congrArg some (by kernel_rfl)), f217 := Tryz.func129.trans (congrArg some (by kernel_rfl)), f224 := Tryz.func122.trans (congrArg some (by kernel_rfl)), f225 := Tryz.func123.trans (congrArg some (by kernel_rfl)), f227 := Tryz.func84.trans (congrArg some (by kernel_rfl)), f228 := Tryz.func99.trans (congrArg some (by kernel_rfl)), f231 := Tryz.func83.trans (congrArg some (by kernel_rfl)), f233 := Tryz.func85.trans (congrArg some (by kernel_rfl)), f235 := Tryz.func86.trans (congrArg some (by kernel_rfl)), f260 := Tryz.func110.trans (congrArg some (by kernel_rfl)), f266 := Tryz.func131.trans (congrArg some (by kernel_rfl)), t0 := Tryz.underlying0, a0 := Tryz.isAgg0, z0 := Tryz.sizeOf0, v0 := Tryz.zeroValue0, t3 := Tryz.underlying3, a3 := Tryz.isAgg3, z3 := Tryz.sizeOf3, v3 := Tryz.zeroValue3, t4 := Tryz.underlying4, a4 := Tryz.isAgg4, z4 := Tryz.sizeOf4, v4 := Tryz.zeroValue4, t5 := Tryz.underlying5, a5 := Tryz.isAgg5, z5 := Tryz.sizeOf5, v5 := Tryz.zeroValue5, t9 := Tryz.underlying9, a9 := Tryz.isAgg9, z9 := Tryz.sizeOf9, v9 := Tryz.zeroValue9, t21 := Tryz.underlying21, a21 := Tryz.isAgg21, z21 := Tryz.sizeOf21, v21 := Tryz.zeroValue21, t46 := Tryz.underlying71, a46 := Tryz.isAgg71, z46 := Tryz.sizeOf71, v46 := Tryz.zeroValue71, t105 := Tryz.underlying116, a105 := Tryz.isAgg116, z105 := Tryz.sizeOf116, v105 := Tryz.zeroValue116, t116 := Tryz.underlying97, a116 := Tryz.isAgg97, z116 := Tryz.sizeOf97, t117 := Tryz.underlying98, a117 := Tryz.isAgg98, z117 := Tryz.sizeOf98, v117 := Tryz.zeroValue98, t119 := Tryz.underlying136, a119 := Tryz.isAgg136, z119 := Tryz.sizeOf136, t124 := Tryz.underlying101, a124 := Tryz.isAgg101, z124 := Tryz.sizeOf101, v124 := Tryz.zeroValue101, t138 := Tryz.underlying138, a138 := Tryz.isAgg138, z138 := Tryz.sizeOf138, v138 := Tryz.zeroValue138, t139 := Tryz.underlying139, a139 := Tryz.isAgg139, z139 := Tryz.sizeOf139, v139 := Tryz.zeroValue139, g3 := by kernel_rfl, g4 := by kernel_rfl }
theorem laysn166 : Lays.n166 Tryz.prog renS :=
  { mixed := by kernel_rfl, f166 := Tryz.func88.trans (congrArg some (by kernel_rfl)), f240 := Tryz.func103.trans (congrArg some (by kernel_rfl)), f276 := Tryz.func116.trans (congrArg some (by kernel_rfl)), t0 := Tryz.underlying0, a0 := Tryz.isAgg0, z0 := Tryz.sizeOf0, v0 := Tryz.zeroValue0, t3 := Tryz.underlying3, a3 := Tryz.isAgg3, z3 := Tryz.sizeOf3, v3 := Tryz.zeroValue3, t4 := Tryz.underlying4, a4 := Tryz.isAgg4, z4 := Tryz.sizeOf4, v4 := Tryz.zeroValue4, t9 := Tryz.underlying9, a9 := Tryz.isAgg9, z9 := Tryz.sizeOf9, v9 := Tryz.zeroValue9, t20 := Tryz.underlying20, a20 := Tryz.isAgg20, z20 := Tryz.sizeOf20, v20 := Tryz.zeroValue20, t37 := Tryz.underlying103, a37 := Tryz.isAgg103, z37 := Tryz.sizeOf103, v37 := Tryz.zeroValue103, t70 := Tryz.underlying102, a70 := Tryz.isAgg102, z70 := Tryz.sizeOf102, v70 := Tryz.zeroValue102, t72 := Tryz.underlying105, a72 := Tryz.isAgg105, z72 := Tryz.sizeOf105, v72 := Tryz.zeroValue105, t75 := Tryz.underlying90, a75 := Tryz.isAgg90, z75 := Tryz.sizeOf90, v75 := Tryz.zeroValue90, t164 := Tryz.underlying131, a164 := Tryz.isAgg131, z164 := Tryz.sizeOf131, v164 := Tryz.zeroValue131 }
theorem laysn169 : Lays.n169 Tryz.prog renS :=
  { mixed := by kernel_rfl, f169 := Tryz.func90.trans (congrArg some (by kernel_rfl)), t0 := Tryz.underlying0, a0 := Tryz.isAgg0, z0 := Tryz.sizeOf0, v0 := Tryz.zeroValue0, t3 := Tryz.underlying3, a3 := Tryz.isAgg3, z3 := Tryz.sizeOf3, v3 := Tryz.zeroValue3, t9 := Tryz.underlying9, a9 := Tryz.isAgg9, z9 := Tryz.sizeOf9, v9 := Tryz.zeroValue9, t37 := Tryz.underlying103, a37 := Tryz.isAgg103, z37 := Tryz.sizeOf103, v37 := Tryz.zeroValue103, t70 := Tryz.underlying102, a70 := Tryz.isAgg102, z70 := Tryz.sizeOf102, v70 := Tryz.zeroValue102, t72 := Tryz.underlying105, a72 := Tryz.isAgg105, z72 := Tryz.sizeOf105, v72 := Tryz.zeroValue105, t127 := Tryz.underlying124, a127 := Tryz.isAgg124, z127 := Tryz.sizeOf124, v127 := Tryz.zeroValue124 }
theorem laysn283 : Lays.n283 Tryz.prog renS :=
  { mixed := by kernel_rfl, f283 := Tryz.func112.trans (congrArg some (by kernel_rfl)), t3 := Tryz.underlying3, a3 := Tryz.isAgg3, z3 := Tryz.sizeOf3, v3 := Tryz.zeroValue3, t4 := Tryz.underlying4, a4 := Tryz.isAgg4, z4 := Tryz.sizeOf4, v4 := Tryz.zeroValue4, t9 := Tryz.underlying9, a9 := Tryz.isAgg9, z9 := Tryz.sizeOf9, v9 := Tryz.zeroValue9 }
theorem laysn284 : LaysM.n284 Tryz.prog renS :=
  { mixed := by kernel_rfl, f129 := Tryz.func59.trans (congrArg some (by kernel_rfl)), f284 := Tryz.func113.trans (congrArg some (by kernel_rfl)), f317 := Tryz.func124.trans (congrArg some (by kernel_rfl)), f318 := Tryz.func125.trans (congrArg some (by kernel_rfl)), t0 := Tryz.underlying0, a0 := Tryz.isAgg0, z0 := Tryz.sizeOf0, v0 := Tryz.zeroValue0, t3 := Tryz.underlying3, a3 := Tryz.isAgg3, z3 := Tryz.sizeOf3, v3 := Tryz.zeroValue3, t4 := Tryz.underlying4, a4 := Tryz.isAgg4, z4 := Tryz.sizeOf4, v4 := Tryz.zeroValue4, t5 := Tryz.underlying5, a5 := Tryz.isAgg5, z5 := Tryz.sizeOf5, v5 := Tryz.zeroValue5, t9 := Tryz.underlying9, a9 := Tryz.isAgg9, z9 := Tryz.sizeOf9, v9 := Tryz.zeroValue9, t46 := Tryz.underlying71, a46 := Tryz.isAgg71, z46 := Tryz.sizeOf71, v46 := Tryz.zeroValue71, t53 := Tryz.underlying28, a53 := Tryz.isAgg28, z53 := Tryz.sizeOf28, v53 := Tryz.zeroValue28, t212 := Tryz.underlying143, a212 := Tryz.isAgg143, z212 := Tryz.sizeOf143, v212 := Tryz.zeroValue143, g17 := by kernel_rfl, i0 := by kernel_rfl, i3 := by kernel_rfl, i4 := by kernel_rfl, i5 := by kernel_rfl, i9 := by kernel_rfl, i46 := by kernel_rfl, i53 := by kernel_rfl, i212 := by kernel_rfl, m17 := by kernel_rfl }
theorem laysn285 : Lays.n285 Tryz.prog renS :=
  { mixed := by kernel_rfl, f285 := Tryz.func114.trans (congrArg some (by kernel_rfl)), t0 := Tryz.underlying0, a0 := Tryz.isAgg0, z0 := Tryz.sizeOf0, v0 := Tryz.zeroValue0, t3 := Tryz.underlying3, a3 := Tryz.isAgg3, z3 := Tryz.sizeOf3, v3 := Tryz.zeroValue3, t4 := Tryz.underlying4, a4 := Tryz.isAgg4, z4 := Tryz.sizeOf4, v4 := Tryz.zeroValue4, t5 := Tryz.underlying5, a5 := Tryz.isAgg5, z5 := Tryz.sizeOf5, v5 := Tryz.zeroValue5, t9 := Tryz.underlying9, a9 := Tryz.isAgg9, z9 := Tryz.sizeOf9, v9 := Tryz.zeroValue9, t37 := Tryz.underlying103, a37 := Tryz.isAgg103, z37 := Tryz.sizeOf103, v37 := Tryz.zeroValue103, t51 := Tryz.underlying70, a51 := Tryz.isAgg70, z51 := Tryz.sizeOf70, v51 := Tryz.zeroValue70, t53 := Tryz.underlying28, a53 := Tryz.isAgg28, z53 := Tryz.sizeOf28, v53 := Tryz.zeroValue28 }
theorem laysX : Builder.Extra Tryz.prog renS :=
  { sizeBuilder := by kernel_rfl, liesBuilder := by kernel_rfl, t5 := Tryz.underlying5, a5 := Tryz.isAgg5, z5 := Tryz.sizeOf5, v5 := Tryz.zeroValue5, infoByte := by kernel_rfl, cellsByte := by kernel_rfl, sizeByte := by kernel_rfl, neB5 := by decide }
end Go.Proofs.YtmekccpbcjpddaaGreatDoor
namespace Go.Proofs.YtmekccpbcjpddaaGreatDoor
open Go.RowKit
set_option maxRecDepth 100000
set_option maxHeartbeats 0
def IsDg (c : UInt8) : Prop := 48 ≤ c.toNat ∧ c.toNat ≤ 57
def dval (l : List UInt8) : Nat := l.foldl (fun a c => a * 10 + (c.toNat - 48)) 0
theorem dval_nil : dval [] = 0 := rfl
theorem dval_snoc (l : List UInt8) (c : UInt8) : dval (l ++ [c]) = dval l * 10 + (c.toNat - 48) := by unfold dval; rw [List.foldl_append]; rfl
theorem dfold (r : List UInt8) : ∀ a, r.foldl (fun a c => a * 10 + (c.toNat - 48)) a = a * 10 ^ r.length + dval r := by
  induction r with
  | nil => intro a; simp [dval]
  | cons c r ih =>
    intro a
    have h1 := ih (a * 10 + (c.toNat - 48))
    have h2 := ih (0 * 10 + (c.toNat - 48))
    have h3 : dval (c :: r) = r.foldl (fun a c => a * 10 + (c.toNat - 48)) (0 * 10 + (c.toNat - 48)) := rfl
    rw [h3, h2, List.foldl_cons, h1, List.length_cons, Nat.pow_succ, Nat.add_mul, Nat.mul_assoc a 10, Nat.mul_comm 10 (10 ^ r.length), Nat.zero_mul, Nat.zero_add]
    omega
theorem dval_app (l r : List UInt8) : dval (l ++ r) = dval l * 10 ^ r.length + dval r := by
  show (l ++ r).foldl _ 0 = _
  rw [List.foldl_append, dfold]; rfl
theorem dval_cons (c : UInt8) (r : List UInt8) : dval (c :: r) = (c.toNat - 48) * 10 ^ r.length + dval r := by
  rw [show c :: r = [c] ++ r from rfl, dval_app]; simp [dval]
theorem dval_rep (n : Nat) : dval (List.replicate n 48) = 0 := by
  induction n with
  | zero => rfl
  | succ n ih => rw [List.replicate_succ, dval_cons, ih]; show (48 - 48) * _ + 0 = 0; omega
theorem dg_nat {d : Nat} (h : d < 10) : (UInt8.ofNat (48 + d)).toNat = 48 + d := by
  rw [UInt8.toNat_ofNat']; omega
theorem dec_big {u : Nat} (h : ¬ u < 10) : Lib.decDigits u = Lib.decDigits (u / 10) ++ [UInt8.ofNat (48 + u % 10)] := by rw [Lib.decDigits, dif_neg h]
theorem dec_dg (u : Nat) : ∀ c, c ∈ Lib.decDigits u → IsDg c := by
  induction u using Nat.strongRecOn with
  | _ u ih =>
    intro c hc
    by_cases h : u < 10
    · rw [Lib.decDigits_one h] at hc
      rw [List.mem_singleton.1 hc]
      unfold IsDg; rw [dg_nat h]; omega
    · rw [dec_big h] at hc
      rcases List.mem_append.1 hc with h1 | h1
      · exact ih (u / 10) (by omega) c h1
      · rw [List.mem_singleton.1 h1]
        unfold IsDg; rw [dg_nat (Nat.mod_lt _ (by decide))]; have := Nat.mod_lt u (by decide : 10 > 0); omega
theorem dval_dec (u : Nat) : dval (Lib.decDigits u) = u := by
  induction u using Nat.strongRecOn with
  | _ u ih =>
    by_cases h : u < 10
    · rw [Lib.decDigits_one h]; show 0 * 10 + ((UInt8.ofNat (48 + u)).toNat - 48) = u; rw [dg_nat h]; omega
    · rw [dec_big h, dval_snoc, ih (u / 10) (by omega), dg_nat (Nat.mod_lt _ (by decide))]; omega
theorem dg_eq {c : UInt8} (h : IsDg c) : UInt8.ofNat (48 + (c.toNat - 48)) = c := by
  unfold IsDg at h
  rw [show 48 + (c.toNat - 48) = c.toNat by omega]; simp
theorem dval_pos {c : UInt8} {r : List UInt8} (h : IsDg c) (h0 : c ≠ 48) : 0 < dval (c :: r) := by
  rw [dval_cons]
  unfold IsDg at h
  have h1 : c.toNat ≠ 48 := fun e => h0 (UInt8.toNat_inj.1 e)
  have h2 : 1 ≤ c.toNat - 48 := by omega
  have h3 : 0 < (10 : Nat) ^ r.length := Nat.pow_pos (by decide)
  have h4 := Nat.mul_le_mul h2 h3
  omega
theorem dec_of : ∀ (n : Nat) (l : List UInt8), l.length = n → (∀ c, c ∈ l → IsDg c) → (∀ c r, l = c :: r → c ≠ 48) → l ≠ [] → Lib.decDigits (dval l) = l
  | 0, l, hn, _, _, h0 => absurd (List.eq_nil_of_length_eq_zero hn) h0
  | n + 1, l, hn, hd, hh, h0 => by
    obtain ⟨l', c, rfl⟩ : ∃ l' c, l = l' ++ [c] := ⟨l.dropLast, l.getLast h0, (List.dropLast_concat_getLast h0).symm⟩
    have hc : IsDg c := hd c (by simp)
    have hlt : c.toNat - 48 < 10 := by unfold IsDg at hc; omega
    rw [dval_snoc]
    cases l' with
    | nil =>
      rw [dval_nil, Nat.zero_mul, Nat.zero_add, Lib.decDigits_one hlt, dg_eq hc]; rfl
    | cons d r =>
      have hd0 : d ≠ 48 := hh d (r ++ [c]) rfl
      have hdd : IsDg d := hd d (by simp)
      have hp := dval_pos (r := r) hdd hd0
      have ih := dec_of n (d :: r) (by simp at hn ⊢; omega) (fun x hx => hd x (List.mem_append.2 (.inl hx))) (fun x y e => by cases e; exact hd0) (by simp)
      rw [dec_big (by omega), show (dval (d :: r) * 10 + (c.toNat - 48)) / 10 = dval (d :: r) by omega, show (dval (d :: r) * 10 + (c.toNat - 48)) % 10 = c.toNat - 48 by omega, ih, dg_eq hc]
theorem trim_dec : ∀ (l : List UInt8), (∀ c, c ∈ l → IsDg c) → dval l ≠ 0 → Lib.trimLeftB l 48 = Lib.decDigits (dval l)
  | [], _, h0 => absurd rfl h0
  | c :: r, hd, h0 => by
    by_cases h : c = 48
    · subst h
      have e : dval (48 :: r) = dval r := by rw [dval_cons]; show (48 - 48) * _ + _ = _; omega
      rw [e] at h0 ⊢
      rw [← trim_dec r (fun x hx => hd x (List.mem_cons_of_mem _ hx)) h0]
      unfold Lib.trimLeftB
      rw [List.dropWhile_cons_of_pos (by decide)]
    · rw [dec_of _ _ rfl hd (fun x y e => by cases e; exact h) (by simp)]
      unfold Lib.trimLeftB
      rw [List.dropWhile_cons_of_neg (by simpa using h)]
def pad19 (v : Nat) : List UInt8 := List.replicate (19 - (Lib.decDigits v).length) 48 ++ Lib.decDigits v
def P19 : Nat := 10000000000000000000
theorem ndig_le : ∀ (n u : Nat), u < 10 ^ (n + 1) → Lib.nDigits u ≤ n + 1
  | 0, u, h => by rw [Lib.nDigits_small (by simpa using h)]; omega
  | n + 1, u, h => by
    by_cases h1 : u < 10
    · rw [Lib.nDigits_small h1]; omega
    · rw [Lib.nDigits_big h1]
      have := ndig_le n (u / 10) (by rw [Nat.pow_succ] at h; omega)
      omega
theorem ndig_le1 {n u : Nat} (hn : 1 ≤ n) (h : u < 10 ^ n) : Lib.nDigits u ≤ n := by
  obtain ⟨k, rfl⟩ : ∃ k, n = k + 1 := ⟨n - 1, by omega⟩
  exact ndig_le k u h
theorem pad_len {v : Nat} (h : v < P19) : (pad19 v).length = 19 ∧ (Lib.decDigits v).length ≤ 19 := by
  have h1 : Lib.nDigits v ≤ 18 + 1 := ndig_le 18 v (Nat.lt_of_lt_of_le h (by decide))
  rw [← Lib.decDigits_length] at h1
  unfold pad19
  rw [List.length_append, List.length_replicate]
  omega
theorem pad_val (v : Nat) : dval (pad19 v) = v := by unfold pad19; rw [dval_app, dval_rep, dval_dec]; omega
theorem pad_dg (v : Nat) : ∀ c, c ∈ pad19 v → IsDg c := by
  intro c hc
  rcases List.mem_append.1 hc with h | h
  · rw [List.eq_of_mem_replicate h]; unfold IsDg; decide
  · exact dec_dg v c h
def pval : List Nat → Nat
  | [] => 0
  | x :: r => x + P19 * pval r
def padT : List Nat → List UInt8
  | [] => []
  | x :: r => padT r ++ pad19 x
theorem pval_snoc (es : List Nat) (x : Nat) : pval (es ++ [x]) = pval es + P19 ^ es.length * x := by
  induction es with
  | nil => show x + P19 * 0 = 0 + P19 ^ 0 * x; rw [Nat.mul_zero, Nat.pow_zero]; omega
  | cons y r ih =>
    show y + P19 * pval (r ++ [x]) = y + P19 * pval r + _
    rw [ih, List.length_cons, Nat.mul_add, Nat.pow_succ, Nat.mul_comm (P19 ^ r.length) P19, Nat.mul_assoc]
    omega
theorem padT_len : ∀ (es : List Nat), (∀ x, x ∈ es → x < P19) → (padT es).length = 19 * es.length
  | [], _ => rfl
  | x :: r, h => by
    show (padT r ++ pad19 x).length = _
    rw [List.length_append, padT_len r (fun y hy => h y (List.mem_cons_of_mem _ hy)), (pad_len (h x (List.mem_cons_self ..))).1, List.length_cons]
    omega
theorem padT_val : ∀ (es : List Nat), (∀ x, x ∈ es → x < P19) → dval (padT es) = pval es
  | [], _ => rfl
  | x :: r, h => by
    show dval (padT r ++ pad19 x) = x + P19 * pval r
    rw [dval_app, (pad_len (h x (List.mem_cons_self ..))).1, pad_val, padT_val r (fun y hy => h y (List.mem_cons_of_mem _ hy)), show (10 : Nat) ^ 19 = P19 from by decide, Nat.mul_comm]
    omega
theorem padT_dg : ∀ (es : List Nat), ∀ c, c ∈ padT es → IsDg c
  | [], c, h => by cases h
  | x :: r, c, h => by
    rcases List.mem_append.1 (show c ∈ padT r ++ pad19 x from h) with h1 | h1
    · exact padT_dg r c h1
    · exact pad_dg x c h1
def TXN : Nat := 4900
def KKN : Nat := 20000
def TXL : Nat := 10 ^ TXN
theorem txl_pos : 0 < TXL := Nat.pow_pos (by decide)
theorem txl_le {a : Nat} (h : a < TXL) : (Lib.decDigits a).length ≤ 4900 := by unfold TXL at h; rw [Lib.decDigits_length]; exact ndig_le1 (n := TXN) (by decide) h
theorem txl_gt {a : Nat} (h : ¬ a < TXL) : 4900 < (Lib.decDigits a).length := by
  rw [Lib.decDigits_length]
  have h1 := Lib.lt_pow_nDigits a
  unfold TXL at h
  exact (Nat.pow_lt_pow_iff_right (a := 10) (n := TXN) (by decide : 1 < 10)).1 (Nat.lt_of_le_of_lt (Nat.not_lt.1 h) h1)
theorem repl1 (n : Nat) : Lib.repeatL [48] n = List.replicate n 48 := by
  induction n with
  | zero => rfl
  | succ n ih => rw [Lib.repeatL, ih, List.replicate_succ]; rfl
end Go.Proofs.YtmekccpbcjpddaaGreatDoor
namespace Go.Proofs.YtmekccpbcjpddaaGreatDoor
open Go.RowKit Go.Shelf Go.Sort
set_option maxRecDepth 100000
set_option maxHeartbeats 0
def TbP (w : World) : Prop := Lib.TabIs Tryz.prog w "internal/strconv.uint64pow10" .u64 Lib.pow10Tab
theorem TbP.below {w w' : World} (h : TbP w) (hb : Below w.heap.size w w') : TbP w' := by
  unfold TbP Lib.TabIs World.var? at *
  cases hg : Program.globalNamed Tryz.prog "internal/strconv.uint64pow10" with
  | none => simp [hg] at h
  | some g =>
    simp only [hg, Option.bind_some] at h ⊢
    have hlt : g < w.heap.size := by
      rcases Nat.lt_or_ge g w.heap.size with h1 | h1
      · exact h1
      · rw [Array.getElem?_eq_none h1] at h; simp at h
    rw [hb.block g hlt]
    exact h
theorem small_c (i : Nat) (h : i < 100) (w : World) : Calls Tryz.prog 112 #[.int .i64 i] w fun e w' => e = .returned (.string ⟨(Lib.decDigits i).toArray⟩) ∧ w' = w := Any.internal_strconv_small laysn283 i h w
theorem ndig_c (u : Nat) (h1 : 1 ≤ u) (h2 : u < 18446744073709551616) (w : World) (ht : TbP w) : Calls Tryz.prog 113 #[.int .u64 u] w fun e w' => e = .returned (.int .i64 (Lib.nDigits u)) ∧ w' = w := Any.internal_strconv_numDigits laysn284 u h1 h2 w ht
theorem fmt10_c (blk off cap : Nat) (u : Nat) (d : Array UInt8) (w : World) (hH : Holds (fun (b : UInt8) => Value.int .u8 (b.toNat : Int)) w blk off d) (hu : u < 10 ^ d.size) (hu64 : u < 18446744073709551616) (hsz : d.size < 4611686018427387904) :
    Calls Tryz.prog 114 #[.slice (some ⟨blk, off, none⟩) d.size cap, .int .u64 u] w fun e w' =>
      e = .returned (.tuple #[]) ∧ ∃ (n v' : Nat) (dk : Array UInt8), w' = (putRow (fun (b : UInt8) => Value.int .u8 (b.toNat : Int)) w blk off dk).drewN n ∧ Lib.FmtInv d.size u 0 v' dk := Any.internal_strconv_formatBase10 laysn285 blk off cap u d w hH hu hu64 hsz
theorem repeat_c (s : ByteArray) (c : Nat) (w : World) (hc : c ≤ 9223372036854775807) (hlen : s.size * c ≤ 140737488355328) :
    Calls Tryz.prog 89 #[.string s, .int .i64 c] w fun e w' => e = .returned (.string ⟨(Lib.repeatL s.data.toList c).toArray⟩) ∧ Below w.heap.size w w' := Any.strings_Repeat laysn105 laysX s c w hc hlen
theorem trim_c (s : ByteArray) (c : UInt8) (hc : c.toNat < 128) (w : World) :
    Calls Tryz.prog 57 #[.string s, .string ⟨#[c]⟩] w fun e w' => e = .returned (.string ⟨(Lib.trimLeftB s.data.toList c).toArray⟩) ∧ w' = w := Any.strings_TrimLeft_one laysn161 s c hc w
def BldP (B b : Nat) (l : List UInt8) (w : World) : Prop := Lib.IsBuilder 105 5 B b (Lib.byteCells l) w
theorem wstr_c (B b : Nat) (l : List UInt8) (s : ByteArray) (w : World) (h : BldP B b l w) (hlen : l.length + s.size ≤ 140737488355328) (hBw : B ≤ w.heap.size) :
    Calls Tryz.prog 88 #[.pointer (some ⟨b, 0, none⟩), .string s] w fun e w' => e = .returned (.tuple #[.int .i64 s.size, .nilIface]) ∧ BldP B b (l ++ s.data.toList) w' ∧ Below B w w' := by
  refine (Any.Builder_WriteString laysn166 laysX B b (Lib.byteCells l) s w h (by rw [Lib.byteCells_length]; exact hlen) hBw).mono ?_
  rintro e w' ⟨rfl, h1, h2⟩
  refine ⟨rfl, .inr ?_, h2⟩
  rw [Lib.byteCells_append, ← Lib.strCells_eq]
  exact h1
theorem bstr_c (B b : Nat) (l : List UInt8) (w : World) (h : BldP B b l w) (hBw : B ≤ w.heap.size) :
    Calls Tryz.prog 90 #[.pointer (some ⟨b, 0, none⟩)] w fun e w' => e = .returned (.string ⟨l.toArray⟩) ∧ Below B w w' := Any.Builder_String_any laysn169 laysX B b l w h hBw
theorem bldAt_below {T e : TypeId} {B b : Nat} {p : Value} {bs : List Value} {w w' : World} (h : Lib.BuilderAt T e B b p bs w) (hb : Below w.heap.size w w') : Lib.BuilderAt T e B b p bs w' := by
  obtain ⟨h1, v, h2, h3, h4⟩ := h
  have lt : ∀ {k : Nat} {o : Obj}, w.heap[k]? = some o → k < w.heap.size := fun {k o} hk => by
    rcases Nat.lt_or_ge k w.heap.size with h6 | h6
    · exact h6
    · rw [Array.getElem?_eq_none h6] at hk; cases hk
  refine ⟨h1, v, (hb.block _ (lt h2)).trans h2, ⟨h3.1, ?_⟩, h4⟩
  rcases h3.2 with h5 | ⟨g, cap, cur, h5, h6, h7, h8⟩
  · exact .inl h5
  · exact .inr ⟨g, cap, cur, h5, h6, (hb.block _ (lt h7)).trans h7, h8⟩
theorem BldP.below {B b : Nat} {l : List UInt8} {w w' : World} (h : BldP B b l w) (hb : Below w.heap.size w w') : BldP B b l w' := h.elim (fun x => .inl (bldAt_below x hb)) (fun x => .inr (bldAt_below x hb))
theorem BldP.new (w : World) : BldP w.heap.size w.heap.size [] (w.alloc (.cells #[.pointer none, .slice none 0 0] 105)) :=
  .inl ⟨Nat.le_refl _, .slice none 0 0, by first | (show (w.heap.push _)[w.heap.size]? = _; simp; done) | (rw [World.alloc_eq]; simp), ⟨rfl, .inl ⟨rfl, rfl⟩⟩, by simp [Value.ownBlock]⟩
theorem holds_zero0 (w : World) (T : TypeId) (nd : Nat) (hs : nd ≤ 24) : Holds (fun (b : UInt8) => Value.int .u8 (b.toNat : Int)) (w.alloc (.cells Lib.zeros24 T)) w.heap.size 0 (Array.replicate nd (0 : UInt8)) := fun j hj => by
  have hj' : j < nd := by simpa using hj
  refine ⟨?_, World.frozen?_alloc_new _ _ _ _⟩
  rw [World.cell?_alloc_new, Lib.zeros24_at _ (by omega), getElem!_pos _ j hj]
  simp
theorem fin0 (w : World) (o : Obj) (dk : Array UInt8) (k : Nat) : Below w.heap.size w ((putRow (fun (b : UInt8) => Value.int .u8 (b.toNat : Int)) (w.alloc o) w.heap.size 0 dk).drewN k) := by
  rw [alloc_eq_grow]
  obtain ⟨os', _, e⟩ := putRow_grow_new (fun (b : UInt8) => Value.int .u8 (b.toNat : Int)) w #[o] w.heap.size 0 dk (Nat.le_refl _)
  rw [e]
  exact ⟨rfl, rfl, rfl, by simp [grow, World.drewN], fun j hj => heap_grow_old (w.drewN k) os' hj⟩
theorem fmtu_in (u : Nat) (hu64 : u < 18446744073709551616) (w : World) (htab : TbP w) :
    Calls Tryz.prog 102 #[.int .u64 u, .int .i64 10] w fun e w' => e = .returned (.string ⟨(Lib.decDigits u).toArray⟩) ∧ Below w.heap.size w w' := by
  by_cases hs : u < 100
  · have hw1 : wrap64 (u : Int) = (u : Int) := by unfold wrap64; omega
    have hd1 : decide ((u : Int) < 100) = true := decide_eq_true (by omega)
    have hd2 : decide (u < 100) = true := decide_eq_true hs
    go_enter Tryz.func102, Tryz.ntmps102
    go_wp2_with (refine (small_c u hs _).mono ?_; rintro e w' ⟨rfl, rfl⟩)
    go_ret
    exact ⟨rfl, Below.refl _ _⟩
  · have hu1 : 1 ≤ u := by omega
    have hnd20 : Lib.nDigits u ≤ 20 := by have := Lib.numDigits_eq u hu1 hu64; split at this <;> omega
    have hd1 : decide ((u : Int) < 100) = false := decide_eq_false (by omega)
    have hd2 : decide (u < 100) = false := decide_eq_false hs
    have hal : Program.arrayLen Tryz.prog 127 = 24 := by simp [Program.arrayLen, Tryz.underlying127]
    have hsl1 : ∀ W, (Instr.sliceAt 127 (.pointer (some ⟨w.heap.size, 0, none⟩)) none (some (.int .i64 (Lib.nDigits u : Int))) none).run Tryz.prog W = .ok (.slice (some ⟨w.heap.size, 0, none⟩) (Lib.nDigits u) 24) W := fun W => by
      rw [run_sliceAt_array_h W 127 ⟨w.heap.size, 0, none⟩ (by simp [Program.arrayLen, Program.elem, Tryz.underlying127]) .i64 (Lib.nDigits u : Int) (by omega) (by rw [hal]; omega)]
      go_simp
    have hH0 := holds_zero0 w 127 (Lib.nDigits u) (by omega)
    have hfmt := fmt10_c w.heap.size 0 24 u (Array.replicate (Lib.nDigits u) 0) (w.alloc (.cells Lib.zeros24 127)) hH0 (by rw [Array.size_replicate]; exact Lib.lt_pow_nDigits u) hu64 (by rw [Array.size_replicate]; omega)
    rw [Array.size_replicate] at hfmt
    have HH0 : Hid (Holds (fun (b : UInt8) => Value.int .u8 (b.toNat : Int)) (w.alloc (.cells Lib.zeros24 127)) w.heap.size 0 (Array.replicate (Lib.nDigits u) (0 : UInt8))) := hH0
    clear hH0 hal
    go_enter Tryz.func102, Tryz.ntmps102
    go_wp2_with (go_at_call 113; refine (ndig_c u hu1 hu64 _ (Lib.tabIs_alloc htab _)).mono ?_; rintro e w' ⟨rfl, rfl⟩)
    refine hfmt.mono ?_
    rintro e w' ⟨rfl, k, v', dk, rfl, hF⟩
    have hcv : (convert 103 9 (.slice (some ⟨w.heap.size, 0, none⟩) (Lib.nDigits u) 24)).run Tryz.prog ((putRow (fun (b : UInt8) => Value.int .u8 (b.toNat : Int)) (w.alloc (.cells Lib.zeros24 127)) w.heap.size 0 dk).drewN k) = .ok (.string ⟨(Lib.decDigits u).toArray⟩) ((putRow (fun (b : UInt8) => Value.int .u8 (b.toNat : Int)) (w.alloc (.cells Lib.zeros24 127)) w.heap.size 0 dk).drewN k) := by
      have h := run_convert_bytes_back (P := Tryz.prog) ((putRow (fun (b : UInt8) => Value.int .u8 (b.toNat : Int)) (w.alloc (.cells Lib.zeros24 127)) w.heap.size 0 dk).drewN k) 103 9 5 ⟨w.heap.size, 0, none⟩ 24 (Lib.decDigits u) Tryz.underlying103 Tryz.underlying5 Tryz.underlying9 (fun j hj => by
        rw [Lib.row_is_numeral hF j hj, Lib.add_plain, World.cell?_drewN]
        exact cell?_putRow (fun (b : UInt8) => Value.int .u8 (b.toNat : Int)) _ w.heap.size 0 _ dk HH0.out (by rw [hF.size, Array.size_replicate]) j (by rw [hF.size]; rw [Lib.decDigits_length] at hj; exact hj))
      rw [Lib.decDigits_length] at h
      exact h
    go_wp2
    go_ret
    exact ⟨rfl, fin0 w _ dk k⟩
theorem fmtu_c (u : Nat) (hu64 : u < 18446744073709551616) (w : World) (htab : TbP w) :
    Calls Tryz.prog 87 #[.int .u64 u, .int .i64 10] w fun e w' => e = .returned (.string ⟨(Lib.decDigits u).toArray⟩) ∧ Below w.heap.size w w' := by
  go_enter Tryz.func87, Tryz.ntmps87
  go_wp2_with fail
  refine (fmtu_in u hu64 w htab).mono ?_
  rintro e w' ⟨rfl, hb⟩
  go_wp2_with fail
  go_ret
  exact ⟨rfl, hb⟩
end Go.Proofs.YtmekccpbcjpddaaGreatDoor
namespace Go.Proofs.YtmekccpbcjpddaaGreatDoor
open Go.RowKit Go.Shelf
set_option maxRecDepth 100000
set_option maxHeartbeats 0
def iv (s : Bool) (a : Nat) : Int := if s then -(a : Int) else (a : Int)
theorem iv_t (a : Nat) : iv true a = -(a : Int) := rfl
theorem iv_f (a : Nat) : iv false a = (a : Int) := rfl
abbrev ZV (s : Bool) (p : Option Addr) (n c : Nat) : Value := .agg #[.bool s, .slice p n c]
def AnsI (B : Nat) (w' : World) (e : Ending) (z : Int) : Prop :=
  (z.natAbs < LIM ∧ ∃ p m zs, e = .returned (.tuple #[ZV (decide (z < 0)) p m m, .int .i64 0]) ∧ Own B w' p m zs ∧ Nf B64 zs z.natAbs ∧ m ≤ 8192) ∨
  (LIM ≤ z.natAbs ∧ e = .returned (.tuple #[ZV false none 0 0, .int .i64 5]))
theorem AnsI.ok {B : Nat} {w' : World} {e : Ending} {z : Int} (h : AnsI B w' e z) (hz : z.natAbs < LIM) : ∃ p m zs, e = .returned (.tuple #[ZV (decide (z < 0)) p m m, .int .i64 0]) ∧ Own B w' p m zs ∧ Nf B64 zs z.natAbs ∧ m ≤ 8192 := by
  rcases h with ⟨_, h⟩ | ⟨h, _⟩
  · exact h
  · omega
theorem AnsI.no {B : Nat} {w' : World} {e : Ending} {z : Int} (h : AnsI B w' e z) (hz : LIM ≤ z.natAbs) : e = .returned (.tuple #[ZV false none 0 0, .int .i64 5]) := by
  rcases h with ⟨h, _⟩ | ⟨_, h⟩
  · omega
  · exact h
theorem Num.zero {w : World} {p : Option Addr} {m c : Nat} {xs : List Nat} {a : Nat} (h : Num w p m c xs a) : m = 0 ↔ a = 0 := by
  rw [← h.nf.zero_iff B64_one, ← h.at_.len]
  exact ⟨List.eq_nil_of_length_eq_zero, fun e => by rw [e]; rfl⟩

theorem results_cell1 {fn : Func} {p : Tmp} {ty : TypeId} (h : fn.results = #[.cell p ty]) (tmps : Array Value) (P : Program) (w : World) :
    (results fn tmps).run P w = ((asAddr (tmps.getD p undef)).run P w).andThen fun a w₁ => (loadVar ty a).run P w₁ := by
  simp only [results, h]
  simp [Sem.run_bind, Result.andThen]
theorem signed_any (s : Bool) (p : Option Addr) (m c : Nat) (w : World) :
    Calls Tryz.prog 67 #[.bool s, .slice p m c] w fun e w' => e = .returned (ZV (s && decide (0 < m)) p m c) ∧ Below w.heap.size w w' := by
  cases s
  · go_enter Tryz.func67, Tryz.ntmps67
    go_wp2_with fail
    refine bodyPost_ret (v := ZV false p m c) ?_ rfl ⟨rfl, below1 w _⟩
    rw [results_cell1 rfl]
    go_simp
  · by_cases h : 0 < m
    · have hd : decide ((0 : Int) < (m : Int)) = true := decide_eq_true (by omega)
      go_enter Tryz.func67, Tryz.ntmps67
      go_wp2_with fail
      refine bodyPost_ret (v := ZV true p m c) ?_ rfl ⟨by simp [h], below1 w _⟩
      rw [results_cell1 rfl]
      go_simp
    · have hd : decide ((0 : Int) < (m : Int)) = false := decide_eq_false (by omega)
      have hn : ¬ 0 < m := h
      go_enter Tryz.func67, Tryz.ntmps67
      go_wp2_with fail
      refine bodyPost_ret (v := ZV false p m c) ?_ rfl ⟨by simp [h], below1 w _⟩
      rw [results_cell1 rfl]
      go_simp
theorem Row.oth {w : World} {g off n : Nat} {xs : List Nat} (h : Row w g off n xs) (g2 o2 : Nat) (v : Value) (hne : g ≠ g2) : Row (w.setCell ⟨g2, o2, none⟩ v) g off n xs := by
  refine ⟨h.len, h.dig, fun j hj => ?_, fun j hj => by rw [World.frozen?_setCell]; exact h.frozen j hj⟩
  exact (World.cell?_setCell_other _ _ _ _ (by intro e; apply hne; have := congrArg Addr.block e; simp at this; omega)).trans (h.cell j hj)
theorem Own.setOld {B : Nat} {w : World} {p : Option Addr} {m : Nat} {zs : List Nat} (h : Own B w p m zs) (g2 o2 : Nat) (v : Value) (hlt : g2 < B) : Own B (w.setCell ⟨g2, o2, none⟩ v) p m zs := by
  refine ⟨h.len, h.dig, ?_⟩
  rcases h.mem with h0 | ⟨g, hp, hg, hr⟩
  · exact .inl h0
  · exact .inr ⟨g, hp, hg, hr.oth g2 o2 v (by omega)⟩
theorem bSet {B : Nat} {a w : World} (h : Below B a w) (g o : Nat) (v : Value) (hB : B ≤ g) : Below B a (w.setCell ⟨g, o, none⟩ v) :=
  h.trans ((Wr.refl g o 1 w).setCell o ⟨by omega, by omega⟩ v |>.below hB)
theorem below3 (w : World) (o1 o2 o3 : Obj) : Below w.heap.size w (((w.alloc o1).alloc o2).alloc o3) := (below2 w o1 o2).alloc (by simp; omega) o3
theorem At.alloc3 {w : World} {p : Option Addr} {n c : Nat} {xs : List Nat} (h : At w p n c xs) (o1 o2 o3 : Obj) : At (((w.alloc o1).alloc o2).alloc o3) p n c xs := ((h.alloc o1).alloc o2).alloc o3
theorem iv_abs_same (s : Bool) (a b : Nat) : (iv s a + iv s b).natAbs = a + b ∧ (decide (iv s a + iv s b < 0) = (s && decide (0 < a + b))) := by
  cases s
  · rw [iv_f, iv_f]; refine ⟨by omega, ?_⟩
    simp only [Bool.false_and, decide_eq_false_iff_not]; omega
  · rw [iv_t, iv_t]; refine ⟨by omega, ?_⟩
    simp only [Bool.true_and]; exact decide_eq_decide.2 (by omega)
theorem iv_abs_diff (s : Bool) {a b : Nat} (h : b ≤ a) : (iv s a + iv (!s) b).natAbs = a - b ∧ (decide (iv s a + iv (!s) b < 0) = (s && decide (0 < a - b))) := by
  cases s
  · rw [Bool.not_false, iv_f, iv_t]; refine ⟨by omega, ?_⟩
    simp only [Bool.false_and, decide_eq_false_iff_not]; omega
  · rw [Bool.not_true, iv_f, iv_t]; refine ⟨by omega, ?_⟩
    simp only [Bool.true_and]; exact decide_eq_decide.2 (by omega)
theorem Nf.lenpos {zs : List Nat} {n m : Nat} (h : Nf B64 zs n) (hl : zs.length = m) : decide (0 < m) = decide (0 < n) := by
  refine decide_eq_decide.2 ?_
  have := h.zero_iff B64_one
  constructor
  · intro hm
    rcases Nat.eq_zero_or_pos n with e | e
    · have := this.2 e; rw [this] at hl; simp at hl; omega
    · exact e
  · intro hn
    rcases Nat.eq_zero_or_pos m with e | e
    · have := this.1 (List.eq_nil_of_length_eq_zero (by omega)); omega
    · exact e

theorem sum_same {p q : Option Addr} {n m c d : Nat} {xs ys : List Nat} {a b : Nat} {w : World} (s : Bool) (h : Num w p n c xs a) (k : Num w q m d ys b) :
    Calls Tryz.prog 68 #[ZV s p n c, ZV s q m d] w fun e w' => AnsI w.heap.size w' e (iv s a + iv s b) ∧ Below w.heap.size w w' := by
  obtain ⟨z, hz⟩ : ∃ z, z = iv s a + iv s b := ⟨_, rfl⟩
  rw [← hz]
  have hab := iv_abs_same s a b
  rw [← hz] at hab
  have HZ : Hid (z.natAbs = a + b ∧ decide (z < 0) = (s && decide (0 < a + b))) := hab
  have H : Hid (Num w p n c xs a) := h
  have K : Hid (Num w q m d ys b) := k
  clear hz hab h k
  have hss : (s == s) = true := by simp
  go_enter Tryz.func68, Tryz.ntmps68
  go_wp2_with fail
  refine (add_ord (H.out.at_.alloc3 _ _ _) (K.out.at_.alloc3 _ _ _) H.out.nf K.out.nf H.out.le K.out.le).mono ?_
  rintro e w1 ⟨ha, hb⟩
  have hbw := Below.on (below3 w _ _ _) hb
  have cx0 : w1.cell? ⟨w.heap.size, 0, none⟩ = some (.bool s) := (hb.cell (p := ⟨w.heap.size, 0, none⟩) (by simp <;> omega)).trans (by go_simp)
  have cr0 : (w1.cell? ⟨w.heap.size + 1 + 1, 0, none⟩) = some (.bool false) := (hb.cell (p := ⟨w.heap.size + 1 + 1, 0, none⟩) (by simp <;> omega)).trans (by go_simp)
  have cr1 : (w1.cell? ⟨w.heap.size + 1 + 1, 1, none⟩) = some (.slice none 0 0) := (hb.cell (p := ⟨w.heap.size + 1 + 1, 1, none⟩) (by simp <;> omega)).trans (by go_simp)
  have fr0 : w1.frozen? ⟨w.heap.size + 1 + 1, 0, none⟩ = false := (hb.frozen (p := ⟨w.heap.size + 1 + 1, 0, none⟩) (by simp <;> omega)).trans (by go_simp)
  have fr1 : w1.frozen? ⟨w.heap.size + 1 + 1, 1, none⟩ = false := (hb.frozen (p := ⟨w.heap.size + 1 + 1, 1, none⟩) (by simp <;> omega)).trans (by go_simp)
  have hsz : w.heap.size + 1 + 1 < w1.heap.size := by have := hb.size; simp at this; omega
  clear hb
  rcases ha with ⟨hl, p1, m1, z1, rfl, ho, hn, hm⟩ | ⟨hl, rfl⟩
  · have HL : Hid (a + b < LIM) := hl
    have HN : Hid (Nf B64 z1 (a + b)) := hn
    have HOW : Hid (Own (w.heap.size + 1 + 1 + 1) w1 p1 m1 z1) := by have := ho; simp at this; exact this
    have HM : Hid (m1 ≤ 8192) := hm
    have hv : (s && decide (0 < m1)) = decide (z < 0) := by rw [HZ.out.2, hn.lenpos ho.len]
    clear hl hn ho hm
    go_wp2_with fail
    refine (signed_any s p1 m1 m1 w1).mono ?_
    rintro e w2 ⟨rfl, hb2⟩
    rw [hv]
    obtain ⟨sz, hs⟩ : ∃ sz, sz = decide (z < 0) := ⟨_, rfl⟩
    rw [← hs]
    have HSZ : Hid (sz = decide (z < 0)) := hs
    have dr0 : w2.cell? ⟨w.heap.size + 1 + 1, 0, none⟩ = some (.bool false) := (hb2.cell (p := ⟨w.heap.size + 1 + 1, 0, none⟩) hsz).trans cr0
    have dr1 : w2.cell? ⟨w.heap.size + 1 + 1, 1, none⟩ = some (.slice none 0 0) := (hb2.cell (p := ⟨w.heap.size + 1 + 1, 1, none⟩) hsz).trans cr1
    have er0 : w2.frozen? ⟨w.heap.size + 1 + 1, 0, none⟩ = false := (hb2.frozen (p := ⟨w.heap.size + 1 + 1, 0, none⟩) hsz).trans fr0
    have er1 : w2.frozen? ⟨w.heap.size + 1 + 1, 1, none⟩ = false := (hb2.frozen (p := ⟨w.heap.size + 1 + 1, 1, none⟩) hsz).trans fr1
    have HOW2 : Hid (Own (w.heap.size + 1 + 1 + 1) w2 p1 m1 z1) := HOW.out.below hb2
    have hbw2 := Below.on hbw hb2
    clear hv hs cr0 cr1 fr0 fr1 cx0 hbw hb2 hsz HOW
    go_wp2_with fail
    refine bodyPost_ret (v := .tuple #[ZV sz p1 m1 m1, .int .i64 0]) (by rw [results_cell_tmp rfl]; go_simp) rfl ⟨.inl ⟨by rw [HZ.out.1]; exact HL.out, p1, m1, z1, by rw [HSZ.out], ?_, by rw [HZ.out.1]; exact HN.out, HM.out⟩, ?_⟩
    · exact ((HOW2.out.setOld _ _ _ (by omega)).setOld _ _ _ (by omega)).mono (by omega)
    · exact bSet (bSet hbw2 _ _ _ (by omega)) _ _ _ (by omega)
  · have HL : Hid (LIM ≤ a + b) := hl
    clear hl
    go_wp2_with fail
    refine (signed_any s none 0 0 w1).mono ?_
    rintro e w2 ⟨rfl, hb2⟩
    have hv : (s && decide (0 < 0)) = false := by simp
    rw [hv]
    have dr0 : w2.cell? ⟨w.heap.size + 1 + 1, 0, none⟩ = some (.bool false) := (hb2.cell (p := ⟨w.heap.size + 1 + 1, 0, none⟩) hsz).trans cr0
    have dr1 : w2.cell? ⟨w.heap.size + 1 + 1, 1, none⟩ = some (.slice none 0 0) := (hb2.cell (p := ⟨w.heap.size + 1 + 1, 1, none⟩) hsz).trans cr1
    have er0 : w2.frozen? ⟨w.heap.size + 1 + 1, 0, none⟩ = false := (hb2.frozen (p := ⟨w.heap.size + 1 + 1, 0, none⟩) hsz).trans fr0
    have er1 : w2.frozen? ⟨w.heap.size + 1 + 1, 1, none⟩ = false := (hb2.frozen (p := ⟨w.heap.size + 1 + 1, 1, none⟩) hsz).trans fr1
    have hbw2 := Below.on hbw hb2
    clear hv cr0 cr1 fr0 fr1 cx0 hbw hb2 hsz
    go_wp2_with fail
    refine bodyPost_ret (v := .tuple #[ZV false none 0 0, .int .i64 5]) (by rw [results_cell_tmp rfl]; go_simp) rfl ⟨.inr ⟨by rw [HZ.out.1]; exact HL.out, rfl⟩, ?_⟩
    exact bSet (bSet hbw2 _ _ _ (by omega)) _ _ _ (by omega)

theorem sub_okN {p q : Option Addr} {n m c d : Nat} {xs ys : List Nat} {a b : Nat} {w : World} (h : At w p n c xs) (k : At w q m d ys) (hx : Nf B64 xs a) (hy : Nf B64 ys b) (hn : n ≤ 8192) (hm : m ≤ 8192) (hle : b ≤ a) :
    Calls Tryz.prog 66 #[.slice p n c, .slice q m d] w fun e w' => (∃ p m zs, e = .returned (.tuple #[.slice p m m, .int .i64 0]) ∧ Own w.heap.size w' p m zs ∧ Nf B64 zs (a - b) ∧ m ≤ 8192) ∧ Below w.heap.size w w' := by
  refine (sub_nf h k hx hy hn hm).mono ?_
  rintro e w' ⟨h1 | h1, hb⟩
  · exact ⟨h1.2, hb⟩
  · exact absurd h1.1 (by omega)
theorem cmp_wN {p q : Option Addr} {n m c d : Nat} {xs ys : List Nat} {a b : Nat} {w : World} (h : At w p n c xs) (k : At w q m d ys) (hx : Nf B64 xs a) (hy : Nf B64 ys b) :
    Calls Tryz.prog 22 #[.slice p n c, .slice q m d] w fun e w' => e = .returned (.int .i64 (cmpN a b)) ∧ ∃ r, w' = w.drewN r := by
  have := cmp_any h k
  rw [hx.val, hy.val] at this; exact this

theorem sum_ge {p q : Option Addr} {n m c d : Nat} {xs ys : List Nat} {a b : Nat} {w : World} (s : Bool) (h : Num w p n c xs a) (k : Num w q m d ys b) (hle : b ≤ a) :
    Calls Tryz.prog 68 #[ZV s p n c, ZV (!s) q m d] w fun e w' => AnsI w.heap.size w' e (iv s a + iv (!s) b) ∧ Below w.heap.size w w' := by
  obtain ⟨z, hz⟩ : ∃ z, z = iv s a + iv (!s) b := ⟨_, rfl⟩
  rw [← hz]
  have hab := iv_abs_diff s hle
  rw [← hz] at hab
  have HZ : Hid (z.natAbs = a - b ∧ decide (z < 0) = (s && decide (0 < a - b))) := hab
  have H : Hid (Num w p n c xs a) := h
  have K : Hid (Num w q m d ys b) := k
  have HLE : Hid (b ≤ a) := hle
  have HL : Hid (a - b < LIM) := Nat.lt_of_le_of_lt (Nat.sub_le _ _) h.lim
  have hss : (s == !s) = false := by cases s <;> rfl
  obtain ⟨cc, hcc⟩ : ∃ cc, cc = cmpN a b := ⟨_, rfl⟩
  have hcn : decide (cc < 0) = false := decide_eq_false (by rw [hcc, cmpN_neg]; omega)
  have HCC : Hid (cc = cmpN a b) := hcc
  clear hz hab h k hle hcc
  go_enter Tryz.func68, Tryz.ntmps68
  go_wp2_with fail
  refine (cmp_wN (H.out.at_.alloc3 _ _ _) (K.out.at_.alloc3 _ _ _) H.out.nf K.out.nf).mono ?_
  rintro e w2 ⟨rfl, r2, rfl⟩
  rw [← HCC.out]
  go_wp2_with fail
  refine (sub_okN ((H.out.at_.alloc3 _ _ _).drewN r2) ((K.out.at_.alloc3 _ _ _).drewN r2) H.out.nf K.out.nf H.out.le K.out.le HLE.out).mono ?_
  rintro e w3 ⟨⟨p1, m1, z1, rfl, ho, hn, hm⟩, hb3⟩
  have hbw3 := Below.on (bDrewN (below3 w _ _ _) r2) hb3
  have cx0 : w3.cell? ⟨w.heap.size, 0, none⟩ = some (.bool s) := (hb3.cell (p := ⟨w.heap.size, 0, none⟩) (by simp <;> omega)).trans (by go_simp)
  have cr0 : w3.cell? ⟨w.heap.size + 1 + 1, 0, none⟩ = some (.bool false) := (hb3.cell (p := ⟨w.heap.size + 1 + 1, 0, none⟩) (by simp <;> omega)).trans (by go_simp)
  have cr1 : w3.cell? ⟨w.heap.size + 1 + 1, 1, none⟩ = some (.slice none 0 0) := (hb3.cell (p := ⟨w.heap.size + 1 + 1, 1, none⟩) (by simp <;> omega)).trans (by go_simp)
  have fr0 : w3.frozen? ⟨w.heap.size + 1 + 1, 0, none⟩ = false := (hb3.frozen (p := ⟨w.heap.size + 1 + 1, 0, none⟩) (by simp <;> omega)).trans (by go_simp)
  have fr1 : w3.frozen? ⟨w.heap.size + 1 + 1, 1, none⟩ = false := (hb3.frozen (p := ⟨w.heap.size + 1 + 1, 1, none⟩) (by simp <;> omega)).trans (by go_simp)
  have hsz : w.heap.size + 1 + 1 < w3.heap.size := by have := hb3.size; simp at this; omega
  have HN : Hid (Nf B64 z1 (a - b)) := hn
  have HOW : Hid (Own (w.heap.size + 1 + 1 + 1) w3 p1 m1 z1) := ho.mono (by simp)
  have HM : Hid (m1 ≤ 8192) := hm
  have hv : (s && decide (0 < m1)) = decide (z < 0) := by rw [HZ.out.2, hn.lenpos ho.len]
  clear hn ho hm hb3
  go_wp2_with fail
  refine (signed_any s p1 m1 m1 w3).mono ?_
  rintro e w4 ⟨rfl, hb4⟩
  rw [hv]
  obtain ⟨sz, hs⟩ : ∃ sz, sz = decide (z < 0) := ⟨_, rfl⟩
  rw [← hs]
  have HSZ : Hid (sz = decide (z < 0)) := hs
  have dr0 : w4.cell? ⟨w.heap.size + 1 + 1, 0, none⟩ = some (.bool false) := (hb4.cell (p := ⟨w.heap.size + 1 + 1, 0, none⟩) hsz).trans cr0
  have dr1 : w4.cell? ⟨w.heap.size + 1 + 1, 1, none⟩ = some (.slice none 0 0) := (hb4.cell (p := ⟨w.heap.size + 1 + 1, 1, none⟩) hsz).trans cr1
  have er0 : w4.frozen? ⟨w.heap.size + 1 + 1, 0, none⟩ = false := (hb4.frozen (p := ⟨w.heap.size + 1 + 1, 0, none⟩) hsz).trans fr0
  have er1 : w4.frozen? ⟨w.heap.size + 1 + 1, 1, none⟩ = false := (hb4.frozen (p := ⟨w.heap.size + 1 + 1, 1, none⟩) hsz).trans fr1
  have HOW2 : Hid (Own (w.heap.size + 1 + 1 + 1) w4 p1 m1 z1) := HOW.out.below hb4
  have hbw4 := Below.on hbw3 hb4
  clear hv hs cr0 cr1 fr0 fr1 cx0 hbw3 hb4 hsz HOW
  go_wp2_with fail
  refine bodyPost_ret (v := .tuple #[ZV sz p1 m1 m1, .int .i64 0]) (by rw [results_cell_tmp rfl]; go_simp) rfl ⟨.inl ⟨by rw [HZ.out.1]; exact HL.out, p1, m1, z1, by rw [HSZ.out], ?_, by rw [HZ.out.1]; exact HN.out, HM.out⟩, ?_⟩
  · exact ((HOW2.out.setOld _ _ _ (by omega)).setOld _ _ _ (by omega)).mono (by omega)
  · exact bSet (bSet hbw4 _ _ _ (by omega)) _ _ _ (by omega)

theorem sum_lt {p q : Option Addr} {n m c d : Nat} {xs ys : List Nat} {a b : Nat} {w : World} (s : Bool) (h : Num w p n c xs a) (k : Num w q m d ys b) (hlt : a < b) :
    Calls Tryz.prog 68 #[ZV s p n c, ZV (!s) q m d] w fun e w' => AnsI w.heap.size w' e (iv s a + iv (!s) b) ∧ Below w.heap.size w w' := by
  obtain ⟨z, hz⟩ : ∃ z, z = iv s a + iv (!s) b := ⟨_, rfl⟩
  rw [← hz]
  obtain ⟨t, ht⟩ : ∃ t, t = !s := ⟨_, rfl⟩
  have hst : s = !t := by rw [ht]; simp
  have hab := iv_abs_diff t (Nat.le_of_lt hlt)
  rw [← hst, ht, Int.add_comm, ← hz, ← ht] at hab
  rw [← ht]
  have HZ : Hid (z.natAbs = b - a ∧ decide (z < 0) = (t && decide (0 < b - a))) := hab
  have H : Hid (Num w p n c xs a) := h
  have K : Hid (Num w q m d ys b) := k
  have HLE : Hid (a ≤ b) := Nat.le_of_lt hlt
  have hss : (s == t) = false := by rw [ht]; cases s <;> rfl
  have HCC : Hid (cmpN a b = -1) := cmpN_lt hlt
  clear hz hab h k hlt ht hst
  go_enter Tryz.func68, Tryz.ntmps68
  go_wp2_with fail
  refine (cmp_wN (H.out.at_.alloc3 _ _ _) (K.out.at_.alloc3 _ _ _) H.out.nf K.out.nf).mono ?_
  rintro e w2 ⟨rfl, r2, hw2⟩
  rw [HCC.out]
  have c00 : w2.cell? ⟨w.heap.size, 0, none⟩ = some (.bool s) := by rw [hw2]; go_simp
  have c01 : w2.cell? ⟨w.heap.size, 1, none⟩ = some (.slice p n c) := by rw [hw2]; go_simp
  have c10 : w2.cell? ⟨w.heap.size + 1, 0, none⟩ = some (.bool t) := by rw [hw2]; go_simp
  have c11 : w2.cell? ⟨w.heap.size + 1, 1, none⟩ = some (.slice q m d) := by rw [hw2]; go_simp
  have c20 : w2.cell? ⟨w.heap.size + 1 + 1, 0, none⟩ = some (.bool false) := by rw [hw2]; go_simp
  have c21 : w2.cell? ⟨w.heap.size + 1 + 1, 1, none⟩ = some (.slice none 0 0) := by rw [hw2]; go_simp
  have f00 : w2.frozen? ⟨w.heap.size, 0, none⟩ = false := by rw [hw2]; go_simp
  have f01 : w2.frozen? ⟨w.heap.size, 1, none⟩ = false := by rw [hw2]; go_simp
  have f10 : w2.frozen? ⟨w.heap.size + 1, 0, none⟩ = false := by rw [hw2]; go_simp
  have f11 : w2.frozen? ⟨w.heap.size + 1, 1, none⟩ = false := by rw [hw2]; go_simp
  have f20 : w2.frozen? ⟨w.heap.size + 1 + 1, 0, none⟩ = false := by rw [hw2]; go_simp
  have f21 : w2.frozen? ⟨w.heap.size + 1 + 1, 1, none⟩ = false := by rw [hw2]; go_simp
  have hb2 : Below w.heap.size w w2 := by rw [hw2]; exact bDrewN (below3 w _ _ _) r2
  have hs2 : w2.heap.size = w.heap.size + 1 + 1 + 1 := by rw [hw2]; simp
  have HS2 : Hid (w2.heap.size = w.heap.size + 1 + 1 + 1) := hs2
  have HB2 : Hid (Below w.heap.size w w2) := hb2
  clear hw2 hb2 hs2
  obtain ⟨hs, ehs⟩ : ∃ hs, hs = w.heap.size := ⟨_, rfl⟩
  have HHS : Hid (hs = w.heap.size) := ehs
  rw [← ehs] at c00 c01 c10 c11 c20 c21 f00 f01 f10 f11 f20 f21 HS2 HB2 ⊢
  clear ehs
  go_wp2_with fail
  have hbw4 := bSet (bSet (bSet (bSet HB2.out hs 0 (.bool t) (Nat.le_refl _)) hs 1 (.slice q m d) (Nat.le_refl _)) (hs + 1) 0 (.bool s) (by omega)) (hs + 1) 1 (.slice p n c) (by omega)
  have hsz4 : ((((w2.setCell ⟨hs, 0, none⟩ (.bool t)).setCell ⟨hs, 1, none⟩ (.slice q m d)).setCell ⟨hs + 1, 0, none⟩ (.bool s)).setCell ⟨hs + 1, 1, none⟩ (.slice p n c)).heap.size = hs + 1 + 1 + 1 := by simp [World.setCell]; exact HS2.out
  have d00 : ((((w2.setCell ⟨hs, 0, none⟩ (.bool t)).setCell ⟨hs, 1, none⟩ (.slice q m d)).setCell ⟨hs + 1, 0, none⟩ (.bool s)).setCell ⟨hs + 1, 1, none⟩ (.slice p n c)).cell? ⟨hs, 0, none⟩ = some (.bool t) := by go_simp
  have d20 : ((((w2.setCell ⟨hs, 0, none⟩ (.bool t)).setCell ⟨hs, 1, none⟩ (.slice q m d)).setCell ⟨hs + 1, 0, none⟩ (.bool s)).setCell ⟨hs + 1, 1, none⟩ (.slice p n c)).cell? ⟨hs + 1 + 1, 0, none⟩ = some (.bool false) := by go_simp
  have d21 : ((((w2.setCell ⟨hs, 0, none⟩ (.bool t)).setCell ⟨hs, 1, none⟩ (.slice q m d)).setCell ⟨hs + 1, 0, none⟩ (.bool s)).setCell ⟨hs + 1, 1, none⟩ (.slice p n c)).cell? ⟨hs + 1 + 1, 1, none⟩ = some (.slice none 0 0) := by go_simp
  have g20 : ((((w2.setCell ⟨hs, 0, none⟩ (.bool t)).setCell ⟨hs, 1, none⟩ (.slice q m d)).setCell ⟨hs + 1, 0, none⟩ (.bool s)).setCell ⟨hs + 1, 1, none⟩ (.slice p n c)).frozen? ⟨hs + 1 + 1, 0, none⟩ = false := by go_simp
  have g21 : ((((w2.setCell ⟨hs, 0, none⟩ (.bool t)).setCell ⟨hs, 1, none⟩ (.slice q m d)).setCell ⟨hs + 1, 0, none⟩ (.bool s)).setCell ⟨hs + 1, 1, none⟩ (.slice p n c)).frozen? ⟨hs + 1 + 1, 1, none⟩ = false := by go_simp
  generalize ((((w2.setCell ⟨hs, 0, none⟩ (.bool t)).setCell ⟨hs, 1, none⟩ (.slice q m d)).setCell ⟨hs + 1, 0, none⟩ (.bool s)).setCell ⟨hs + 1, 1, none⟩ (.slice p n c)) = W4 at *
  rw [HHS.out] at hbw4
  refine (sub_okN (K.out.at_.below hbw4) (H.out.at_.below hbw4) K.out.nf H.out.nf K.out.le H.out.le HLE.out).mono ?_
  rintro e w3 ⟨⟨p1, m1, z1, rfl, ho, hn, hm⟩, hb3⟩
  have hbw3 := Below.on hbw4 hb3
  have cx0 : w3.cell? ⟨hs, 0, none⟩ = some (.bool t) := (hb3.cell (p := ⟨hs, 0, none⟩) (by simp; omega)).trans d00
  have cr0 : w3.cell? ⟨hs + 1 + 1, 0, none⟩ = some (.bool false) := (hb3.cell (p := ⟨hs + 1 + 1, 0, none⟩) (by simp; omega)).trans d20
  have cr1 : w3.cell? ⟨hs + 1 + 1, 1, none⟩ = some (.slice none 0 0) := (hb3.cell (p := ⟨hs + 1 + 1, 1, none⟩) (by simp; omega)).trans d21
  have fr0 : w3.frozen? ⟨hs + 1 + 1, 0, none⟩ = false := (hb3.frozen (p := ⟨hs + 1 + 1, 0, none⟩) (by simp; omega)).trans g20
  have fr1 : w3.frozen? ⟨hs + 1 + 1, 1, none⟩ = false := (hb3.frozen (p := ⟨hs + 1 + 1, 1, none⟩) (by simp; omega)).trans g21
  have hsz : hs + 1 + 1 < w3.heap.size := by have := hb3.size; omega
  have HN : Hid (Nf B64 z1 (b - a)) := hn
  have HOW : Hid (Own (hs + 1 + 1 + 1) w3 p1 m1 z1) := ho.mono (by omega)
  have HM : Hid (m1 ≤ 8192) := hm
  have hv : (t && decide (0 < m1)) = decide (z < 0) := by rw [HZ.out.2, hn.lenpos ho.len]
  clear hn ho hm hb3 d00 d20 d21 g20 g21 c00 c01 c10 c11 c20 c21 f00 f01 f10 f11 f20 f21 hsz4 hbw4
  go_wp2_with fail
  refine (signed_any t p1 m1 m1 w3).mono ?_
  rintro e w4 ⟨rfl, hb4⟩
  rw [hv]
  obtain ⟨sz, hss2⟩ : ∃ sz, sz = decide (z < 0) := ⟨_, rfl⟩
  rw [← hss2]
  have HSZ : Hid (sz = decide (z < 0)) := hss2
  have dr0 : w4.cell? ⟨hs + 1 + 1, 0, none⟩ = some (.bool false) := (hb4.cell (p := ⟨hs + 1 + 1, 0, none⟩) hsz).trans cr0
  have dr1 : w4.cell? ⟨hs + 1 + 1, 1, none⟩ = some (.slice none 0 0) := (hb4.cell (p := ⟨hs + 1 + 1, 1, none⟩) hsz).trans cr1
  have er0 : w4.frozen? ⟨hs + 1 + 1, 0, none⟩ = false := (hb4.frozen (p := ⟨hs + 1 + 1, 0, none⟩) hsz).trans fr0
  have er1 : w4.frozen? ⟨hs + 1 + 1, 1, none⟩ = false := (hb4.frozen (p := ⟨hs + 1 + 1, 1, none⟩) hsz).trans fr1
  have HOW2 : Hid (Own (hs + 1 + 1 + 1) w4 p1 m1 z1) := HOW.out.below hb4
  have hbz := Below.on hbw3 hb4
  clear hv hss2 cr0 cr1 fr0 fr1 cx0 hbw3 hb4 hsz HOW
  go_wp2_with fail
  refine bodyPost_ret (v := .tuple #[ZV sz p1 m1 m1, .int .i64 0]) (by rw [results_cell_tmp rfl]; go_simp) rfl ⟨.inl ⟨by rw [HZ.out.1]; exact Nat.lt_of_le_of_lt (Nat.sub_le _ _) K.out.lim, p1, m1, z1, by rw [HSZ.out], ?_, by rw [HZ.out.1]; exact HN.out, HM.out⟩, ?_⟩
  · exact ((HOW2.out.setOld _ _ _ (by omega)).setOld _ _ _ (by omega)).mono (by have := HHS.out; omega)
  · exact bSet (bSet hbz _ _ _ (by have := HHS.out; omega)) _ _ _ (by have := HHS.out; omega)
theorem sum_any {p q : Option Addr} {n m c d : Nat} {xs ys : List Nat} {a b : Nat} {w : World} (s t : Bool) (h : Num w p n c xs a) (k : Num w q m d ys b) :
    Calls Tryz.prog 68 #[ZV s p n c, ZV t q m d] w fun e w' => AnsI w.heap.size w' e (iv s a + iv t b) ∧ Below w.heap.size w w' := by
  by_cases e : s = t
  · subst e; exact sum_same s h k
  · obtain rfl : t = !s := by revert e; cases s <;> cases t <;> simp
    rcases Nat.lt_or_ge a b with hl | hl
    · exact sum_lt s h k hl
    · exact sum_ge s h k hl
end Go.Proofs.YtmekccpbcjpddaaGreatDoor
namespace Go.Proofs.YtmekccpbcjpddaaGreatDoor
open Go.RowKit
set_option maxRecDepth 100000
set_option maxHeartbeats 0
variable {P : Program} {md : Region.Mode} {ops : Array Oper} {Q : Exit → Act → World → Prop} {J : World → Prop}

def wpJ (P : Program) (md : Region.Mode) (ops : Array Oper) (Q : Exit → Act → World → Prop) (J : World → Prop) : Nat → Array Bool → Act → World → Prop
  | 0, listed, a, w => Region.ready md ops listed = [] ∧ Q .normal a w
  | fuel + 1, listed, a, w =>
    (Region.ready md ops listed = [] → Q .normal a w) ∧
    ∀ i ∈ Region.ready md ops listed, wpOp P ops Q i (fun a' w' => J w' ∧ wpJ P md ops Q J fuel (listed.setIfInBounds i true) a' w') a w
theorem wpJ_any : ∀ (fuel : Nat) (listed : Array Bool) (a : Act) (w : World), wpJ P md ops Q J fuel listed a w → wpAny P md ops Q fuel listed a w
  | 0, _, _, _, h => h
  | fuel + 1, _, _, _, h => ⟨h.1, fun i hi => wpOp_mono (fun a' w' h' => wpJ_any fuel _ a' w' h'.2) (h.2 i hi)⟩

def YieldsJ (P : Program) (ops : Array Oper) (J : World → Prop) (o : Oper) (v : Value) (a : Act) : Prop :=
  (Region.wanted o (yielded ops a.tmps) = true ∧ ∀ w, J w → (execOp a.eval o).run P w = .ok (.value v) w) ∨ (Region.wanted o (yielded ops a.tmps) = false ∧ v = undef)
theorem YieldsJ.wpOp {i : Nat} {o : Oper} {v : Value} {a : Act} (hi : ops[i]? = some o) (hy : YieldsJ P ops J o v a)
    {K : Act → World → Prop} {w : World} (hJ : J w) (h : K (a.put o.dst v) w) : wpOp P ops Q i K a w := by
  unfold Go.wpOp
  simp only [hi]
  rcases hy with ⟨hw, hv⟩ | ⟨hw, rfl⟩
  · simp only [hw, if_true, Oper.wp, hv w hJ, Oper.upon]
    exact .inl h
  · simp only [hw]
    exact h
theorem YieldsJ.of_same {o : Oper} {v : Value} {a a' : Act} (hy : YieldsJ P ops J o v a) (he : execOp a'.eval o = execOp a.eval o)
    (hw : Region.wanted o (yielded ops a'.tmps) = Region.wanted o (yielded ops a.tmps)) : YieldsJ P ops J o v a' := by
  unfold YieldsJ at *
  rw [he, hw]
  exact hy
theorem wpOpJ_put {j : Nat} {oi oj : Oper} {v : Value} (hj : ops[j]? = some oj) (hap : oi.apart ops oj = true)
    (hsi : ∀ cs b, oi.op ≠ .select cs b) (hsj : ∀ cs b, oj.op ≠ .select cs b)
    (hQ : ∀ c a w, Q (.panic c) (a.put oi.dst v) w → Q (.panic c) a w) {K : Act → World → Prop} {a : Act} {w : World}
    (hy : YieldsJ P ops J oi v a) (h : wpOp P ops Q j K (a.put oi.dst v) w) :
    wpOp P ops Q j (fun a' w' => YieldsJ P ops J oi v a' ∧ K (a'.put oi.dst v) w') a w := by
  obtain ⟨h1, h2, h3⟩ := Oper.apart_spec hap
  have keep : ∀ (a : Act), YieldsJ P ops J oi v a → ∀ u, YieldsJ P ops J oi v (a.put oj.dst u) := fun a hy u =>
    hy.of_same (execOp_put oi hsi a oj.dst u h3) (wanted_put oi a oj.dst u h3)
  have keepD : ∀ d, YieldsJ P ops J oi v { a with defers := d :: a.defers } := fun d => hy.of_same rfl rfl
  unfold wpOp at *
  simp only [hj] at *
  rw [wanted_put oj a oi.dst v h1] at h
  split
  · rename_i hw
    simp only [hw, if_true] at h
    rcases h with h | ⟨hasks, hlets⟩
    case inr => exact .inr ⟨by unfold Oper.asks at *; rw [execOp_put oj hsj a oi.dst v h1] at hasks; exact hasks, hlets⟩
    refine .inl ?_
    unfold Oper.wp at *
    rw [execOp_put oj hsj a oi.dst v h1] at h
    generalize (execOp a.eval oj).run P w = r at *
    cases r with
    | ok n w' =>
      cases n <;> simp only [Oper.upon] at h ⊢
      case value u => exact ⟨keep a hy u, by rw [← Act.put_comm a v u h2]; exact h⟩
      case skip => exact ⟨keep a hy _, by rw [← Act.put_comm a v undef h2]; exact h⟩
      case defer d =>
        refine ⟨keep _ (keepD d) _, ?_⟩
        rw [← Act.put_comm _ v undef h2, ← Act.put_defers]
        exact h
      case enter f args =>
        refine Calls.mono h fun e w'' he => ?_
        cases e with
        | returned u => exact ⟨keep a hy u, by rw [← Act.put_comm a v u h2]; exact he⟩
        | panicked c => exact hQ _ _ _ he
        | outgrown => exact he
      case row row args => exact Rows.mono h fun u w'' he => ⟨keep a hy u, by rw [← Act.put_comm a v u h2]; exact he⟩
    | halt x w' =>
      cases x <;> simp only [Oper.upon] at h ⊢
      case panic u => exact hQ _ _ _ h
  · rename_i hw
    simp only [hw] at h
    exact ⟨keep a hy _, by rw [← Act.put_comm a v undef h2]; exact h⟩

theorem wpJ_first {i : Nat} {oi : Oper} {v : Value} (hi : ops[i]? = some oi) (hsel : ∀ (j : Nat) (o : Oper) cs b, ops[j]? = some o → o.op ≠ .select cs b)
    (hQ : ∀ c a w, Q (.panic c) (a.put oi.dst v) w → Q (.panic c) a w) :
    ∀ (fuel : Nat) (listed : Array Bool) (a : Act) (w : World),
      (∀ j oj, ops[j]? = some oj → j ≠ i → listed.getD j true = false → (∀ e ∈ oj.after, Region.binds md e = true → e.on ≠ i) → oi.apart ops oj = true) →
      i ∈ Region.ready md ops listed → YieldsJ P ops J oi v a → J w →
      wpJ P md ops Q J fuel (listed.setIfInBounds i true) (a.put oi.dst v) w → wpJ P md ops Q J (fuel + 1) listed a w := by
  intro fuel
  induction fuel with
  | zero =>
    intro listed a w _ hr hy hJ H
    refine ⟨fun h => (by rw [h] at hr; cases hr), fun j hj => ?_⟩
    by_cases hji : j = i
    · subst hji; exact hy.wpOp hi hJ ⟨hJ, H⟩
    · have := ready_mono hj hji
      rw [H.1] at this
      cases this
  | succ fuel ih =>
    intro listed a w hfree hr hy hJ H
    refine ⟨fun h => (by rw [h] at hr; cases hr), fun j hj => ?_⟩
    by_cases hji : j = i
    · subst hji; exact hy.wpOp hi hJ ⟨hJ, H⟩
    · have h1 := H.2 j (ready_mono hj hji)
      obtain ⟨hjun, oj, hoj, hall⟩ := mem_ready.1 hj
      have hnot : ∀ e ∈ oj.after, Region.binds md e = true → e.on ≠ i := fun e he hb heq => by
        have h1 := hall e he hb
        have h0 := (mem_ready.1 hr).1
        rw [heq] at h1
        rcases Nat.lt_or_ge i listed.size with h' | h'
        · simp [h'] at h0 h1; rw [h0] at h1; cases h1
        · simp [Array.getElem?_eq_none h'] at h1
      have h2 := wpOpJ_put hoj (hfree j oj hoj hji hjun hnot) (fun cs b => hsel i oi cs b hi) (fun cs b => hsel j oj cs b hoj) hQ hy h1
      have hfree' : ∀ k ok, ops[k]? = some ok → k ≠ i → (listed.setIfInBounds j true).getD k true = false →
          (∀ e ∈ ok.after, Region.binds md e = true → e.on ≠ i) → oi.apart ops ok = true := fun k ok hk hki hun hno => by
        refine hfree k ok hk hki ?_ hno
        by_cases hjk : j = k
        · subst hjk; exact hjun
        · rw [getD_set_ne true hjk] at hun; exact hun
      refine wpOp_mono (fun a' w' h3 => ⟨h3.2.1, ih (listed.setIfInBounds j true) a' w' hfree' (ready_mono hr (Ne.symm hji)) h3.1 h3.2.1 ?_⟩) h2
      rw [Array.setIfInBounds_comm _ _ hji]
      exact h3.2.2

theorem wpJ_take {i : Nat} {oi : Oper} {v : Value} {fuel : Nat} {listed : Array Bool} {a : Act} {w : World} (hi : ops[i]? = some oi)
    (hs : Region.noSelect ops = true) (hf : Region.free md ops listed i = true) (hr : (Region.ready md ops listed).contains i = true)
    (hQ : ∀ c a w, Q (.panic c) (a.put oi.dst v) w → Q (.panic c) a w) (hw : Region.wanted oi (yielded ops a.tmps) = true)
    (hy : ∀ w, J w → (execOp a.eval oi).run P w = .ok (.value v) w) (hJ : J w)
    (h : wpJ P md ops Q J fuel (listed.setIfInBounds i true) (a.put oi.dst v) w) : wpJ P md ops Q J (fuel + 1) listed a w :=
  wpJ_first hi (Region.noSelect_spec hs) hQ fuel listed a w (Region.free_spec hi hf) (by simpa using hr) (.inl ⟨hw, hy⟩) hJ h
theorem wpJ_tk (i : Nat) {oi : Oper} {v : Value} {fuel : Nat} {listed : Array Bool} {a : Act} {w : World} (hi : ops[i]? = some oi)
    (hy : ∀ w, J w → (execOp a.eval oi).run P w = .ok (.value v) w) (hJ : J w)
    (h : wpJ P md ops Q J fuel (listed.setIfInBounds i true) (a.put oi.dst v) w) (hs : Region.noSelect ops = true := by kernel_rfl) (hf : Region.free md ops listed i = true := by kernel_rfl)
    (hr : (Region.ready md ops listed).contains i = true := by kernel_rfl) (hQ : ∀ c a w, Q (.panic c) (a.put oi.dst v) w → Q (.panic c) a w := by exact fun _ _ _ h => h)
    (hw : Region.wanted oi (yielded ops a.tmps) = true := by kernel_rfl) : wpJ P md ops Q J (fuel + 1) listed a w := wpJ_take hi hs hf hr hQ hw hy hJ h
theorem wpJ_tq (i : Nat) {oi : Oper} {v : Value} {fuel : Nat} {listed : Array Bool} {a : Act} {w : World} (hi : ops[i]? = some oi) (hJ : J w)
    (h : wpJ P md ops Q J fuel (listed.setIfInBounds i true) (a.put oi.dst v) w)
    (hy : ∀ w, J w → (execOp a.eval oi).run P w = .ok (.value v) w := by (intro W' hJ; repeat (obtain ⟨_, hJ⟩ := hJ); go_simp; first | done | with_reducible rfl)) (hs : Region.noSelect ops = true := by kernel_rfl) (hf : Region.free md ops listed i = true := by kernel_rfl)
    (hr : (Region.ready md ops listed).contains i = true := by kernel_rfl) (hQ : ∀ c a w, Q (.panic c) (a.put oi.dst v) w → Q (.panic c) a w := by exact fun _ _ _ h => h)
    (hw : Region.wanted oi (yielded ops a.tmps) = true := by kernel_rfl) : wpJ P md ops Q J (fuel + 1) listed a w := wpJ_take hi hs hf hr hQ hw hy hJ h
theorem wpJ_skip {i : Nat} {oi : Oper} {fuel : Nat} {listed : Array Bool} {a : Act} {w : World} (hi : ops[i]? = some oi)
    (hs : Region.noSelect ops = true) (hf : Region.free md ops listed i = true) (hr : (Region.ready md ops listed).contains i = true)
    (hQ : ∀ c a w, Q (.panic c) (a.put oi.dst undef) w → Q (.panic c) a w) (hw : Region.wanted oi (yielded ops a.tmps) = false) (hJ : J w)
    (h : wpJ P md ops Q J fuel (listed.setIfInBounds i true) (a.put oi.dst undef) w) : wpJ P md ops Q J (fuel + 1) listed a w :=
  wpJ_first hi (Region.noSelect_spec hs) hQ fuel listed a w (Region.free_spec hi hf) (by simpa using hr) (.inr ⟨hw, rfl⟩) hJ h
theorem wpJ_sk (i : Nat) {oi : Oper} {fuel : Nat} {listed : Array Bool} {a : Act} {w : World} (hi : ops[i]? = some oi) (hJ : J w) (h : wpJ P md ops Q J fuel (listed.setIfInBounds i true) (a.put oi.dst undef) w)
    (hs : Region.noSelect ops = true := by kernel_rfl) (hf : Region.free md ops listed i = true := by kernel_rfl) (hr : (Region.ready md ops listed).contains i = true := by kernel_rfl)
    (hQ : ∀ c a w, Q (.panic c) (a.put oi.dst undef) w → Q (.panic c) a w := by exact fun _ _ _ h => h) (hw : Region.wanted oi (yielded ops a.tmps) = false := by kernel_rfl) : wpJ P md ops Q J (fuel + 1) listed a w := wpJ_skip hi hs hf hr hQ hw hJ h
theorem wpJ_one {i : Nat} {o : Oper} {fuel : Nat} {listed : Array Bool} {a : Act} {w : World} (hr : Region.ready md ops listed = [i]) (ho : ops[i]? = some o)
    (hw : Region.wanted o (yielded ops a.tmps) = true)
    (h : ∀ K : Act → World → Prop, (∀ a' w', J w' → wpJ P md ops Q J fuel (listed.setIfInBounds i true) a' w' → K a' w') → Oper.wp P o a w K Q) : wpJ P md ops Q J (fuel + 1) listed a w := by
  refine ⟨fun h => (by rw [hr] at h; cases h), fun j hj => ?_⟩
  rw [hr] at hj
  obtain rfl : j = i := by simpa using hj
  unfold wpOp
  simp only [ho, hw, if_true]
  exact .inl (h _ fun a' w' h1 h2 => ⟨h1, h2⟩)
theorem wpJ_on (i : Nat) {o : Oper} {fuel : Nat} {listed : Array Bool} {a : Act} {w : World} (ho : ops[i]? = some o)
    (h : ∀ K : Act → World → Prop, (∀ a' w', J w' → wpJ P md ops Q J fuel (listed.setIfInBounds i true) a' w' → K a' w') → Oper.wp P o a w K Q) (hr : Region.ready md ops listed = [i] := by kernel_rfl)
    (hw : Region.wanted o (yielded ops a.tmps) = true := by kernel_rfl) : wpJ P md ops Q J (fuel + 1) listed a w := wpJ_one hr ho hw h
theorem wpJ_done {listed : Array Bool} {a : Act} {w : World} (hr : Region.ready md ops listed = []) (h : Q .normal a w) : ∀ fuel, wpJ P md ops Q J fuel listed a w
  | 0 => ⟨hr, h⟩
  | _ + 1 => ⟨fun _ => h, by rw [hr]; simp⟩
theorem wp_region_J (J : World → Prop) {id : Nat} {a : Act} {w : World} (hm : P.follows .mixedOrders = true)
    (h : wpJ P .any ops Q J ops.size (Array.replicate ops.size false) a w.drew) : (Code.region id ops true).wp P Q a w :=
  wp_region_any hm (wpJ_any _ _ _ _ h)
variable {P : Program} {md : Region.Mode} {ops : Array Oper} {Q : Exit → Act → World → Prop} {J : World → Prop}

theorem wpJ_two {i k : Nat} {oi ok : Oper} {fuel : Nat} {listed : Array Bool} {a : Act} {w : World} (hr : Region.ready md ops listed = [i, k]) (hi : ops[i]? = some oi) (hk : ops[k]? = some ok)
    (hwi : Region.wanted oi (yielded ops a.tmps) = true) (hwk : Region.wanted ok (yielded ops a.tmps) = true)
    (h1 : ∀ K : Act → World → Prop, (∀ a' w', J w' → wpJ P md ops Q J fuel (listed.setIfInBounds i true) a' w' → K a' w') → Oper.wp P oi a w K Q)
    (h2 : ∀ K : Act → World → Prop, (∀ a' w', J w' → wpJ P md ops Q J fuel (listed.setIfInBounds k true) a' w' → K a' w') → Oper.wp P ok a w K Q) : wpJ P md ops Q J (fuel + 1) listed a w := by
  refine ⟨fun h => (by rw [hr] at h; cases h), fun j hj => ?_⟩
  rw [hr] at hj
  rcases List.mem_cons.1 hj with rfl | hj
  · unfold wpOp
    simp only [hi, hwi, if_true]
    exact .inl (h1 _ fun a' w' h1 h2 => ⟨h1, h2⟩)
  · obtain rfl : j = k := by simpa using hj
    unfold wpOp
    simp only [hk, hwk, if_true]
    exact .inl (h2 _ fun a' w' h1 h2 => ⟨h1, h2⟩)
variable {P : Program} {md : Region.Mode} {ops : Array Oper} {Q : Exit → Act → World → Prop} {J : World → Prop}

theorem Oper.wp_monoQ {Q' : Exit → Act → World → Prop} (hQ : ∀ x a w, Q' x a w → Q x a w) {o : Oper} {a : Act} {w : World} {K : Act → World → Prop}
    (hh : o.wp P a w K Q') : o.wp P a w K Q := by
  have hL : LetsOut Q' → LetsOut Q := fun ⟨a, w, h⟩ => ⟨a, w, hQ _ _ _ h⟩
  unfold Oper.wp at *
  generalize (execOp a.eval o).run P w = r at *
  cases r with
  | ok n w' =>
    cases n <;> simp only [Oper.upon] at hh ⊢ <;>
      first
        | exact hh
        | exact Calls.mono hh (fun e w'' he => by cases e <;> first | exact he | exact hQ _ _ _ he | exact hL he)
  | halt x w' => cases x <;> simp only [Oper.upon] at hh ⊢ <;> first | exact hh | exact hQ _ _ _ hh
theorem wpJ_monoQ {Q' : Exit → Act → World → Prop} (hQ : ∀ x a w, Q' x a w → Q x a w) :
    ∀ (fuel : Nat) (listed : Array Bool) (a : Act) (w : World), wpJ P md ops Q' J fuel listed a w → wpJ P md ops Q J fuel listed a w
  | 0, _, _, _, h => ⟨h.1, hQ _ _ _ h.2⟩
  | fuel + 1, _, _, _, h => by
    have hL : LetsOut Q' → LetsOut Q := fun ⟨a, w, h⟩ => ⟨a, w, hQ _ _ _ h⟩
    refine ⟨fun e => hQ _ _ _ (h.1 e), fun i hi => ?_⟩
    have h1 := wpOp_mono (fun a' w' h' => And.intro h'.1 (wpJ_monoQ hQ fuel _ a' w' h'.2)) (h.2 i hi)
    unfold wpOp at *
    split
    · rename_i ho; simp only [ho] at h1; exact h1
    · rename_i o ho
      simp only [ho] at h1
      split
      · rename_i hw
        simp only [hw, if_true] at h1
        exact h1.imp (Oper.wp_monoQ hQ) (fun h => ⟨h.1, hL h.2⟩)
      · rename_i hw; simp only [hw] at h1; exact h1
theorem wpJ_cut (R : Act → World → Prop) {fuel : Nat} {listed : Array Bool} {a : Act} {w : World} (hR : ∀ a' w', R a' w' → Q .normal a' w')
    (h : wpJ P md ops (fun x a' w' => x = .normal ∧ R a' w') J fuel listed a w) : wpJ P md ops Q J fuel listed a w :=
  wpJ_monoQ (fun x a w ⟨hx, hr⟩ => by subst hx; exact hR _ _ hr) _ _ _ _ h
theorem wpJ_cutA (R : Act → Act → World → Prop) {fuel : Nat} {listed : Array Bool} {a : Act} {w : World} (hR : ∀ a' w', R a a' w' → Q .normal a' w')
    (h : wpJ P md ops (fun x a' w' => x = .normal ∧ R a a' w') J fuel listed a w) : wpJ P md ops Q J fuel listed a w := wpJ_cut (R a) hR h
end Go.Proofs.YtmekccpbcjpddaaGreatDoor
