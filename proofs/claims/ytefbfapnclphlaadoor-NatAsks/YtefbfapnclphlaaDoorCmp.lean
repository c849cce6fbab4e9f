import Derived.Test.YtefbfapnclphlaaDoorLimbSub
namespace Go.Proofs.YtefbfapnclphlaaDoor
open Go.RowKit

/-- -1, 0 or 1. -/
def cmpN (a b : Nat) : Int := if a < b then -1 else if a = b then 0 else 1
theorem cmpN_lt {a b : Nat} (h : a < b) : cmpN a b = -1 := if_pos h
theorem cmpN_gt {a b : Nat} (h : b < a) : cmpN a b = 1 := by unfold cmpN; rw [if_neg (by omega), if_neg (by omega)]
theorem cmpN_eq {a b : Nat} (h : a = b) : cmpN a b = 0 := by unfold cmpN; rw [if_neg (by omega), if_pos h]
theorem cmpN_neg (a b : Nat) : cmpN a b < 0 ↔ a < b := by unfold cmpN; split <;> rename_i h; · simp [h]
                                                          · split <;> simp [h]

theorem val_lt_len {xs ys : List Nat} (hx : Dig B64 xs) (ty : Top ys) (h : xs.length < ys.length) : valB B64 xs < valB B64 ys := by
  have h1 := valB_lt B64_pos hx
  have h2 := valB_pos B64_pos (show ys ≠ [] by intro e; subst e; simp at h) ty
  have h3 : B64 ^ xs.length ≤ B64 ^ (ys.length - 1) := Nat.pow_le_pow_right B64_pos (by omega)
  omega
theorem val_lt_top {xs ys : List Nat} (hx : Dig B64 xs) {n t x y : Nat} (lx : xs.length = n) (ly : ys.length = n) (ht : t < n) (hd : xs.drop (t + 1) = ys.drop (t + 1)) (ex : x = xs.getD t 0) (ey : y = ys.getD t 0) (h : x < y) : valB B64 xs < valB B64 ys := by
  have h1 := valB_lt B64_pos (hx.take t)
  rw [List.length_take, lx, Nat.min_eq_left (by omega)] at h1
  rw [valB_split B64 xs t (by omega), valB_split B64 ys t (by omega), valB_drop _ xs t (by omega), valB_drop _ ys t (by omega), hd, ← ex, ← ey]
  have h2 : B64 ^ t * (x + 1) ≤ B64 ^ t * y := Nat.mul_le_mul_left _ h
  rw [Nat.mul_add] at h2
  rw [Nat.mul_add, Nat.mul_add]
  omega
theorem drop_step {xs ys : List Nat} {n t : Nat} (lx : xs.length = n) (ly : ys.length = n) (ht : t < n) (hd : xs.drop (t + 1) = ys.drop (t + 1)) (h : xs.getD t 0 = ys.getD t 0) : xs.drop t = ys.drop t := by
  rw [drop_getD xs t (by omega), drop_getD ys t (by omega), h, hd]

theorem drewN_two (w : World) (a b : Nat) : (w.drewN a).drewN b = w.drewN (a + b) := by simp

set_option maxRecDepth 20000 in
set_option maxHeartbeats 1000000 in
/-- nat.Cmp: of any lists. -/
theorem cmp_any {p q : Option Addr} {n m c d : Nat} {xs ys : List Nat} {w : World} (h : At w p n c xs) (k : At w q m d ys) :
    Calls Tryd.prog 8 #[.slice p n c, .slice q m d] w fun e w' => e = .returned (.int .i64 (cmpN (valB B64 xs) (valB B64 ys))) ∧ ∃ r, w' = w.drewN r := by
  obtain ⟨res, hres⟩ : ∃ res, res = cmpN (valB B64 xs) (valB B64 ys) := ⟨_, rfl⟩
  rw [← hres]
  have HRES : Hid (res = cmpN (valB B64 (trimL xs)) (valB B64 (trimL ys))) := by rw [valB_trimL, valB_trimL]; exact hres
  clear hres
  go_enter Tryd.func8, Tryd.ntmps8
  go_wp2_with fail
  refine (trim_any h).mono ?_
  rintro e w' ⟨p1, n1, rfl, hn1, hp1, hw⟩
  obtain rfl := hw.symm
  clear hw
  go_wp2_with fail
  refine (trim_any k).mono ?_
  rintro e w' ⟨q1, m1, rfl, hm1, hq1, hw⟩
  obtain rfl := hw.symm
  clear hw
  have A := h.trim hn1 hp1
  have K := k.trim hm1 hq1
  have tx := Top_trimL xs
  have ty := Top_trimL ys
  clear hn1 hm1 hp1 hq1 h k
  generalize trimL xs = us at *
  generalize trimL ys = vs at *
  have al := A.len; have acap := A.cap; have abig := A.big; have adig := A.dig
  have kl := K.len; have kbig := K.big; have kdig := K.dig
  unfold maxLen at abig kbig
  have HX : Hid (Top us) := tx
  have HY : Hid (Top vs) := ty
  have HU : Hid (Dig B64 us) := adig
  have HV : Hid (Dig B64 vs) := kdig
  clear tx ty adig kdig
  by_cases hlt : n1 < m1
  · have hne : ((n1 : Int) != (m1 : Int)) = true := by simp; omega
    have hr : res = -1 := HRES.out.trans (cmpN_lt (val_lt_len HU.out HY.out (by omega)))
    have HR : Hid (res = -1) := hr
    clear hr
    go_wp2_with (go_at_call 16; refine (order_any _ _).mono ?_; rintro e w' ⟨rfl, hw⟩; obtain rfl := hw.symm; clear hw)
    go_ret
    exact ⟨ret_int HR.out.symm, 0, rfl⟩
  · by_cases hgt : m1 < n1
    · have hne : ((n1 : Int) != (m1 : Int)) = true := by simp; omega
      have hr : res = 1 := HRES.out.trans (cmpN_gt (val_lt_len HV.out HX.out (by omega)))
      have HR : Hid (res = 1) := hr
      clear hr
      go_wp2_with (go_at_call 16; refine (order_any _ _).mono ?_; rintro e w' ⟨rfl, hw⟩; obtain rfl := hw.symm; clear hw)
      go_ret
      exact ⟨ret_int HR.out.symm, 0, rfl⟩
    · obtain rfl : n1 = m1 := by omega
      have hne : ((n1 : Int) != (n1 : Int)) = false := by simp
      go_wp2
      go_loopw [6, 7, 24] (fun _ _ i wr => ∃ t r : Nat, t ≤ n1 ∧ i = .int .i64 t ∧ wr = w.drewN r ∧ us.drop (n1 - t) = vs.drop (n1 - t)) (fun _ _ i _ => n1 - (intOf i).toNat)
      case atStart => exact ⟨0, 0, Nat.zero_le _, rfl, rfl, by rw [Nat.sub_zero, List.drop_of_length_le (by omega), List.drop_of_length_le (by omega)]⟩
      case round =>
        obtain ⟨t, r, ht, rfl, rfl, hd⟩ := hrel
        have HD : Hid (us.drop (n1 - t) = vs.drop (n1 - t)) := hd
        clear hd
        by_cases h1 : t < n1
        · obtain ⟨g, off, rfl, hc⟩ := A.cells.resolve_left (by omega)
          obtain ⟨g2, off2, rfl, hc2⟩ := K.cells.resolve_left (by omega)
          obtain ⟨x, hx⟩ : ∃ x, x = us.getD (n1 - 1 - t) 0 := ⟨_, rfl⟩
          obtain ⟨y, hy⟩ : ∃ y, y = vs.getD (n1 - 1 - t) 0 := ⟨_, rfl⟩
          have hcx : w.cell? ⟨g, off + (n1 - 1 - t), none⟩ = some (U x) := by rw [hx]; exact hc _ (by omega)
          have hcy : w.cell? ⟨g2, off2 + (n1 - 1 - t), none⟩ = some (U y) := by rw [hy]; exact hc2 _ (by omega)
          have HX2 : Hid (x = us.getD (n1 - 1 - t) 0) := hx
          have HY2 : Hid (y = vs.getD (n1 - 1 - t) 0) := hy
          have HD2 : Hid (us.drop (n1 - 1 - t + 1) = vs.drop (n1 - 1 - t + 1)) := by
            have e : n1 - 1 - t + 1 = n1 - t := by omega
            rw [e]; exact HD.out
          clear hx hy hc hc2 HD
          by_cases hxy : x = y
          · have hb : ((x : Int) != (y : Int)) = false := by simp; omega
            go_wp2
            go_quiet (fail)
            go_wp2
            go_roundw
            case rel =>
              refine ⟨t + 1, r + nq, by omega, by go_num, rfl, ?_⟩
              have := drop_step (t := n1 - 1 - t) al kl (by omega) HD2.out (by rw [← HX2.out, ← HY2.out]; exact hxy)
              rw [show n1 - (t + 1) = n1 - 1 - t by omega]; exact this
            case measure => simp [intOf]; omega
          · have hb : ((x : Int) != (y : Int)) = true := by simp; omega
            by_cases hl : x < y
            · have hr : res = -1 := HRES.out.trans (cmpN_lt (val_lt_top HU.out al kl (by omega) HD2.out HX2.out HY2.out hl))
              have HR : Hid (res = -1) := hr
              have hl' : (x : Int) < (y : Int) := by omega
              clear hr
              go_wp2
              go_quiet (fail)
              go_wp2
              go_quiet ((go_at_call 16; exact (order_any _ _).mono (fun e w1 h => ⟨h.1, _, h.2⟩)))
              go_wp2
              go_ret
              exact ⟨ret_int HR.out.symm, _, by first | rfl | (rw [drewN_two, drewN_two])⟩
            · have hr : res = 1 := HRES.out.trans (cmpN_gt (val_lt_top HV.out kl al (by omega) HD2.out.symm HY2.out HX2.out (by omega)))
              have HR : Hid (res = 1) := hr
              have hl' : ¬ (x : Int) < (y : Int) := by omega
              clear hr
              go_wp2
              go_quiet (fail)
              go_wp2
              go_quiet ((go_at_call 16; exact (order_any _ _).mono (fun e w1 h => ⟨h.1, _, h.2⟩)))
              go_wp2
              go_ret
              exact ⟨ret_int HR.out.symm, _, by first | rfl | (rw [drewN_two, drewN_two])⟩
        · obtain rfl : t = n1 := by omega
          have hr : res = 0 := HRES.out.trans (cmpN_eq (by have := HD.out; rw [Nat.sub_self, List.drop_zero, List.drop_zero] at this; rw [this]))
          have HR : Hid (res = 0) := hr
          clear hr
          go_wp2
          go_ret
          exact ⟨ret_int HR.out.symm, r, rfl⟩
end Go.Proofs.YtefbfapnclphlaaDoor
