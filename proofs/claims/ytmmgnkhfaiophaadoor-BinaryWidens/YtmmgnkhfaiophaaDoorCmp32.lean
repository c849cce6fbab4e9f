import Derived.Test.YtmmgnkhfaiophaaDoorFrom32
import Derived.Test.YtmmgnkhfaiophaaDoorTrial
namespace Go.Proofs.YtmmgnkhfaiophaaDoor
open Go.RowKit

theorem val_lt_len32 {xs ys : List Nat} (hx : Dig B32 xs) (ty : Top ys) (h : xs.length < ys.length) : valB B32 xs < valB B32 ys := by
  have h1 := valB_lt B32_pos hx
  have h2 := valB_pos B32_pos (show ys ≠ [] by intro e; subst e; simp at h) ty
  have h3 : B32 ^ xs.length ≤ B32 ^ (ys.length - 1) := Nat.pow_le_pow_right B32_pos (by omega)
  omega
theorem val_lt_top32 {xs ys : List Nat} (hx : Dig B32 xs) {n t x y : Nat} (lx : xs.length = n) (ly : ys.length = n) (ht : t < n) (hd : xs.drop (t + 1) = ys.drop (t + 1)) (ex : x = xs.getD t 0) (ey : y = ys.getD t 0) (h : x < y) : valB B32 xs < valB B32 ys := by
  have h1 := valB_lt B32_pos (hx.take t)
  rw [List.length_take, lx, Nat.min_eq_left (by omega)] at h1
  rw [valB_split B32 xs t (by omega), valB_split B32 ys t (by omega), valB_drop _ xs t (by omega), valB_drop _ ys t (by omega), hd, ← ex, ← ey]
  have h2 : B32 ^ t * (x + 1) ≤ B32 ^ t * y := Nat.mul_le_mul_left _ h
  rw [Nat.mul_add] at h2
  rw [Nat.mul_add, Nat.mul_add]
  omega

set_option maxRecDepth 20000 in
set_option maxHeartbeats 1000000 in
/-- ref.Cmp, of digits without noughts on top. -/
theorem rcmp_any {p q : Option Addr} {n m c d : Nat} {xs ys : List Nat} {a b : Nat} {w : World} (h : At32 w p n c xs) (k : At32 w q m d ys) (hx : Nf B32 xs a) (hy : Nf B32 ys b) :
    Calls Tryd.prog 76 #[.slice p n c, .slice q m d] w fun e w' => e = .returned (.int .i64 (cmpN a b)) ∧ ∃ r, w' = w.drewN r := by
  obtain ⟨res, hres⟩ : ∃ res, res = cmpN a b := ⟨_, rfl⟩
  rw [← hres]
  have HRES : Hid (res = cmpN a b) := hres
  have HX : Hid (Nf B32 xs a) := hx
  have HY : Hid (Nf B32 ys b) := hy
  have HLX : Hid (xs.length = n) := h.len
  have HLY : Hid (ys.length = m) := k.len
  have cap := h.cap; have big := h.big; have kcap := k.cap; have kbig := k.big
  unfold maxLen at big kbig
  clear hres hx hy
  by_cases hnm : n = m
  · subst hnm
    go_enter Tryd.func76, Tryd.ntmps76
    go_wp2_with fail
    go_loopg [5] n (fun gk iv wr => iv = .int .i64 ((gk : Int) - 1) ∧ gk ≤ n ∧ Hid (xs.drop gk = ys.drop gk) ∧ ∃ r, wr = w.drewN r)
    case atStart => exact ⟨rfl, Nat.le_refl _, by show _ = _; rw [List.drop_of_length_le (by rw [HLX.out]; omega), List.drop_of_length_le (by rw [HLY.out]; omega)], 0, by first | rfl | simp⟩
    case round =>
      obtain ⟨rfl, hgn, HD, r, rfl⟩ := hrel
      by_cases hg0 : gk = 0
      · have hr : res = 0 := HRES.out.trans (cmpN_eq (by have h0 := HD.out; rw [hg0, List.drop_zero, List.drop_zero] at h0; rw [← HX.out.val, ← HY.out.val, h0]))
        have HR : Hid (res = 0) := hr
        have hdec : decide ((0 : Int) ≤ (gk : Int) - 1) = false := decide_eq_false (by omega)
        have hdec' : ¬ 1 ≤ gk := by omega
        clear hr
        go_wp2_with fail
        go_ret
        exact ⟨ret_int HR.out.symm, r, rfl⟩
      · obtain ⟨g, off, rfl, hc⟩ := h.cells.resolve_left (by omega)
        obtain ⟨g2, off2, rfl, hc2⟩ := k.cells.resolve_left (by omega)
        obtain ⟨x, hx⟩ : ∃ x, x = xs.getD (gk - 1) 0 := ⟨_, rfl⟩
        obtain ⟨y, hy⟩ : ∃ y, y = ys.getD (gk - 1) 0 := ⟨_, rfl⟩
        have cx : w.cell? ⟨g, off + (gk - 1), none⟩ = some (V x) := by rw [hx]; exact hc _ (by omega)
        have cy : w.cell? ⟨g2, off2 + (gk - 1), none⟩ = some (V y) := by rw [hy]; exact hc2 _ (by omega)
        have hdec : decide ((0 : Int) ≤ (gk : Int) - 1) = true := decide_eq_true (by omega)
        have hdec' : 1 ≤ gk := by omega
        have hix : 1 ≤ (gk : Int) ∧ (gk : Int) - 1 < (n : Int) := by omega
        have HXE : Hid (x = xs.getD (gk - 1) 0) := hx
        have HYE : Hid (y = ys.getD (gk - 1) 0) := hy
        have HD1 : Hid (xs.drop (gk - 1 + 1) = ys.drop (gk - 1 + 1)) := by rw [show gk - 1 + 1 = gk by omega]; exact HD.out
        clear hc hc2 hx hy
        rcases Nat.lt_trichotomy x y with hlt | heq | hgt
        · have hr : res = -1 := HRES.out.trans (cmpN_lt (by have := val_lt_top32 HX.out.dig HLX.out HLY.out (t := gk - 1) (by omega) HD1.out HXE.out HYE.out hlt; rw [HX.out.val, HY.out.val] at this; exact this))
          have HR : Hid (res = -1) := hr
          have hl' : (x : Int) < (y : Int) := by omega
          clear hr
          go_wp2_with fail
          go_quiet (fail)
          go_wp2_with fail
          go_ret
          exact ⟨ret_int HR.out.symm, _, by first | rfl | (rw [drewN_two])⟩
        · subst heq
          have hl' : ¬ (x : Int) < (x : Int) := by omega
          go_wp2_with fail
          go_quiet (fail)
          go_wp2_with fail
          go_quiet (fail)
          go_wp2_with fail
          go_roundg (gk - 1)
          case measure => omega
          case rel =>
            refine ⟨by go_num, by omega, ?_, _, by first | rfl | (rw [drewN_two, drewN_two]) | (rw [drewN_two])⟩
            exact drop_step HLX.out HLY.out (by omega) HD1.out (by rw [← HXE.out, ← HYE.out])
        · have hr : res = 1 := HRES.out.trans (cmpN_gt (by have := val_lt_top32 HY.out.dig HLY.out HLX.out (t := gk - 1) (by omega) HD1.out.symm HYE.out HXE.out hgt; rw [HX.out.val, HY.out.val] at this; exact this))
          have HR : Hid (res = 1) := hr
          have hl' : ¬ (x : Int) < (y : Int) := by omega
          have hl2 : (y : Int) < (x : Int) := by omega
          clear hr
          go_wp2_with fail
          go_quiet (fail)
          go_wp2_with fail
          go_quiet (fail)
          go_wp2_with fail
          go_ret
          exact ⟨ret_int HR.out.symm, _, by first | rfl | (rw [drewN_two, drewN_two]) | (rw [drewN_two])⟩
  · have hnm' : ((n : Int) != (m : Int)) = true := by simp; omega
    by_cases hlt : n < m
    · have hr : res = -1 := HRES.out.trans (cmpN_lt (by have := val_lt_len32 HX.out.dig HY.out.top (by rw [HLX.out, HLY.out]; exact hlt); rw [HX.out.val, HY.out.val] at this; exact this))
      have HR : Hid (res = -1) := hr
      have hlt' : (n : Int) < (m : Int) := by omega
      clear hr
      go_enter Tryd.func76, Tryd.ntmps76
      go_wp2_with fail
      go_ret
      exact ⟨ret_int HR.out.symm, 0, by first | rfl | simp⟩
    · have hr : res = 1 := HRES.out.trans (cmpN_gt (by have := val_lt_len32 HY.out.dig HX.out.top (by rw [HLX.out, HLY.out]; omega); rw [HX.out.val, HY.out.val] at this; exact this))
      have HR : Hid (res = 1) := hr
      have hlt' : ¬ (n : Int) < (m : Int) := by omega
      clear hr
      go_enter Tryd.func76, Tryd.ntmps76
      go_wp2_with fail
      go_ret
      exact ⟨ret_int HR.out.symm, 0, by first | rfl | simp⟩
end Go.Proofs.YtmmgnkhfaiophaaDoor
