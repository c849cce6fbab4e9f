import Derived.Test.YtjkhpkjpiifhoaaTrial
namespace Go.Proofs.Ytjkhpkjpiifhoaa
open Go.RowKit Go.Shelf

theorem takemul_sum {n : Nat} {P W L D v top cy zs' t b : Nat} (hW : W = L + P * top) (h1 : L + P * cy = zs' + D * v) (h2 : top + B64 * b = t + cy + 0) (hP : P = B64 ^ n) : zs' + P * t + D * v = W + B64 ^ (n + 1) * b := by
  have e1 : P * (top + B64 * b) = P * (t + cy) := by rw [h2, Nat.add_zero]
  rw [Nat.mul_add, Nat.mul_add, ← Nat.mul_assoc] at e1
  rw [Nat.pow_succ, ← hP]
  omega
theorem set_snoc (zs : List Nat) (x y n : Nat) (hl : zs.length = n) : (zs ++ [x]).set n y = zs ++ [y] := by
  subst hl
  rw [List.set_append_right _ _ (Nat.le_refl _), Nat.sub_self]; rfl
theorem cut_top (g off n : Nat) (w : World) :
    Calls Try.prog 40 #[.slice (some ⟨g, off, none⟩) (n + 1 : Nat) (n + 1 : Nat), .int .i64 n] w fun e w' =>
      e = .returned (.tuple #[.slice (some ⟨g, off, none⟩) n n, .slice (some ⟨g, off + n, none⟩) 1 1]) ∧ ∃ r, w' = w.drewN r := by
  refine (cut_row g off (n + 1) (n + 1) n w (Nat.le_refl _) (by omega)).mono ?_
  rintro e w' ⟨rfl, hr⟩
  rw [cutOff_lt (by omega), show n + 1 - n = 1 by omega]
  exact ⟨rfl, hr⟩

set_option maxHeartbeats 2000000 in
theorem takemul_any {g off n cd v : Nat} {gd od : Nat} {ws ds : List Nat} {w : World} (hw : Row w g off (n + 1) ws) (hd : At w (some ⟨gd, od, none⟩) n cd ds) (hn : 2 ≤ n) (hn2 : n ≤ 8192) (hv : v < B64) (hne : gd ≠ g) :
    Calls Try.prog 78 #[.slice (some ⟨g, off, none⟩) (n + 1 : Nat) (n + 1 : Nat), .slice (some ⟨gd, od, none⟩) n cd, U v] w fun e w' =>
      ∃ b ws', e = .returned (.bool (decide (b = 1))) ∧ b ≤ 1 ∧ Wr g off (n + 1) w w' ∧ Row w' g off (n + 1) ws' ∧ valB B64 ws' + valB B64 ds * v = valB B64 ws + B64 ^ (n + 1) * b := by
  have hl := hw.len
  have hr0 := hw.take n (by omega)
  have hW := valB_top hl
  obtain ⟨top, htop⟩ : ∃ top, top = ws.getD n 0 := ⟨_, rfl⟩
  have htb : top < B64 := by rw [htop]; exact hw.dig.getD B64_pos n
  have hct : w.cell? ⟨g, off + n, none⟩ = some (U top) := by rw [htop]; exact hw.cell n (by omega)
  have hft : w.frozen? ⟨g, off + n, none⟩ = false := hw.frozen n (by omega)
  rw [← htop] at hW
  have HW : Hid (valB B64 ws = valB B64 (ws.take n) + B64 ^ n * top) := hW
  clear hW htop hl
  go_enter Try.func78, Try.ntmps78
  go_wp2_with fail
  refine (cut_top g off n w).mono ?_
  rintro e w1 ⟨rfl, r1, hw1⟩
  have hr1 : Row w1 g off n (ws.take n) := by rw [hw1]; exact hr0.drewN r1
  have hd1 : At w1 (some ⟨gd, od, none⟩) n cd ds := by rw [hw1]; exact hd.drewN r1
  have hct1 : w1.cell? ⟨g, off + n, none⟩ = some (U top) := by rw [hw1]; exact hct
  have hft1 : w1.frozen? ⟨g, off + n, none⟩ = false := by rw [hw1]; exact hft
  have hwr1 : Wr g off (n + 1) w w1 := by rw [hw1]; exact (Wr.refl _ _ _ _).drewN r1
  clear hw1 hct hft hr0 hw hd
  go_wp2_with fail
  refine (smul_any g off n n _ (some ⟨gd, od, none⟩) n cd ds v w1 hr1 (Nat.le_refl _) (Nat.le_refl _) (by omega) hd1 hv (fun g2 off2 _ he => by simp only [Option.some.injEq, Addr.mk.injEq, and_true] at he; exact .inl (by omega))).mono ?_
  rintro e w2 ⟨cy, zs', rfl, hcy, hwr2, hrow2, hsum⟩
  have HS : Hid (valB B64 (ws.take n) + B64 ^ n * cy = valB B64 zs' + valB B64 ds * v) := hsum
  have hct2 : w2.cell? ⟨g, off + n, none⟩ = some (U top) := by rw [hwr2.cell g (off + n) (by omega)]; exact hct1
  have hft2 : w2.frozen? ⟨g, off + n, none⟩ = false := by rw [hwr2.frozen]; exact hft1
  have hwr : Wr g off (n + 1) w w2 := hwr1.trans (hwr2.mono (Nat.le_refl _) (by omega))
  have hrow := hrow2.snoc hct2 hft2 htb
  have hzl := hrow2.len
  have HZ : Hid (zs'.length = n) := hzl
  obtain ⟨t, b, hsub0, hb, htb', hb1⟩ := sub64_ex top cy 0 htb hcy (by omega)
  have hsub : ∀ w : World, (callFunc 73 #[U top, U cy, .int .u64 0]).run Try.prog w = .ok (.value (.tuple #[U t, U b])) w := hsub0
  have HB : Hid (top + B64 * b = t + cy + 0) := hb
  clear hsum hr1 hd1 hct1 hft1 hwr1 hwr2 hrow2 hsub0 hb hzl
  go_wp2_with fail
  go_ret
  have hset := hrow.set n t (by omega) htb'
  rw [set_snoc _ _ _ _ HZ.out] at hset
  refine ⟨b, zs' ++ [t], ret_bool ?_, hb1, hwr.setCell (off + n) ⟨by omega, by omega⟩ _, hset, ?_⟩
  · rcases Nat.eq_zero_or_pos b with h | h
    · subst h; rfl
    · obtain rfl : b = 1 := by omega
      rfl
  · rw [valB_snoc, HZ.out]
    exact takemul_sum HW.out HS.out HB.out rfl
end Go.Proofs.Ytjkhpkjpiifhoaa
