import Derived.Test.YtkfonlijgoldfaaGreatDoorJ9
namespace Go.Proofs.YtkfonlijgoldfaaGreatDoor
open Go.RowKit

def KarSaid (n : Nat) : Prop := ∀ (gz oz lz cz ga oa ca gb ob cb gs os ns cs : Nat) (zs xs ys ss : List Nat) (w : World), lz = 2 * n → Row w gz oz lz zs → Rd w ga oa n xs → Rd w gb ob n ys → Row w gs os ns ss → scr n ≤ ns →
  lz ≤ cz → n ≤ ca → n ≤ cb → ns ≤ cs → cz ≤ 1000000 → ca ≤ 9223372036854775807 → cb ≤ 9223372036854775807 → cs ≤ 1000000 → Dj ga oa n gz oz lz → Dj gb ob n gz oz lz → Dj gs os ns gz oz lz → Dj ga oa n gs os ns → Dj gb ob n gs os ns →
  Calls Tryz.prog 127 #[.slice (some ⟨gz, oz, none⟩) lz cz, .slice (some ⟨ga, oa, none⟩) n ca, .slice (some ⟨gb, ob, none⟩) n cb, .slice (some ⟨gs, os, none⟩) ns cs] w fun e w' =>
    ∃ zs' ss', e = .returned (.tuple #[]) ∧ Chg (fun b o => Rg gz oz lz b o ∨ Rg gs os ns b o) w w' ∧ Row w' gz oz lz zs' ∧ Row w' gs os ns ss' ∧ valB B64 zs' = valB B64 xs * valB B64 ys

theorem dj_some {g off n g' off' n' : Nat} (h : Dj g off n g' off' n') : ∀ g2 off2, some (⟨g, off, none⟩ : Addr) = some ⟨g2, off2, none⟩ → Dj g2 off2 n g' off' n' := by
  intro g2 off2 hp
  simp only [Option.some.injEq, Addr.mk.injEq, and_true] at hp
  obtain ⟨rfl, rfl⟩ := hp
  exact h
theorem dj_some' {g off n g' off' n' : Nat} (h : Dj g off n g' off' n') : ∀ g2 off2, 0 < n → some (⟨g, off, none⟩ : Addr) = some ⟨g2, off2, none⟩ → g2 ≠ g' ∨ off2 + n ≤ off' ∨ off' + n' ≤ off2 := by
  intro g2 off2 _ hp
  have := dj_some h g2 off2 hp
  exact this

set_option maxRecDepth 20000 in
set_option maxHeartbeats 400000 in
theorem kar_small (n : Nat) (hn : n < 48) (h0 : 0 < n) : KarSaid n := by
  intro gz oz lz cz ga oa ca gb ob cb gs os ns cs zs xs ys ss w hlz hZ hX hY hS hscr hcz hca hcb hcs bcz bca bcb bcs dax dbx dsz das dbs
  obtain rfl : lz = n + n := by omega
  clear hlz
  go_enter Tryz.func127, Tryz.ntmps127
  go_wp2_with fail
  refine (rows_any gz oz cz zs (some ⟨ga, oa, none⟩) (some ⟨gb, ob, none⟩) n ca n cb xs ys w hZ hcz (by omega) (hX.at_ hca (by unfold maxLen; omega)) (hY.at_ hcb (by unfold maxLen; omega)) h0 h0 (dj_some dax) (dj_some dbx)).mono ?_
  rintro e w1 ⟨zs', rfl, hwr, hrow, hval⟩
  go_wp2_with fail
  refine bodyPost_ret (results_none rfl _ _ _) rfl ?_
  refine ⟨zs', ss, rfl, hwr.chg.mono (fun b o h => .inl h), hrow, hS.chg hwr.chg (fun j hj => dsz.not hj), hval⟩

theorem kar_math {b k A0 A1 B0 B1 L H SA SB M M1 M2 : Nat} (hL : L = A0 * B0) (hH : H = A1 * B1) (hSA : SA = A0 + A1) (hSB : SB = B0 + B1) (hM : M = SA * SB) (h1 : M1 + L = M) (h2 : M2 + H = M1) :
    (A0 + b ^ k * A1) * (B0 + b ^ k * B1) = L + b ^ k * M2 + b ^ k * (b ^ k * H) := by
  have e : M2 + (A0 * B0 + A1 * B1) = A0 * B0 + A0 * B1 + (A1 * B0 + A1 * B1) := by
    rw [hSA, hSB, Nat.add_mul, Nat.mul_add, Nat.mul_add] at hM
    omega
  have e2 : M2 = A0 * B1 + A1 * B0 := by omega
  rw [hL, hH, e2]
  generalize b ^ k = P
  rw [Nat.add_mul, Nat.mul_add, Nat.mul_add, Nat.mul_add]
  have c1 : A0 * (P * B1) = P * (A0 * B1) := by rw [← Nat.mul_assoc, Nat.mul_comm A0 P, Nat.mul_assoc]
  have c2 : P * A1 * B0 = P * (A1 * B0) := Nat.mul_assoc _ _ _
  have c3 : P * A1 * (P * B1) = P * (P * (A1 * B1)) := by rw [Nat.mul_assoc, ← Nat.mul_assoc A1 P, Nat.mul_comm A1 P, Nat.mul_assoc]
  rw [c1, c2, c3]
  omega
theorem kar_ge {A0 A1 B0 B1 L M : Nat} (hL : L = A0 * B0) (hM : M = (A0 + A1) * (B0 + B1)) : L ≤ M := by
  rw [hL, hM]; exact Nat.mul_le_mul (by omega) (by omega)
theorem kar_ge2 {A0 A1 B0 B1 L H M M1 : Nat} (hL : L = A0 * B0) (hH : H = A1 * B1) (hM : M = (A0 + A1) * (B0 + B1)) (h1 : M1 + L = M) : H ≤ M1 := by
  rw [Nat.add_mul, Nat.mul_add, Nat.mul_add] at hM
  omega
theorem nb {P Z A L cy : Nat} (hs : Z + L = A + P * cy) (hz : Z < P) (hle : L ≤ A) (hc : cy ≤ 1) : Z + L = A := by
  by_cases h : cy = 0
  · subst h; omega
  · obtain rfl : cy = 1 := by omega
    omega
theorem nc {P Z A L cy T : Nat} (hs : Z + P * cy = A + L) (ht : A + L < P) (_hT : T = A + L) : Z = A + L := by
  by_cases h : cy = 0
  · subst h; omega
  · have : P * 1 ≤ P * cy := Nat.mul_le_mul_left _ (by omega)
    omega

theorem kar_hap {g off g' off' n n' m : Nat} {p' : Option Addr} (hp : m ≠ 0 → p' = some ⟨g, off, none⟩) (h : Dj g off n g' off' n') (hm : m ≤ n) : ∀ g2 off2, 0 < m → p' = some ⟨g2, off2, none⟩ → g2 ≠ g' ∨ off2 + m ≤ off' ∨ off' + n' ≤ off2 := by
  intro g2 off2 h0 h1
  rw [hp (by omega)] at h1
  simp only [Option.some.injEq, Addr.mk.injEq, and_true] at h1
  obtain ⟨rfl, rfl⟩ := h1
  unfold Dj at h; omega

set_option maxRecDepth 20000 in
set_option maxHeartbeats 4000000 in
theorem kar_step (n : Nat) (hn : ¬ n < 48) (hn2 : n ≤ 100000) (ih : ∀ m, m < n → 0 < m → KarSaid m) : KarSaid n := by
  intro gz oz lz cz ga oa ca gb ob cb gs os ns cs zs xs ys ss w hlz hZ hX hY hS hscr hcz hca hcb hcs bcz bca bcb bcs dax dbx dsz das dbs
  obtain rfl : lz = 2 * n := hlz
  obtain ⟨k, hk⟩ : ∃ k, k = (n + 1) / 2 := ⟨_, rfl⟩
  rw [scr_ge hn, ← hk] at hscr
  have hk1 : 2 * k ≤ n + 1 := by omega
  have hk2 : n ≤ 2 * k := by omega
  have ek : ((n : Int) + 1) / 2 = (k : Int) := by omega
  have ih1 := ih k (by omega) (by omega)
  have ih2 := ih (n - k) (by omega) (by omega)
  have ih3 := ih (k + 1) (by omega) (by omega)
  have sm1 := scr_mono (n + 1) k n (by omega) (by omega)
  have sm2 := scr_mono (n + 1) (n - k) n (by omega) (by omega)
  rw [scr_ge hn, ← hk] at sm1 sm2
  have HI1 : Hid (KarSaid k) := ih1
  have HI2 : Hid (KarSaid (n - k)) := ih2
  have HI3 : Hid (KarSaid (k + 1)) := ih3
  clear ih ih1 ih2 ih3 hk
  go_enter Tryz.func127, Tryz.ntmps127
  go_wp2_with fail
  refine (cut_row ga oa n ca k _ hca (by omega)).mono ?_
  rintro e w1 ⟨rfl, r1, hw⟩
  rw [cutOff_lt (show k < n by omega)]
  obtain ⟨C1⟩ : Nonempty (Chg (fun _ _ => False) w w1) := ⟨by rw [hw]; exact (Chg.refl _ _).drewN r1⟩
  clear hw
  go_wp2_with fail
  refine (cut_row gb ob n cb k _ hcb (by omega)).mono ?_
  rintro e w2 ⟨rfl, r2, hw⟩
  rw [cutOff_lt (show k < n by omega)]
  obtain ⟨C2⟩ : Nonempty (Chg (fun _ _ => False) w w2) := ⟨by rw [hw]; exact C1.drewN r2⟩
  clear hw C1
  go_wp2_with fail
  rw [show (2 * (k : Int)) = ((2 * k : Nat) : Int) by omega]
  refine (cut_row gz oz (2 * n) cz (2 * k) _ hcz (by omega)).mono ?_
  rintro e w3 ⟨rfl, r3, hw⟩
  rw [cutOff_lt (show 2 * k < 2 * n by omega)]
  obtain ⟨C3⟩ : Nonempty (Chg (fun _ _ => False) w w3) := ⟨by rw [hw]; exact C2.drewN r3⟩
  clear hw C2
  have Z3 := hZ.chg C3 (fun _ _ h => h); have X3 := hX.chg C3 (fun _ _ h => h); have Y3 := hY.chg C3 (fun _ _ h => h); have S3 := hS.chg C3 (fun _ _ h => h)
  have ZL := Z3.sub 0 (2 * k) (by omega); have ZH := Z3.sub (2 * k) (2 * n - 2 * k) (by omega)
  have A0 := X3.sub 0 k (by omega); have A1 := X3.sub k (n - k) (by omega)
  have B0 := Y3.sub 0 k (by omega); have B1 := Y3.sub k (n - k) (by omega)
  rw [Nat.add_zero, List.drop_zero] at ZL A0 B0
  go_wp2_with fail
  refine (HI1.out gz oz (2 * k) (2 * k) ga oa k gb ob k gs os ns cs _ _ _ _ _ rfl ZL A0 B0 S3 (by omega) (Nat.le_refl _) (Nat.le_refl _) (Nat.le_refl _) hcs (by omega) (by omega) (by omega) bcs (by unfold Dj at dax dbx dsz das dbs ⊢; omega) (by unfold Dj at dax dbx dsz das dbs ⊢; omega) (by unfold Dj at dax dbx dsz das dbs ⊢; omega) (by unfold Dj at dax dbx dsz das dbs ⊢; omega) (by unfold Dj at dax dbx dsz das dbs ⊢; omega)).mono ?_
  rintro e w4 ⟨zl, s4, rfl, C4, ZL4, S4, vL⟩
  have ZH4 := ZH.chg C4 (fun j hj => by unfold Dj at dax dbx dsz das dbs; unfold Rg; omega); have A04 := A0.chg C4 (fun j hj => by unfold Dj at dax dbx dsz das dbs; unfold Rg; omega); have A14 := A1.chg C4 (fun j hj => by unfold Dj at dax dbx dsz das dbs; unfold Rg; omega); have B04 := B0.chg C4 (fun j hj => by unfold Dj at dax dbx dsz das dbs; unfold Rg; omega); have B14 := B1.chg C4 (fun j hj => by unfold Dj at dax dbx dsz das dbs; unfold Rg; omega)
  have D4 : Chg (fun b o => Rg gz oz (2 * n) b o ∨ Rg gs os ns b o) w w4 := (C3.mono (fun _ _ h => absurd h id)).trans (C4.mono (fun b o h => by unfold Rg at *; omega))
  clear C3 C4 Z3 X3 Y3 S3 ZL ZH A0 A1 B0 B1 sm1
  go_wp2_with fail
  refine (HI2.out gz (oz + 2 * k) (2 * n - 2 * k) (2 * n - 2 * k) ga (oa + k) (n - k) gb (ob + k) (n - k) gs os ns cs _ _ _ _ _ (by omega) ZH4 A14 B14 S4 (by omega) (Nat.le_refl _) (Nat.le_refl _) (Nat.le_refl _) hcs (by omega) (by omega) (by omega) bcs (by unfold Dj at dax dbx dsz das dbs ⊢; omega) (by unfold Dj at dax dbx dsz das dbs ⊢; omega) (by unfold Dj at dax dbx dsz das dbs ⊢; omega) (by unfold Dj at dax dbx dsz das dbs ⊢; omega) (by unfold Dj at dax dbx dsz das dbs ⊢; omega)).mono ?_
  rintro e w5 ⟨zh, s5, rfl, C5, ZH5, S5, vH⟩
  have ZL5 := ZL4.chg C5 (fun j hj => by unfold Dj at dax dbx dsz das dbs; unfold Rg; omega); have A05 := A04.chg C5 (fun j hj => by unfold Dj at dax dbx dsz das dbs; unfold Rg; omega); have A15 := A14.chg C5 (fun j hj => by unfold Dj at dax dbx dsz das dbs; unfold Rg; omega); have B05 := B04.chg C5 (fun j hj => by unfold Dj at dax dbx dsz das dbs; unfold Rg; omega); have B15 := B14.chg C5 (fun j hj => by unfold Dj at dax dbx dsz das dbs; unfold Rg; omega)
  have D5 := D4.trans (C5.mono (fun b o h => by unfold Rg at *; omega))
  clear D4 C5 ZL4 ZH4 A04 A14 B04 B14 S4 sm2
  go_wp2_with fail
  rw [show ((k : Int) + 1) = ((k + 1 : Nat) : Int) by omega]
  refine (cut_row gs os ns cs (k + 1) _ hcs (by omega)).mono ?_
  rintro e w6 ⟨rfl, r6, hw⟩
  rw [cutOff_lt (show k + 1 < ns by omega)]
  obtain ⟨C6⟩ : Nonempty (Chg (fun _ _ => False) w5 w6) := ⟨by rw [hw]; exact (Chg.refl _ _).drewN r6⟩
  clear hw
  go_wp2_with fail
  rw [show ((k : Int) + 1) = ((k + 1 : Nat) : Int) by omega]
  refine (cut_row gs (os + (k + 1)) (ns - (k + 1)) (ns - (k + 1)) (k + 1) _ (Nat.le_refl _) (by omega)).mono ?_
  rintro e w7 ⟨rfl, r7, hw⟩
  rw [cutOff_lt (show k + 1 < ns - (k + 1) by omega)]
  obtain ⟨C7⟩ : Nonempty (Chg (fun _ _ => False) w5 w7) := ⟨by rw [hw]; exact C6.drewN r7⟩
  clear hw C6
  go_wp2_with fail
  rw [show (2 * ((k : Int) + 1)) = ((2 * (k + 1) : Nat) : Int) by omega]
  refine (cut_row gs (os + (k + 1) + (k + 1)) (ns - (k + 1) - (k + 1)) (ns - (k + 1) - (k + 1)) (2 * (k + 1)) _ (Nat.le_refl _) (by omega)).mono ?_
  rintro e w8 ⟨rfl, r8, hw⟩
  obtain ⟨C8⟩ : Nonempty (Chg (fun _ _ => False) w5 w8) := ⟨by rw [hw]; exact C7.drewN r8⟩
  clear hw C7
  obtain ⟨t, ht⟩ : ∃ t, t = cutOff (os + (k + 1) + (k + 1)) (ns - (k + 1) - (k + 1)) (2 * (k + 1)) := ⟨_, rfl⟩
  rw [← ht]
  obtain ⟨n4, hn4⟩ : ∃ n4, n4 = ns - (k + 1) - (k + 1) - 2 * (k + 1) := ⟨_, rfl⟩
  rw [← hn4]
  have htt : (n4 = 0 ∧ t = os + 2 * (k + 1)) ∨ (0 < n4 ∧ t = os + 4 * (k + 1)) := by
    by_cases h0 : 2 * (k + 1) = ns - (k + 1) - (k + 1)
    · rw [cutOff_eq h0] at ht; omega
    · rw [cutOff_lt (by omega)] at ht; omega
  have HT : Hid ((n4 = 0 ∧ t = os + 2 * (k + 1)) ∨ (0 < n4 ∧ t = os + 4 * (k + 1))) := htt
  have HN4 : Hid (n4 + 4 * (k + 1) = ns) := by show _ = _; omega
  have S8 := S5.chg C8 (fun _ _ h => h); have ZL8 := ZL5.chg C8 (fun _ _ h => h); have ZH8 := ZH5.chg C8 (fun _ _ h => h)
  have A08 := A05.chg C8 (fun _ _ h => h); have A18 := A15.chg C8 (fun _ _ h => h); have B08 := B05.chg C8 (fun _ _ h => h); have B18 := B15.chg C8 (fun _ _ h => h)
  have D8 := D5.trans (C8.mono (fun _ _ h => absurd h id))
  have SA8 := S8.sub 0 (k + 1) (by omega); have SB8 := S8.sub (k + 1) (k + 1) (by omega); have MI8 := S8.sub (2 * (k + 1)) (2 * (k + 1)) (by omega)
  rw [Nat.add_zero] at SA8
  have SR8 : ∃ sr, Row w8 gs t n4 sr := by
    rcases htt with ⟨h0, _⟩ | ⟨_, h1⟩
    · subst h0; exact ⟨[], rfl, Dig.nil _, fun j hj => by omega, fun j hj => by omega⟩
    · rw [h1]; exact ⟨_, S8.sub (4 * (k + 1)) n4 (by omega)⟩
  obtain ⟨sr, SR8⟩ := SR8
  clear ht hn4 htt S5 ZL5 ZH5 A05 A15 B05 B15 C8 D5 S8
  go_wp2_with fail
  refine (addh_any gs os k (k + 1) _ (some ⟨ga, oa, none⟩) (some ⟨ga, oa + k, none⟩) k (n - k) (n - k) _ _ _ SA8 (Nat.le_refl _) (by omega) (A08.at_ (Nat.le_refl _) (by unfold maxLen; omega)) (A18.at_ (Nat.le_refl _) (by unfold maxLen; omega)) (by omega) (by omega) (dj_some (by unfold Dj at dax dbx dsz das dbs ⊢; omega)) (fun g2 o2 _ hp => dj_some (g := ga) (off := oa + k) (n := n - k) (by unfold Dj at dax dbx dsz das dbs ⊢; omega) g2 o2 hp)).mono ?_
  rintro e w9 ⟨sa, rfl, W9, SA9, vSA⟩
  have C9 := W9.chg
  have B09 := B08.chg C9 (fun j hj => by unfold Dj at dax dbx dsz das dbs; unfold Rg; omega); have B19 := B18.chg C9 (fun j hj => by unfold Dj at dax dbx dsz das dbs; unfold Rg; omega); have ZL9 := ZL8.chg C9 (fun j hj => by unfold Dj at dax dbx dsz das dbs; unfold Rg; omega); have ZH9 := ZH8.chg C9 (fun j hj => by unfold Dj at dax dbx dsz das dbs; unfold Rg; omega); have SB9 := SB8.chg C9 (fun j hj => by unfold Dj at dax dbx dsz das dbs; unfold Rg; omega); have MI9 := MI8.chg C9 (fun j hj => by unfold Dj at dax dbx dsz das dbs; unfold Rg; omega)
  have SR9 := SR8.chg C9 (fun j hj => by have := HT.out; unfold Rg; omega)
  have D9 := D8.trans (C9.mono (fun b o h => by unfold Rg at *; omega))
  clear W9 C9 D8 SA8 SB8 MI8 SR8 B08 B18 ZL8 ZH8
  go_wp2_with fail
  refine (addh_any gs (os + (k + 1)) k (k + 1) _ (some ⟨gb, ob, none⟩) (some ⟨gb, ob + k, none⟩) k (n - k) (n - k) _ _ _ SB9 (Nat.le_refl _) (by omega) (B09.at_ (Nat.le_refl _) (by unfold maxLen; omega)) (B19.at_ (Nat.le_refl _) (by unfold maxLen; omega)) (by omega) (by omega) (dj_some (by unfold Dj at dax dbx dsz das dbs ⊢; omega)) (fun g2 o2 _ hp => dj_some (g := gb) (off := ob + k) (n := n - k) (by unfold Dj at dax dbx dsz das dbs ⊢; omega) g2 o2 hp)).mono ?_
  rintro e w10 ⟨sb, rfl, W10, SB10, vSB⟩
  have C10 := W10.chg
  have ZL10 := ZL9.chg C10 (fun j hj => by unfold Dj at dax dbx dsz das dbs; unfold Rg; omega); have ZH10 := ZH9.chg C10 (fun j hj => by unfold Dj at dax dbx dsz das dbs; unfold Rg; omega); have SA10 := SA9.chg C10 (fun j hj => by unfold Dj at dax dbx dsz das dbs; unfold Rg; omega); have MI10 := MI9.chg C10 (fun j hj => by unfold Dj at dax dbx dsz das dbs; unfold Rg; omega)
  have SR10 := SR9.chg C10 (fun j hj => by have := HT.out; unfold Rg; omega)
  have D10 := D9.trans (C10.mono (fun b o h => by unfold Rg at *; omega))
  clear W10 C10 D9 SA9 SB9 MI9 SR9 B09 B19 ZL9 ZH9
  go_wp2_with fail
  refine (HI3.out gs (os + (k + 1) + (k + 1)) (2 * (k + 1)) (2 * (k + 1)) gs os (k + 1) gs (os + (k + 1)) (k + 1) gs t n4 n4 _ _ _ _ _ rfl (by rw [show os + (k + 1) + (k + 1) = os + 2 * (k + 1) by omega]; exact MI10) SA10.rd SB10.rd SR10 (by have := HN4.out; omega) (Nat.le_refl _) (Nat.le_refl _) (Nat.le_refl _) (Nat.le_refl _) (by omega) (by omega) (by omega) (by have := HN4.out; omega) (by unfold Dj; omega) (by unfold Dj; omega) (by have := HT.out; unfold Dj; omega) (by have := HT.out; unfold Dj; omega) (by have := HT.out; unfold Dj; omega)).mono ?_
  rintro e w11 ⟨zm, s11, rfl, C11, MI11, SR11, vM⟩
  have ZL11 := ZL10.chg C11 (fun j hj => by have h1 := HT.out; have h2 := HN4.out; unfold Dj at dax dbx dsz das dbs; unfold Rg; omega); have ZH11 := ZH10.chg C11 (fun j hj => by have h1 := HT.out; have h2 := HN4.out; unfold Dj at dax dbx dsz das dbs; unfold Rg; omega); have SA11 := SA10.chg C11 (fun j hj => by have h1 := HT.out; have h2 := HN4.out; unfold Dj at dax dbx dsz das dbs; unfold Rg; omega); have SB11 := SB10.chg C11 (fun j hj => by have h1 := HT.out; have h2 := HN4.out; unfold Dj at dax dbx dsz das dbs; unfold Rg; omega)
  have D11 := D10.trans (C11.mono (fun b o h => by have h1 := HT.out; have h2 := HN4.out; unfold Rg at *; omega))
  clear C11 D10 ZL10 ZH10 SA10 SB10 MI10 SR10
  go_wp2_with fail
  refine (lsub_any gs (os + (k + 1) + (k + 1)) (2 * (k + 1)) (2 * (k + 1)) _ (some ⟨gz, oz, none⟩) (2 * k) (2 * k) _ _ MI11 (Nat.le_refl _) (by omega) (ZL11.rd.at_ (Nat.le_refl _) (by unfold maxLen; omega)) (by omega) (dj_some' (by unfold Dj at dax dbx dsz das dbs ⊢; omega))).mono ?_
  rintro e w12 ⟨cy1, m1, rfl, hc1, W12, MI12, e12⟩
  have C12 := W12.chg
  have ZL12 := ZL11.chg C12 (fun j hj => by unfold Dj at dax dbx dsz das dbs; unfold Rg; omega); have ZH12 := ZH11.chg C12 (fun j hj => by unfold Dj at dax dbx dsz das dbs; unfold Rg; omega); have SA12 := SA11.chg C12 (fun j hj => by unfold Dj at dax dbx dsz das dbs; unfold Rg; omega); have SB12 := SB11.chg C12 (fun j hj => by unfold Dj at dax dbx dsz das dbs; unfold Rg; omega); have SR12 := SR11.chg C12 (fun j hj => by have h1 := HT.out; have h2 := HN4.out; unfold Dj at dax dbx dsz das dbs; unfold Rg; omega)
  have D12 := D11.trans (C12.mono (fun b o h => by unfold Rg at *; omega))
  clear C12 W12 D11 ZL11 ZH11 SA11 SB11 MI11 SR11
  go_wp2_with fail
  refine (lsub_any gs (os + (k + 1) + (k + 1)) (2 * (k + 1)) (2 * (k + 1)) _ (some ⟨gz, oz + 2 * k, none⟩) (2 * n - 2 * k) (2 * n - 2 * k) _ _ MI12 (Nat.le_refl _) (by omega) (ZH12.rd.at_ (Nat.le_refl _) (by unfold maxLen; omega)) (by omega) (dj_some' (by unfold Dj at dax dbx dsz das dbs ⊢; omega))).mono ?_
  rintro e w13 ⟨cy2, m2, rfl, hc2, W13, MI13, e13⟩
  have C13 := W13.chg
  have ZL13 := ZL12.chg C13 (fun j hj => by unfold Dj at dax dbx dsz das dbs; unfold Rg; omega); have ZH13 := ZH12.chg C13 (fun j hj => by unfold Dj at dax dbx dsz das dbs; unfold Rg; omega); have SA13 := SA12.chg C13 (fun j hj => by unfold Dj at dax dbx dsz das dbs; unfold Rg; omega); have SB13 := SB12.chg C13 (fun j hj => by unfold Dj at dax dbx dsz das dbs; unfold Rg; omega); have SR13 := SR12.chg C13 (fun j hj => by have h1 := HT.out; have h2 := HN4.out; unfold Dj at dax dbx dsz das dbs; unfold Rg; omega)
  have D13 := D12.trans (C13.mono (fun b o h => by unfold Rg at *; omega))
  have b12 := valB_lt B64_pos MI12.dig; have b13 := valB_lt B64_pos MI13.dig
  rw [MI12.len] at b12; rw [MI13.len] at b13
  clear C13 W13 D12 ZL12 ZH12 SA12 SB12 MI12 SR12
  have tx : (xs.drop k).take (n - k) = xs.drop k := List.take_of_length_le (by rw [List.length_drop, hX.len]; exact Nat.le_refl _)
  have ty : (ys.drop k).take (n - k) = ys.drop k := List.take_of_length_le (by rw [List.length_drop, hY.len]; exact Nat.le_refl _)
  rw [tx, ty] at vH
  rw [tx] at vSA
  rw [ty] at vSB
  rw [vSA, vSB] at vM
  have f12 := nb e12 b12 (kar_ge vL vM) hc1
  have f13 := nb e13 b13 (kar_ge2 vL vH vM f12) hc2
  have hAB : valB B64 xs * valB B64 ys = valB B64 zl + B64 ^ k * valB B64 m2 + B64 ^ k * (B64 ^ k * valB B64 zh) := by
    rw [valB_split B64 xs k (by rw [hX.len]; omega), valB_split B64 ys k (by rw [hY.len]; omega)]
    exact kar_math vL vH rfl rfl vM f12 f13
  have bX := valB_lt B64_pos hX.dig; have bY := valB_lt B64_pos hY.dig
  rw [hX.len] at bX; rw [hY.len] at bY
  have bXY : valB B64 xs * valB B64 ys < B64 ^ (2 * n) := by
    have := Nat.mul_lt_mul'' bX bY
    rw [← Nat.pow_add, show n + n = 2 * n by omega] at this; exact this
  have hZJ := ZL13.join ZH13
  rw [show 2 * k + (2 * n - 2 * k) = 2 * n by omega] at hZJ
  have lzl := ZL13.len
  have vJ : valB B64 (zl ++ zh) = valB B64 zl + B64 ^ (2 * k) * valB B64 zh := by rw [valB_append, lzl]
  have eP : B64 ^ (2 * k) = B64 ^ k * B64 ^ k := by rw [← Nat.pow_add, show k + k = 2 * k by omega]
  rw [eP, Nat.mul_assoc] at vJ
  have eQ : B64 ^ (2 * n) = B64 ^ k * B64 ^ (2 * n - k) := by rw [← Nat.pow_add, show k + (2 * n - k) = 2 * n by omega]
  have sJ := valB_split B64 (zl ++ zh) k (by rw [hZJ.len]; omega)
  have fit : valB B64 ((zl ++ zh).drop k) + valB B64 m2 < B64 ^ (2 * n - k) := by
    refine Nat.lt_of_mul_lt_mul_left (a := B64 ^ k) ?_
    rw [Nat.mul_add, ← eQ]
    rw [hAB] at bXY
    generalize B64 ^ k * valB B64 m2 = Y1 at *
    generalize B64 ^ k * (B64 ^ k * valB B64 zh) = Y2 at *
    generalize B64 ^ k * valB B64 ((zl ++ zh).drop k) = Y3 at *
    generalize B64 ^ (2 * n) = Y4 at *
    omega
  have HFIT : Hid (valB B64 ((zl ++ zh).drop k) + valB B64 m2 < B64 ^ (2 * n - k)) := fit
  have HFIN : Hid (valB B64 ((zl ++ zh).take k) + B64 ^ k * (valB B64 ((zl ++ zh).drop k) + valB B64 m2) = valB B64 xs * valB B64 ys) := by
    show _ = _
    rw [hAB, Nat.mul_add]
    generalize B64 ^ k * valB B64 m2 = Y1 at *
    generalize B64 ^ k * (B64 ^ k * valB B64 zh) = Y2 at *
    generalize B64 ^ k * valB B64 ((zl ++ zh).drop k) = Y3 at *
    omega
  have hN := Nf.trim MI13.dig
  have hlenM : (trimL m2).length ≤ 2 * n - k := (hN.len_le B64_one).2 (Nat.lt_of_le_of_lt (Nat.le_add_left _ _) fit)
  have HVM : Hid (valB B64 (trimL m2) = valB B64 m2) := hN.val
  have MA : At w13.drew (some ⟨gs, os + (k + 1) + (k + 1), none⟩) (2 * (k + 1)) (2 * (k + 1)) m2 := MI13.drew.at_ (Nat.le_refl _) (by unfold maxLen; omega)
  have ZK := (hZJ.sub k (2 * n - k) (by omega)).drew
  have tz : ((zl ++ zh).drop k).take (2 * n - k) = (zl ++ zh).drop k := List.take_of_length_le (by rw [List.length_drop, hZJ.len]; exact Nat.le_refl _)
  rw [tz] at ZK
  have ZT := (hZJ.take k (by omega)).drew
  have HJ : Hid (Row w13 gz oz (2 * n) (zl ++ zh)) := hZJ
  clear hAB bX bY bXY vJ eP eQ sJ fit hN tx ty tz vL vH vSA vSB vM f12 f13 e12 e13 b12 b13 lzl hZJ hc1 hc2 HI1 HI2 HI3
  generalize zl ++ zh = zj at *
  go_wp2_with fail
  have TR : Hid (∀ (p' : Option Addr) (m' : Nat), m' = (trimL m2).length → (m' ≠ 0 → p' = some ⟨gs, os + (k + 1) + (k + 1), none⟩) → At w13.drew p' m' m' (trimL m2) ∧ m' ≤ 2 * n - k ∧ (∀ g2 off2, 0 < m' → p' = some ⟨g2, off2, none⟩ → g2 ≠ gz ∨ off2 + m' ≤ oz + k ∨ oz + k + (2 * n - k) ≤ off2)) := by
    intro p' m' h1 h2
    exact ⟨MA.trim h1 h2, by omega, kar_hap (n := 2 * (k + 1)) h2 (by unfold Dj at dax dbx dsz das dbs ⊢; omega) (by have := trimL_length_le m2; have := MI13.len; omega)⟩
  go_region_with (first | (go_at_call 76; refine (trim_any MA).mono ?_; rintro e w14 ⟨p', m', rfl, hm', hp', hw⟩; obtain rfl := hw.symm; obtain ⟨TA, hml, hta⟩ := TR.out p' m' hm' hp'; have HTA : Hid _ := hta; clear hw hm' hp' hta) | (go_at_call 105; refine (ladd_any gz (oz + k) (2 * n - k) (cz - k) _ p' m' m' _ _ ZK (by omega) (by omega) TA hml HTA.out).mono ?_; rintro e w15 ⟨cy3, zz, rfl, hc3, W15, ZZ15, e15⟩))
  all_goals
    go_wp2_with fail
    go_end0
    have C15 := W15.chg
    have ZT15 := ZT.chg C15 (fun j hj => by unfold Dj at dax dbx dsz das dbs; unfold Rg; omega)
    have SA15 := SA13.drew.chg C15 (fun j hj => by unfold Dj at dax dbx dsz das dbs; unfold Rg; omega); have SB15 := SB13.drew.chg C15 (fun j hj => by unfold Dj at dax dbx dsz das dbs; unfold Rg; omega); have MI15 := MI13.drew.chg C15 (fun j hj => by unfold Dj at dax dbx dsz das dbs; unfold Rg; omega); have SR15 := SR13.drew.chg C15 (fun j hj => by have h1 := HT.out; have h2 := HN4.out; unfold Dj at dax dbx dsz das dbs; unfold Rg; omega)
    have D15 := D13.drew.trans (C15.mono (fun b o h => by unfold Rg at *; omega))
    have hz2 := ZT15.join ZZ15
    rw [show k + (2 * n - k) = 2 * n by omega] at hz2
    have hsj : ∃ ss', Row w15 gs os ns ss' := by
      have j1 := SA15.join SB15
      have j2 : Row w15 gs os ((k + 1) + (k + 1) + 2 * (k + 1)) ((sa ++ sb) ++ m2) := j1.join (by rw [← Nat.add_assoc]; exact MI15)
      rcases HT.out with ⟨h0, _⟩ | ⟨_, h1⟩
      · rw [show (k + 1) + (k + 1) + 2 * (k + 1) = ns by have := HN4.out; omega] at j2
        exact ⟨_, j2⟩
      · have j3 := j2.join (m := n4) (ys := s11) (by rw [show os + ((k + 1) + (k + 1) + 2 * (k + 1)) = t by omega]; exact SR15)
        rw [show (k + 1) + (k + 1) + 2 * (k + 1) + n4 = ns by have := HN4.out; omega] at j3
        exact ⟨_, j3⟩
    obtain ⟨ss', hss⟩ := hsj
    rw [HVM.out] at e15
    have ez := nc e15 HFIT.out rfl
    refine ⟨zj.take k ++ zz, ss', rfl, D15, hz2, hss, ?_⟩
    rw [valB_append, List.length_take, HJ.out.len, Nat.min_eq_left (by omega), ez]
    exact HFIN.out

theorem kar_any : ∀ (N n : Nat), n < N → n ≤ 100000 → 0 < n → KarSaid n := by
  intro N
  induction N with
  | zero => intro n h; omega
  | succ N ih =>
    intro n hn hb h0
    by_cases h : n < 48
    · exact kar_small n h h0
    · exact kar_step n h hb (fun m hm hm0 => ih m (by omega) (by omega) hm0)
end Go.Proofs.YtkfonlijgoldfaaGreatDoor

