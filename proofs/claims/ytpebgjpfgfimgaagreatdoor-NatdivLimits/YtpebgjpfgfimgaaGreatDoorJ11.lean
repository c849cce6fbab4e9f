import Derived.Test.YtpebgjpfgfimgaaGreatDoorJ10
import Derived.Test.YtpebgjpfgfimgaaGreatDoorJ8
import Derived.Test.YtpebgjpfgfimgaaGreatDoorJ9
import Derived.Shelf.Strings.Repeat
import Derived.Shelf.Strings.Trim
import Derived.Shelf.Strings.Builder1
import Derived.Shelf.Strconv.Itoa3
import Derived.Test.YtpebgjpfgfimgaaGreatDoorSmall
namespace Go.Proofs.YtpebgjpfgfimgaaGreatDoor
open Go.RowKit
set_option maxRecDepth 20000
set_option maxHeartbeats 0
def KarSaid (n : Nat) : Prop := ∀ (gz oz lz cz ga oa ca gb ob cb gs os ns cs : Nat) (zs xs ys ss : List Nat) (w : World), lz = 2 * n → Row w gz oz lz zs → Rd w ga oa n xs → Rd w gb ob n ys → Row w gs os ns ss → scr n ≤ ns →
  lz ≤ cz → n ≤ ca → n ≤ cb → ns ≤ cs → cz ≤ 1000000 → ca ≤ 9223372036854775807 → cb ≤ 9223372036854775807 → cs ≤ 1000000 → Dj ga oa n gz oz lz → Dj gb ob n gz oz lz → Dj gs os ns gz oz lz → Dj ga oa n gs os ns → Dj gb ob n gs os ns →
  Calls Tryz.prog 129 #[.slice (some ⟨gz, oz, none⟩) lz cz, .slice (some ⟨ga, oa, none⟩) n ca, .slice (some ⟨gb, ob, none⟩) n cb, .slice (some ⟨gs, os, none⟩) ns cs] w fun e w' =>
    ∃ zs' ss', e = .returned (.tuple #[]) ∧ Chg (fun b o => Rg gz oz lz b o ∨ Rg gs os ns b o) w w' ∧ Row w' gz oz lz zs' ∧ Row w' gs os ns ss' ∧ valB B64 zs' = valB B64 xs * valB B64 ys

theorem dj_some {g off n g' off' n' : Nat} (h : Dj g off n g' off' n') : ∀ g2 off2, some (⟨g, off, none⟩ : Addr) = some ⟨g2, off2, none⟩ → Dj g2 off2 n g' off' n' := by
  intro g2 off2 hp
  simp only [Option.some.injEq, Addr.mk.injEq, and_true] at hp
  obtain ⟨rfl, rfl⟩ := hp
  exact h
theorem dj_some' {g off n g' off' n' : Nat} (h : Dj g off n g' off' n') : ∀ g2 off2, 0 < n → some (⟨g, off, none⟩ : Addr) = some ⟨g2, off2, none⟩ → g2 ≠ g' ∨ off2 + n ≤ off' ∨ off' + n' ≤ off2 := by
  intro g2 off2 _ hp
  have := dj_some h g2 off2 hp
  exact this

theorem kar_small (n : Nat) (hn : n < 48) (h0 : 0 < n) : KarSaid n := by
  intro gz oz lz cz ga oa ca gb ob cb gs os ns cs zs xs ys ss w hlz hZ hX hY hS hscr hcz hca hcb hcs bcz bca bcb bcs dax dbx dsz das dbs
  obtain rfl : lz = n + n := by omega
  clear hlz
  go_enter Tryz.func129, Tryz.ntmps129
  go_wp2_with fail
  refine (rows_any gz oz cz zs (some ⟨ga, oa, none⟩) (some ⟨gb, ob, none⟩) n ca n cb xs ys w hZ hcz (by omega) (hX.at_ hca (by unfold maxLen; omega)) (hY.at_ hcb (by unfold maxLen; omega)) h0 h0 (dj_some dax) (dj_some dbx)).mono ?_
  rintro e w1 ⟨zs', rfl, hwr, hrow, hval⟩
  go_wp2_with fail
  refine bodyPost_ret (results_none rfl _ _ _) rfl ?_
  refine ⟨zs', ss, rfl, hwr.chg.mono (fun b o h => .inl h), hrow, hS.chg hwr.chg (fun j hj => dsz.not hj), hval⟩

theorem kar_math {b k A0 A1 B0 B1 L H SA SB M M1 M2 : Nat} (hL : L = A0 * B0) (hH : H = A1 * B1) (hSA : SA = A0 + A1) (hSB : SB = B0 + B1) (hM : M = SA * SB) (h1 : M1 + L = M) (h2 : M2 + H = M1) :
    (A0 + b ^ k * A1) * (B0 + b ^ k * B1) = L + b ^ k * M2 + b ^ k * (b ^ k * H) := by
  have e : M2 + (A0 * B0 + A1 * B1) = A0 * B0 + A0 * B1 + (A1 * B0 + A1 * B1) := by
    rw [hSA, hSB, Nat.add_mul, Nat.mul_add, Nat.mul_add] at hM
    omega
  have e2 : M2 = A0 * B1 + A1 * B0 := by omega
  rw [hL, hH, e2]
  generalize b ^ k = P
  rw [Nat.add_mul, Nat.mul_add, Nat.mul_add, Nat.mul_add]
  have c1 : A0 * (P * B1) = P * (A0 * B1) := by rw [← Nat.mul_assoc, Nat.mul_comm A0 P, Nat.mul_assoc]
  have c2 : P * A1 * B0 = P * (A1 * B0) := Nat.mul_assoc _ _ _
  have c3 : P * A1 * (P * B1) = P * (P * (A1 * B1)) := by rw [Nat.mul_assoc, ← Nat.mul_assoc A1 P, Nat.mul_comm A1 P, Nat.mul_assoc]
  rw [c1, c2, c3]
  omega
theorem kar_ge {A0 A1 B0 B1 L M : Nat} (hL : L = A0 * B0) (hM : M = (A0 + A1) * (B0 + B1)) : L ≤ M := by
  rw [hL, hM]; exact Nat.mul_le_mul (by omega) (by omega)
theorem kar_ge2 {A0 A1 B0 B1 L H M M1 : Nat} (hL : L = A0 * B0) (hH : H = A1 * B1) (hM : M = (A0 + A1) * (B0 + B1)) (h1 : M1 + L = M) : H ≤ M1 := by
  rw [Nat.add_mul, Nat.mul_add, Nat.mul_add] at hM
  omega
theorem nb {P Z A L cy : Nat} (hs : Z + L = A + P * cy) (hz : Z < P) (hle : L ≤ A) (hc : cy ≤ 1) : Z + L = A := by
  by_cases h : cy = 0
  · subst h; omega
  · obtain rfl : cy = 1 := by omega
    omega
theorem nc {P Z A L cy T : Nat} (hs : Z + P * cy = A + L) (ht : A + L < P) (_hT : T = A + L) : Z = A + L := by
  by_cases h : cy = 0
  · subst h; omega
  · have : P * 1 ≤ P * cy := Nat.mul_le_mul_left _ (by omega)
    omega

theorem kar_hap {g off g' off' n n' m : Nat} {p' : Option Addr} (hp : m ≠ 0 → p' = some ⟨g, off, none⟩) (h : Dj g off n g' off' n') (hm : m ≤ n) : ∀ g2 off2, 0 < m → p' = some ⟨g2, off2, none⟩ → g2 ≠ g' ∨ off2 + m ≤ off' ∨ off' + n' ≤ off2 := by
  intro g2 off2 h0 h1
  rw [hp (by omega)] at h1
  simp only [Option.some.injEq, Addr.mk.injEq, and_true] at h1
  obtain ⟨rfl, rfl⟩ := h1
  unfold Dj at h; omega

theorem kar_step (n : Nat) (hn : ¬ n < 48) (hn2 : n ≤ 100000) (ih : ∀ m, m < n → 0 < m → KarSaid m) : KarSaid n := by
  intro gz oz lz cz ga oa ca gb ob cb gs os ns cs zs xs ys ss w hlz hZ hX hY hS hscr hcz hca hcb hcs bcz bca bcb bcs dax dbx dsz das dbs
  obtain rfl : lz = 2 * n := hlz
  obtain ⟨k, hk⟩ : ∃ k, k = (n + 1) / 2 := ⟨_, rfl⟩
  rw [scr_ge hn, ← hk] at hscr
  have hk1 : 2 * k ≤ n + 1 := by omega
  have hk2 : n ≤ 2 * k := by omega
  have ek : ((n : Int) + 1) / 2 = (k : Int) := by omega
  have ih1 := ih k (by omega) (by omega)
  have ih2 := ih (n - k) (by omega) (by omega)
  have ih3 := ih (k + 1) (by omega) (by omega)
  have sm1 := scr_mono (n + 1) k n (by omega) (by omega)
  have sm2 := scr_mono (n + 1) (n - k) n (by omega) (by omega)
  rw [scr_ge hn, ← hk] at sm1 sm2
  have HI1 : Hid (KarSaid k) := ih1
  have HI2 : Hid (KarSaid (n - k)) := ih2
  have HI3 : Hid (KarSaid (k + 1)) := ih3
  clear ih ih1 ih2 ih3 hk
  go_enter Tryz.func129, Tryz.ntmps129
  go_wp2_with fail
  refine (cut_row ga oa n ca k _ hca (by omega)).mono ?_
  rintro e w1 ⟨rfl, r1, hw⟩
  rw [cutOff_lt (show k < n by omega)]
  obtain ⟨C1⟩ : Nonempty (Chg (fun _ _ => False) w w1) := ⟨by rw [hw]; exact (Chg.refl _ _).drewN r1⟩
  clear hw
  go_wp2_with fail
  refine (cut_row gb ob n cb k _ hcb (by omega)).mono ?_
  rintro e w2 ⟨rfl, r2, hw⟩
  rw [cutOff_lt (show k < n by omega)]
  obtain ⟨C2⟩ : Nonempty (Chg (fun _ _ => False) w w2) := ⟨by rw [hw]; exact C1.drewN r2⟩
  clear hw C1
  go_wp2_with fail
  rw [show (2 * (k : Int)) = ((2 * k : Nat) : Int) by omega]
  refine (cut_row gz oz (2 * n) cz (2 * k) _ hcz (by omega)).mono ?_
  rintro e w3 ⟨rfl, r3, hw⟩
  rw [cutOff_lt (show 2 * k < 2 * n by omega)]
  obtain ⟨C3⟩ : Nonempty (Chg (fun _ _ => False) w w3) := ⟨by rw [hw]; exact C2.drewN r3⟩
  clear hw C2
  have Z3 := hZ.chg C3 (fun _ _ h => h); have X3 := hX.chg C3 (fun _ _ h => h); have Y3 := hY.chg C3 (fun _ _ h => h); have S3 := hS.chg C3 (fun _ _ h => h)
  have ZL := Z3.sub 0 (2 * k) (by omega); have ZH := Z3.sub (2 * k) (2 * n - 2 * k) (by omega)
  have A0 := X3.sub 0 k (by omega); have A1 := X3.sub k (n - k) (by omega)
  have B0 := Y3.sub 0 k (by omega); have B1 := Y3.sub k (n - k) (by omega)
  rw [Nat.add_zero, List.drop_zero] at ZL A0 B0
  go_wp2_with fail
  refine (HI1.out gz oz (2 * k) (2 * k) ga oa k gb ob k gs os ns cs _ _ _ _ _ rfl ZL A0 B0 S3 (by omega) (Nat.le_refl _) (Nat.le_refl _) (Nat.le_refl _) hcs (by omega) (by omega) (by omega) bcs (by unfold Dj at dax dbx dsz das dbs ⊢; omega) (by unfold Dj at dax dbx dsz das dbs ⊢; omega) (by unfold Dj at dax dbx dsz das dbs ⊢; omega) (by unfold Dj at dax dbx dsz das dbs ⊢; omega) (by unfold Dj at dax dbx dsz das dbs ⊢; omega)).mono ?_
  rintro e w4 ⟨zl, s4, rfl, C4, ZL4, S4, vL⟩
  have ZH4 := ZH.chg C4 (fun j hj => by unfold Dj at dax dbx dsz das dbs; unfold Rg; omega); have A04 := A0.chg C4 (fun j hj => by unfold Dj at dax dbx dsz das dbs; unfold Rg; omega); have A14 := A1.chg C4 (fun j hj => by unfold Dj at dax dbx dsz das dbs; unfold Rg; omega); have B04 := B0.chg C4 (fun j hj => by unfold Dj at dax dbx dsz das dbs; unfold Rg; omega); have B14 := B1.chg C4 (fun j hj => by unfold Dj at dax dbx dsz das dbs; unfold Rg; omega)
  have D4 : Chg (fun b o => Rg gz oz (2 * n) b o ∨ Rg gs os ns b o) w w4 := (C3.mono (fun _ _ h => absurd h id)).trans (C4.mono (fun b o h => by unfold Rg at *; omega))
  clear C3 C4 Z3 X3 Y3 S3 ZL ZH A0 A1 B0 B1 sm1
  go_wp2_with fail
  refine (HI2.out gz (oz + 2 * k) (2 * n - 2 * k) (2 * n - 2 * k) ga (oa + k) (n - k) gb (ob + k) (n - k) gs os ns cs _ _ _ _ _ (by omega) ZH4 A14 B14 S4 (by omega) (Nat.le_refl _) (Nat.le_refl _) (Nat.le_refl _) hcs (by omega) (by omega) (by omega) bcs (by unfold Dj at dax dbx dsz das dbs ⊢; omega) (by unfold Dj at dax dbx dsz das dbs ⊢; omega) (by unfold Dj at dax dbx dsz das dbs ⊢; omega) (by unfold Dj at dax dbx dsz das dbs ⊢; omega) (by unfold Dj at dax dbx dsz das dbs ⊢; omega)).mono ?_
  rintro e w5 ⟨zh, s5, rfl, C5, ZH5, S5, vH⟩
  have ZL5 := ZL4.chg C5 (fun j hj => by unfold Dj at dax dbx dsz das dbs; unfold Rg; omega); have A05 := A04.chg C5 (fun j hj => by unfold Dj at dax dbx dsz das dbs; unfold Rg; omega); have A15 := A14.chg C5 (fun j hj => by unfold Dj at dax dbx dsz das dbs; unfold Rg; omega); have B05 := B04.chg C5 (fun j hj => by unfold Dj at dax dbx dsz das dbs; unfold Rg; omega); have B15 := B14.chg C5 (fun j hj => by unfold Dj at dax dbx dsz das dbs; unfold Rg; omega)
  have D5 := D4.trans (C5.mono (fun b o h => by unfold Rg at *; omega))
  clear D4 C5 ZL4 ZH4 A04 A14 B04 B14 S4 sm2
  go_wp2_with fail
  rw [show ((k : Int) + 1) = ((k + 1 : Nat) : Int) by omega]
  refine (cut_row gs os ns cs (k + 1) _ hcs (by omega)).mono ?_
  rintro e w6 ⟨rfl, r6, hw⟩
  rw [cutOff_lt (show k + 1 < ns by omega)]
  obtain ⟨C6⟩ : Nonempty (Chg (fun _ _ => False) w5 w6) := ⟨by rw [hw]; exact (Chg.refl _ _).drewN r6⟩
  clear hw
  go_wp2_with fail
  rw [show ((k : Int) + 1) = ((k + 1 : Nat) : Int) by omega]
  refine (cut_row gs (os + (k + 1)) (ns - (k + 1)) (ns - (k + 1)) (k + 1) _ (Nat.le_refl _) (by omega)).mono ?_
  rintro e w7 ⟨rfl, r7, hw⟩
  rw [cutOff_lt (show k + 1 < ns - (k + 1) by omega)]
  obtain ⟨C7⟩ : Nonempty (Chg (fun _ _ => False) w5 w7) := ⟨by rw [hw]; exact C6.drewN r7⟩
  clear hw C6
  go_wp2_with fail
  rw [show (2 * ((k : Int) + 1)) = ((2 * (k + 1) : Nat) : Int) by omega]
  refine (cut_row gs (os + (k + 1) + (k + 1)) (ns - (k + 1) - (k + 1)) (ns - (k + 1) - (k + 1)) (2 * (k + 1)) _ (Nat.le_refl _) (by omega)).mono ?_
  rintro e w8 ⟨rfl, r8, hw⟩
  obtain ⟨C8⟩ : Nonempty (Chg (fun _ _ => False) w5 w8) := ⟨by rw [hw]; exact C7.drewN r8⟩
  clear hw C7
  obtain ⟨t, ht⟩ : ∃ t, t = cutOff (os + (k + 1) + (k + 1)) (ns - (k + 1) - (k + 1)) (2 * (k + 1)) := ⟨_, rfl⟩
  rw [← ht]
  obtain ⟨n4, hn4⟩ : ∃ n4, n4 = ns - (k + 1) - (k + 1) - 2 * (k + 1) := ⟨_, rfl⟩
  rw [← hn4]
  have htt : (n4 = 0 ∧ t = os + 2 * (k + 1)) ∨ (0 < n4 ∧ t = os + 4 * (k + 1)) := by
    by_cases h0 : 2 * (k + 1) = ns - (k + 1) - (k + 1)
    · rw [cutOff_eq h0] at ht; omega
    · rw [cutOff_lt (by omega)] at ht; omega
  have HT : Hid ((n4 = 0 ∧ t = os + 2 * (k + 1)) ∨ (0 < n4 ∧ t = os + 4 * (k + 1))) := htt
  have HN4 : Hid (n4 + 4 * (k + 1) = ns) := by show _ = _; omega
  have S8 := S5.chg C8 (fun _ _ h => h); have ZL8 := ZL5.chg C8 (fun _ _ h => h); have ZH8 := ZH5.chg C8 (fun _ _ h => h)
  have A08 := A05.chg C8 (fun _ _ h => h); have A18 := A15.chg C8 (fun _ _ h => h); have B08 := B05.chg C8 (fun _ _ h => h); have B18 := B15.chg C8 (fun _ _ h => h)
  have D8 := D5.trans (C8.mono (fun _ _ h => absurd h id))
  have SA8 := S8.sub 0 (k + 1) (by omega); have SB8 := S8.sub (k + 1) (k + 1) (by omega); have MI8 := S8.sub (2 * (k + 1)) (2 * (k + 1)) (by omega)
  rw [Nat.add_zero] at SA8
  have SR8 : ∃ sr, Row w8 gs t n4 sr := by
    rcases htt with ⟨h0, _⟩ | ⟨_, h1⟩
    · subst h0; exact ⟨[], rfl, Dig.nil _, fun j hj => by omega, fun j hj => by omega⟩
    · rw [h1]; exact ⟨_, S8.sub (4 * (k + 1)) n4 (by omega)⟩
  obtain ⟨sr, SR8⟩ := SR8
  clear ht hn4 htt S5 ZL5 ZH5 A05 A15 B05 B15 C8 D5 S8
  go_wp2_with fail
  refine (addh_any gs os k (k + 1) _ (some ⟨ga, oa, none⟩) (some ⟨ga, oa + k, none⟩) k (n - k) (n - k) _ _ _ SA8 (Nat.le_refl _) (by omega) (A08.at_ (Nat.le_refl _) (by unfold maxLen; omega)) (A18.at_ (Nat.le_refl _) (by unfold maxLen; omega)) (by omega) (by omega) (dj_some (by unfold Dj at dax dbx dsz das dbs ⊢; omega)) (fun g2 o2 _ hp => dj_some (g := ga) (off := oa + k) (n := n - k) (by unfold Dj at dax dbx dsz das dbs ⊢; omega) g2 o2 hp)).mono ?_
  rintro e w9 ⟨sa, rfl, W9, SA9, vSA⟩
  have C9 := W9.chg
  have B09 := B08.chg C9 (fun j hj => by unfold Dj at dax dbx dsz das dbs; unfold Rg; omega); have B19 := B18.chg C9 (fun j hj => by unfold Dj at dax dbx dsz das dbs; unfold Rg; omega); have ZL9 := ZL8.chg C9 (fun j hj => by unfold Dj at dax dbx dsz das dbs; unfold Rg; omega); have ZH9 := ZH8.chg C9 (fun j hj => by unfold Dj at dax dbx dsz das dbs; unfold Rg; omega); have SB9 := SB8.chg C9 (fun j hj => by unfold Dj at dax dbx dsz das dbs; unfold Rg; omega); have MI9 := MI8.chg C9 (fun j hj => by unfold Dj at dax dbx dsz das dbs; unfold Rg; omega)
  have SR9 := SR8.chg C9 (fun j hj => by have := HT.out; unfold Rg; omega)
  have D9 := D8.trans (C9.mono (fun b o h => by unfold Rg at *; omega))
  clear W9 C9 D8 SA8 SB8 MI8 SR8 B08 B18 ZL8 ZH8
  go_wp2_with fail
  refine (addh_any gs (os + (k + 1)) k (k + 1) _ (some ⟨gb, ob, none⟩) (some ⟨gb, ob + k, none⟩) k (n - k) (n - k) _ _ _ SB9 (Nat.le_refl _) (by omega) (B09.at_ (Nat.le_refl _) (by unfold maxLen; omega)) (B19.at_ (Nat.le_refl _) (by unfold maxLen; omega)) (by omega) (by omega) (dj_some (by unfold Dj at dax dbx dsz das dbs ⊢; omega)) (fun g2 o2 _ hp => dj_some (g := gb) (off := ob + k) (n := n - k) (by unfold Dj at dax dbx dsz das dbs ⊢; omega) g2 o2 hp)).mono ?_
  rintro e w10 ⟨sb, rfl, W10, SB10, vSB⟩
  have C10 := W10.chg
  have ZL10 := ZL9.chg C10 (fun j hj => by unfold Dj at dax dbx dsz das dbs; unfold Rg; omega); have ZH10 := ZH9.chg C10 (fun j hj => by unfold Dj at dax dbx dsz das dbs; unfold Rg; omega); have SA10 := SA9.chg C10 (fun j hj => by unfold Dj at dax dbx dsz das dbs; unfold Rg; omega); have MI10 := MI9.chg C10 (fun j hj => by unfold Dj at dax dbx dsz das dbs; unfold Rg; omega)
  have SR10 := SR9.chg C10 (fun j hj => by have := HT.out; unfold Rg; omega)
  have D10 := D9.trans (C10.mono (fun b o h => by unfold Rg at *; omega))
  clear W10 C10 D9 SA9 SB9 MI9 SR9 B09 B19 ZL9 ZH9
  go_wp2_with fail
  refine (HI3.out gs (os + (k + 1) + (k + 1)) (2 * (k + 1)) (2 * (k + 1)) gs os (k + 1) gs (os + (k + 1)) (k + 1) gs t n4 n4 _ _ _ _ _ rfl (by rw [show os + (k + 1) + (k + 1) = os + 2 * (k + 1) by omega]; exact MI10) SA10.rd SB10.rd SR10 (by have := HN4.out; omega) (Nat.le_refl _) (Nat.le_refl _) (Nat.le_refl _) (Nat.le_refl _) (by omega) (by omega) (by omega) (by have := HN4.out; omega) (by unfold Dj; omega) (by unfold Dj; omega) (by have := HT.out; unfold Dj; omega) (by have := HT.out; unfold Dj; omega) (by have := HT.out; unfold Dj; omega)).mono ?_
  rintro e w11 ⟨zm, s11, rfl, C11, MI11, SR11, vM⟩
  have ZL11 := ZL10.chg C11 (fun j hj => by have h1 := HT.out; have h2 := HN4.out; unfold Dj at dax dbx dsz das dbs; unfold Rg; omega); have ZH11 := ZH10.chg C11 (fun j hj => by have h1 := HT.out; have h2 := HN4.out; unfold Dj at dax dbx dsz das dbs; unfold Rg; omega); have SA11 := SA10.chg C11 (fun j hj => by have h1 := HT.out; have h2 := HN4.out; unfold Dj at dax dbx dsz das dbs; unfold Rg; omega); have SB11 := SB10.chg C11 (fun j hj => by have h1 := HT.out; have h2 := HN4.out; unfold Dj at dax dbx dsz das dbs; unfold Rg; omega)
  have D11 := D10.trans (C11.mono (fun b o h => by have h1 := HT.out; have h2 := HN4.out; unfold Rg at *; omega))
  clear C11 D10 ZL10 ZH10 SA10 SB10 MI10 SR10
  go_wp2_with fail
  refine (lsub_any gs (os + (k + 1) + (k + 1)) (2 * (k + 1)) (2 * (k + 1)) _ (some ⟨gz, oz, none⟩) (2 * k) (2 * k) _ _ MI11 (Nat.le_refl _) (by omega) (ZL11.rd.at_ (Nat.le_refl _) (by unfold maxLen; omega)) (by omega) (dj_some' (by unfold Dj at dax dbx dsz das dbs ⊢; omega))).mono ?_
  rintro e w12 ⟨cy1, m1, rfl, hc1, W12, MI12, e12⟩
  have C12 := W12.chg
  have ZL12 := ZL11.chg C12 (fun j hj => by unfold Dj at dax dbx dsz das dbs; unfold Rg; omega); have ZH12 := ZH11.chg C12 (fun j hj => by unfold Dj at dax dbx dsz das dbs; unfold Rg; omega); have SA12 := SA11.chg C12 (fun j hj => by unfold Dj at dax dbx dsz das dbs; unfold Rg; omega); have SB12 := SB11.chg C12 (fun j hj => by unfold Dj at dax dbx dsz das dbs; unfold Rg; omega); have SR12 := SR11.chg C12 (fun j hj => by have h1 := HT.out; have h2 := HN4.out; unfold Dj at dax dbx dsz das dbs; unfold Rg; omega)
  have D12 := D11.trans (C12.mono (fun b o h => by unfold Rg at *; omega))
  clear C12 W12 D11 ZL11 ZH11 SA11 SB11 MI11 SR11
  go_wp2_with fail
  refine (lsub_any gs (os + (k + 1) + (k + 1)) (2 * (k + 1)) (2 * (k + 1)) _ (some ⟨gz, oz + 2 * k, none⟩) (2 * n - 2 * k) (2 * n - 2 * k) _ _ MI12 (Nat.le_refl _) (by omega) (ZH12.rd.at_ (Nat.le_refl _) (by unfold maxLen; omega)) (by omega) (dj_some' (by unfold Dj at dax dbx dsz das dbs ⊢; omega))).mono ?_
  rintro e w13 ⟨cy2, m2, rfl, hc2, W13, MI13, e13⟩
  have C13 := W13.chg
  have ZL13 := ZL12.chg C13 (fun j hj => by unfold Dj at dax dbx dsz das dbs; unfold Rg; omega); have ZH13 := ZH12.chg C13 (fun j hj => by unfold Dj at dax dbx dsz das dbs; unfold Rg; omega); have SA13 := SA12.chg C13 (fun j hj => by unfold Dj at dax dbx dsz das dbs; unfold Rg; omega); have SB13 := SB12.chg C13 (fun j hj => by unfold Dj at dax dbx dsz das dbs; unfold Rg; omega); have SR13 := SR12.chg C13 (fun j hj => by have h1 := HT.out; have h2 := HN4.out; unfold Dj at dax dbx dsz das dbs; unfold Rg; omega)
  have D13 := D12.trans (C13.mono (fun b o h => by unfold Rg at *; omega))
  have b12 := valB_lt B64_pos MI12.dig; have b13 := valB_lt B64_pos MI13.dig
  rw [MI12.len] at b12; rw [MI13.len] at b13
  clear C13 W13 D12 ZL12 ZH12 SA12 SB12 MI12 SR12
  have tx : (xs.drop k).take (n - k) = xs.drop k := List.take_of_length_le (by rw [List.length_drop, hX.len]; exact Nat.le_refl _)
  have ty : (ys.drop k).take (n - k) = ys.drop k := List.take_of_length_le (by rw [List.length_drop, hY.len]; exact Nat.le_refl _)
  rw [tx, ty] at vH
  rw [tx] at vSA
  rw [ty] at vSB
  rw [vSA, vSB] at vM
  have f12 := nb e12 b12 (kar_ge vL vM) hc1
  have f13 := nb e13 b13 (kar_ge2 vL vH vM f12) hc2
  have hAB : valB B64 xs * valB B64 ys = valB B64 zl + B64 ^ k * valB B64 m2 + B64 ^ k * (B64 ^ k * valB B64 zh) := by
    rw [valB_split B64 xs k (by rw [hX.len]; omega), valB_split B64 ys k (by rw [hY.len]; omega)]
    exact kar_math vL vH rfl rfl vM f12 f13
  have bX := valB_lt B64_pos hX.dig; have bY := valB_lt B64_pos hY.dig
  rw [hX.len] at bX; rw [hY.len] at bY
  have bXY : valB B64 xs * valB B64 ys < B64 ^ (2 * n) := by
    have := Nat.mul_lt_mul'' bX bY
    rw [← Nat.pow_add, show n + n = 2 * n by omega] at this; exact this
  have hZJ := ZL13.join ZH13
  rw [show 2 * k + (2 * n - 2 * k) = 2 * n by omega] at hZJ
  have lzl := ZL13.len
  have vJ : valB B64 (zl ++ zh) = valB B64 zl + B64 ^ (2 * k) * valB B64 zh := by rw [valB_append, lzl]
  have eP : B64 ^ (2 * k) = B64 ^ k * B64 ^ k := by rw [← Nat.pow_add, show k + k = 2 * k by omega]
  rw [eP, Nat.mul_assoc] at vJ
  have eQ : B64 ^ (2 * n) = B64 ^ k * B64 ^ (2 * n - k) := by rw [← Nat.pow_add, show k + (2 * n - k) = 2 * n by omega]
  have sJ := valB_split B64 (zl ++ zh) k (by rw [hZJ.len]; omega)
  have fit : valB B64 ((zl ++ zh).drop k) + valB B64 m2 < B64 ^ (2 * n - k) := by
    refine Nat.lt_of_mul_lt_mul_left (a := B64 ^ k) ?_
    rw [Nat.mul_add, ← eQ]
    rw [hAB] at bXY
    generalize B64 ^ k * valB B64 m2 = Y1 at *
    generalize B64 ^ k * (B64 ^ k * valB B64 zh) = Y2 at *
    generalize B64 ^ k * valB B64 ((zl ++ zh).drop k) = Y3 at *
    generalize B64 ^ (2 * n) = Y4 at *
    omega
  have HFIT : Hid (valB B64 ((zl ++ zh).drop k) + valB B64 m2 < B64 ^ (2 * n - k)) := fit
  have HFIN : Hid (valB B64 ((zl ++ zh).take k) + B64 ^ k * (valB B64 ((zl ++ zh).drop k) + valB B64 m2) = valB B64 xs * valB B64 ys) := by
    show _ = _
    rw [hAB, Nat.mul_add]
    generalize B64 ^ k * valB B64 m2 = Y1 at *
    generalize B64 ^ k * (B64 ^ k * valB B64 zh) = Y2 at *
    generalize B64 ^ k * valB B64 ((zl ++ zh).drop k) = Y3 at *
    omega
  have hN := Nf.trim MI13.dig
  have hlenM : (trimL m2).length ≤ 2 * n - k := (hN.len_le B64_one).2 (Nat.lt_of_le_of_lt (Nat.le_add_left _ _) fit)
  have HVM : Hid (valB B64 (trimL m2) = valB B64 m2) := hN.val
  have MA : At w13.drew (some ⟨gs, os + (k + 1) + (k + 1), none⟩) (2 * (k + 1)) (2 * (k + 1)) m2 := MI13.drew.at_ (Nat.le_refl _) (by unfold maxLen; omega)
  have ZK := (hZJ.sub k (2 * n - k) (by omega)).drew
  have tz : ((zl ++ zh).drop k).take (2 * n - k) = (zl ++ zh).drop k := List.take_of_length_le (by rw [List.length_drop, hZJ.len]; exact Nat.le_refl _)
  rw [tz] at ZK
  have ZT := (hZJ.take k (by omega)).drew
  have HJ : Hid (Row w13 gz oz (2 * n) (zl ++ zh)) := hZJ
  clear hAB bX bY bXY vJ eP eQ sJ fit hN tx ty tz vL vH vSA vSB vM f12 f13 e12 e13 b12 b13 lzl hZJ hc1 hc2 HI1 HI2 HI3
  generalize zl ++ zh = zj at *
  go_wp2_with fail
  have TR : Hid (∀ (p' : Option Addr) (m' : Nat), m' = (trimL m2).length → (m' ≠ 0 → p' = some ⟨gs, os + (k + 1) + (k + 1), none⟩) → At w13.drew p' m' m' (trimL m2) ∧ m' ≤ 2 * n - k ∧ (∀ g2 off2, 0 < m' → p' = some ⟨g2, off2, none⟩ → g2 ≠ gz ∨ off2 + m' ≤ oz + k ∨ oz + k + (2 * n - k) ≤ off2)) := by
    intro p' m' h1 h2
    exact ⟨MA.trim h1 h2, by omega, kar_hap (n := 2 * (k + 1)) h2 (by unfold Dj at dax dbx dsz das dbs ⊢; omega) (by have := trimL_length_le m2; have := MI13.len; omega)⟩
  go_region_with (first | (go_at_call 32; refine (trim_any MA).mono ?_; rintro e w14 ⟨p', m', rfl, hm', hp', hw⟩; obtain rfl := hw.symm; obtain ⟨TA, hml, hta⟩ := TR.out p' m' hm' hp'; have HTA : Hid _ := hta; clear hw hm' hp' hta) | (go_at_call 63; refine (ladd_any gz (oz + k) (2 * n - k) (cz - k) _ p' m' m' _ _ ZK (by omega) (by omega) TA hml HTA.out).mono ?_; rintro e w15 ⟨cy3, zz, rfl, hc3, W15, ZZ15, e15⟩))
  all_goals
    go_wp2_with fail
    go_end0
    have C15 := W15.chg
    have ZT15 := ZT.chg C15 (fun j hj => by unfold Dj at dax dbx dsz das dbs; unfold Rg; omega)
    have SA15 := SA13.drew.chg C15 (fun j hj => by unfold Dj at dax dbx dsz das dbs; unfold Rg; omega); have SB15 := SB13.drew.chg C15 (fun j hj => by unfold Dj at dax dbx dsz das dbs; unfold Rg; omega); have MI15 := MI13.drew.chg C15 (fun j hj => by unfold Dj at dax dbx dsz das dbs; unfold Rg; omega); have SR15 := SR13.drew.chg C15 (fun j hj => by have h1 := HT.out; have h2 := HN4.out; unfold Dj at dax dbx dsz das dbs; unfold Rg; omega)
    have D15 := D13.drew.trans (C15.mono (fun b o h => by unfold Rg at *; omega))
    have hz2 := ZT15.join ZZ15
    rw [show k + (2 * n - k) = 2 * n by omega] at hz2
    have hsj : ∃ ss', Row w15 gs os ns ss' := by
      have j1 := SA15.join SB15
      have j2 : Row w15 gs os ((k + 1) + (k + 1) + 2 * (k + 1)) ((sa ++ sb) ++ m2) := j1.join (by rw [← Nat.add_assoc]; exact MI15)
      rcases HT.out with ⟨h0, _⟩ | ⟨_, h1⟩
      · rw [show (k + 1) + (k + 1) + 2 * (k + 1) = ns by have := HN4.out; omega] at j2
        exact ⟨_, j2⟩
      · have j3 := j2.join (m := n4) (ys := s11) (by rw [show os + ((k + 1) + (k + 1) + 2 * (k + 1)) = t by omega]; exact SR15)
        rw [show (k + 1) + (k + 1) + 2 * (k + 1) + n4 = ns by have := HN4.out; omega] at j3
        exact ⟨_, j3⟩
    obtain ⟨ss', hss⟩ := hsj
    rw [HVM.out] at e15
    have ez := nc e15 HFIT.out rfl
    refine ⟨zj.take k ++ zz, ss', rfl, D15, hz2, hss, ?_⟩
    rw [valB_append, List.length_take, HJ.out.len, Nat.min_eq_left (by omega), ez]
    exact HFIN.out

theorem kar_any : ∀ (N n : Nat), n < N → n ≤ 100000 → 0 < n → KarSaid n := by
  intro N
  induction N with
  | zero => intro n h; omega
  | succ N ih =>
    intro n hn hb h0
    by_cases h : n < 48
    · exact kar_small n h h0
    · exact kar_step n h hb (fun m hm hm0 => ih m (by omega) (by omega) hm0)
def MulAt (m : Nat) : Prop := ∀ (p q : Option Addr) (n cn l cl : Nat) (xs ys : List Nat) (w : World), At w p n cn xs → At w q l cl ys → 0 < n → 0 < l → n ≤ 8192 → l ≤ 8192 → (n = m ∧ m ≤ l ∨ l = m ∧ m ≤ n) →
  Calls Tryz.prog 121 #[.slice p n cn, .slice q l cl] w fun e w' => ∃ p' m' zs, e = .returned (.slice p' m' m') ∧ Own w.heap.size w' p' m' zs ∧ Nf B64 zs (valB B64 xs * valB B64 ys) ∧ Below w.heap.size w w'
def BlkAt (m : Nat) : Prop := ∀ (gz oz cz n cn cm : Nat) (p q : Option Addr) (xs ys zs : List Nat) (w : World), Row w gz oz (n + m) zs → valB B64 zs = 0 → n + m ≤ cz → cz ≤ 1000000 → At w p n cn xs → At w q m cm ys → m ≤ n → n ≤ 8192 →
  (∀ g2 off2, p = some ⟨g2, off2, none⟩ → Dj g2 off2 n gz oz (n + m)) → (∀ g2 off2, q = some ⟨g2, off2, none⟩ → Dj g2 off2 m gz oz (n + m)) →
  Calls Tryz.prog 126 #[.slice (some ⟨gz, oz, none⟩) (n + m) cz, .slice p n cn, .slice q m cm] w fun e w' =>
    ∃ zs', e = .returned (.tuple #[]) ∧ Chg (Rg gz oz (n + m)) w w' ∧ Row w' gz oz (n + m) zs' ∧ valB B64 zs' = valB B64 xs * valB B64 ys

structure BlkRel (w : World) (gz oz L gp gs m ns : Nat) (xs ys : List Nat) (o : Nat) (wr : World) : Prop where
  chg : Chg (fun b c => Rg gz oz L b c ∨ Rg gp 0 (2 * m) b c ∨ Rg gs 0 ns b c) w wr
  part : ∃ ps, Row wr gp 0 (2 * m) ps
  scr : ∃ ss, Row wr gs 0 ns ss
  z : ∃ dk, Row wr gz oz L dk ∧ valB B64 dk = valB B64 (xs.take o) * valB B64 ys

theorem blk_val {xs ys dk zz ps : List Nat} {o m L n : Nat} (hdk : dk.length = L) (ho : o ≤ L) (hx : xs.length = n) (hy : ys.length = m) (hL : L = n + m) (hdx : Dig B64 xs) (hdy : Dig B64 ys) (om : o + m ≤ n) (cy : Nat)
    (hv : valB B64 dk = valB B64 (xs.take o) * valB B64 ys) (hp : valB B64 ps = valB B64 ((xs.drop o).take m) * valB B64 ys) (hz : valB B64 zz + B64 ^ (L - o) * cy = valB B64 (dk.drop o) + valB B64 ps) :
    valB B64 (dk.take o ++ zz) = valB B64 (xs.take (o + m)) * valB B64 ys := by
  have e1 : valB B64 (xs.take (o + m)) = valB B64 (xs.take o) + B64 ^ o * valB B64 ((xs.drop o).take m) := by
    have := valB_split B64 (xs.take (o + m)) o (by simp; omega)
    rw [List.take_take, Nat.min_eq_left (by omega), List.drop_take, Nat.add_sub_cancel_left] at this
    exact this
  have e2 := valB_split B64 dk o (by omega)
  have b1 := valB_lt B64_pos (hdx.take (o + m))
  have b2 := valB_lt B64_pos hdy
  rw [List.length_take, hx, Nat.min_eq_left (by omega)] at b1
  rw [hy] at b2
  have b3 : valB B64 (xs.take (o + m)) * valB B64 ys < B64 ^ L := by
    have := Nat.mul_lt_mul'' b1 b2
    rw [← Nat.pow_add] at this
    exact Nat.lt_of_lt_of_le this (Nat.pow_le_pow_right B64_pos (by omega))
  have e3 : valB B64 (xs.take (o + m)) * valB B64 ys = valB B64 dk + B64 ^ o * valB B64 ps := by
    rw [e1, Nat.add_mul, hv, hp, Nat.mul_assoc]
  have eQ : B64 ^ L = B64 ^ o * B64 ^ (L - o) := by rw [← Nat.pow_add, show o + (L - o) = L by omega]
  have fit : valB B64 (dk.drop o) + valB B64 ps < B64 ^ (L - o) := by
    refine Nat.lt_of_mul_lt_mul_left (a := B64 ^ o) ?_
    rw [Nat.mul_add, ← eQ]
    rw [e3] at b3
    omega
  have ez := nc hz fit rfl
  rw [valB_append, List.length_take, hdk, Nat.min_eq_left ho, ez, e3, Nat.mul_add]
  omega

theorem blk_fin {xs ys dk zz ps : List Nat} {o m n cy : Nat} (hdk : dk.length = n + m) (ho : o ≤ n) (hx : xs.length = n) (hy : ys.length = m) (hdx : Dig B64 xs) (hdy : Dig B64 ys)
    (hv : valB B64 dk = valB B64 (xs.take o) * valB B64 ys) (hp : valB B64 ps = valB B64 ((xs.drop o).take (n - o)) * valB B64 ys) (hz : valB B64 zz + B64 ^ (n + m - o) * cy = valB B64 (dk.drop o) + valB B64 ps) :
    valB B64 (dk.take o ++ zz) = valB B64 xs * valB B64 ys := by
  have e1 : valB B64 xs = valB B64 (xs.take o) + B64 ^ o * valB B64 ((xs.drop o).take (n - o)) := by
    rw [List.take_of_length_le (i := n - o) (by rw [List.length_drop, hx]; exact Nat.le_refl _)]
    exact valB_split B64 xs o (by omega)
  have e2 := valB_split B64 dk o (by omega)
  have b1 := valB_lt B64_pos hdx
  have b2 := valB_lt B64_pos hdy
  rw [hx] at b1
  rw [hy] at b2
  have b3 : valB B64 xs * valB B64 ys < B64 ^ (n + m) := by
    have := Nat.mul_lt_mul'' b1 b2
    rw [← Nat.pow_add] at this; exact this
  have e3 : valB B64 xs * valB B64 ys = valB B64 dk + B64 ^ o * valB B64 ps := by
    rw [hv, hp]
    rw [← Nat.mul_assoc, ← Nat.add_mul, ← e1]
  have eQ : B64 ^ (n + m) = B64 ^ o * B64 ^ (n + m - o) := by rw [← Nat.pow_add, show o + (n + m - o) = n + m by omega]
  have fit : valB B64 (dk.drop o) + valB B64 ps < B64 ^ (n + m - o) := by
    refine Nat.lt_of_mul_lt_mul_left (a := B64 ^ o) ?_
    rw [Nat.mul_add, ← eQ]
    rw [e3] at b3
    omega
  have ez := nc hz fit rfl
  rw [valB_append, List.length_take, hdk, Nat.min_eq_left (by omega), ez, e3, Nat.mul_add]
  omega

theorem At.chg {w w' : World} {S : Nat → Nat → Prop} {p : Option Addr} {n c : Nat} {xs : List Nat} (h : At w p n c xs) (hc : Chg S w w') (hd : ∀ g off, p = some ⟨g, off, none⟩ → ∀ j, j < n → g < w.heap.size → ¬ S g (off + j)) : At w' p n c xs := by
  refine ⟨h.len, h.cap, h.big, h.dig, ?_⟩
  rcases h.cells with h0 | ⟨g, off, rfl, hcl⟩
  · exact .inl h0
  · exact .inr ⟨g, off, rfl, fun j hj => hc.cell (hd g off rfl j hj (World.block_lt_of_cell? w _ (hcl j hj))) (hcl j hj)⟩
theorem Chg.trans_new {S T : Nat → Nat → Prop} {a b c : World} (h : Chg S a b) (k : Chg T b c) (hT : ∀ x o, x < a.heap.size → T x o → S x o) : Chg S a c := by
  refine ⟨k.os.trans h.os, k.tape.trans h.tape, k.output.trans h.output, Nat.le_trans h.size k.size, fun i cur t fr hi => ?_, fun i hi hn => ?_⟩
  · have hlt : i < a.heap.size := (Array.getElem?_eq_some_iff.1 hi).1
    obtain ⟨c1, g1, s1, e1⟩ := h.row i cur t fr hi
    obtain ⟨c2, g2, s2, e2⟩ := k.row i c1 t fr g1
    exact ⟨c2, g2, s2.trans s1, fun j hj => (e2 j (fun ht => hj (hT i j hlt ht))).trans (e1 j hj)⟩
  · have e1 := h.other i hi hn
    rw [← e1]
    exact k.other i (Nat.lt_of_lt_of_le hi h.size) (by rw [e1]; exact hn)
theorem wrap_small (o : Nat) (h : o ≤ 1000000) : IntKind.i64.wrap (o : Int) = (o : Int) := by
  simp [IntKind.wrap, IntKind.signed, IntKind.bits]
  omega
theorem Own.at2 {B : Nat} {w : World} {p : Option Addr} {m : Nat} {zs : List Nat} (h : Own B w p m zs) (hm : m ≤ 9223372036854775807) : At w p m m zs := by
  refine ⟨h.len, Nat.le_refl _, by unfold maxLen; omega, h.dig, ?_⟩
  rcases h.mem with h0 | ⟨g, rfl, _, hr⟩
  · exact .inl h0
  · exact .inr ⟨g, 0, rfl, hr.cell⟩
theorem Own.dj {B : Nat} {w : World} {p : Option Addr} {m : Nat} {zs : List Nat} (h : Own B w p m zs) {g off n : Nat} (hg : g < B) : ∀ g2 off2, 0 < m → p = some ⟨g2, off2, none⟩ → g2 ≠ g ∨ off2 + m ≤ off ∨ off + n ≤ off2 := by
  intro g2 off2 h0 hp
  obtain ⟨g3, h1, h2, _⟩ := h.mem.resolve_left (by omega)
  rw [hp] at h1
  simp only [Option.some.injEq, Addr.mk.injEq, and_true] at h1
  omega

theorem blk_step (m : Nat) (h48 : 48 ≤ m) (ih : ∀ r, r < m → 0 < r → MulAt r) : BlkAt m := by
  intro gz oz cz n cn cm p q xs ys zs w hZ hz0 hcz bcz hA hB hmn hn8 dax dbx
  obtain ⟨ga, oa, rfl, hca⟩ := hA.cells.resolve_left (by omega)
  obtain ⟨gb, ob, rfl, hcb⟩ := hB.cells.resolve_left (by omega)
  have dA := dax ga oa rfl
  have dB := dbx gb ob rfl
  have ltz := hZ.lt (by omega)
  have lta : ga < w.heap.size := World.block_lt_of_cell? w _ (hca 0 (by omega))
  have ltb : gb < w.heap.size := World.block_lt_of_cell? w _ (hcb 0 (by omega))
  have al := hA.len; have bl := hB.len; have acap := hA.cap; have bcap := hB.cap; have abig := hA.big; have bbig := hB.big
  unfold maxLen at abig bbig
  have hscr := scr_le (m + 1) m (by omega)
  have hscp : 0 < scr m := by rw [scr_ge (by omega)]; omega
  obtain ⟨ns, hns⟩ : ∃ ns, ns = scr m := ⟨_, rfl⟩
  rw [← hns] at hscr hscp
  obtain ⟨cnt, hcnt⟩ : ∃ cnt, cnt = n / m := ⟨_, rfl⟩
  have ecnt : (n : Int) / (m : Int) = (cnt : Int) := by rw [hcnt]; exact (Int.natCast_ediv _ _).symm
  have hcm := Nat.div_mul_le_self n m
  have hdm := Nat.div_add_mod n m
  have hml := Nat.mod_lt n (show 0 < m by omega)
  rw [Nat.mul_comm] at hdm
  rw [← hcnt] at hcm hdm
  have hcb8 : cnt ≤ 8192 := by rw [hcnt]; exact Nat.le_trans (Nat.div_le_self _ _) hn8
  have HIH : Hid (∀ r, r < m → 0 < r → MulAt r) := ih
  have HNS : Hid (ns = scr m) := hns
  have HCM : Hid (cnt * m ≤ n) := hcm
  have HDM : Hid (cnt * m + n % m = n) := hdm
  have HDA : Hid (Dj ga oa n gz oz (n + m)) := dA
  have HDB : Hid (Dj gb ob m gz oz (n + m)) := dB
  have HZ0 : Hid (valB B64 zs = 0) := hz0
  clear ih hns hcm hdm hcnt dax dbx dA dB hz0
  obtain ⟨i0, hi, hzz0, hzz1, hzz2⟩ := info_parts Tryz.infoU64
  go_enter Tryz.func126, Tryz.ntmps126
  go_wp2_with (at_make; refine wpList_make_full _ rfl _ _ 23 rfl w.heap.size 34 i0 (.int .u64 0) 1 Tryz.underlying23 hi hzz0 hzz1 _ _ _ _ (2 * m) rfl rfl (by omega) (by omega) (by rw [hzz2]; omega) (by unfold maxLen; omega) (Nat.le_refl _) ?_; intro w1 hown hgrow; have hmk := made_blk hown hgrow; clear hown hgrow)
  obtain ⟨hblk1, hb1⟩ := hmk
  refine (scr_any m _ (by omega)).mono ?_
  rintro e w1' ⟨rfl, hw⟩
  obtain rfl := hw.symm
  rw [← HNS.out]
  clear hw
  go_wp2_with (at_make; refine wpList_make_full _ rfl _ _ 23 rfl w1.heap.size 34 i0 (.int .u64 0) 1 Tryz.underlying23 hi hzz0 hzz1 _ _ _ _ ns rfl rfl (by omega) (by omega) (by rw [hzz2]; omega) (by unfold maxLen; omega) (Nat.le_refl _) ?_; intro w2 hown hgrow; have hmk := made_blk hown hgrow; clear hown hgrow)
  obtain ⟨hblk2, hb2⟩ := hmk
  have hlt1 := hblk1.lt
  have hr1 := (hblk1.row (Dig.replicate _ _ B64_pos)).below hb2 hlt1
  have hr2 := hblk2.row (Dig.replicate _ _ B64_pos)
  rw [List.length_replicate] at hr1 hr2
  have hb12 : Below w.heap.size w w2 := hb1.trans (hb2.mono hb1.size)
  have Z2 := hZ.below hb12 ltz
  have A2 := hA.below hb12; have B2 := hB.below hb12
  have hgp : w.heap.size < w1.heap.size := hlt1
  obtain ⟨gp, hgpe⟩ : ∃ gp, gp = w.heap.size := ⟨_, rfl⟩
  obtain ⟨gs, hgse⟩ : ∃ gs, gs = w1.heap.size := ⟨_, rfl⟩
  rw [← hgpe] at hr1 ⊢
  rw [← hgse] at hr2 ⊢
  have hap : ga < gp ∧ gb < gp ∧ gz < gp ∧ gp < gs := by omega
  have HC2 : Hid (Chg (Rg gz oz (n + m)) w w2) := Below.chg hb12 _
  have hs2 := hb2.size; have hs1 := hb1.size
  have hgpw : w.heap.size ≤ gp := by omega
  have hsz : gs < w2.heap.size := hr2.lt hscp
  clear hblk1 hblk2 hb1 hb2 hlt1 hgp hb12 hgpe hgse
  go_wp2_with fail
  go_loopw [10, 11, 26] (fun _ _ i wr => ∃ k : Nat, k ≤ cnt ∧ i = .int .i64 k ∧ BlkRel w2 gz oz (n + m) gp gs m ns xs ys (k * m) wr) (fun _ _ i _ => cnt - (intOf i).toNat)
  case atStart => exact ⟨0, Nat.zero_le _, rfl, Chg.refl _ _, ⟨_, hr1⟩, ⟨_, hr2⟩, zs, Z2, by rw [HZ0.out]; simp [valB]⟩
  case round =>
    obtain ⟨k, hk, rfl, hR⟩ := hrel
    by_cases hlt : k < cnt
    · obtain ⟨o, ho⟩ : ∃ o, o = k * m := ⟨_, rfl⟩
      have hom : o + m ≤ n := by
        have h1 : (k + 1) * m ≤ cnt * m := Nat.mul_le_mul_right m hlt
        have h2 := HCM.out
        rw [Nat.add_mul, Nat.one_mul] at h1
        omega
      have e1 : (k : Int) * (m : Int) = (o : Int) := by rw [ho]; exact (Int.natCast_mul _ _).symm
      have e2 : ((k : Int) + 1) * (m : Int) = ((o + m : Nat) : Int) := by rw [Int.add_mul, e1]; omega
      rw [← ho] at hR
      obtain ⟨ps, P3⟩ := hR.part
      obtain ⟨ss, S3⟩ := hR.scr
      obtain ⟨dk, Z3, vZ⟩ := hR.z
      have C3 := hR.chg
      have A3 := A2.chg C3 (fun g off hp j hj hg => by
        simp only [Option.some.injEq, Addr.mk.injEq, and_true] at hp
        obtain ⟨rfl, rfl⟩ := hp
        have := HDA.out; unfold Dj at this; unfold Rg; omega)
      have B3 := B2.chg C3 (fun g off hp j hj hg => by
        simp only [Option.some.injEq, Addr.mk.injEq, and_true] at hp
        obtain ⟨rfl, rfl⟩ := hp
        have := HDB.out; unfold Dj at this; unfold Rg; omega)
      have RA : Rd wr ga oa n xs := by
        obtain ⟨g3, o3, hp3, hc3⟩ := A3.cells.resolve_left (by omega)
        simp only [Option.some.injEq, Addr.mk.injEq, and_true] at hp3
        obtain ⟨rfl, rfl⟩ := hp3
        exact ⟨al, A3.dig, hc3⟩
      have RB : Rd wr gb ob m ys := by
        obtain ⟨g3, o3, hp3, hc3⟩ := B3.cells.resolve_left (by omega)
        simp only [Option.some.injEq, Addr.mk.injEq, and_true] at hp3
        obtain ⟨rfl, rfl⟩ := hp3
        exact ⟨bl, B3.dig, hc3⟩
      have RK := RA.sub o m (by omega)
      have HVZ : Hid (valB B64 dk = valB B64 (xs.take o) * valB B64 ys) := vZ
      have HO : Hid (o = k * m) := ho
      clear hR vZ ho A3 B3
      go_wp2_with fail
      refine (kar_any (m + 1) m (by omega) (by omega) (by omega) gp 0 (2 * m) (2 * m) ga (oa + o) m gb ob cm gs 0 ns ns _ _ _ _ _ rfl P3 RK RB S3 (by rw [HNS.out]; exact Nat.le_refl _) (Nat.le_refl _) (Nat.le_refl _) bcap (Nat.le_refl _) (by omega) (by omega) (by omega) (by omega) (by unfold Dj; omega) (by unfold Dj; omega) (by unfold Dj; omega) (by unfold Dj; omega) (by unfold Dj; omega)).mono ?_
      rintro e w4 ⟨zp, s4, rfl, C4, P4, S4, vP⟩
      have Z4 := Z3.chg C4 (fun j hj => by unfold Rg; omega)
      have ZO := Z4.sub o (n + m - o) (by omega)
      have tz : (dk.drop o).take (n + m - o) = dk.drop o := List.take_of_length_le (by rw [List.length_drop, Z4.len]; exact Nat.le_refl _)
      rw [tz] at ZO
      have HVP : Hid (valB B64 zp = valB B64 ((xs.drop o).take m) * valB B64 ys) := vP
      clear vP tz P3 S3 Z3 RA RB RK
      go_wp2_with fail
      refine (ladd_any gz (oz + o) (n + m - o) (cz - o) _ (some ⟨gp, 0, none⟩) (2 * m) (2 * m) _ _ ZO (by omega) (by omega) (P4.at_ (Nat.le_refl _) (by unfold maxLen; omega)) (by omega) (fun g2 off2 _ hp => by
        simp only [Option.some.injEq, Addr.mk.injEq, and_true] at hp
        omega)).mono ?_
      rintro e w5 ⟨cy, zz, rfl, hcy, W5, ZZ5, e5⟩
      have HE5 : Hid (valB B64 zz + B64 ^ (n + m - o) * cy = valB B64 (dk.drop o) + valB B64 zp) := e5
      clear e5
      go_wp2_with fail
      go_roundw
      case rel =>
        have ho := HO.out
        have C5 := W5.chg
        refine ⟨k + 1, by omega, by go_num, ?_⟩
        rw [Nat.add_mul, Nat.one_mul, ← ho]
        refine ⟨(C3.trans (C4.mono (fun b c h => by unfold Rg at *; omega))).trans (C5.mono (fun b c h => by unfold Rg at *; omega)), ⟨_, P4.chg C5 (fun j hj => by unfold Rg; omega)⟩, ⟨_, S4.chg C5 (fun j hj => by unfold Rg; omega)⟩, dk.take o ++ zz, ?_, ?_⟩
        · have lo := (Z4.take o (by omega)).chg C5 (fun j hj => by unfold Rg; omega)
          have all := lo.join ZZ5
          rw [show o + (n + m - o) = n + m by omega] at all
          exact all
        · exact blk_val Z4.len (by omega) al bl rfl hA.dig hB.dig hom cy HVZ.out HVP.out HE5.out
      case measure => simp [intOf]; omega
    · obtain rfl : k = cnt := by omega
      obtain ⟨o, ho⟩ : ∃ o, o = k * m := ⟨_, rfl⟩
      have hon : o ≤ n := by rw [ho]; exact HCM.out
      have e1 : (k : Int) * (m : Int) = (o : Int) := by rw [ho]; exact (Int.natCast_mul _ _).symm
      have hrm : n - o < m := by have := HDM.out; rw [← ho] at this; omega
      rw [← ho] at hR
      have C3 := hR.chg
      obtain ⟨dk, Z3, vZ⟩ := hR.z
      have HC3 : Hid (Chg (Rg gz oz (n + m)) w wr) := HC2.out.trans_new C3 (fun x c hx h => by unfold Rg at *; omega)
      have A3 := A2.chg C3 (fun g off hp j hj hg => by
        simp only [Option.some.injEq, Addr.mk.injEq, and_true] at hp
        obtain ⟨rfl, rfl⟩ := hp
        have := HDA.out; unfold Dj at this; unfold Rg; omega)
      have B3 := B2.chg C3 (fun g off hp j hj hg => by
        simp only [Option.some.injEq, Addr.mk.injEq, and_true] at hp
        obtain ⟨rfl, rfl⟩ := hp
        have := HDB.out; unfold Dj at this; unfold Rg; omega)
      have hszr := C3.size
      have HVZ : Hid (valB B64 dk = valB B64 (xs.take o) * valB B64 ys) := vZ
      have HO2 : Hid (k * m = o) := ho.symm
      clear hR vZ ho HCM HDM
      by_cases hr0 : n ≤ o
      · go_wp2_with fail
        all_goals go_end0
        all_goals have hv2 : valB B64 dk = valB B64 xs * valB B64 ys := by rw [HVZ.out, List.take_of_length_le (by omega)]
        all_goals first | exact ⟨dk, rfl, HC3.out, Z3, hv2⟩ | exact ⟨rfl, HC3.out, dk, Z3, hv2⟩
      · have RA : Rd wr ga oa n xs := by
          obtain ⟨g3, o3, hp3, hc3⟩ := A3.cells.resolve_left (by omega)
          simp only [Option.some.injEq, Addr.mk.injEq, and_true] at hp3
          obtain ⟨rfl, rfl⟩ := hp3
          exact ⟨al, A3.dig, hc3⟩
        have RK := (RA.sub o (n - o) (by omega)).at_ (c := cn - o) (by omega) (by unfold maxLen; omega)
        have tk : (xs.drop o).take (n - o) = xs.drop o := List.take_of_length_le (by rw [List.length_drop, al]; exact Nat.le_refl _)
        rw [tk] at RK
        have RK2 : At wr.drew (some ⟨ga, oa + o, none⟩) (n - o) (cn - o) (xs.drop o) := ⟨RK.len, RK.cap, RK.big, RK.dig, RK.cells⟩
        have B32 : At wr.drew (some ⟨gb, ob, none⟩) m cm ys := ⟨B3.len, B3.cap, B3.big, B3.dig, B3.cells⟩
        have ZO := (Z3.sub o (n + m - o) (by omega)).drew
        have tz : (dk.drop o).take (n + m - o) = dk.drop o := List.take_of_length_le (by rw [List.length_drop, Z3.len]; exact Nat.le_refl _)
        rw [tz] at ZO
        have ZT := (Z3.take o (by omega)).drew
        have hzlt : gz < wr.heap.size := Z3.lt (by omega)
        have lenM : ∀ zs' : List Nat, Nf B64 zs' (valB B64 (xs.drop o) * valB B64 ys) → zs'.length ≤ n + m - o := by
          intro zs' hN
          refine (hN.len_le B64_one).2 ?_
          have b1 := valB_lt B64_pos (hA.dig.drop o); have b2 := valB_lt B64_pos hB.dig
          rw [List.length_drop, al] at b1; rw [bl] at b2
          have := Nat.mul_lt_mul'' b1 b2
          rw [← Nat.pow_add, show n - o + m = n + m - o by omega] at this; exact this
        have HLM : Hid (∀ zs' : List Nat, Nf B64 zs' (valB B64 (xs.drop o) * valB B64 ys) → zs'.length ≤ n + m - o) := lenM
        have HZL : Hid (dk.length = n + m) := Z3.len
        clear tk tz RA RK A3 B3 lenM C3 Z3
        have h1 : ¬ o = cz := by omega
        have h2 : ¬ cz = o := by omega
        have h3 : (o : Int) ≤ (n : Int) + (m : Int) := by omega
        have h3n : o ≤ n + m := by omega
        go_wp2_with fail
        have hkm0 : 0 ≤ (k : Int) * (m : Int) := by rw [e1]; omega
        have hkm1 : (k : Int) * (m : Int) ≤ 1000000 := by rw [e1]; omega
        have hwo : IntKind.i64.wrap (o : Int) = (o : Int) := wrap_small o (by omega)
        clear h1 hkm0 hkm1
        go_region_with (first | (go_at_call 121; refine (HIH.out (n - o) hrm (by omega) (some ⟨ga, oa + o, none⟩) (some ⟨gb, ob, none⟩) (n - o) (cn - o) m cm _ _ _ RK2 B32 (by omega) (by omega) (by omega) (by omega) (.inl ⟨rfl, by omega⟩)).mono ?_; rintro e w6 ⟨p', m', zs6, rfl, ho6, n6, hb6⟩; have hm6 : m' ≤ n + m - o := (by rw [← ho6.len]; exact HLM.out zs6 n6); have ZO6 := ZO.below hb6 hzlt; have ZT6 := ZT.below hb6 hzlt) | (go_at_call 63; refine (ladd_any gz (oz + o) (n + m - o) (cz - o) _ p' m' m' _ _ ZO6 (by omega) (by omega) (ho6.at2 (by omega)) hm6 (ho6.dj hzlt)).mono ?_; rintro e w7 ⟨cy, zz, rfl, hcy, W7, ZZ7, e7⟩))
        all_goals
          go_wp2_with fail
          go_end0
          have C7 := W7.chg
          have lo := ZT6.chg C7 (fun j hj => by unfold Rg; omega)
          have all := lo.join ZZ7
          rw [show o + (n + m - o) = n + m by omega] at all
          refine ⟨dk.take o ++ zz, rfl, (HC3.out.drew.trans_new (Below.chg hb6 (Rg gz oz (n + m))) (fun x c _ h => h)).trans (C7.mono (fun b c h => by unfold Rg at *; omega)), all, ?_⟩
          have vps : valB B64 zs6 = valB B64 ((xs.drop o).take (n - o)) * valB B64 ys := by
            rw [n6.val, List.take_of_length_le (by rw [List.length_drop, al]; exact Nat.le_refl _)]
          exact blk_fin HZL.out hon al bl hA.dig hB.dig HVZ.out vps e7
theorem dj_fresh {w : World} {p : Option Addr} {n c : Nat} {xs : List Nat} (h : At w p n c xs) (hn : 0 < n) (off m : Nat) : ∀ g2 off2, p = some ⟨g2, off2, none⟩ → Dj g2 off2 n w.heap.size off m :=
  fun g2 off2 hp => .inl (h.fresh (Nat.le_refl _) g2 off2 hn hp)

theorem mul_of_blk (m : Nat) (hbk : 48 ≤ m → BlkAt m) : MulAt m := by
  intro p q n cn l cl xs ys w hA hB hn hl hn8 hl8 hcase
  have HB : Hid (48 ≤ m → BlkAt m) := hbk
  have al := hA.len; have bl := hB.len
  clear hbk
  obtain ⟨i0, hi, hzz0, hzz1, hzz2⟩ := info_parts Tryz.infoU64
  by_cases hlt : n < l
  · have hm : n = m := by omega
    subst hm
    go_enter Tryz.func121, Tryz.ntmps121
    go_wp2_with (at_make; refine wpList_make_full _ rfl _ _ 23 rfl w.heap.size 34 i0 (.int .u64 0) 1 Tryz.underlying23 hi hzz0 hzz1 _ _ _ _ (l + n) rfl rfl (by omega) (by omega) (by rw [hzz2]; omega) (by unfold maxLen; omega) (Nat.le_refl _) ?_; intro w1 hown hgrow; have hmk := made_blk hown hgrow; clear hown hgrow)
    all_goals obtain ⟨hblk, hb1⟩ := hmk
    all_goals have hr := hblk.row (Dig.replicate _ _ B64_pos)
    all_goals rw [List.length_replicate] at hr
    all_goals have A1 := hB.below hb1
    all_goals have B1 := hA.below hb1
    · refine (rows_any w.heap.size 0 (l + n) _ q p l cl n cn ys xs _ hr (Nat.le_refl _) (by omega) A1 B1 (by omega) (by omega) (dj_fresh hB (by omega) 0 _) (dj_fresh hA (by omega) 0 _)).mono ?_
      rintro e w2 ⟨zs, rfl, hwr, hrow, hval⟩
      have hb2 : Below w.heap.size w w2 := hb1.trans (hwr.below (Nat.le_refl _))
      clear hwr hb1 hblk hr A1 B1
      have A2 := hrow.at_ (Nat.le_refl _) (by unfold maxLen; omega)
      have hN := Nf.trim hrow.dig
      rw [hval] at hN
      have HV : Hid (Nf B64 (trimL zs) (valB B64 ys * valB B64 xs)) := hN
      clear hval hN
      go_wp2_with fail
      refine (trim_any A2).mono ?_
      rintro e w3 ⟨p', m', rfl, hm', hp', hw⟩
      obtain rfl := hw.symm
      have HM : Hid (m' = (trimL zs).length) := hm'
      clear hw hm'
      go_wp2_with fail
      go_ret
      exact ⟨p', m', trimL zs, rfl, hrow.own (Nat.le_refl _) HM.out hp', by rw [Nat.mul_comm]; exact HV.out, hb2⟩
    · refine (HB.out (by omega) w.heap.size 0 (l + n) l cl cn q p ys xs _ _ hr (valB_replicate _ _) (Nat.le_refl _) (by omega) A1 B1 (by omega) (by omega) (dj_fresh hB (by omega) 0 _) (dj_fresh hA (by omega) 0 _)).mono ?_
      rintro e w2 ⟨zs, rfl, hcg, hrow, hval⟩
      have hb2 : Below w.heap.size w w2 := hb1.trans (hcg.below (fun b o h => by unfold Rg at h; omega) (by have := hblk.lt; omega))
      clear hcg hb1 hblk hr A1 B1
      have A2 := hrow.at_ (Nat.le_refl _) (by unfold maxLen; omega)
      have hN := Nf.trim hrow.dig
      rw [hval] at hN
      have HV : Hid (Nf B64 (trimL zs) (valB B64 ys * valB B64 xs)) := hN
      clear hval hN
      go_wp2_with fail
      refine (trim_any A2).mono ?_
      rintro e w3 ⟨p', m', rfl, hm', hp', hw⟩
      obtain rfl := hw.symm
      have HM : Hid (m' = (trimL zs).length) := hm'
      clear hw hm'
      go_wp2_with fail
      go_ret
      exact ⟨p', m', trimL zs, rfl, hrow.own (Nat.le_refl _) HM.out hp', by rw [Nat.mul_comm]; exact HV.out, hb2⟩
  · have hm : l = m := by omega
    subst hm
    go_enter Tryz.func121, Tryz.ntmps121
    go_wp2_with (at_make; refine wpList_make_full _ rfl _ _ 23 rfl w.heap.size 34 i0 (.int .u64 0) 1 Tryz.underlying23 hi hzz0 hzz1 _ _ _ _ (n + l) rfl rfl (by omega) (by omega) (by rw [hzz2]; omega) (by unfold maxLen; omega) (Nat.le_refl _) ?_; intro w1 hown hgrow; have hmk := made_blk hown hgrow; clear hown hgrow)
    all_goals obtain ⟨hblk, hb1⟩ := hmk
    all_goals have hr := hblk.row (Dig.replicate _ _ B64_pos)
    all_goals rw [List.length_replicate] at hr
    all_goals have A1 := hA.below hb1
    all_goals have B1 := hB.below hb1
    · refine (rows_any w.heap.size 0 (n + l) _ p q n cn l cl xs ys _ hr (Nat.le_refl _) (by omega) A1 B1 (by omega) (by omega) (dj_fresh hA (by omega) 0 _) (dj_fresh hB (by omega) 0 _)).mono ?_
      rintro e w2 ⟨zs, rfl, hwr, hrow, hval⟩
      have hb2 : Below w.heap.size w w2 := hb1.trans (hwr.below (Nat.le_refl _))
      clear hwr hb1 hblk hr A1 B1
      have A2 := hrow.at_ (Nat.le_refl _) (by unfold maxLen; omega)
      have hN := Nf.trim hrow.dig
      rw [hval] at hN
      have HV : Hid (Nf B64 (trimL zs) (valB B64 xs * valB B64 ys)) := hN
      clear hval hN
      go_wp2_with fail
      refine (trim_any A2).mono ?_
      rintro e w3 ⟨p', m', rfl, hm', hp', hw⟩
      obtain rfl := hw.symm
      have HM : Hid (m' = (trimL zs).length) := hm'
      clear hw hm'
      go_wp2_with fail
      go_ret
      exact ⟨p', m', trimL zs, rfl, hrow.own (Nat.le_refl _) HM.out hp', HV.out, hb2⟩
    · refine (HB.out (by omega) w.heap.size 0 (n + l) n cn cl p q xs ys _ _ hr (valB_replicate _ _) (Nat.le_refl _) (by omega) A1 B1 (by omega) (by omega) (dj_fresh hA (by omega) 0 _) (dj_fresh hB (by omega) 0 _)).mono ?_
      rintro e w2 ⟨zs, rfl, hcg, hrow, hval⟩
      have hb2 : Below w.heap.size w w2 := hb1.trans (hcg.below (fun b o h => by unfold Rg at h; omega) (by have := hblk.lt; omega))
      clear hcg hb1 hblk hr A1 B1
      have A2 := hrow.at_ (Nat.le_refl _) (by unfold maxLen; omega)
      have hN := Nf.trim hrow.dig
      rw [hval] at hN
      have HV : Hid (Nf B64 (trimL zs) (valB B64 xs * valB B64 ys)) := hN
      clear hval hN
      go_wp2_with fail
      refine (trim_any A2).mono ?_
      rintro e w3 ⟨p', m', rfl, hm', hp', hw⟩
      obtain rfl := hw.symm
      have HM : Hid (m' = (trimL zs).length) := hm'
      clear hw hm'
      go_wp2_with fail
      go_ret
      exact ⟨p', m', trimL zs, rfl, hrow.own (Nat.le_refl _) HM.out hp', HV.out, hb2⟩

theorem mul_at : ∀ (N m : Nat), m < N → MulAt m := by
  intro N
  induction N with
  | zero => intro m h; omega
  | succ N ih =>
    intro m hm
    exact mul_of_blk m (fun h48 => blk_step m h48 (fun r hr h0 => ih r (by omega)))
theorem mult_any {p q : Option Addr} {n cn l cl : Nat} {xs ys : List Nat} {w : World} (hA : At w p n cn xs) (hB : At w q l cl ys) (hn : 0 < n) (hl : 0 < l) (hn8 : n ≤ 8192) (hl8 : l ≤ 8192) :
    Calls Tryz.prog 121 #[.slice p n cn, .slice q l cl] w fun e w' => ∃ p' m' zs, e = .returned (.slice p' m' m') ∧ Own w.heap.size w' p' m' zs ∧ Nf B64 zs (valB B64 xs * valB B64 ys) ∧ Below w.heap.size w w' :=
  mul_at (min n l + 1) (min n l) (by omega) p q n cn l cl xs ys w hA hB hn hl hn8 hl8 (by omega)
theorem Nf.big {us : List Nat} {a n : Nat} (h : Nf B64 us a) (hl : us.length = n) (h0 : 0 < n) : B64 ^ (n - 1) ≤ a := by
  have := mt (h.len_le (k := n - 1) B64_one).2 (by omega)
  omega
theorem mul_big (K : Nat) {us vs : List Nat} {a b n m : Nat} (hx : Nf B64 us a) (hy : Nf B64 vs b) (hl : us.length = n) (hm : vs.length = m) (h0 : 0 < n) (h1 : 0 < m) (h : K < n + m - 1) : B64 ^ K ≤ a * b := by
  refine Nat.le_trans ?_ (Nat.mul_le_mul (hx.big hl h0) (hy.big hm h1))
  rw [← Nat.pow_add]
  exact Nat.pow_le_pow_right B64_pos (by omega)
theorem mul_lim {us vs : List Nat} {a b n m : Nat} (hx : Nf B64 us a) (hy : Nf B64 vs b) (hl : us.length = n) (hm : vs.length = m) (h0 : 0 < n) (h1 : 0 < m) (h : 8192 < n + m - 1) : LIM ≤ a * b := by
  obtain ⟨K, hK⟩ : ∃ K, K = 8192 := ⟨8192, rfl⟩
  rw [LIM_eq K hK]
  exact mul_big K hx hy hl hm h0 h1 (by omega)
theorem Nf.zero {us : List Nat} {a : Nat} (h : Nf B64 us a) (hl : us.length = 0) : a = 0 := by
  obtain rfl := List.eq_nil_of_length_eq_zero hl
  have := h.val; simp [valB] at this; omega
theorem ans_zero (B : Nat) (w : World) : Ans B w (.returned (.tuple #[.slice none 0 0, .int .i64 0])) 0 :=
  .inl ⟨(Nf.nil B64).lim.1 (by simp), none, 0, [], rfl, ⟨rfl, Dig.nil _, .inl rfl⟩, Nf.nil _, by omega⟩

theorem mul_any {p q : Option Addr} {n m c d : Nat} {xs ys : List Nat} {a b : Nat} {w : World} (h : At w p n c xs) (k : At w q m d ys) (hx : Nf B64 xs a) (hy : Nf B64 ys b) (hlx : n ≤ 8192) (hly : m ≤ 8192) :
    Calls Tryz.prog 99 #[.slice p n c, .slice q m d] w fun e w' => Ans w.heap.size w' e (a * b) ∧ Below w.heap.size w w' := by
  have fx := hx.form (by rw [h.len]; exact hlx)
  have fy := hy.form (by rw [k.len]; exact hly)
  have HX : Hid (Nf B64 xs a) := hx
  have HY : Hid (Nf B64 ys b) := hy
  clear hx hy
  go_enter Tryz.func99, Tryz.ntmps99
  go_wp2_with fail
  refine (form_true h fx).mono ?_
  rintro e w' ⟨rfl, hw⟩
  obtain rfl := hw.symm
  clear hw
  go_wp2_with fail
  refine (form_true k fy).mono ?_
  rintro e w' ⟨rfl, hw⟩
  obtain rfl := hw.symm
  clear hw fx fy
  by_cases hn0 : n = 0
  · have HA : Hid (a = 0) := HX.out.zero (by rw [h.len]; exact hn0)
    subst hn0
    go_wp2_with fail
    go_ret2
    rw [HA.out, Nat.zero_mul]
    exact ⟨ans_zero _ _, Below.refl _ _⟩
  · by_cases hm0 : m = 0
    · have HA : Hid (b = 0) := HY.out.zero (by rw [k.len]; exact hm0)
      subst hm0
      go_wp2_with fail
      go_ret2
      rw [HA.out, Nat.mul_zero]
      exact ⟨ans_zero _ _, Below.refl _ _⟩
    · have hn0' : ((n : Int) == 0) = false := by simp; omega
      have hm0' : ((m : Int) == 0) = false := by simp; omega
      by_cases hbig : 8192 < n + m - 1
      · go_wp2_with fail
        go_ret2
        exact ⟨.inr ⟨mul_lim HX.out HY.out h.len k.len (by omega) (by omega) hbig, rfl⟩, Below.refl _ _⟩
      · go_wp2_with fail
        refine (mult_any h k (by omega) (by omega) hlx hly).mono ?_
        rintro e w1 ⟨p', m', zs, rfl, ho, hN, hb⟩
        rw [HX.out.val, HY.out.val] at hN
        have HV : Hid (Nf B64 zs (a * b)) := hN
        have HO : Hid (Own w.heap.size w1 p' m' zs) := ho
        have hlen : zs.length = m' := ho.1
        have HL : Hid (zs.length = m') := hlen
        clear hN ho hlen
        by_cases hle : m' ≤ 8192
        · go_wp2_with fail
          go_ret2
          exact ⟨.inl ⟨HV.out.lim.1 (by rw [HL.out]; exact hle), p', m', zs, rfl, HO.out, HV.out, hle⟩, hb⟩
        · go_wp2_with fail
          go_ret2
          refine ⟨.inr ⟨?_, rfl⟩, hb⟩
          have := mt HV.out.lim.2 (by rw [HL.out]; exact hle)
          omega
theorem sqr_any {p : Option Addr} {n c : Nat} {xs : List Nat} {a : Nat} {w : World} (h : At w p n c xs) (hx : Nf B64 xs a) (hlx : n ≤ 8192) :
    Calls Tryz.prog 76 #[.slice p n c] w fun e w' => Ans w.heap.size w' e (a * a) ∧ Below w.heap.size w w' := by
  have HX : Hid (Nf B64 xs a) := hx
  clear hx
  go_enter Tryz.func76, Tryz.ntmps76
  go_wp2_with fail
  refine (mul_any h h HX.out HX.out hlx hlx).mono ?_
  rintro e w1 ⟨ha, hb⟩
  rcases ha with ⟨hl, p1, m1, zs, rfl, ho, hn1, hm1⟩ | ⟨hl, rfl⟩
  · have HL : Hid (a * a < LIM) := hl
    clear hl
    go_wp2_with fail
    go_ret2
    exact ⟨.inl ⟨HL.out, p1, m1, zs, rfl, ho, hn1, hm1⟩, hb⟩
  · have HL : Hid (LIM ≤ a * a) := hl
    clear hl
    go_wp2_with fail
    go_ret2
    exact ⟨.inr ⟨HL.out, rfl⟩, hb⟩
theorem Nf.drop {xs : List Nat} {a k : Nat} (hx : Nf B64 xs a) (hk : k ≤ xs.length) : Nf B64 (xs.drop k) (a / B64 ^ k) := by
  refine ⟨hx.dig.drop k, ?_, drop_div hx hk⟩
  intro x h
  refine hx.top x ?_
  by_cases hkl : k < xs.length
  · rw [List.getLast?_drop, if_neg (by omega)] at h; exact h
  · rw [List.drop_of_length_le (by omega)] at h; simp at h
theorem Nf.low {xs : List Nat} {a k : Nat} (hx : Nf B64 xs a) (hk : k ≤ xs.length) : Nf B64 (trimL (xs.take k)) (a % B64 ^ k) := by
  have h := Nf.trim (hx.dig.take k)
  rw [take_mod hx hk] at h; exact h
structure Num (w : World) (p : Option Addr) (m c : Nat) (xs : List Nat) (a : Nat) : Prop where
  at_ : At w p m c xs
  nf : Nf B64 xs a
  le : m ≤ 8192
theorem Num.below {w w' : World} {p : Option Addr} {m c : Nat} {xs : List Nat} {a : Nat} (h : Num w p m c xs a) (hb : Below w.heap.size w w') : Num w' p m c xs a := ⟨h.at_.below hb, h.nf, h.le⟩
theorem Num.lim {w : World} {p : Option Addr} {m c : Nat} {xs : List Nat} {a : Nat} (h : Num w p m c xs a) : a < LIM := h.nf.lim.1 (by rw [h.at_.len]; exact h.le)
theorem Num.of {B : Nat} {w : World} {p : Option Addr} {m : Nat} {xs : List Nat} {a : Nat} (ho : Own B w p m xs) (hn : Nf B64 xs a) (hm : m ≤ 8192) : Num w p m m xs a := ⟨ho.at_ hm, hn, hm⟩
end Go.Proofs.YtpebgjpfgfimgaaGreatDoor
namespace Go.Proofs.YtpebgjpfgfimgaaGreatDoor
open Go.RowKit Go.Shelf
set_option maxRecDepth 20000
set_option maxHeartbeats 0
theorem join_any {p q : Option Addr} {n m c d : Nat} {xs ys : List Nat} {a b : Nat} {w : World} (h : Num w p n c xs a) (k : Num w q m d ys b) (K : Nat) (hK : K ≤ 9223372036854775807) (hl : 2 ^ K * a + b < LIM) :
    Calls Tryz.prog 53 #[.slice p n c, .slice q m d, .int .i64 K] w fun e w' => ∃ p' m' zs, e = .returned (.slice p' m' m') ∧ Own w.heap.size w' p' m' zs ∧ Nf B64 zs (2 ^ K * a + b) ∧ m' ≤ 8192 ∧ Below w.heap.size w w' := by
  have H : Hid (Num w p n c xs a) := h
  have KK : Hid (Num w q m d ys b) := k
  have L : Hid (2 ^ K * a + b < LIM) := hl
  clear h k hl
  go_enter Tryz.func53, Tryz.ntmps53
  go_wp2_with fail
  refine (shl_nf H.out.at_ H.out.nf H.out.le K hK).mono ?_
  rintro e w1 ⟨ha1, hb1⟩
  obtain ⟨p1, m1, z1, rfl, ho1, hn1, hm1⟩ := ha1.ok (Nat.lt_of_le_of_lt (Nat.le_add_right _ _) L.out)
  have N1 : Hid (Num w1 p1 m1 m1 z1 (2 ^ K * a)) := Num.of ho1 hn1 hm1
  have K1 : Hid (Num w1 q m d ys b) := KK.out.below hb1
  clear ha1 ho1 hn1
  go_wp2_with fail
  refine (add_ord N1.out.at_ K1.out.at_ N1.out.nf K1.out.nf N1.out.le K1.out.le).mono ?_
  rintro e w2 ⟨ha2, hb2⟩
  obtain ⟨p2, m2, z2, rfl, ho2, hn2, hm2⟩ := ha2.ok L.out
  have N2 : Hid (Nf B64 z2 (2 ^ K * a + b)) := hn2
  have hbw := Below.on hb1 hb2
  have hsz := hb1.size
  clear ha2 hn2
  go_wp2_with fail
  go_ret
  exact ⟨p2, m2, z2, rfl, ho2.mono hsz, N2.out, hm2, hbw⟩

theorem cmp_nf {p q : Option Addr} {n m c d : Nat} {xs ys : List Nat} {a b : Nat} {w : World} (h : Num w p n c xs a) (k : Num w q m d ys b) :
    Calls Tryz.prog 77 #[.slice p n c, .slice q m d] w fun e w' => e = .returned (.int .i64 (cmpN a b)) ∧ Below w.heap.size w w' := by
  have := cmp_w h.at_ k.at_
  rw [h.nf.val, k.nf.val] at this; exact this

structure SettleTo (B : Nat) (s r : Nat) (v1 v2 : Value) (w w' : World) : Prop where
  v1 : ∃ p m zs, v1 = .slice p m m ∧ Own B w' p m zs ∧ Nf B64 zs s ∧ m ≤ 8192
  v2 : ∃ p m zs, v2 = .slice p m m ∧ Own B w' p m zs ∧ Nf B64 zs r ∧ m ≤ 8192
  bel : Below w.heap.size w w'

theorem sub_ok {p q : Option Addr} {n m c d : Nat} {xs ys : List Nat} {a b : Nat} {w : World} (h : Num w p n c xs a) (k : Num w q m d ys b) (hle : b ≤ a) :
    Calls Tryz.prog 78 #[.slice p n c, .slice q m d] w fun e w' => (∃ p m zs, e = .returned (.tuple #[.slice p m m, .int .i64 0]) ∧ Own w.heap.size w' p m zs ∧ Nf B64 zs (a - b) ∧ m ≤ 8192) ∧ Below w.heap.size w w' := by
  refine (sub_nf h.at_ k.at_ h.nf k.nf h.le k.le).mono ?_
  rintro e w' ⟨h1 | h1, hb⟩
  · exact ⟨h1.2, hb⟩
  · exact absurd h1.1 (by omega)

theorem settle_any {p q r : Option Addr} {n m l : Nat} {xs ys zs : List Nat} {R Lft D B : Nat} {w : World} (h0 : Own B w p n xs) (hB : B ≤ w.heap.size) (h : Num w p n n xs R) (k : Num w q m m ys Lft) (t : Num w r l l zs D) (hD : D * D < LIM) (hR : 2 * R < LIM) (hL : Lft + 2 * R < LIM) (hlow : Lft < D * D → 1 ≤ R ∧ D * D ≤ Lft + 2 * R - 1) :
    Calls Tryz.prog 54 #[.slice p n n, .slice q m m, .slice r l l] w fun e w' => ∃ v1 v2, e = .returned (.tuple #[v1, v2]) ∧
      SettleTo B (if Lft < D * D then R - 1 else R) (if Lft < D * D then Lft + 2 * R - 1 - D * D else Lft - D * D) v1 v2 w w' := by
  obtain ⟨S, hS⟩ : ∃ S, S = if Lft < D * D then R - 1 else R := ⟨_, rfl⟩
  obtain ⟨T, hT⟩ : ∃ T, T = if Lft < D * D then Lft + 2 * R - 1 - D * D else Lft - D * D := ⟨_, rfl⟩
  rw [← hS, ← hT]
  have HS : Hid (S = if Lft < D * D then R - 1 else R) := hS
  have HT : Hid (T = if Lft < D * D then Lft + 2 * R - 1 - D * D else Lft - D * D) := hT
  have HO : Hid (Own B w p n xs) := h0
  have H : Hid (Num w p n n xs R) := h
  have K : Hid (Num w q m m ys Lft) := k
  have TT : Hid (Num w r l l zs D) := t
  have LD : Hid (D * D < LIM) := hD
  have LR : Hid (2 * R < LIM) := hR
  have LL : Hid (Lft + 2 * R < LIM) := hL
  have HLOW : Hid (Lft < D * D → 1 ≤ R ∧ D * D ≤ Lft + 2 * R - 1) := hlow
  have hBs := hB
  clear hS hT h0 h k t hD hR hL hlow
  go_enter Tryz.func54, Tryz.ntmps54
  go_wp2_with fail
  refine (sqr_any TT.out.at_ TT.out.nf TT.out.le).mono ?_
  rintro e v1 ⟨ha1, hb1⟩
  obtain ⟨r1, t1, y1, rfl, ho1, hn1, hm1⟩ := ha1.ok LD.out
  have SQ : Hid (Num v1 r1 t1 t1 y1 (D * D)) := Num.of ho1 hn1 hm1
  clear ha1 ho1 hn1
  have hBsy : B ≤ v1.heap.size := Nat.le_trans hBs hb1.size
  clear hBs
  have hBs := hBsy
  clear hBsy
  replace HO : Hid (Own B v1 p n xs) := HO.out.below hb1
  replace H : Hid _ := H.out.below hb1
  replace K : Hid _ := K.out.below hb1
  have hbw := hb1
  clear hb1
  clear TT
  go_wp2_with fail
  refine (cmp_nf K.out SQ.out).mono ?_
  rintro e v2 ⟨rfl, hb2⟩
  have hBsy : B ≤ v2.heap.size := Nat.le_trans hBs hb2.size
  clear hBs
  have hBs := hBsy
  clear hBsy
  replace HO : Hid (Own B v2 p n xs) := HO.out.below hb2
  replace H : Hid _ := H.out.below hb2
  replace K : Hid _ := K.out.below hb2
  replace SQ : Hid _ := SQ.out.below hb2
  have hbwy := Below.on hbw hb2
  clear hbw
  have hbw := hbwy
  clear hbwy
  clear hb2
  by_cases hlt : Lft < D * D
  · have hc : cmpN Lft (D * D) = -1 := cmpN_lt hlt
    rw [hc]
    have HL : Hid (1 ≤ R ∧ D * D ≤ Lft + 2 * R - 1) := HLOW.out hlt
    have ES : Hid (S = R - 1) := by have := HS.out; rw [if_pos hlt] at this; exact this
    have ET : Hid (T = Lft + 2 * R - 1 - D * D) := by have := HT.out; rw [if_pos hlt] at this; exact this
    clear hc hlt HS HT
    go_wp2_with fail
    rw [show Value.int IntKind.i64 1 = .int .i64 ((1 : Nat) : Int) from rfl]
    go_wp2_with fail
    refine (shl_nf H.out.at_ H.out.nf H.out.le 1 (by omega)).mono ?_
    rintro e v3 ⟨ha3, hb3⟩
    rw [Nat.pow_one] at ha3
    obtain ⟨r3, t3, y3, rfl, ho3, hn3, hm3⟩ := ha3.ok LR.out
    have TW : Hid (Num v3 r3 t3 t3 y3 (2 * R)) := Num.of ho3 hn3 hm3
    clear ha3 ho3 hn3
    have hBsy : B ≤ v3.heap.size := Nat.le_trans hBs hb3.size
    clear hBs
    have hBs := hBsy
    clear hBsy
    replace HO : Hid (Own B v3 p n xs) := HO.out.below hb3
    replace H : Hid _ := H.out.below hb3
    replace K : Hid _ := K.out.below hb3
    replace SQ : Hid _ := SQ.out.below hb3
    have hbwy := Below.on hbw hb3
    clear hbw
    have hbw := hbwy
    clear hbwy
    clear hb3
    go_wp2_with fail
    rw [show Value.int IntKind.u64 1 = U 1 from rfl]
    refine (word_any 1 v3 (by decide)).mono ?_
    rintro e v4 ⟨r4, t4, y4, rfl, ho4, hn4, hm4, hb4⟩
    have ONE : Hid (Num v4 r4 t4 t4 y4 1) := Num.of ho4 hn4 (by omega)
    clear ho4 hn4
    have hBsy : B ≤ v4.heap.size := Nat.le_trans hBs hb4.size
    clear hBs
    have hBs := hBsy
    clear hBsy
    replace HO : Hid (Own B v4 p n xs) := HO.out.below hb4
    replace H : Hid _ := H.out.below hb4
    replace K : Hid _ := K.out.below hb4
    replace SQ : Hid _ := SQ.out.below hb4
    replace TW : Hid _ := TW.out.below hb4
    have hbwy := Below.on hbw hb4
    clear hbw
    have hbw := hbwy
    clear hbwy
    clear hb4
    go_wp2_with fail
    refine (sub_ok H.out ONE.out HL.out.1).mono ?_
    rintro e v5 ⟨⟨r5, t5, y5, rfl, ho5, hn5, hm5⟩, hb5⟩
    have RM : Hid (Num v5 r5 t5 t5 y5 (R - 1)) := Num.of ho5 hn5 hm5
    have RMo : Hid (Own B v5 r5 t5 y5) := ho5.mono hBs
    clear ho5 hn5
    have hBsy : B ≤ v5.heap.size := Nat.le_trans hBs hb5.size
    clear hBs
    have hBs := hBsy
    clear hBsy
    replace HO : Hid (Own B v5 p n xs) := HO.out.below hb5
    replace H : Hid _ := H.out.below hb5
    replace K : Hid _ := K.out.below hb5
    replace SQ : Hid _ := SQ.out.below hb5
    replace TW : Hid _ := TW.out.below hb5
    replace ONE : Hid _ := ONE.out.below hb5
    have hbwy := Below.on hbw hb5
    clear hbw
    have hbw := hbwy
    clear hbwy
    clear hb5
    clear ONE
    clear H
    clear HO
    go_wp2_with fail
    refine (add_ord K.out.at_ TW.out.at_ K.out.nf TW.out.nf K.out.le TW.out.le).mono ?_
    rintro e v6 ⟨ha6, hb6⟩
    obtain ⟨r6, t6, y6, rfl, ho6, hn6, hm6⟩ := ha6.ok LL.out
    have LT : Hid (Num v6 r6 t6 t6 y6 (Lft + 2 * R)) := Num.of ho6 hn6 hm6
    clear ha6 ho6 hn6
    have hBsy : B ≤ v6.heap.size := Nat.le_trans hBs hb6.size
    clear hBs
    have hBs := hBsy
    clear hBsy
    replace K : Hid _ := K.out.below hb6
    replace SQ : Hid _ := SQ.out.below hb6
    replace TW : Hid _ := TW.out.below hb6
    replace RM : Hid _ := RM.out.below hb6
    replace RMo : Hid (Own B v6 r5 t5 y5) := RMo.out.below hb6
    have hbwy := Below.on hbw hb6
    clear hbw
    have hbw := hbwy
    clear hbwy
    clear hb6
    clear K
    clear TW
    go_wp2_with fail
    rw [show Value.int IntKind.u64 1 = U 1 from rfl]
    refine (word_any 1 v6 (by decide)).mono ?_
    rintro e v7 ⟨r7, t7, y7, rfl, ho7, hn7, hm7, hb7⟩
    have ONE : Hid (Num v7 r7 t7 t7 y7 1) := Num.of ho7 hn7 (by omega)
    clear ho7 hn7
    have hBsy : B ≤ v7.heap.size := Nat.le_trans hBs hb7.size
    clear hBs
    have hBs := hBsy
    clear hBsy
    replace SQ : Hid _ := SQ.out.below hb7
    replace RM : Hid _ := RM.out.below hb7
    replace RMo : Hid (Own B v7 r5 t5 y5) := RMo.out.below hb7
    replace LT : Hid _ := LT.out.below hb7
    have hbwy := Below.on hbw hb7
    clear hbw
    have hbw := hbwy
    clear hbwy
    clear hb7
    go_wp2_with fail
    refine (sub_ok LT.out ONE.out (by have := HL.out.1; omega)).mono ?_
    rintro e v8 ⟨⟨r8, t8, y8, rfl, ho8, hn8, hm8⟩, hb8⟩
    have LM : Hid (Num v8 r8 t8 t8 y8 (Lft + 2 * R - 1)) := Num.of ho8 hn8 hm8
    clear ho8 hn8
    have hBsy : B ≤ v8.heap.size := Nat.le_trans hBs hb8.size
    clear hBs
    have hBs := hBsy
    clear hBsy
    replace SQ : Hid _ := SQ.out.below hb8
    replace RM : Hid _ := RM.out.below hb8
    replace RMo : Hid (Own B v8 r5 t5 y5) := RMo.out.below hb8
    replace LT : Hid _ := LT.out.below hb8
    replace ONE : Hid _ := ONE.out.below hb8
    have hbwy := Below.on hbw hb8
    clear hbw
    have hbw := hbwy
    clear hbwy
    clear hb8
    clear ONE
    clear LT
    go_wp2_with fail
    refine (sub_ok LM.out SQ.out HL.out.2).mono ?_
    rintro e v9 ⟨⟨r9, t9, y9, rfl, ho9, hn9, hm9⟩, hb9⟩
    have RE : Hid (Num v9 r9 t9 t9 y9 (Lft + 2 * R - 1 - D * D)) := Num.of ho9 hn9 hm9
    have REo : Hid (Own B v9 r9 t9 y9) := ho9.mono hBs
    clear ho9 hn9
    have hBsy : B ≤ v9.heap.size := Nat.le_trans hBs hb9.size
    clear hBs
    have hBs := hBsy
    clear hBsy
    replace SQ : Hid _ := SQ.out.below hb9
    replace RM : Hid _ := RM.out.below hb9
    replace RMo : Hid (Own B v9 r5 t5 y5) := RMo.out.below hb9
    replace LM : Hid _ := LM.out.below hb9
    have hbwy := Below.on hbw hb9
    clear hbw
    have hbw := hbwy
    clear hbwy
    clear hb9
    clear LM
    clear SQ
    go_wp2_with fail
    go_ret2
    refine ⟨_, _, rfl, ⟨_, _, _, rfl, RMo.out, ?_, RM.out.le⟩, ⟨_, _, _, rfl, REo.out, ?_, RE.out.le⟩, hbw⟩
    · rw [ES.out]; exact RM.out.nf
    · rw [ET.out]; exact RE.out.nf
  · have ES : Hid (S = R) := by have := HS.out; rw [if_neg hlt] at this; exact this
    have ET : Hid (T = Lft - D * D) := by have := HT.out; rw [if_neg hlt] at this; exact this
    have HGE : Hid (D * D ≤ Lft) := by show _ ≤ _; omega
    obtain ⟨cc, hcc⟩ : ∃ cc, cc = cmpN Lft (D * D) := ⟨_, rfl⟩
    have hcn : decide (cc < 0) = false := decide_eq_false (by rw [hcc, cmpN_neg]; exact hlt)
    rw [← hcc]
    clear hcc hlt HS HT
    go_wp2_with fail
    refine (sub_ok K.out SQ.out HGE.out).mono ?_
    rintro e v3 ⟨⟨r3, t3, y3, rfl, ho3, hn3, hm3⟩, hb3⟩
    have RE : Hid (Num v3 r3 t3 t3 y3 (Lft - D * D)) := Num.of ho3 hn3 hm3
    have REo : Hid (Own B v3 r3 t3 y3) := ho3.mono hBs
    clear ho3 hn3
    have hBsy : B ≤ v3.heap.size := Nat.le_trans hBs hb3.size
    clear hBs
    have hBs := hBsy
    clear hBsy
    replace HO : Hid (Own B v3 p n xs) := HO.out.below hb3
    replace H : Hid _ := H.out.below hb3
    replace K : Hid _ := K.out.below hb3
    replace SQ : Hid _ := SQ.out.below hb3
    have hbwy := Below.on hbw hb3
    clear hbw
    have hbw := hbwy
    clear hbwy
    clear hb3
    clear K
    clear SQ
    go_wp2_with fail
    go_ret2
    refine ⟨_, _, rfl, ⟨_, _, _, rfl, HO.out, ?_, H.out.le⟩, ⟨_, _, _, rfl, REo.out, ?_, RE.out.le⟩, hbw⟩
    · rw [ES.out]; exact H.out.nf
    · rw [ET.out]; exact RE.out.nf
theorem wordroot_nil (p : Option Addr) (c : Nat) (w : World) :
    Calls Tryz.prog 49 #[.slice p 0 c] w fun e w' => e = .returned (.tuple #[.slice none 0 0, .slice none 0 0]) ∧ w' = w := by
  go_enter Tryz.func49, Tryz.ntmps49
  go_wp2_with fail
  go_ret2
  exact ⟨rfl, rfl⟩
theorem rootto_zero (w : World) : RootTo w 0 (.slice none 0 0) (.slice none 0 0) w :=
  ⟨⟨0, none, 0, [], none, 0, [], by omega, by omega, rfl, ⟨rfl, Dig.nil _, .inl rfl⟩, Nf.nil _, by omega, rfl, ⟨rfl, Dig.nil _, .inl rfl⟩, Nf.nil _, by omega⟩, Below.refl _ _⟩
theorem wrap_two (k : Nat) (h : k ≤ 1000000) : IntKind.i64.wrap ((2 : Int) * (k : Int)) = ((2 * k : Nat) : Int) := by
  have : ((2 : Int) * (k : Int)) = ((2 * k : Nat) : Int) := by simp
  rw [this]
  simp [IntKind.wrap, IntKind.signed, IntKind.bits]
  omega

theorem rootof_any : ∀ (N a : Nat), a ≤ N → ∀ {p : Option Addr} {n c : Nat} {xs : List Nat} {w : World}, At w p n c xs → Nf B64 xs a → n ≤ 8192 →
    Calls Tryz.prog 25 #[.slice p n c] w fun e w' => ∃ v1 v2, e = .returned (.tuple #[v1, v2]) ∧ RootTo w a v1 v2 w' := by
  intro N
  induction N with
  | zero =>
    intro a ha p n c xs w h hx hn
    obtain rfl : a = 0 := by omega
    have hn0 : n = 0 := by
      have := (hx.zero_iff B64_one).2 rfl
      rw [← h.len, this]; rfl
    subst hn0
    clear h hx
    go_enter Tryz.func25, Tryz.ntmps25
    go_wp2_with fail
    refine (wordroot_nil p c w).mono ?_
    rintro e w' ⟨rfl, hw⟩
    obtain rfl := hw.symm
    clear hw
    go_wp2_with fail
    go_ret2
    exact ⟨_, _, rfl, rootto_zero w⟩
  | succ N ih =>
    intro a ha p n c xs w h hx hn
    by_cases hn0 : n = 0
    · subst hn0
      have ha0 : a = 0 := (hx.zero_iff B64_one).1 (List.eq_nil_of_length_eq_zero h.len)
      have HA0 : Hid (a = 0) := ha0
      clear h hx ih ha ha0
      go_enter Tryz.func25, Tryz.ntmps25
      go_wp2_with fail
      refine (wordroot_nil p c w).mono ?_
      rintro e w' ⟨rfl, hw⟩
      obtain rfl := hw.symm
      clear hw
      go_wp2_with fail
      go_ret2
      rw [HA0.out]
      exact ⟨_, _, rfl, rootto_zero w⟩
    · obtain ⟨g, off, rfl, _⟩ := h.cells.resolve_left hn0
      by_cases hn1 : n = 1
      · subst hn1
        have e1 := hx.one h.len
        subst e1
        have ha0 : a ≠ 0 := hx.top a (by simp)
        clear ih ha hx
        go_enter Tryz.func25, Tryz.ntmps25
        go_wp2_with fail
        refine (wordroot_any h ha0).mono ?_
        rintro e w1 ⟨v1, v2, rfl, hR⟩
        have HR : Hid (RootTo w a v1 v2 w1) := hR
        clear hR
        go_wp2_with fail
        go_ret2
        exact ⟨_, _, rfl, HR.out⟩
      · have hbig := hx.big h.len (by omega)
        have h64 : 2 ^ 64 ≤ a := by
          refine Nat.le_trans ?_ hbig
          rw [show (2 : Nat) ^ 64 = B64 ^ 1 from rfl]
          exact Nat.pow_le_pow_right B64_pos (by omega)
        have hal : a < LIM := hx.lim.1 (by rw [h.len]; exact hn)
        obtain ⟨nb, hnb⟩ : ∃ nb, nb = bitsN a := ⟨_, rfl⟩
        have hnb65 : 65 ≤ nb := by
          rcases Nat.lt_or_ge nb 65 with e | e
          · have := (lt_pow_bits a 64).2 (by omega); omega
          · exact e
        have hnbt : nb ≤ 524288 := by rw [hnb, ← lim_bits]; exact hal
        obtain ⟨k, hk⟩ : ∃ k, k = nb / 4 := ⟨_, rfl⟩
        have hkb : k ≤ 131072 := by omega
        have hup : a / 2 ^ (2 * k) ≤ N := by
          have : a / 2 ^ (2 * k) < a := Nat.div_lt_self (by omega) (Nat.one_lt_two_pow (by omega))
          omega
        have HUP : Hid (a / 2 ^ (2 * k) ≤ N) := hup
        have HAL : Hid (a < LIM) := hal
        have HNB : Hid (nb = bitsN a) := hnb
        have HKE : Hid (k = nb / 4) := hk
        have HIH : Hid (∀ a, a ≤ N → ∀ {p : Option Addr} {n c : Nat} {xs : List Nat} {w : World}, At w p n c xs → Nf B64 xs a → n ≤ 8192 → Calls Tryz.prog 25 #[.slice p n c] w fun e w' => ∃ v1 v2, e = .returned (.tuple #[v1, v2]) ∧ RootTo w a v1 v2 w') := ih
        have hkt : (nb : Int).tdiv 4 = (k : Int) := by rw [Int.tdiv_eq_ediv_of_nonneg (by omega)]; omega
        have hw2 : IntKind.i64.wrap ((2 : Int) * (k : Int)) = ((2 * k : Nat) : Int) := wrap_two k (by omega)
        have A : Hid (Num w (some ⟨g, off, none⟩) n c xs a) := ⟨h, hx, hn⟩
        have hBs : w.heap.size ≤ w.heap.size := Nat.le_refl _
        have hn2 : decide ((n : Int) < 2) = false := decide_eq_false (by omega)
        clear h hx hbig h64 hal hnb hk hup ih ha
        go_enter Tryz.func25, Tryz.ntmps25
        go_wp2_with fail
        refine (bits_any A.out.at_ (by omega)).mono ?_
        rintro e w' ⟨rfl, hw⟩
        obtain rfl := hw.symm
        clear hw
        rw [A.out.nf.val, ← HNB.out]
        go_wp2_with fail
        rw [show ((2 : Int) * (k : Int)) = ((2 * k : Nat) : Int) by omega]
        go_wp2_with fail
        refine (shr_nf A.out.at_ A.out.nf A.out.le (2 * k) (by omega)).mono ?_
        rintro e v1 ⟨⟨r1, t1, y1, rfl, ho1, hn1, hm1⟩, hb1⟩
        have UP : Hid (Num v1 r1 t1 t1 y1 (a / 2 ^ (2 * k))) := Num.of ho1 hn1 hm1
        clear ho1 hn1
        have hBsy : w.heap.size ≤ v1.heap.size := Nat.le_trans hBs hb1.size
        clear hBs
        have hBs := hBsy
        clear hBsy
        replace A : Hid _ := A.out.below hb1
        have hbw := hb1
        clear hb1
        go_wp2_with fail
        refine (HIH.out _ HUP.out UP.out.at_ UP.out.nf UP.out.le).mono ?_
        rintro e v2 ⟨u1, u2, rfl, hR2⟩
        obtain ⟨hf, ph, mh, zh, pl, ml, zl, hh1, hh2, rfl, oh, nh, lh, rfl, ol, nl, ll⟩ := hR2.val
        have hb2 := hR2.bel
        have HF : Hid (Num v2 ph mh mh zh hf) := Num.of oh nh lh
        have LE : Hid (Num v2 pl ml ml zl (a / 2 ^ (2 * k) - hf * hf)) := Num.of ol nl ll
        have HH : Hid (hf * hf ≤ a / 2 ^ (2 * k) ∧ a / 2 ^ (2 * k) ≤ hf * hf + 2 * hf) := ⟨hh1, hh2⟩
        clear hR2 hh1 hh2 oh nh ol nl
        clear UP
        have hBsy : w.heap.size ≤ v2.heap.size := Nat.le_trans hBs hb2.size
        clear hBs
        have hBs := hBsy
        clear hBsy
        replace A : Hid _ := A.out.below hb2
        have hbwy := Below.on hbw hb2
        clear hbw
        have hbw := hbwy
        clear hbwy
        clear hb2
        go_wp2_with fail
        rw [show ((2 : Int) * (k : Int)) = ((2 * k : Nat) : Int) by omega]
        go_wp2_with fail
        refine (low_nf A.out.at_ A.out.nf A.out.le (2 * k) (by omega)).mono ?_
        rintro e v3 ⟨⟨r3, t3, y3, rfl, ho3, hn3, hm3⟩, hb3⟩
        have LOW : Hid (Num v3 r3 t3 t3 y3 (a % 2 ^ (2 * k))) := Num.of ho3 hn3 hm3
        clear ho3 hn3
        have hBsy : w.heap.size ≤ v3.heap.size := Nat.le_trans hBs hb3.size
        clear hBs
        have hBs := hBsy
        clear hBsy
        replace A : Hid _ := A.out.below hb3
        replace HF : Hid _ := HF.out.below hb3
        replace LE : Hid _ := LE.out.below hb3
        have hbwy := Below.on hbw hb3
        clear hbw
        have hbw := hbwy
        clear hbwy
        clear hb3
        clear A
        go_wp2_with fail
        refine (shr_nf LOW.out.at_ LOW.out.nf LOW.out.le k (by omega)).mono ?_
        rintro e v4 ⟨⟨r4, t4, y4, rfl, ho4, hn4, hm4⟩, hb4⟩
        have NX : Hid (Num v4 r4 t4 t4 y4 (a % 2 ^ (2 * k) / 2 ^ k)) := Num.of ho4 hn4 hm4
        clear ho4 hn4
        have hBsy : w.heap.size ≤ v4.heap.size := Nat.le_trans hBs hb4.size
        clear hBs
        have hBs := hBsy
        clear hBsy
        replace HF : Hid _ := HF.out.below hb4
        replace LE : Hid _ := LE.out.below hb4
        replace LOW : Hid _ := LOW.out.below hb4
        have hbwy := Below.on hbw hb4
        clear hbw
        have hbw := hbwy
        clear hbwy
        clear hb4
        go_wp2_with fail
        refine (low_nf LOW.out.at_ LOW.out.nf LOW.out.le k (by omega)).mono ?_
        rintro e v5 ⟨⟨r5, t5, y5, rfl, ho5, hn5, hm5⟩, hb5⟩
        have LA : Hid (Num v5 r5 t5 t5 y5 (a % 2 ^ (2 * k) % 2 ^ k)) := Num.of ho5 hn5 hm5
        clear ho5 hn5
        have hBsy : w.heap.size ≤ v5.heap.size := Nat.le_trans hBs hb5.size
        clear hBs
        have hBs := hBsy
        clear hBsy
        replace HF : Hid _ := HF.out.below hb5
        replace LE : Hid _ := LE.out.below hb5
        replace LOW : Hid _ := LOW.out.below hb5
        replace NX : Hid _ := NX.out.below hb5
        have hbwy := Below.on hbw hb5
        clear hbw
        have hbw := hbwy
        clear hbwy
        clear hb5
        clear LOW
        obtain ⟨l, hl⟩ : ∃ l, l = a / 2 ^ (2 * k) - hf * hf := ⟨_, rfl⟩
        obtain ⟨nx, hnx⟩ : ∃ nx, nx = a % 2 ^ (2 * k) / 2 ^ k := ⟨_, rfl⟩
        obtain ⟨la, hla⟩ : ∃ la, la = a % 2 ^ (2 * k) % 2 ^ k := ⟨_, rfl⟩
        rw [← hl] at LE
        rw [← hnx] at NX
        rw [← hla] at LA
        have hhb := half_big HNB.out HKE.out hnb65 HH.out.2
        have hC : RootC a hf (2 ^ k) ((2 ^ k * l + nx) / (2 * hf)) ((2 ^ k * l + nx) % (2 * hf)) la := by
          have hs := split_low a k
          rw [← hnx, ← hla] at hs
          refine root_core (l := l) (next := nx) ?_ ?_ ?_ ?_ ?_ ?_ hhb.1 hhb.2
          · have h1 := HH.out.1
            have h2 : hf * hf + l = a / 2 ^ (2 * k) := by omega
            rw [h2]; exact hs
          · have := HH.out; omega
          · rw [hnx]; refine Nat.div_lt_of_lt_mul ?_
            rw [← Nat.pow_add, show k + k = 2 * k by omega]; exact Nat.mod_lt _ (Nat.two_pow_pos _)
          · rw [hla]; exact Nat.mod_lt _ (Nat.two_pow_pos _)
          · have h9 := Nat.div_add_mod (2 ^ k * l + nx) (2 * hf)
            rw [Nat.mul_comm (2 * hf) ((2 ^ k * l + nx) / (2 * hf))] at h9
            exact h9.symm
          · exact Nat.mod_lt _ (by omega)
        have hX : 2 ^ k * l + nx < LIM := by
          have h1 := Nat.div_add_mod (2 ^ k * l + nx) (2 * hf)
          have h2 := Nat.mod_lt (2 ^ k * l + nx) (show 2 * hf > 0 by omega)
          have h3 := hC.le; have h4 := HAL.out; have h5 := hC.dP
          have h6 : 2 * hf * ((2 ^ k * l + nx) / (2 * hf)) ≤ 2 * hf * 2 ^ k := Nat.mul_le_mul_left _ h5
          have h7 : 2 * hf * 2 ^ k = 2 * (2 ^ k * hf) := by rw [Nat.mul_assoc, Nat.mul_comm hf]
          generalize 2 * hf * ((2 ^ k * l + nx) / (2 * hf)) = Y at *
          omega
        have HX : Hid (2 ^ k * l + nx < LIM) := hX
        have H2 : Hid (2 * hf < LIM) := by have := hC.le; have := HAL.out; show _ < _; omega
        have HF0 : Hid (2 * hf ≠ 0) := by have := hhb.2; show _ ≠ _; omega
        clear hX
        obtain ⟨X, eX⟩ : ∃ X, X = 2 ^ k * l + nx := ⟨_, rfl⟩
        obtain ⟨D, eD⟩ : ∃ D, D = (2 ^ k * l + nx) / (2 * hf) := ⟨_, rfl⟩
        obtain ⟨O, eO⟩ : ∃ O, O = (2 ^ k * l + nx) % (2 * hf) := ⟨_, rfl⟩
        rw [← eD, ← eO] at hC
        have ED : Hid (D = (2 ^ k * l + nx) / (2 * hf)) := eD
        have EO : Hid (O = (2 ^ k * l + nx) % (2 * hf)) := eO
        have HC : Hid (RootC a hf (2 ^ k) D O la) := hC
        have hlm := HAL.out
        have hle := hC.le; have hdp := hC.dP; have hlf := hC.lf; have hdd := hC.dd
        have L1 : Hid (2 ^ k * hf + D < LIM) := by show _ < _; omega
        have L2 : Hid (2 ^ k * O + la < LIM) := by show _ < _; omega
        have L3 : Hid (D * D < LIM) := by show _ < _; omega
        have L4 : Hid (2 * (2 ^ k * hf + D) < LIM) := by show _ < _; omega
        have L5 : Hid (2 ^ k * O + la + 2 * (2 ^ k * hf + D) < LIM) := by show _ < _; omega
        have FIN := hC.fin
        have F1 : Hid (2 ^ k * O + la < D * D → 1 ≤ 2 ^ k * hf + D ∧ D * D ≤ 2 ^ k * O + la + 2 * (2 ^ k * hf + D) - 1) := FIN.1
        have F2 : Hid ((if 2 ^ k * O + la < D * D then 2 ^ k * hf + D - 1 else 2 ^ k * hf + D) * (if 2 ^ k * O + la < D * D then 2 ^ k * hf + D - 1 else 2 ^ k * hf + D) ≤ a ∧
          a ≤ (if 2 ^ k * O + la < D * D then 2 ^ k * hf + D - 1 else 2 ^ k * hf + D) * (if 2 ^ k * O + la < D * D then 2 ^ k * hf + D - 1 else 2 ^ k * hf + D) + 2 * (if 2 ^ k * O + la < D * D then 2 ^ k * hf + D - 1 else 2 ^ k * hf + D) ∧
          (if 2 ^ k * O + la < D * D then 2 ^ k * O + la + 2 * (2 ^ k * hf + D) - 1 - D * D else 2 ^ k * O + la - D * D) = a - (if 2 ^ k * O + la < D * D then 2 ^ k * hf + D - 1 else 2 ^ k * hf + D) * (if 2 ^ k * O + la < D * D then 2 ^ k * hf + D - 1 else 2 ^ k * hf + D)) := FIN.2
        clear FIN hC hlm hle hdp hlf hdd hhb eD eO eX hl hnx hla
        go_wp2_with fail
        rw [show Value.int IntKind.i64 1 = .int .i64 ((1 : Nat) : Int) from rfl]
        go_wp2_with fail
        refine (shl_nf HF.out.at_ HF.out.nf HF.out.le 1 (by omega)).mono ?_
        rintro e v6 ⟨ha6, hb6⟩
        rw [Nat.pow_one] at ha6
        obtain ⟨r6, t6, y6, rfl, ho6, hn6, hm6⟩ := ha6.ok H2.out
        have TW : Hid (Num v6 r6 t6 t6 y6 (2 * hf)) := Num.of ho6 hn6 hm6
        clear ha6 ho6 hn6
        have hBsy : w.heap.size ≤ v6.heap.size := Nat.le_trans hBs hb6.size
        clear hBs
        have hBs := hBsy
        clear hBsy
        replace HF : Hid _ := HF.out.below hb6
        replace LE : Hid _ := LE.out.below hb6
        replace NX : Hid _ := NX.out.below hb6
        replace LA : Hid _ := LA.out.below hb6
        have hbwy := Below.on hbw hb6
        clear hbw
        have hbw := hbwy
        clear hbwy
        clear hb6
        go_wp2_with fail
        refine (join_any LE.out NX.out k (by omega) HX.out).mono ?_
        rintro e v7 ⟨r7, t7, y7, rfl, ho7, hn7, hm7, hb7⟩
        have JX : Hid (Num v7 r7 t7 t7 y7 (2 ^ k * l + nx)) := Num.of ho7 hn7 hm7
        clear ho7 hn7
        have hBsy : w.heap.size ≤ v7.heap.size := Nat.le_trans hBs hb7.size
        clear hBs
        have hBs := hBsy
        clear hBsy
        replace HF : Hid _ := HF.out.below hb7
        replace LE : Hid _ := LE.out.below hb7
        replace NX : Hid _ := NX.out.below hb7
        replace LA : Hid _ := LA.out.below hb7
        replace TW : Hid _ := TW.out.below hb7
        have hbwy := Below.on hbw hb7
        clear hbw
        have hbw := hbwy
        clear hbwy
        clear hb7
        clear LE
        clear NX
        go_wp2_with fail
        refine (quorem_any JX.out.at_ TW.out.at_ JX.out.nf TW.out.nf JX.out.le TW.out.le HF0.out).mono ?_
        rintro e v8 ⟨x1, x2, rfl, hD8⟩
        obtain ⟨pd, md, zd, rfl, od, nd, ld⟩ := hD8.quo
        obtain ⟨po, mo, zo, rfl, oo, no, lo⟩ := hD8.rem
        have hb8 := hD8.bel
        rw [← ED.out] at nd
        rw [← EO.out] at no
        have DG : Hid (Num v8 pd md md zd D) := Num.of od nd ld
        have OV : Hid (Num v8 po mo mo zo O) := Num.of oo no lo
        clear hD8 od nd oo no
        clear JX
        clear TW
        have hBsy : w.heap.size ≤ v8.heap.size := Nat.le_trans hBs hb8.size
        clear hBs
        have hBs := hBsy
        clear hBsy
        replace HF : Hid _ := HF.out.below hb8
        replace LA : Hid _ := LA.out.below hb8
        have hbwy := Below.on hbw hb8
        clear hbw
        have hbw := hbwy
        clear hbwy
        clear hb8
        go_wp2_with fail
        refine (join_any HF.out DG.out k (by omega) L1.out).mono ?_
        rintro e v9 ⟨r9, t9, y9, rfl, ho9, hn9, hm9, hb9⟩
        have RT : Hid (Num v9 r9 t9 t9 y9 (2 ^ k * hf + D)) := Num.of ho9 hn9 hm9
        have RTo : Hid (Own w.heap.size v9 r9 t9 y9) := ho9.mono hBs
        clear ho9 hn9
        have hBsy : w.heap.size ≤ v9.heap.size := Nat.le_trans hBs hb9.size
        clear hBs
        have hBs := hBsy
        clear hBsy
        replace HF : Hid _ := HF.out.below hb9
        replace LA : Hid _ := LA.out.below hb9
        replace DG : Hid _ := DG.out.below hb9
        replace OV : Hid _ := OV.out.below hb9
        have hbwy := Below.on hbw hb9
        clear hbw
        have hbw := hbwy
        clear hbwy
        clear hb9
        clear HF
        go_wp2_with fail
        refine (join_any OV.out LA.out k (by omega) L2.out).mono ?_
        rintro e v10 ⟨r10, t10, y10, rfl, ho10, hn10, hm10, hb10⟩
        have LF : Hid (Num v10 r10 t10 t10 y10 (2 ^ k * O + la)) := Num.of ho10 hn10 hm10
        clear ho10 hn10
        have hBsy : w.heap.size ≤ v10.heap.size := Nat.le_trans hBs hb10.size
        clear hBs
        have hBs := hBsy
        clear hBsy
        replace LA : Hid _ := LA.out.below hb10
        replace DG : Hid _ := DG.out.below hb10
        replace OV : Hid _ := OV.out.below hb10
        replace RT : Hid _ := RT.out.below hb10
        replace RTo : Hid (Own w.heap.size v10 r9 t9 y9) := RTo.out.below hb10
        have hbwy := Below.on hbw hb10
        clear hbw
        have hbw := hbwy
        clear hbwy
        clear hb10
        clear OV
        clear LA
        go_wp2_with fail
        refine (settle_any RTo.out hBs RT.out LF.out DG.out L3.out L4.out L5.out F1.out).mono ?_
        rintro e v11 ⟨x1, x2, rfl, hS⟩
        obtain ⟨q1, l1, s1, rfl, o1, n1, g1⟩ := hS.v1
        obtain ⟨q2, l2, s2, rfl, o2, n2, g2⟩ := hS.v2
        have hbz := Below.on hbw hS.bel
        have N1 : Hid (Nf B64 s1 (if 2 ^ k * O + la < D * D then 2 ^ k * hf + D - 1 else 2 ^ k * hf + D)) := n1
        have N2 : Hid (Nf B64 s2 (if 2 ^ k * O + la < D * D then 2 ^ k * O + la + 2 * (2 ^ k * hf + D) - 1 - D * D else 2 ^ k * O + la - D * D)) := n2
        clear n1 n2 hS hbw RT RTo LF DG hBs
        go_wp2_with fail
        go_ret2
        refine ⟨_, _, rfl, ⟨_, q1, l1, s1, q2, l2, s2, F2.out.1, F2.out.2.1, rfl, o1, N1.out, g1, rfl, o2, ?_, g2⟩, hbz⟩
        rw [← F2.out.2.2]; exact N2.out
end Go.Proofs.YtpebgjpfgfimgaaGreatDoor
namespace Go.Proofs.YtpebgjpfgfimgaaGreatDoor
open Go.RowKit
set_option maxRecDepth 20000
set_option maxHeartbeats 0
theorem Wr.row_above {w w' : World} {g m n : Nat} {xs : List Nat} (hb : Blk w g xs) (h : Wr g 0 m w w') (hn : xs.length = n) (hm : m < n) : w'.cell? ⟨g, m, none⟩ = some (U (xs.getD m 0)) ∧ w'.frozen? ⟨g, m, none⟩ = false := by
  constructor
  · rw [h.cell g m (by omega)]; exact hb.cell m (by omega)
  · rw [h.frozen]; exact hb.frozen m
theorem Blk.row_take {w : World} {g : Nat} {xs : List Nat} (h : Blk w g xs) (hd : Dig B64 xs) (m : Nat) (hm : m ≤ xs.length) : Row w g 0 m (xs.take m) := (h.row hd).take m hm

theorem mulw_nf {p : Option Addr} {m c : Nat} {xs : List Nat} {a : Nat} {w : World} (h : At w p m c xs) (hx : Nf B64 xs a) (hm : m ≤ 8192) (v : Nat) (hv : v < B64) :
    Calls Tryz.prog 30 #[.slice p m c, U v] w fun e w' => Ans w.heap.size w' e (a * v) ∧ Below w.heap.size w w' := by
  have fx := hx.form (by rw [h.len]; exact hm)
  have hl := h.len
  have HX : Hid (Nf B64 xs a) := hx
  clear hx
  go_enter Tryz.func30, Tryz.ntmps30
  go_wp2_with fail
  refine (form_true h fx).mono ?_
  rintro e w' ⟨rfl, hw⟩
  obtain rfl := hw.symm
  clear hw fx
  obtain ⟨i0, hi, hz0, hz1, hz2⟩ := info_parts Tryz.infoU64
  go_wp2_with (at_make; refine wpList_make_full _ rfl _ _ 23 rfl w.heap.size 34 i0 (.int .u64 0) 1 Tryz.underlying23 hi hz0 hz1 _ _ _ _ (m + 1) rfl rfl (by omega) (by omega) (by rw [hz2]; omega) (by unfold maxLen; omega) (Nat.le_refl _) ?_; intro w1 hown hgrow; have hb := made_blk hown hgrow; clear hown hgrow)
  obtain ⟨hblk, hb1⟩ := hb
  have hdz : Dig B64 (List.replicate (m + 1) 0) := Dig.replicate _ _ B64_pos
  have hr := hblk.row_take hdz m (by simp)
  rw [List.take_replicate, Nat.min_eq_left (by omega)] at hr
  refine (amul_any w.heap.size 0 (m + 1) (m + 1) _ p m c xs v _ hr (by omega) (Nat.le_refl _) (by omega) (h.below hb1) hv (fun g2 off2 hn hp => .inl (h.fresh (Nat.le_refl _) g2 off2 hn hp))).mono ?_
  rintro e w2 ⟨cy, zs, rfl, hcy, hwr, hrow, hsum⟩
  obtain ⟨hcm, hfm⟩ := hwr.row_above hblk (n := m + 1) (by simp) (by omega)
  have hb2 : Below w.heap.size w w2 := hb1.trans (hwr.below (Nat.le_refl _))
  rw [valB_replicate, Nat.zero_add, HX.out.val] at hsum
  have HS : Hid (valB B64 zs + B64 ^ m * cy = a * v) := hsum
  clear hsum hwr hb1 hblk hr hdz
  go_wp2_with fail
  have hrow3 : Row (w2.setCell ⟨w.heap.size, m, none⟩ (U cy)) w.heap.size 0 (m + 1) (zs ++ [cy]) := by
    have hW : Wr w.heap.size (0 + m) 1 w2 (w2.setCell ⟨w.heap.size, m, none⟩ (U cy)) := (Wr.refl w.heap.size (0 + m) 1 w2).setCell m ⟨by omega, by omega⟩ _
    have hrow' : Row (w2.setCell ⟨w.heap.size, m, none⟩ (U cy)) w.heap.size 0 m zs :=
      ⟨hrow.len, hrow.dig, fun j hj => by rw [hW.cell _ _ (by omega)]; exact hrow.cell j hj, fun j hj => by rw [World.frozen?_setCell]; exact hrow.frozen j hj⟩
    refine hrow'.snoc ?_ ?_ hcy
    · rw [Nat.zero_add]; exact World.cell?_setCell_same _ _ _ hcm
    · rw [Nat.zero_add, World.frozen?_setCell]; exact hfm
  have hb3 : Below w.heap.size w (w2.setCell ⟨w.heap.size, m, none⟩ (U cy)) := hb2.setCell (Nat.le_refl _) _
  generalize w2.setCell ⟨w.heap.size, m, none⟩ (U cy) = w3 at *
  have A3 := hrow3.at_ (Nat.le_refl _) (by unfold maxLen; omega)
  have hval : valB B64 (zs ++ [cy]) = a * v := by rw [valB_snoc, hrow.len]; exact HS.out
  have hN := Nf.trim hrow3.dig
  rw [hval] at hN
  have HV : Hid (Nf B64 (trimL (zs ++ [cy])) (a * v)) := hN
  clear hval hN hcm hfm hrow
  generalize zs ++ [cy] = us at *
  refine (fitted_any A3).mono ?_
  rintro e w4 hres
  rcases hres with ⟨hle, ⟨p', m', rfl, hm', hp'⟩, hw⟩ | ⟨hgt, rfl, hw⟩
  · obtain rfl := hw.symm
    have HM : Hid (m' = (trimL us).length) := hm'
    clear hw hm'
    go_wp2_with fail
    go_ret2
    have e1 := HM.out
    exact ⟨.inl ⟨HV.out.lim.1 hle, p', m', trimL us, rfl, hrow3.own (Nat.le_refl _) e1 hp', HV.out, by omega⟩, hb3⟩
  · obtain rfl := hw.symm
    clear hw
    go_wp2_with fail
    go_ret2
    refine ⟨.inr ⟨?_, rfl⟩, hb3⟩
    have := mt HV.out.lim.2 (by omega)
    omega
end Go.Proofs.YtpebgjpfgfimgaaGreatDoor
namespace Go.Proofs.YtpebgjpfgfimgaaGreatDoor
open Go.RowKit Go.Shelf
set_option maxRecDepth 20000
set_option maxHeartbeats 0
theorem root_any {p : Option Addr} {n c : Nat} {xs : List Nat} {a : Nat} {w : World} (h : Num w p n c xs a) :
    Calls Tryz.prog 12 #[.slice p n c] w fun e w' => ∃ v1 v2, e = .returned (.tuple #[v1, v2, .int .i64 0]) ∧ RootTo w a v1 v2 w' := by
  have fx := h.nf.form (by rw [h.at_.len]; exact h.le)
  have H : Hid (Num w p n c xs a) := h
  clear h
  go_enter Tryz.func12, Tryz.ntmps12
  go_wp2_with fail
  refine (form_true H.out.at_ fx).mono ?_
  rintro e w' ⟨rfl, hw⟩
  obtain rfl := hw.symm
  clear hw fx
  go_wp2_with fail
  refine (rootof_any a a (Nat.le_refl _) H.out.at_ H.out.nf H.out.le).mono ?_
  rintro e w1 ⟨v1, v2, rfl, hR⟩
  have HR : Hid (RootTo w a v1 v2 w1) := hR
  clear hR
  go_wp2_with fail
  go_ret3
  exact ⟨_, _, rfl, HR.out⟩
theorem quorem_z3 {p q : Option Addr} {n m c d : Nat} {xs ys : List Nat} {a b : Nat} {w : World} (h : At w p n c xs) (k : At w q m d ys) (hx : Nf B64 xs a) (hy : Nf B64 ys b) (hlx : n ≤ 8192) (hly : m ≤ 8192) (hb : b = 0) :
    Calls Tryz.prog 11 #[.slice p n c, .slice q m d] w fun e w' => e = .returned (.tuple #[.slice none 0 0, .slice none 0 0, .int .i64 4]) ∧ w' = w := by
  have hyn : ys = [] := (hy.zero_iff B64_one).2 hb
  have hm0 : m = 0 := by rw [← k.len, hyn]; rfl
  have fx := hx.form (by rw [h.len]; exact hlx)
  have fy := hy.form (by rw [k.len]; exact hly)
  have HA : Hid (At w p n c xs) := h
  have HB : Hid (At w q m d ys) := k
  clear h k hx hy hyn
  subst hm0
  go_enter Tryz.func11, Tryz.ntmps11
  go_wp2_with fail
  refine (form_true HA.out fx).mono ?_
  rintro e w' ⟨rfl, hw⟩
  obtain rfl := hw.symm
  clear hw
  go_wp2_with fail
  refine (form_true HB.out fy).mono ?_
  rintro e w' ⟨rfl, hw⟩
  obtain rfl := hw.symm
  clear hw
  go_wp2_with fail
  go_ret3
  exact ⟨rfl, rfl⟩
def QrA (xs ys us vs : List Nat) (e : Int) : Prop := (formB xs = true ∧ formB ys = true ∧ valB B64 ys ≠ 0 ∧ Nf B64 us (valB B64 xs / valB B64 ys) ∧ Nf B64 vs (valB B64 xs % valB B64 ys) ∧ e = 0) ∨ (formB xs = true ∧ formB ys = true ∧ valB B64 ys = 0 ∧ us = [] ∧ vs = [] ∧ e = 4) ∨ ((formB xs && formB ys) = false ∧ us = [] ∧ vs = [] ∧ e = 2)
theorem QrA.uniq {xs ys us vs us' vs' : List Nat} {e f : Int} (h : QrA xs ys us vs e) (k : QrA xs ys us' vs' f) : us = us' ∧ vs = vs' ∧ e = f := by
  rcases h with ⟨h1, h2, h3, h4, h5, rfl⟩ | ⟨h1, h2, h3, rfl, rfl, rfl⟩ | ⟨h1, rfl, rfl, rfl⟩ <;> rcases k with ⟨k1, k2, k3, k4, k5, rfl⟩ | ⟨k1, k2, k3, rfl, rfl, rfl⟩ | ⟨k1, rfl, rfl, rfl⟩
  · exact ⟨h4.inj B64_one k4, h5.inj B64_one k5, rfl⟩
  · exact absurd k3 h3
  · rw [h1, h2] at k1; cases k1
  · exact absurd h3 k3
  · exact ⟨rfl, rfl, rfl⟩
  · rw [h1, h2] at k1; cases k1
  · rw [k1, k2] at h1; cases h1
  · rw [k1, k2] at h1; cases h1
  · exact ⟨rfl, rfl, rfl⟩
def TwoL (w : World) (en : Ending) (us vs : List Nat) (e : Int) : Prop := ∃ p1 m1 c1 p2 m2 c2, en = .returned (.tuple #[.slice p1 m1 c1, .slice p2 m2 c2, .int .i64 e]) ∧ At w p1 m1 c1 us ∧ At w p2 m2 c2 vs
theorem twoL_nil (w : World) (e : Int) : TwoL w (.returned (.tuple #[.slice none 0 0, .slice none 0 0, .int .i64 e])) [] [] e := ⟨_, _, _, _, _, _, rfl, At.empty _ _ _ (by decide), At.empty _ _ _ (by decide)⟩
def RoA (xs us vs : List Nat) (e : Int) : Prop := (formB xs = true ∧ (∃ s, IsRt (valB B64 xs) s ∧ Nf B64 us s ∧ Nf B64 vs (valB B64 xs - s * s)) ∧ e = 0) ∨ (formB xs = false ∧ us = [] ∧ vs = [] ∧ e = 2)
theorem RoA.uniq {xs us vs us' vs' : List Nat} {e f : Int} (h : RoA xs us vs e) (k : RoA xs us' vs' f) : us = us' ∧ vs = vs' ∧ e = f := by
  rcases h with ⟨h1, ⟨s, h2, h3, h4⟩, rfl⟩ | ⟨h1, rfl, rfl, rfl⟩ <;> rcases k with ⟨k1, ⟨t, k2, k3, k4⟩, rfl⟩ | ⟨k1, rfl, rfl, rfl⟩
  · obtain rfl := rt_uniq h2 k2
    exact ⟨h3.inj B64_one k3, h4.inj B64_one k4, rfl⟩
  · rw [h1] at k1; cases k1
  · rw [h1] at k1; cases k1
  · exact ⟨rfl, rfl, rfl⟩
theorem rv_from {p : Option Addr} {n c : Nat} {xs : List Nat} {w : World} (h : At w p n c xs) (hn : n ≤ 8192) : Calls Tryz.prog 9 #[.slice p n c] w fun e w' => RVs w w' e (valB B64 xs) := by
  refine (from_any h (by omega)).mono ?_
  rintro e w' ⟨g, zs, rfl, hg, hblk, hN, hl, hb⟩
  exact ⟨_, _, rfl, ⟨⟨zs, hblk.at_ hN.dig rfl (by unfold maxLen; omega), hN⟩, by omega⟩, hb⟩
theorem rv_to {w : World} {p : Option Addr} {m a : Nat} (h : RV w p m a) : Calls Tryz.prog 7 #[.slice p m m] w fun e w' => ∃ g k N us, e = .returned (.slice (some ⟨g, 0, none⟩) k N) ∧ At w' (some ⟨g, 0, none⟩) k N us ∧ Nf B64 us a ∧ Below w.heap.size w w' := by
  obtain ⟨⟨zs, h1, h2⟩, h3⟩ := h
  refine (rto_any h1 (by omega)).mono ?_
  rintro e w' ⟨g2, k2, N2, us, rfl, hg2, hA, hN, hb2⟩
  rw [h2.val] at hN
  exact ⟨_, _, _, us, rfl, hA, hN, hb2⟩
theorem quorem_A {p q : Option Addr} {n m c d : Nat} {xs ys : List Nat} {w : World} (h : At w p n c xs) (k : At w q m d ys) :
    Calls Tryz.prog 11 #[.slice p n c, .slice q m d] w fun en w' => ∃ us vs er, TwoL w' en us vs er ∧ QrA xs ys us vs er ∧ Below w.heap.size w w' := by
  have HA : Hid (At w p n c xs) := h
  have HB : Hid (At w q m d ys) := k
  cases hfa : formB xs with
  | false =>
    have HF : Hid ((formB xs && formB ys) = false) := by show _ = _; rw [hfa]; rfl
    clear h k
    go_enter Tryz.func11, Tryz.ntmps11
    go_wp2_with fail
    refine (form_any HA.out).mono ?_
    rintro e w1 ⟨rfl, rfl⟩
    rw [hfa]
    go_wp2_with fail
    go_ret3
    exact ⟨[], [], 2, twoL_nil _ _, .inr (.inr ⟨HF.out, rfl, rfl, rfl⟩), Below.refl _ _⟩
  | true =>
  cases hfb : formB ys with
  | false =>
    have HF : Hid ((formB xs && formB ys) = false) := by show _ = _; rw [hfa, hfb]; rfl
    clear h k
    go_enter Tryz.func11, Tryz.ntmps11
    go_wp2_with fail
    refine (form_any HA.out).mono ?_
    rintro e w1 ⟨rfl, rfl⟩
    rw [hfa]
    go_wp2_with fail
    refine (form_any HB.out).mono ?_
    rintro e w1 ⟨rfl, rfl⟩
    rw [hfb]
    go_wp2_with fail
    go_ret3
    exact ⟨[], [], 2, twoL_nil _ _, .inr (.inr ⟨HF.out, rfl, rfl, rfl⟩), Below.refl _ _⟩
  | true =>
  have na := formB_nf hfa h.dig
  have nb := formB_nf hfb k.dig
  rw [h.len] at na
  rw [k.len] at nb
  have HN : Hid (Nf B64 xs (valB B64 xs) ∧ n ≤ 8192 ∧ Nf B64 ys (valB B64 ys) ∧ m ≤ 8192 ∧ formB xs = true ∧ formB ys = true) := ⟨na.1, na.2, nb.1, nb.2, hfa, hfb⟩
  have hmz : m = 0 ↔ valB B64 ys = 0 := by rw [← nb.1.zero_iff B64_one, ← k.len]; exact List.length_eq_zero_iff
  clear na nb h k
  by_cases hb : valB B64 ys = 0
  · refine (quorem_z3 HA.out HB.out HN.out.1 HN.out.2.2.1 HN.out.2.1 HN.out.2.2.2.1 hb).mono ?_
    rintro e w1 ⟨rfl, rfl⟩
    exact ⟨[], [], 4, twoL_nil _ _, .inr (.inl ⟨hfa, hfb, hb, rfl, rfl, rfl⟩), Below.refl _ _⟩
  · refine (quorem_any HA.out HB.out HN.out.1 HN.out.2.2.1 HN.out.2.1 HN.out.2.2.2.1 hb).mono ?_
    rintro e w1 ⟨v1, v2, rfl, ⟨⟨p1, m1, us, rfl, ho1, hn1, hm1⟩, ⟨p2, m2, vs, rfl, ho2, hn2, hm2⟩, hbl⟩⟩
    exact ⟨us, vs, 0, ⟨_, _, _, _, _, _, rfl, ho1.at_ hm1, ho2.at_ hm2⟩, .inl ⟨hfa, hfb, hb, hn1, hn2, rfl⟩, hbl⟩
theorem root_A {p : Option Addr} {n c : Nat} {xs : List Nat} {w : World} (h : At w p n c xs) :
    Calls Tryz.prog 12 #[.slice p n c] w fun en w' => ∃ us vs er, TwoL w' en us vs er ∧ RoA xs us vs er ∧ Below w.heap.size w w' := by
  have HA : Hid (At w p n c xs) := h
  cases hfa : formB xs with
  | false =>
    have HF : Hid (formB xs = false) := hfa
    clear h
    go_enter Tryz.func12, Tryz.ntmps12
    go_wp2_with fail
    refine (form_any HA.out).mono ?_
    rintro e w1 ⟨rfl, rfl⟩
    rw [hfa]
    go_wp2_with fail
    go_ret3
    exact ⟨[], [], 2, twoL_nil _ _, .inr ⟨HF.out, rfl, rfl, rfl⟩, Below.refl _ _⟩
  | true =>
  have na := formB_nf hfa h.dig
  rw [h.len] at na
  have HN : Hid (Nf B64 xs (valB B64 xs) ∧ n ≤ 8192 ∧ formB xs = true) := ⟨na.1, na.2, hfa⟩
  clear na h
  refine (root_any ⟨HA.out, HN.out.1, HN.out.2.1⟩).mono ?_
  rintro e w1 ⟨v1, v2, rfl, ⟨⟨s, p1, m1, us, p2, m2, vs, hs1, hs2, rfl, ho1, hn1, hm1, rfl, ho2, hn2, hm2⟩, hbl⟩⟩
  exact ⟨us, vs, 0, ⟨_, _, _, _, _, _, rfl, ho1.at_ hm1, ho2.at_ hm2⟩, .inl ⟨hfa, ⟨s, ⟨hs1, by simp only [Nat.add_mul, Nat.mul_add]; omega⟩, hn1, hn2⟩, rfl⟩, hbl⟩
def renS : Ren := ⟨fun x => match x with | 99 => 70 | 105 => 40 | 119 => 113 | 129 => 33 | 134 => 44 | 137 => 112 | 151 => 66 | 152 => 87 | 161 => 18 | 165 => 71 | 166 => 39 | 169 => 41 | 170 => 72 | 197 => 65 | 206 => 94 | 212 => 69 | 217 => 122 | 224 => 114 | 225 => 115 | 227 => 35 | 228 => 64 | 231 => 34 | 233 => 36 | 235 => 37 | 240 => 68 | 241 => 95 | 260 => 86 | 263 => 93 | 264 => 84 | 266 => 127 | 276 => 92 | 277 => 120 | 283 => 88 | 284 => 89 | 285 => 90 | 286 => 91 | 317 => 116 | 318 => 117 | 319 => 118 | 320 => 119 | 337 => 123 | 338 => 124 | n => n, fun x => match x with | 0 => 0 | 1 => 1 | 2 => 2 | 3 => 3 | 4 => 4 | 5 => 5 | 6 => 6 | 7 => 7 | 8 => 8 | 9 => 9 | 10 => 10 | 11 => 11 | 12 => 12 | 13 => 13 | 14 => 14 | 15 => 15 | 16 => 16 | 17 => 17 | 18 => 18 | 19 => 19 | 20 => 20 | 21 => 21 | 22 => 107 | 23 => 47 | 26 => 80 | 27 => 146 | 37 => 22 | 40 => 144 | 41 => 101 | 46 => 51 | 47 => 150 | 51 => 50 | 52 => 153 | 53 => 34 | 54 => 64 | 55 => 143 | 63 => 104 | 64 => 119 | 70 => 72 | 71 => 73 | 72 => 74 | 73 => 108 | 74 => 76 | 75 => 77 | 76 => 78 | 77 => 79 | 80 => 81 | 81 => 109 | 83 => 120 | 104 => 60 | 105 => 102 | 106 => 103 | 109 => 105 | 110 => 106 | 111 => 149 | 114 => 145 | 115 => 66 | 116 => 67 | 117 => 68 | 118 => 69 | 119 => 139 | 122 => 65 | 123 => 70 | 124 => 71 | 127 => 110 | 137 => 140 | 138 => 141 | 139 => 142 | 143 => 157 | 144 => 170 | 145 => 171 | 146 => 127 | 147 => 128 | 148 => 83 | 149 => 118 | 164 => 125 | 165 => 126 | 166 => 151 | 171 => 121 | 172 => 122 | 173 => 123 | 174 => 124 | 211 => 130 | 212 => 147 | 213 => 148 | 232 => 154 | 233 => 155 | 236 => 30 | 238 => 158 | 239 => 159 | 240 => 160 | 241 => 161 | 242 => 162 | 243 => 163 | 244 => 164 | 245 => 165 | 246 => 166 | 247 => 167 | 248 => 168 | 249 => 169 | n => n, fun x => match x with | 1 => 5 | 3 => 2 | 4 => 3 | 17 => 4 | 18 => 6 | 19 => 7 | n => n⟩
theorem laysn105 : Lays.n105 Tryz.prog renS :=
  { mixed := by kernel_rfl, f99 := Tryz.func70.trans (congrArg some (by kernel_rfl)), f105 := Tryz.func40.trans (congrArg some (by kernel_rfl)), f165 := Tryz.func71.trans (congrArg some (by kernel_rfl)), f166 := Tryz.func39.trans (congrArg some (by kernel_rfl)), f169 := Tryz.func41.trans (congrArg some (by kernel_rfl)), f170 := Tryz.func72.trans (congrArg some (by kernel_rfl)), f206 := Tryz.func94.trans (congrArg some (by kernel_rfl)), f212 := Tryz.func69.trans (congrArg some (by kernel_rfl)), f240 := Tryz.func68.trans (congrArg some (by kernel_rfl)), f241 := Tryz.func95.trans (congrArg some (by kernel_rfl)), f263 := Tryz.func93.trans (congrArg some (by kernel_rfl)), f264 := Tryz.func84.trans (congrArg some (by kernel_rfl)), f276 := Tryz.func92.trans (congrArg some (by kernel_rfl)), f277 := Tryz.func120.trans (congrArg some (by kernel_rfl)), t0 := Tryz.underlying0, a0 := Tryz.isAgg0, z0 := Tryz.sizeOf0, v0 := Tryz.zeroValue0, t3 := Tryz.underlying3, a3 := Tryz.isAgg3, z3 := Tryz.sizeOf3, v3 := Tryz.zeroValue3, t4 := Tryz.underlying4, a4 := Tryz.isAgg4, z4 := Tryz.sizeOf4, v4 := Tryz.zeroValue4, t5 := Tryz.underlying5, a5 := Tryz.isAgg5, z5 := Tryz.sizeOf5, v5 := Tryz.zeroValue5, t9 := Tryz.underlying9, a9 := Tryz.isAgg9, z9 := Tryz.sizeOf9, v9 := Tryz.zeroValue9, t20 := Tryz.underlying20, a20 := Tryz.isAgg20, z20 := Tryz.sizeOf20, v20 := Tryz.zeroValue20, t37 := Tryz.underlying22, a37 := Tryz.isAgg22, z37 := Tryz.sizeOf22, v37 := Tryz.zeroValue22, t46 := Tryz.underlying51, a46 := Tryz.isAgg51, z46 := Tryz.sizeOf51, v46 := Tryz.zeroValue51, t51 := Tryz.underlying50, a51 := Tryz.isAgg50, z51 := Tryz.sizeOf50, v51 := Tryz.zeroValue50, t53 := Tryz.underlying34, a53 := Tryz.isAgg34, z53 := Tryz.sizeOf34, v53 := Tryz.zeroValue34, t70 := Tryz.underlying72, a70 := Tryz.isAgg72, z70 := Tryz.sizeOf72, v70 := Tryz.zeroValue72, t72 := Tryz.underlying74, a72 := Tryz.isAgg74, z72 := Tryz.sizeOf74, v72 := Tryz.zeroValue74, t75 := Tryz.underlying77, a75 := Tryz.isAgg77, z75 := Tryz.sizeOf77, v75 := Tryz.zeroValue77, t76 := Tryz.underlying78, a76 := Tryz.isAgg78, z76 := Tryz.sizeOf78, v76 := Tryz.zeroValue78, t109 := Tryz.underlying105, a109 := Tryz.isAgg105, z109 := Tryz.sizeOf105, v109 := Tryz.zeroValue105, t127 := Tryz.underlying110, a127 := Tryz.isAgg110, z127 := Tryz.sizeOf110, v127 := Tryz.zeroValue110, t146 := Tryz.underlying127, a146 := Tryz.isAgg127, z146 := Tryz.sizeOf127, v146 := Tryz.zeroValue127, t148 := Tryz.underlying83, a148 := Tryz.isAgg83, z148 := Tryz.sizeOf83, v148 := Tryz.zeroValue83, t164 := Tryz.underlying125, a164 := Tryz.isAgg125, z164 := Tryz.sizeOf125, v164 := Tryz.zeroValue125 }
theorem laysn161 : Lays.n161 Tryz.prog renS :=
  { mixed := by kernel_rfl, f119 := Tryz.func113.trans (congrArg some (by kernel_rfl)), f137 := Tryz.func112.trans (congrArg some (by kernel_rfl)), f151 := Tryz.func66.trans (congrArg some (by kernel_rfl)), f152 := Tryz.func87.trans (congrArg some (by kernel_rfl)), f161 := Tryz.func18.trans (congrArg some (by kernel_rfl)), f197 := Tryz.func65.trans (congrArg some (by kernel_rfl)), f217 := Tryz.func122.trans (congrArg some (by kernel_rfl)), f224 := Tryz.func114.trans (congrArg some (by kernel_rfl)), f225 := Tryz.func115.trans (congrArg some (by kernel_rfl)), f227 := Tryz.func35.trans (congrArg some (by kernel_rfl)), f228 := Tryz.func64.trans (congrArg some (by kernel_rfl)), f231 := Tryz.func34.trans (congrArg some (by kernel_rfl)), f233 := Tryz.func36.trans (congrArg some (by kernel_rfl)), f235 := Tryz.func37.trans (congrArg some (by kernel_rfl)), f260 := Tryz.func86.trans (congrArg some (by kernel_rfl)), f266 := Tryz.func127.trans (congrArg some (by kernel_rfl)), t0 := Tryz.underlying0, a0 := Tryz.isAgg0, z0 := Tryz.sizeOf0, v0 := Tryz.zeroValue0, t3 := Tryz.underlying3, a3 := Tryz.isAgg3, z3 := Tryz.sizeOf3, v3 := Tryz.zeroValue3, t4 := Tryz.underlying4, a4 := Tryz.isAgg4, z4 := Tryz.sizeOf4, v4 := Tryz.zeroValue4, t5 := Tryz.underlying5, a5 := Tryz.isAgg5, z5 := Tryz.sizeOf5, v5 := Tryz.zeroValue5, t9 := Tryz.underlying9, a9 := Tryz.isAgg9, z9 := Tryz.sizeOf9, v9 := Tryz.zeroValue9, t21 := Tryz.underlying21, a21 := Tryz.isAgg21, z21 := Tryz.sizeOf21, v21 := Tryz.zeroValue21, t46 := Tryz.underlying51, a46 := Tryz.isAgg51, z46 := Tryz.sizeOf51, v46 := Tryz.zeroValue51, t105 := Tryz.underlying102, a105 := Tryz.isAgg102, z105 := Tryz.sizeOf102, v105 := Tryz.zeroValue102, t116 := Tryz.underlying67, a116 := Tryz.isAgg67, z116 := Tryz.sizeOf67, t117 := Tryz.underlying68, a117 := Tryz.isAgg68, z117 := Tryz.sizeOf68, v117 := Tryz.zeroValue68, t119 := Tryz.underlying139, a119 := Tryz.isAgg139, z119 := Tryz.sizeOf139, t124 := Tryz.underlying71, a124 := Tryz.isAgg71, z124 := Tryz.sizeOf71, v124 := Tryz.zeroValue71, t138 := Tryz.underlying141, a138 := Tryz.isAgg141, z138 := Tryz.sizeOf141, v138 := Tryz.zeroValue141, t139 := Tryz.underlying142, a139 := Tryz.isAgg142, z139 := Tryz.sizeOf142, v139 := Tryz.zeroValue142, g3 := by kernel_rfl, g4 := by kernel_rfl }
theorem laysn166 : Lays.n166 Tryz.prog renS :=
  { mixed := by kernel_rfl, f166 := Tryz.func39.trans (congrArg some (by kernel_rfl)), f240 := Tryz.func68.trans (congrArg some (by kernel_rfl)), f276 := Tryz.func92.trans (congrArg some (by kernel_rfl)), t0 := Tryz.underlying0, a0 := Tryz.isAgg0, z0 := Tryz.sizeOf0, v0 := Tryz.zeroValue0, t3 := Tryz.underlying3, a3 := Tryz.isAgg3, z3 := Tryz.sizeOf3, v3 := Tryz.zeroValue3, t4 := Tryz.underlying4, a4 := Tryz.isAgg4, z4 := Tryz.sizeOf4, v4 := Tryz.zeroValue4, t9 := Tryz.underlying9, a9 := Tryz.isAgg9, z9 := Tryz.sizeOf9, v9 := Tryz.zeroValue9, t20 := Tryz.underlying20, a20 := Tryz.isAgg20, z20 := Tryz.sizeOf20, v20 := Tryz.zeroValue20, t37 := Tryz.underlying22, a37 := Tryz.isAgg22, z37 := Tryz.sizeOf22, v37 := Tryz.zeroValue22, t70 := Tryz.underlying72, a70 := Tryz.isAgg72, z70 := Tryz.sizeOf72, v70 := Tryz.zeroValue72, t72 := Tryz.underlying74, a72 := Tryz.isAgg74, z72 := Tryz.sizeOf74, v72 := Tryz.zeroValue74, t75 := Tryz.underlying77, a75 := Tryz.isAgg77, z75 := Tryz.sizeOf77, v75 := Tryz.zeroValue77, t164 := Tryz.underlying125, a164 := Tryz.isAgg125, z164 := Tryz.sizeOf125, v164 := Tryz.zeroValue125 }
theorem laysn169 : Lays.n169 Tryz.prog renS :=
  { mixed := by kernel_rfl, f169 := Tryz.func41.trans (congrArg some (by kernel_rfl)), t0 := Tryz.underlying0, a0 := Tryz.isAgg0, z0 := Tryz.sizeOf0, v0 := Tryz.zeroValue0, t3 := Tryz.underlying3, a3 := Tryz.isAgg3, z3 := Tryz.sizeOf3, v3 := Tryz.zeroValue3, t9 := Tryz.underlying9, a9 := Tryz.isAgg9, z9 := Tryz.sizeOf9, v9 := Tryz.zeroValue9, t37 := Tryz.underlying22, a37 := Tryz.isAgg22, z37 := Tryz.sizeOf22, v37 := Tryz.zeroValue22, t70 := Tryz.underlying72, a70 := Tryz.isAgg72, z70 := Tryz.sizeOf72, v70 := Tryz.zeroValue72, t72 := Tryz.underlying74, a72 := Tryz.isAgg74, z72 := Tryz.sizeOf74, v72 := Tryz.zeroValue74, t127 := Tryz.underlying110, a127 := Tryz.isAgg110, z127 := Tryz.sizeOf110, v127 := Tryz.zeroValue110 }
theorem laysn283 : Lays.n283 Tryz.prog renS :=
  { mixed := by kernel_rfl, f283 := Tryz.func88.trans (congrArg some (by kernel_rfl)), t3 := Tryz.underlying3, a3 := Tryz.isAgg3, z3 := Tryz.sizeOf3, v3 := Tryz.zeroValue3, t4 := Tryz.underlying4, a4 := Tryz.isAgg4, z4 := Tryz.sizeOf4, v4 := Tryz.zeroValue4, t9 := Tryz.underlying9, a9 := Tryz.isAgg9, z9 := Tryz.sizeOf9, v9 := Tryz.zeroValue9 }
theorem laysn284 : LaysM.n284 Tryz.prog renS :=
  { mixed := by kernel_rfl, f129 := Tryz.func33.trans (congrArg some (by kernel_rfl)), f284 := Tryz.func89.trans (congrArg some (by kernel_rfl)), f317 := Tryz.func116.trans (congrArg some (by kernel_rfl)), f318 := Tryz.func117.trans (congrArg some (by kernel_rfl)), t0 := Tryz.underlying0, a0 := Tryz.isAgg0, z0 := Tryz.sizeOf0, v0 := Tryz.zeroValue0, t3 := Tryz.underlying3, a3 := Tryz.isAgg3, z3 := Tryz.sizeOf3, v3 := Tryz.zeroValue3, t4 := Tryz.underlying4, a4 := Tryz.isAgg4, z4 := Tryz.sizeOf4, v4 := Tryz.zeroValue4, t5 := Tryz.underlying5, a5 := Tryz.isAgg5, z5 := Tryz.sizeOf5, v5 := Tryz.zeroValue5, t9 := Tryz.underlying9, a9 := Tryz.isAgg9, z9 := Tryz.sizeOf9, v9 := Tryz.zeroValue9, t46 := Tryz.underlying51, a46 := Tryz.isAgg51, z46 := Tryz.sizeOf51, v46 := Tryz.zeroValue51, t53 := Tryz.underlying34, a53 := Tryz.isAgg34, z53 := Tryz.sizeOf34, v53 := Tryz.zeroValue34, t212 := Tryz.underlying147, a212 := Tryz.isAgg147, z212 := Tryz.sizeOf147, v212 := Tryz.zeroValue147, g17 := by kernel_rfl, i0 := by kernel_rfl, i3 := by kernel_rfl, i4 := by kernel_rfl, i5 := by kernel_rfl, i9 := by kernel_rfl, i46 := by kernel_rfl, i53 := by kernel_rfl, i212 := by kernel_rfl, m17 := by kernel_rfl }
theorem laysn285 : Lays.n285 Tryz.prog renS :=
  { mixed := by kernel_rfl, f285 := Tryz.func90.trans (congrArg some (by kernel_rfl)), t0 := Tryz.underlying0, a0 := Tryz.isAgg0, z0 := Tryz.sizeOf0, v0 := Tryz.zeroValue0, t3 := Tryz.underlying3, a3 := Tryz.isAgg3, z3 := Tryz.sizeOf3, v3 := Tryz.zeroValue3, t4 := Tryz.underlying4, a4 := Tryz.isAgg4, z4 := Tryz.sizeOf4, v4 := Tryz.zeroValue4, t5 := Tryz.underlying5, a5 := Tryz.isAgg5, z5 := Tryz.sizeOf5, v5 := Tryz.zeroValue5, t9 := Tryz.underlying9, a9 := Tryz.isAgg9, z9 := Tryz.sizeOf9, v9 := Tryz.zeroValue9, t37 := Tryz.underlying22, a37 := Tryz.isAgg22, z37 := Tryz.sizeOf22, v37 := Tryz.zeroValue22, t51 := Tryz.underlying50, a51 := Tryz.isAgg50, z51 := Tryz.sizeOf50, v51 := Tryz.zeroValue50, t53 := Tryz.underlying34, a53 := Tryz.isAgg34, z53 := Tryz.sizeOf34, v53 := Tryz.zeroValue34 }
theorem laysX : Builder.Extra Tryz.prog renS :=
  { sizeBuilder := by kernel_rfl, liesBuilder := by kernel_rfl, t5 := Tryz.underlying5, a5 := Tryz.isAgg5, z5 := Tryz.sizeOf5, v5 := Tryz.zeroValue5, infoByte := by kernel_rfl, cellsByte := by kernel_rfl, sizeByte := by kernel_rfl, neB5 := by decide }
end Go.Proofs.YtpebgjpfgfimgaaGreatDoor
