import Derived.Test.YtpdelpakgdanlaaGreatDoorJ8
import Derived.Deep.RegionWith
import Derived.Deep.DeepCutAuto
import Derived.Deep.LoopGhost
import Derived.Test.YtpdelpakgdanlaaGreatDoorMem
import Derived.Laws.Bits64b
namespace Go.Proofs.YtpdelpakgdanlaaGreatDoor
open Go.RowKit
set_option maxRecDepth 20000
set_option maxHeartbeats 0
def KarSaid (n : Nat) : Prop := ∀ (gz oz lz cz ga oa ca gb ob cb gs os ns cs : Nat) (zs xs ys ss : List Nat) (w : World), lz = 2 * n → Row w gz oz lz zs → Rd w ga oa n xs → Rd w gb ob n ys → Row w gs os ns ss → scr n ≤ ns →
  lz ≤ cz → n ≤ ca → n ≤ cb → ns ≤ cs → cz ≤ 1000000 → ca ≤ 9223372036854775807 → cb ≤ 9223372036854775807 → cs ≤ 1000000 → Dj ga oa n gz oz lz → Dj gb ob n gz oz lz → Dj gs os ns gz oz lz → Dj ga oa n gs os ns → Dj gb ob n gs os ns →
  Calls Tryz.prog 137 #[.slice (some ⟨gz, oz, none⟩) lz cz, .slice (some ⟨ga, oa, none⟩) n ca, .slice (some ⟨gb, ob, none⟩) n cb, .slice (some ⟨gs, os, none⟩) ns cs] w fun e w' =>
    ∃ zs' ss', e = .returned (.tuple #[]) ∧ Chg (fun b o => Rg gz oz lz b o ∨ Rg gs os ns b o) w w' ∧ Row w' gz oz lz zs' ∧ Row w' gs os ns ss' ∧ valB B64 zs' = valB B64 xs * valB B64 ys

theorem dj_some {g off n g' off' n' : Nat} (h : Dj g off n g' off' n') : ∀ g2 off2, some (⟨g, off, none⟩ : Addr) = some ⟨g2, off2, none⟩ → Dj g2 off2 n g' off' n' := by
  intro g2 off2 hp
  simp only [Option.some.injEq, Addr.mk.injEq, and_true] at hp
  obtain ⟨rfl, rfl⟩ := hp
  exact h
theorem dj_some' {g off n g' off' n' : Nat} (h : Dj g off n g' off' n') : ∀ g2 off2, 0 < n → some (⟨g, off, none⟩ : Addr) = some ⟨g2, off2, none⟩ → g2 ≠ g' ∨ off2 + n ≤ off' ∨ off' + n' ≤ off2 := by
  intro g2 off2 _ hp
  have := dj_some h g2 off2 hp
  exact this

theorem kar_small (n : Nat) (hn : n < 48) (h0 : 0 < n) : KarSaid n := by
  intro gz oz lz cz ga oa ca gb ob cb gs os ns cs zs xs ys ss w hlz hZ hX hY hS hscr hcz hca hcb hcs bcz bca bcb bcs dax dbx dsz das dbs
  obtain rfl : lz = n + n := by omega
  clear hlz
  go_enter Tryz.func137, Tryz.ntmps137
  go_wp2_with fail
  refine (rows_any gz oz cz zs (some ⟨ga, oa, none⟩) (some ⟨gb, ob, none⟩) n ca n cb xs ys w hZ hcz (by omega) (hX.at_ hca (by unfold maxLen; omega)) (hY.at_ hcb (by unfold maxLen; omega)) h0 h0 (dj_some dax) (dj_some dbx)).mono ?_
  rintro e w1 ⟨zs', rfl, hwr, hrow, hval⟩;go_wp2_with fail
  refine bodyPost_ret (results_none rfl _ _ _) rfl ?_
  refine ⟨zs', ss, rfl, hwr.chg.mono (fun b o h => .inl h), hrow, hS.chg hwr.chg (fun j hj => dsz.not hj), hval⟩

theorem kar_math {b k A0 A1 B0 B1 L H SA SB M M1 M2 : Nat} (hL : L = A0 * B0) (hH : H = A1 * B1) (hSA : SA = A0 + A1) (hSB : SB = B0 + B1) (hM : M = SA * SB) (h1 : M1 + L = M) (h2 : M2 + H = M1) :
  (A0 + b ^ k * A1) * (B0 + b ^ k * B1) = L + b ^ k * M2 + b ^ k * (b ^ k * H) := by
 have e : M2 + (A0 * B0 + A1 * B1) = A0 * B0 + A0 * B1 + (A1 * B0 + A1 * B1) := by
  rw [hSA, hSB, Nat.add_mul, Nat.mul_add, Nat.mul_add] at hM
  omega
 have e2 : M2 = A0 * B1 + A1 * B0 := by omega
 rw [hL, hH, e2];generalize b ^ k = P;rw [Nat.add_mul, Nat.mul_add, Nat.mul_add, Nat.mul_add]
 have c1 : A0 * (P * B1) = P * (A0 * B1) := by rw [← Nat.mul_assoc, Nat.mul_comm A0 P, Nat.mul_assoc]
 have c2 : P * A1 * B0 = P * (A1 * B0) := Nat.mul_assoc _ _ _
 have c3 : P * A1 * (P * B1) = P * (P * (A1 * B1)) := by rw [Nat.mul_assoc, ← Nat.mul_assoc A1 P, Nat.mul_comm A1 P, Nat.mul_assoc]
 rw [c1, c2, c3]
 omega
theorem kar_ge {A0 A1 B0 B1 L M : Nat} (hL : L = A0 * B0) (hM : M = (A0 + A1) * (B0 + B1)) : L ≤ M := by
  rw [hL, hM]; exact Nat.mul_le_mul (by omega) (by omega)
theorem kar_ge2 {A0 A1 B0 B1 L H M M1 : Nat} (hL : L = A0 * B0) (hH : H = A1 * B1) (hM : M = (A0 + A1) * (B0 + B1)) (h1 : M1 + L = M) : H ≤ M1 := by
  rw [Nat.add_mul, Nat.mul_add, Nat.mul_add] at hM
  omega
theorem nb {P Z A L cy : Nat} (hs : Z + L = A + P * cy) (hz : Z < P) (hle : L ≤ A) (hc : cy ≤ 1) : Z + L = A := by
  by_cases h : cy = 0
  · subst h; omega
  · obtain rfl : cy = 1 := by omega
    omega
theorem nc {P Z A L cy T : Nat} (hs : Z + P * cy = A + L) (ht : A + L < P) (_hT : T = A + L) : Z = A + L := by
  by_cases h : cy = 0
  · subst h; omega
  · have : P * 1 ≤ P * cy := Nat.mul_le_mul_left _ (by omega)
    omega

theorem kar_hap {g off g' off' n n' m : Nat} {p' : Option Addr} (hp : m ≠ 0 → p' = some ⟨g, off, none⟩) (h : Dj g off n g' off' n') (hm : m ≤ n) : ∀ g2 off2, 0 < m → p' = some ⟨g2, off2, none⟩ → g2 ≠ g' ∨ off2 + m ≤ off' ∨ off' + n' ≤ off2 := by
  intro g2 off2 h0 h1
  rw [hp (by omega)] at h1
  simp only [Option.some.injEq, Addr.mk.injEq, and_true] at h1
  obtain ⟨rfl, rfl⟩ := h1;unfold Dj at h; omega

theorem kar_step (n : Nat) (hn : ¬ n < 48) (hn2 : n ≤ 100000) (ih : ∀ m, m < n → 0 < m → KarSaid m) : KarSaid n := by
  intro gz oz lz cz ga oa ca gb ob cb gs os ns cs zs xs ys ss w hlz hZ hX hY hS hscr hcz hca hcb hcs bcz bca bcb bcs dax dbx dsz das dbs
  obtain rfl : lz = 2 * n := hlz;obtain ⟨k, hk⟩ := exq ((n + 1) / 2);rw [scr_ge hn, ← hk] at hscr
  have hk1 : 2 * k ≤ n + 1 := by omega
  have hk2 : n ≤ 2 * k := by omega
  have ek : ((n : Int) + 1) / 2 = (k : Int) := by omega
  have ih1 := ih k (by omega) (by omega)
  have ih2 := ih (n - k) (by omega) (by omega)
  have ih3 := ih (k + 1) (by omega) (by omega)
  have sm1 := scr_mono (n + 1) k n (by omega) (by omega)
  have sm2 := scr_mono (n + 1) (n - k) n (by omega) (by omega)
  rw [scr_ge hn, ← hk] at sm1 sm2;have HI1 : Hid (KarSaid k) := ih1;have HI2 := hdQ ih2;have HI3 := hdQ ih3;clear ih ih1 ih2 ih3 hk
  go_enter Tryz.func137, Tryz.ntmps137
  go_wp2_with fail
  refine (cut_row ga oa n ca k _ hca (by omega)).mono ?_
  rintro e w1 ⟨rfl, r1, hw⟩
  rw [cutOff_lt (show k < n by omega)]
  obtain ⟨C1⟩ : Nonempty (Chg (fun _ _ => False) w w1) := ⟨by rw [hw]; exact (Chg.refl _ _).drewN r1⟩
  clear hw;go_wp2_with fail
  refine (cut_row gb ob n cb k _ hcb (by omega)).mono ?_
  rintro e w2 ⟨rfl, r2, hw⟩
  rw [cutOff_lt (show k < n by omega)]
  obtain ⟨C2⟩ : Nonempty (Chg (fun _ _ => False) w w2) := ⟨by rw [hw]; exact C1.drewN r2⟩
  clear hw C1;go_wp2_with fail
  rw [show (2 * (k : Int)) = ((2 * k : Nat) : Int) by omega]
  refine (cut_row gz oz (2 * n) cz (2 * k) _ hcz (by omega)).mono ?_
  rintro e w3 ⟨rfl, r3, hw⟩
  rw [cutOff_lt (show 2 * k < 2 * n by omega)]
  obtain ⟨C3⟩ : Nonempty (Chg (fun _ _ => False) w w3) := ⟨by rw [hw]; exact C2.drewN r3⟩
  clear hw C2
  have Z3 := hZ.chg C3 (fun _ _ h => h); have X3 := hX.chg C3 (fun _ _ h => h); have Y3 := hY.chg C3 (fun _ _ h => h); have S3 := hS.chg C3 (fun _ _ h => h)
  have ZL := Z3.sub 0 (2 * k) (by omega); have ZH := Z3.sub (2 * k) (2 * n - 2 * k) (by omega)
  have A0 := X3.sub 0 k (by omega); have A1 := X3.sub k (n - k) (by omega)
  have B0 := Y3.sub 0 k (by omega); have B1 := Y3.sub k (n - k) (by omega)
  rw [Nat.add_zero, List.drop_zero] at ZL A0 B0;go_wp2_with fail
  refine (HI1.out gz oz (2 * k) (2 * k) ga oa k gb ob k gs os ns cs _ _ _ _ _ rfl ZL A0 B0 S3 (by omega) (Nat.le_refl _) (Nat.le_refl _) (Nat.le_refl _) hcs (by omega) (by omega) (by omega) bcs (by unfold Dj at dax dbx dsz das dbs ⊢; omega) (by unfold Dj at dax dbx dsz das dbs ⊢; omega) (by unfold Dj at dax dbx dsz das dbs ⊢; omega) (by unfold Dj at dax dbx dsz das dbs ⊢; omega) (by unfold Dj at dax dbx dsz das dbs ⊢; omega)).mono ?_
  rintro e w4 ⟨zl, s4, rfl, C4, ZL4, S4, vL⟩
  have ZH4 := ZH.chg C4 (fun j hj => by unfold Dj at dax dbx dsz das dbs; unfold Rg; omega); have A04 := A0.chg C4 (fun j hj => by unfold Dj at dax dbx dsz das dbs; unfold Rg; omega); have A14 := A1.chg C4 (fun j hj => by unfold Dj at dax dbx dsz das dbs; unfold Rg; omega); have B04 := B0.chg C4 (fun j hj => by unfold Dj at dax dbx dsz das dbs; unfold Rg; omega); have B14 := B1.chg C4 (fun j hj => by unfold Dj at dax dbx dsz das dbs; unfold Rg; omega)
  have D4 : Chg (fun b o => Rg gz oz (2 * n) b o ∨ Rg gs os ns b o) w w4 := (C3.mono (fun _ _ h => absurd h id)).trans (C4.mono (fun b o h => by unfold Rg at *; omega))
  clear C3 C4 Z3 X3 Y3 S3 ZL ZH A0 A1 B0 B1 sm1;go_wp2_with fail
  refine (HI2.out gz (oz + 2 * k) (2 * n - 2 * k) (2 * n - 2 * k) ga (oa + k) (n - k) gb (ob + k) (n - k) gs os ns cs _ _ _ _ _ (by omega) ZH4 A14 B14 S4 (by omega) (Nat.le_refl _) (Nat.le_refl _) (Nat.le_refl _) hcs (by omega) (by omega) (by omega) bcs (by unfold Dj at dax dbx dsz das dbs ⊢; omega) (by unfold Dj at dax dbx dsz das dbs ⊢; omega) (by unfold Dj at dax dbx dsz das dbs ⊢; omega) (by unfold Dj at dax dbx dsz das dbs ⊢; omega) (by unfold Dj at dax dbx dsz das dbs ⊢; omega)).mono ?_
  rintro e w5 ⟨zh, s5, rfl, C5, ZH5, S5, vH⟩
  have ZL5 := ZL4.chg C5 (fun j hj => by unfold Dj at dax dbx dsz das dbs; unfold Rg; omega); have A05 := A04.chg C5 (fun j hj => by unfold Dj at dax dbx dsz das dbs; unfold Rg; omega); have A15 := A14.chg C5 (fun j hj => by unfold Dj at dax dbx dsz das dbs; unfold Rg; omega); have B05 := B04.chg C5 (fun j hj => by unfold Dj at dax dbx dsz das dbs; unfold Rg; omega); have B15 := B14.chg C5 (fun j hj => by unfold Dj at dax dbx dsz das dbs; unfold Rg; omega)
  have D5 := D4.trans (C5.mono (fun b o h => by unfold Rg at *; omega))
  clear D4 C5 ZL4 ZH4 A04 A14 B04 B14 S4 sm2;go_wp2_with fail
  rw [show ((k : Int) + 1) = ((k + 1 : Nat) : Int) by omega]
  refine (cut_row gs os ns cs (k + 1) _ hcs (by omega)).mono ?_
  rintro e w6 ⟨rfl, r6, hw⟩
  rw [cutOff_lt (show k + 1 < ns by omega)]
  obtain ⟨C6⟩ : Nonempty (Chg (fun _ _ => False) w5 w6) := ⟨by rw [hw]; exact (Chg.refl _ _).drewN r6⟩
  clear hw;go_wp2_with fail
  rw [show ((k : Int) + 1) = ((k + 1 : Nat) : Int) by omega]
  refine (cut_row gs (os + (k + 1)) (ns - (k + 1)) (ns - (k + 1)) (k + 1) _ (Nat.le_refl _) (by omega)).mono ?_
  rintro e w7 ⟨rfl, r7, hw⟩
  rw [cutOff_lt (show k + 1 < ns - (k + 1) by omega)]
  obtain ⟨C7⟩ : Nonempty (Chg (fun _ _ => False) w5 w7) := ⟨by rw [hw]; exact C6.drewN r7⟩
  clear hw C6;go_wp2_with fail
  rw [show (2 * ((k : Int) + 1)) = ((2 * (k + 1) : Nat) : Int) by omega]
  refine (cut_row gs (os + (k + 1) + (k + 1)) (ns - (k + 1) - (k + 1)) (ns - (k + 1) - (k + 1)) (2 * (k + 1)) _ (Nat.le_refl _) (by omega)).mono ?_
  rintro e w8 ⟨rfl, r8, hw⟩
  obtain ⟨C8⟩ : Nonempty (Chg (fun _ _ => False) w5 w8) := ⟨by rw [hw]; exact C7.drewN r8⟩
  clear hw C7;obtain ⟨t, ht⟩ := exq (cutOff (os + (k + 1) + (k + 1)) (ns - (k + 1) - (k + 1)) (2 * (k + 1)));rw [← ht];obtain ⟨n4, hn4⟩ := exq (ns - (k + 1) - (k + 1) - 2 * (k + 1));rw [← hn4]
  have htt : (n4 = 0 ∧ t = os + 2 * (k + 1)) ∨ (0 < n4 ∧ t = os + 4 * (k + 1)) := by
    by_cases h0 : 2 * (k + 1) = ns - (k + 1) - (k + 1)
    · rw [cutOff_eq h0] at ht; omega
    · rw [cutOff_lt (by omega)] at ht; omega
  have HT : Hid ((n4 = 0 ∧ t = os + 2 * (k + 1)) ∨ (0 < n4 ∧ t = os + 4 * (k + 1))) := htt
  have HN4 : Hid (n4 + 4 * (k + 1) = ns) := by show _ = _; omega
  have S8 := S5.chg C8 (fun _ _ h => h); have ZL8 := ZL5.chg C8 (fun _ _ h => h); have ZH8 := ZH5.chg C8 (fun _ _ h => h)
  have A08 := A05.chg C8 (fun _ _ h => h); have A18 := A15.chg C8 (fun _ _ h => h); have B08 := B05.chg C8 (fun _ _ h => h); have B18 := B15.chg C8 (fun _ _ h => h)
  have D8 := D5.trans (C8.mono (fun _ _ h => absurd h id))
  have SA8 := S8.sub 0 (k + 1) (by omega); have SB8 := S8.sub (k + 1) (k + 1) (by omega); have MI8 := S8.sub (2 * (k + 1)) (2 * (k + 1)) (by omega)
  rw [Nat.add_zero] at SA8
  have SR8 : ∃ sr, Row w8 gs t n4 sr := by
    rcases htt with ⟨h0, _⟩ | ⟨_, h1⟩
    · subst h0; exact ⟨[], rfl, Dig.nil _, fun j hj => by omega, fun j hj => by omega⟩
    · rw [h1]; exact ⟨_, S8.sub (4 * (k + 1)) n4 (by omega)⟩
  obtain ⟨sr, SR8⟩ := SR8;clear ht hn4 htt S5 ZL5 ZH5 A05 A15 B05 B15 C8 D5 S8;go_wp2_with fail
  refine (addh_any gs os k (k + 1) _ (some ⟨ga, oa, none⟩) (some ⟨ga, oa + k, none⟩) k (n - k) (n - k) _ _ _ SA8 (Nat.le_refl _) (by omega) (A08.at_ (Nat.le_refl _) (by unfold maxLen; omega)) (A18.at_ (Nat.le_refl _) (by unfold maxLen; omega)) (by omega) (by omega) (dj_some (by unfold Dj at dax dbx dsz das dbs ⊢; omega)) (fun g2 o2 _ hp => dj_some (g := ga) (off := oa + k) (n := n - k) (by unfold Dj at dax dbx dsz das dbs ⊢; omega) g2 o2 hp)).mono ?_
  rintro e w9 ⟨sa, rfl, W9, SA9, vSA⟩;have C9 := W9.chg
  have B09 := B08.chg C9 (fun j hj => by unfold Dj at dax dbx dsz das dbs; unfold Rg; omega); have B19 := B18.chg C9 (fun j hj => by unfold Dj at dax dbx dsz das dbs; unfold Rg; omega); have ZL9 := ZL8.chg C9 (fun j hj => by unfold Dj at dax dbx dsz das dbs; unfold Rg; omega); have ZH9 := ZH8.chg C9 (fun j hj => by unfold Dj at dax dbx dsz das dbs; unfold Rg; omega); have SB9 := SB8.chg C9 (fun j hj => by unfold Dj at dax dbx dsz das dbs; unfold Rg; omega); have MI9 := MI8.chg C9 (fun j hj => by unfold Dj at dax dbx dsz das dbs; unfold Rg; omega)
  have SR9 := SR8.chg C9 (fun j hj => by have := HT.out; unfold Rg; omega)
  have D9 := D8.trans (C9.mono (fun b o h => by unfold Rg at *; omega))
  clear W9 C9 D8 SA8 SB8 MI8 SR8 B08 B18 ZL8 ZH8;go_wp2_with fail
  refine (addh_any gs (os + (k + 1)) k (k + 1) _ (some ⟨gb, ob, none⟩) (some ⟨gb, ob + k, none⟩) k (n - k) (n - k) _ _ _ SB9 (Nat.le_refl _) (by omega) (B09.at_ (Nat.le_refl _) (by unfold maxLen; omega)) (B19.at_ (Nat.le_refl _) (by unfold maxLen; omega)) (by omega) (by omega) (dj_some (by unfold Dj at dax dbx dsz das dbs ⊢; omega)) (fun g2 o2 _ hp => dj_some (g := gb) (off := ob + k) (n := n - k) (by unfold Dj at dax dbx dsz das dbs ⊢; omega) g2 o2 hp)).mono ?_
  rintro e w10 ⟨sb, rfl, W10, SB10, vSB⟩;have C10 := W10.chg
  have ZL10 := ZL9.chg C10 (fun j hj => by unfold Dj at dax dbx dsz das dbs; unfold Rg; omega); have ZH10 := ZH9.chg C10 (fun j hj => by unfold Dj at dax dbx dsz das dbs; unfold Rg; omega); have SA10 := SA9.chg C10 (fun j hj => by unfold Dj at dax dbx dsz das dbs; unfold Rg; omega); have MI10 := MI9.chg C10 (fun j hj => by unfold Dj at dax dbx dsz das dbs; unfold Rg; omega)
  have SR10 := SR9.chg C10 (fun j hj => by have := HT.out; unfold Rg; omega)
  have D10 := D9.trans (C10.mono (fun b o h => by unfold Rg at *; omega))
  clear W10 C10 D9 SA9 SB9 MI9 SR9 B09 B19 ZL9 ZH9;go_wp2_with fail
  refine (HI3.out gs (os + (k + 1) + (k + 1)) (2 * (k + 1)) (2 * (k + 1)) gs os (k + 1) gs (os + (k + 1)) (k + 1) gs t n4 n4 _ _ _ _ _ rfl (by rw [show os + (k + 1) + (k + 1) = os + 2 * (k + 1) by omega]; exact MI10) SA10.rd SB10.rd SR10 (by have := HN4.out; omega) (Nat.le_refl _) (Nat.le_refl _) (Nat.le_refl _) (Nat.le_refl _) (by omega) (by omega) (by omega) (by have := HN4.out; omega) (by unfold Dj; omega) (by unfold Dj; omega) (by have := HT.out; unfold Dj; omega) (by have := HT.out; unfold Dj; omega) (by have := HT.out; unfold Dj; omega)).mono ?_
  rintro e w11 ⟨zm, s11, rfl, C11, MI11, SR11, vM⟩
  have ZL11 := ZL10.chg C11 (fun j hj => by have h1 := HT.out; have h2 := HN4.out; unfold Dj at dax dbx dsz das dbs; unfold Rg; omega); have ZH11 := ZH10.chg C11 (fun j hj => by have h1 := HT.out; have h2 := HN4.out; unfold Dj at dax dbx dsz das dbs; unfold Rg; omega); have SA11 := SA10.chg C11 (fun j hj => by have h1 := HT.out; have h2 := HN4.out; unfold Dj at dax dbx dsz das dbs; unfold Rg; omega); have SB11 := SB10.chg C11 (fun j hj => by have h1 := HT.out; have h2 := HN4.out; unfold Dj at dax dbx dsz das dbs; unfold Rg; omega)
  have D11 := D10.trans (C11.mono (fun b o h => by have h1 := HT.out; have h2 := HN4.out; unfold Rg at *; omega))
  clear C11 D10 ZL10 ZH10 SA10 SB10 MI10 SR10;go_wp2_with fail
  refine (lsub_any gs (os + (k + 1) + (k + 1)) (2 * (k + 1)) (2 * (k + 1)) _ (some ⟨gz, oz, none⟩) (2 * k) (2 * k) _ _ MI11 (Nat.le_refl _) (by omega) (ZL11.rd.at_ (Nat.le_refl _) (by unfold maxLen; omega)) (by omega) (dj_some' (by unfold Dj at dax dbx dsz das dbs ⊢; omega))).mono ?_
  rintro e w12 ⟨cy1, m1, rfl, hc1, W12, MI12, e12⟩;have C12 := W12.chg
  have ZL12 := ZL11.chg C12 (fun j hj => by unfold Dj at dax dbx dsz das dbs; unfold Rg; omega); have ZH12 := ZH11.chg C12 (fun j hj => by unfold Dj at dax dbx dsz das dbs; unfold Rg; omega); have SA12 := SA11.chg C12 (fun j hj => by unfold Dj at dax dbx dsz das dbs; unfold Rg; omega); have SB12 := SB11.chg C12 (fun j hj => by unfold Dj at dax dbx dsz das dbs; unfold Rg; omega); have SR12 := SR11.chg C12 (fun j hj => by have h1 := HT.out; have h2 := HN4.out; unfold Dj at dax dbx dsz das dbs; unfold Rg; omega)
  have D12 := D11.trans (C12.mono (fun b o h => by unfold Rg at *; omega))
  clear C12 W12 D11 ZL11 ZH11 SA11 SB11 MI11 SR11;go_wp2_with fail
  refine (lsub_any gs (os + (k + 1) + (k + 1)) (2 * (k + 1)) (2 * (k + 1)) _ (some ⟨gz, oz + 2 * k, none⟩) (2 * n - 2 * k) (2 * n - 2 * k) _ _ MI12 (Nat.le_refl _) (by omega) (ZH12.rd.at_ (Nat.le_refl _) (by unfold maxLen; omega)) (by omega) (dj_some' (by unfold Dj at dax dbx dsz das dbs ⊢; omega))).mono ?_
  rintro e w13 ⟨cy2, m2, rfl, hc2, W13, MI13, e13⟩;have C13 := W13.chg
  have ZL13 := ZL12.chg C13 (fun j hj => by unfold Dj at dax dbx dsz das dbs; unfold Rg; omega); have ZH13 := ZH12.chg C13 (fun j hj => by unfold Dj at dax dbx dsz das dbs; unfold Rg; omega); have SA13 := SA12.chg C13 (fun j hj => by unfold Dj at dax dbx dsz das dbs; unfold Rg; omega); have SB13 := SB12.chg C13 (fun j hj => by unfold Dj at dax dbx dsz das dbs; unfold Rg; omega); have SR13 := SR12.chg C13 (fun j hj => by have h1 := HT.out; have h2 := HN4.out; unfold Dj at dax dbx dsz das dbs; unfold Rg; omega)
  have D13 := D12.trans (C13.mono (fun b o h => by unfold Rg at *; omega))
  have b12 := valB_lt B64_pos MI12.dig; have b13 := valB_lt B64_pos MI13.dig;rw [MI12.len] at b12; rw [MI13.len] at b13;clear C13 W13 D12 ZL12 ZH12 SA12 SB12 MI12 SR12
  have tx : (xs.drop k).take (n - k) = xs.drop k := List.take_of_length_le (by rw [List.length_drop, hX.len]; exact Nat.le_refl _)
  have ty : (ys.drop k).take (n - k) = ys.drop k := List.take_of_length_le (by rw [List.length_drop, hY.len]; exact Nat.le_refl _)
  rw [tx, ty] at vH;rw [tx] at vSA;rw [ty] at vSB;rw [vSA, vSB] at vM;have f12 := nb e12 b12 (kar_ge vL vM) hc1;have f13 := nb e13 b13 (kar_ge2 vL vH vM f12) hc2
  have hAB : valB B64 xs * valB B64 ys = valB B64 zl + B64 ^ k * valB B64 m2 + B64 ^ k * (B64 ^ k * valB B64 zh) := by
    rw [valB_split B64 xs k (by rw [hX.len]; omega), valB_split B64 ys k (by rw [hY.len]; omega)]
    exact kar_math vL vH rfl rfl vM f12 f13
  have bX := valB_lt B64_pos hX.dig; have bY := valB_lt B64_pos hY.dig;rw [hX.len] at bX; rw [hY.len] at bY
  have bXY : valB B64 xs * valB B64 ys < B64 ^ (2 * n) := by
    have := Nat.mul_lt_mul'' bX bY
    rw [← Nat.pow_add, show n + n = 2 * n by omega] at this; exact this
  have hZJ := ZL13.join ZH13
  rw [show 2 * k + (2 * n - 2 * k) = 2 * n by omega] at hZJ
  have lzl := ZL13.len
  have vJ : valB B64 (zl ++ zh) = valB B64 zl + B64 ^ (2 * k) * valB B64 zh := by rw [valB_append, lzl]
  have eP : B64 ^ (2 * k) = B64 ^ k * B64 ^ k := by rw [← Nat.pow_add, show k + k = 2 * k by omega]
  rw [eP, Nat.mul_assoc] at vJ
  have eQ : B64 ^ (2 * n) = B64 ^ k * B64 ^ (2 * n - k) := by rw [← Nat.pow_add, show k + (2 * n - k) = 2 * n by omega]
  have sJ := valB_split B64 (zl ++ zh) k (by rw [hZJ.len]; omega)
  have fit : valB B64 ((zl ++ zh).drop k) + valB B64 m2 < B64 ^ (2 * n - k) := by
    refine Nat.lt_of_mul_lt_mul_left (a := B64 ^ k) ?_
    rw [Nat.mul_add, ← eQ];rw [hAB] at bXY;generalize B64 ^ k * valB B64 m2 = Y1 at *;generalize B64 ^ k * (B64 ^ k * valB B64 zh) = Y2 at *;generalize B64 ^ k * valB B64 ((zl ++ zh).drop k) = Y3 at *;generalize B64 ^ (2 * n) = Y4 at *
    omega
  have HFIT : Hid (valB B64 ((zl ++ zh).drop k) + valB B64 m2 < B64 ^ (2 * n - k)) := fit
  have HFIN : Hid (valB B64 ((zl ++ zh).take k) + B64 ^ k * (valB B64 ((zl ++ zh).drop k) + valB B64 m2) = valB B64 xs * valB B64 ys) := by
    show _ = _
    rw [hAB, Nat.mul_add];generalize B64 ^ k * valB B64 m2 = Y1 at *;generalize B64 ^ k * (B64 ^ k * valB B64 zh) = Y2 at *;generalize B64 ^ k * valB B64 ((zl ++ zh).drop k) = Y3 at *
    omega
  have hN := Nf.trim MI13.dig;have hlenM : (trimL m2).length ≤ 2 * n - k := (hN.len_le B64_one).2 (Nat.lt_of_le_of_lt (Nat.le_add_left _ _) fit);have HVM : Hid (valB B64 (trimL m2) = valB B64 m2) := hN.val
  have MA : At w13.drew (some ⟨gs, os + (k + 1) + (k + 1), none⟩) (2 * (k + 1)) (2 * (k + 1)) m2 := MI13.drew.at_ (Nat.le_refl _) (by unfold maxLen; omega)
  have ZK := (hZJ.sub k (2 * n - k) (by omega)).drew
  have tz : ((zl ++ zh).drop k).take (2 * n - k) = (zl ++ zh).drop k := List.take_of_length_le (by rw [List.length_drop, hZJ.len]; exact Nat.le_refl _)
  rw [tz] at ZK
  have ZT := (hZJ.take k (by omega)).drew
  have HJ := hdQ hZJ;clear hAB bX bY bXY vJ eP eQ sJ fit hN tx ty tz vL vH vSA vSB vM f12 f13 e12 e13 b12 b13 lzl hZJ hc1 hc2 HI1 HI2 HI3;generalize zl ++ zh = zj at *;go_wp2_with fail
  have TR : Hid (∀ (p' : Option Addr) (m' : Nat), m' = (trimL m2).length → (m' ≠ 0 → p' = some ⟨gs, os + (k + 1) + (k + 1), none⟩) → At w13.drew p' m' m' (trimL m2) ∧ m' ≤ 2 * n - k ∧ (∀ g2 off2, 0 < m' → p' = some ⟨g2, off2, none⟩ → g2 ≠ gz ∨ off2 + m' ≤ oz + k ∨ oz + k + (2 * n - k) ≤ off2)) := by
    intro p' m' h1 h2
    exact ⟨MA.trim h1 h2, by omega, kar_hap (n := 2 * (k + 1)) h2 (by unfold Dj at dax dbx dsz das dbs ⊢; omega) (by have := trimL_length_le m2; have := MI13.len; omega)⟩
  go_region_with (first | (go_at_call 98; refine (trim_any MA).mono ?_; rintro e w14 ⟨p', m', rfl, hm', hp', hw⟩; obtain rfl := hw.symm; obtain ⟨TA, hml, hta⟩ := TR.out p' m' hm' hp'; have HTA : Hid _ := hta; clear hw hm' hp' hta) | (go_at_call 117; refine (ladd_any gz (oz + k) (2 * n - k) (cz - k) _ p' m' m' _ _ ZK (by omega) (by omega) TA hml HTA.out).mono ?_; rintro e w15 ⟨cy3, zz, rfl, hc3, W15, ZZ15, e15⟩))
  all_goals
    go_wp2_with fail
    go_end0
    have C15 := W15.chg
    have ZT15 := ZT.chg C15 (fun j hj => by unfold Dj at dax dbx dsz das dbs; unfold Rg; omega)
    have SA15 := SA13.drew.chg C15 (fun j hj => by unfold Dj at dax dbx dsz das dbs; unfold Rg; omega); have SB15 := SB13.drew.chg C15 (fun j hj => by unfold Dj at dax dbx dsz das dbs; unfold Rg; omega); have MI15 := MI13.drew.chg C15 (fun j hj => by unfold Dj at dax dbx dsz das dbs; unfold Rg; omega); have SR15 := SR13.drew.chg C15 (fun j hj => by have h1 := HT.out; have h2 := HN4.out; unfold Dj at dax dbx dsz das dbs; unfold Rg; omega)
    have D15 := D13.drew.trans (C15.mono (fun b o h => by unfold Rg at *; omega))
    have hz2 := ZT15.join ZZ15
    rw [show k + (2 * n - k) = 2 * n by omega] at hz2
    have hsj : ∃ ss', Row w15 gs os ns ss' := by
      have j1 := SA15.join SB15
      have j2 : Row w15 gs os ((k + 1) + (k + 1) + 2 * (k + 1)) ((sa ++ sb) ++ m2) := j1.join (by rw [← Nat.add_assoc]; exact MI15)
      rcases HT.out with ⟨h0, _⟩ | ⟨_, h1⟩
      · rw [show (k + 1) + (k + 1) + 2 * (k + 1) = ns by have := HN4.out; omega] at j2
        exact ⟨_, j2⟩
      · have j3 := j2.join (m := n4) (ys := s11) (by rw [show os + ((k + 1) + (k + 1) + 2 * (k + 1)) = t by omega]; exact SR15)
        rw [show (k + 1) + (k + 1) + 2 * (k + 1) + n4 = ns by have := HN4.out; omega] at j3
        exact ⟨_, j3⟩
    obtain ⟨ss', hss⟩ := hsj;rw [HVM.out] at e15;have ez := nc e15 HFIT.out rfl
    refine ⟨zj.take k ++ zz, ss', rfl, D15, hz2, hss, ?_⟩
    rw [valB_append, List.length_take, HJ.out.len, Nat.min_eq_left (by omega), ez]
    exact HFIN.out

theorem kar_any : ∀ (N n : Nat), n < N → n ≤ 100000 → 0 < n → KarSaid n := by
  intro N
  induction N with
  | zero => intro n h; omega
  | succ N ih =>
    intro n hn hb h0
    by_cases h : n < 48
    · exact kar_small n h h0
    · exact kar_step n h hb (fun m hm hm0 => ih m (by omega) (by omega) hm0)
def MulAt (m : Nat) : Prop := ∀ (p q : Option Addr) (n cn l cl : Nat) (xs ys : List Nat) (w : World), At w p n cn xs → At w q l cl ys → 0 < n → 0 < l → n ≤ 8192 → l ≤ 8192 → (n = m ∧ m ≤ l ∨ l = m ∧ m ≤ n) →
  Calls Tryz.prog 122 #[.slice p n cn, .slice q l cl] w fun e w' => ∃ p' m' zs, e = .returned (.slice p' m' m') ∧ Own w.heap.size w' p' m' zs ∧ Nf B64 zs (valB B64 xs * valB B64 ys) ∧ Below w.heap.size w w'
def BlkAt (m : Nat) : Prop := ∀ (gz oz cz n cn cm : Nat) (p q : Option Addr) (xs ys zs : List Nat) (w : World), Row w gz oz (n + m) zs → valB B64 zs = 0 → n + m ≤ cz → cz ≤ 1000000 → At w p n cn xs → At w q m cm ys → m ≤ n → n ≤ 8192 →
  (∀ g2 off2, p = some ⟨g2, off2, none⟩ → Dj g2 off2 n gz oz (n + m)) → (∀ g2 off2, q = some ⟨g2, off2, none⟩ → Dj g2 off2 m gz oz (n + m)) →
  Calls Tryz.prog 132 #[.slice (some ⟨gz, oz, none⟩) (n + m) cz, .slice p n cn, .slice q m cm] w fun e w' =>
    ∃ zs', e = .returned (.tuple #[]) ∧ Chg (Rg gz oz (n + m)) w w' ∧ Row w' gz oz (n + m) zs' ∧ valB B64 zs' = valB B64 xs * valB B64 ys

structure BlkRel (w : World) (gz oz L gp gs m ns : Nat) (xs ys : List Nat) (o : Nat) (wr : World) : Prop where
 chg : Chg (fun b c => Rg gz oz L b c ∨ Rg gp 0 (2 * m) b c ∨ Rg gs 0 ns b c) w wr
 part : ∃ ps, Row wr gp 0 (2 * m) ps
 scr : ∃ ss, Row wr gs 0 ns ss
 z : ∃ dk, Row wr gz oz L dk ∧ valB B64 dk = valB B64 (xs.take o) * valB B64 ys

theorem blk_val {xs ys dk zz ps : List Nat} {o m L n : Nat} (hdk : dk.length = L) (ho : o ≤ L) (hx : xs.length = n) (hy : ys.length = m) (hL : L = n + m) (hdx : Dig B64 xs) (hdy : Dig B64 ys) (om : o + m ≤ n) (cy : Nat)
  (hv : valB B64 dk = valB B64 (xs.take o) * valB B64 ys) (hp : valB B64 ps = valB B64 ((xs.drop o).take m) * valB B64 ys) (hz : valB B64 zz + B64 ^ (L - o) * cy = valB B64 (dk.drop o) + valB B64 ps) :
  valB B64 (dk.take o ++ zz) = valB B64 (xs.take (o + m)) * valB B64 ys := by
 have e1 : valB B64 (xs.take (o + m)) = valB B64 (xs.take o) + B64 ^ o * valB B64 ((xs.drop o).take m) := by
  have := valB_split B64 (xs.take (o + m)) o (by simp; omega)
  rw [List.take_take, Nat.min_eq_left (by omega), List.drop_take, Nat.add_sub_cancel_left] at this
  exact this
 have e2 := valB_split B64 dk o (by omega)
 have b1 := valB_lt B64_pos (hdx.take (o + m));have b2 := valB_lt B64_pos hdy
 rw [List.length_take, hx, Nat.min_eq_left (by omega)] at b1
 rw [hy] at b2
 have b3 : valB B64 (xs.take (o + m)) * valB B64 ys < B64 ^ L := by
  have := Nat.mul_lt_mul'' b1 b2;rw [← Nat.pow_add] at this
  exact Nat.lt_of_lt_of_le this (Nat.pow_le_pow_right B64_pos (by omega))
 have e3 : valB B64 (xs.take (o + m)) * valB B64 ys = valB B64 dk + B64 ^ o * valB B64 ps := by
  rw [e1, Nat.add_mul, hv, hp, Nat.mul_assoc]
 have eQ : B64 ^ L = B64 ^ o * B64 ^ (L - o) := by rw [← Nat.pow_add, show o + (L - o) = L by omega]
 have fit : valB B64 (dk.drop o) + valB B64 ps < B64 ^ (L - o) := by
  refine Nat.lt_of_mul_lt_mul_left (a := B64 ^ o) ?_
  rw [Nat.mul_add, ← eQ];rw [e3] at b3
  omega
 have ez := nc hz fit rfl;rw [valB_append, List.length_take, hdk, Nat.min_eq_left ho, ez, e3, Nat.mul_add]
 omega

theorem blk_fin {xs ys dk zz ps : List Nat} {o m n cy : Nat} (hdk : dk.length = n + m) (ho : o ≤ n) (hx : xs.length = n) (hy : ys.length = m) (hdx : Dig B64 xs) (hdy : Dig B64 ys)
  (hv : valB B64 dk = valB B64 (xs.take o) * valB B64 ys) (hp : valB B64 ps = valB B64 ((xs.drop o).take (n - o)) * valB B64 ys) (hz : valB B64 zz + B64 ^ (n + m - o) * cy = valB B64 (dk.drop o) + valB B64 ps) :
  valB B64 (dk.take o ++ zz) = valB B64 xs * valB B64 ys := by
 have e1 : valB B64 xs = valB B64 (xs.take o) + B64 ^ o * valB B64 ((xs.drop o).take (n - o)) := by
  rw [List.take_of_length_le (i := n - o) (by rw [List.length_drop, hx]; exact Nat.le_refl _)]
  exact valB_split B64 xs o (by omega)
 have e2 := valB_split B64 dk o (by omega)
 have b1 := valB_lt B64_pos hdx;have b2 := valB_lt B64_pos hdy;rw [hx] at b1;rw [hy] at b2
 have b3 : valB B64 xs * valB B64 ys < B64 ^ (n + m) := by
  have := Nat.mul_lt_mul'' b1 b2;rw [← Nat.pow_add] at this; exact this
 have e3 : valB B64 xs * valB B64 ys = valB B64 dk + B64 ^ o * valB B64 ps := by
  rw [hv, hp];rw [← Nat.mul_assoc, ← Nat.add_mul, ← e1]
 have eQ : B64 ^ (n + m) = B64 ^ o * B64 ^ (n + m - o) := by rw [← Nat.pow_add, show o + (n + m - o) = n + m by omega]
 have fit : valB B64 (dk.drop o) + valB B64 ps < B64 ^ (n + m - o) := by
  refine Nat.lt_of_mul_lt_mul_left (a := B64 ^ o) ?_
  rw [Nat.mul_add, ← eQ];rw [e3] at b3
  omega
 have ez := nc hz fit rfl
 rw [valB_append, List.length_take, hdk, Nat.min_eq_left (by omega), ez, e3, Nat.mul_add]
 omega

theorem At.chg {w w' : World} {S : Nat → Nat → Prop} {p : Option Addr} {n c : Nat} {xs : List Nat} (h : At w p n c xs) (hc : Chg S w w') (hd : ∀ g off, p = some ⟨g, off, none⟩ → ∀ j, j < n → g < w.heap.size → ¬ S g (off + j)) : At w' p n c xs := by
  refine ⟨h.len, h.cap, h.big, h.dig, ?_⟩
  rcases h.cells with h0 | ⟨g, off, rfl, hcl⟩
  · exact .inl h0
  · exact .inr ⟨g, off, rfl, fun j hj => hc.cell (hd g off rfl j hj (World.block_lt_of_cell? w _ (hcl j hj))) (hcl j hj)⟩
theorem Chg.trans_new {S T : Nat → Nat → Prop} {a b c : World} (h : Chg S a b) (k : Chg T b c) (hT : ∀ x o, x < a.heap.size → T x o → S x o) : Chg S a c := by
  refine ⟨k.os.trans h.os, k.tape.trans h.tape, k.output.trans h.output, Nat.le_trans h.size k.size, fun i cur t fr hi => ?_, fun i hi hn => ?_⟩
  · have hlt : i < a.heap.size := (Array.getElem?_eq_some_iff.1 hi).1
    obtain ⟨c1, g1, s1, e1⟩ := h.row i cur t fr hi;obtain ⟨c2, g2, s2, e2⟩ := k.row i c1 t fr g1
    exact ⟨c2, g2, s2.trans s1, fun j hj => (e2 j (fun ht => hj (hT i j hlt ht))).trans (e1 j hj)⟩
  · have e1 := h.other i hi hn
    rw [← e1]
    exact k.other i (Nat.lt_of_lt_of_le hi h.size) (by rw [e1]; exact hn)
theorem wrap_small (o : Nat) (h : o ≤ 1000000) : IntKind.i64.wrap (o : Int) = (o : Int) := by
  simp [IntKind.wrap, IntKind.signed, IntKind.bits]
  omega
theorem Own.at2 {B : Nat} {w : World} {p : Option Addr} {m : Nat} {zs : List Nat} (h : Own B w p m zs) (hm : m ≤ 9223372036854775807) : At w p m m zs := by
  refine ⟨h.len, Nat.le_refl _, by unfold maxLen; omega, h.dig, ?_⟩
  rcases h.mem with h0 | ⟨g, rfl, _, hr⟩
  · exact .inl h0
  · exact .inr ⟨g, 0, rfl, hr.cell⟩
theorem Own.dj {B : Nat} {w : World} {p : Option Addr} {m : Nat} {zs : List Nat} (h : Own B w p m zs) {g off n : Nat} (hg : g < B) : ∀ g2 off2, 0 < m → p = some ⟨g2, off2, none⟩ → g2 ≠ g ∨ off2 + m ≤ off ∨ off + n ≤ off2 := by
  intro g2 off2 h0 hp
  obtain ⟨g3, h1, h2, _⟩ := h.mem.resolve_left (by omega)
  rw [hp] at h1
  simp only [Option.some.injEq, Addr.mk.injEq, and_true] at h1
  omega

theorem blk_step (m : Nat) (h48 : 48 ≤ m) (ih : ∀ r, r < m → 0 < r → MulAt r) : BlkAt m := by
  intro gz oz cz n cn cm p q xs ys zs w hZ hz0 hcz bcz hA hB hmn hn8 dax dbx
  obtain ⟨ga, oa, rfl, hca⟩ := hA.cells.resolve_left (by omega)
  obtain ⟨gb, ob, rfl, hcb⟩ := hB.cells.resolve_left (by omega)
  have dA := dax ga oa rfl;have dB := dbx gb ob rfl
  have ltz := hZ.lt (by omega)
  have lta : ga < w.heap.size := World.block_lt_of_cell? w _ (hca 0 (by omega))
  have ltb : gb < w.heap.size := World.block_lt_of_cell? w _ (hcb 0 (by omega))
  have al := hA.len; have bl := hB.len; have acap := hA.cap; have bcap := hB.cap; have abig := hA.big; have bbig := hB.big;unfold maxLen at abig bbig
  have hscr := scr_le (m + 1) m (by omega)
  have hscp : 0 < scr m := by rw [scr_ge (by omega)]; omega
  obtain ⟨ns, hns⟩ := exq (scr m);rw [← hns] at hscr hscp;obtain ⟨cnt, hcnt⟩ := exq (n / m)
  have ecnt : (n : Int) / (m : Int) = (cnt : Int) := by rw [hcnt]; exact (Int.natCast_ediv _ _).symm
  have hcm := Nat.div_mul_le_self n m;have hdm := Nat.div_add_mod n m
  have hml := Nat.mod_lt n (show 0 < m by omega)
  rw [Nat.mul_comm] at hdm;rw [← hcnt] at hcm hdm
  have hcb8 : cnt ≤ 8192 := by rw [hcnt]; exact Nat.le_trans (Nat.div_le_self _ _) hn8
  have HIH : Hid (∀ r, r < m → 0 < r → MulAt r) := ih
  have HNS : Hid (ns = scr m) := hns;have HCM : Hid (cnt * m ≤ n) := hcm;have HDM : Hid (cnt * m + n % m = n) := hdm;have HDA := hdQ dA;have HDB := hdQ dB;have HZ0 : Hid (valB B64 zs = 0) := hz0;clear ih hns hcm hdm hcnt dax dbx dA dB hz0;obtain ⟨i0, hi, hzz0, hzz1, hzz2⟩ := info_parts Tryz.infoU64
  go_enter Tryz.func132, Tryz.ntmps132
  go_wp2_with (at_make; refine wpList_make_full _ rfl _ _ 22 rfl w.heap.size 71 i0 (.int .u64 0) 1 Tryz.underlying22 hi hzz0 hzz1 _ _ _ _ (2 * m) rfl rfl (by omega) (by omega) (by rw [hzz2]; omega) (by unfold maxLen; omega) (Nat.le_refl _) ?_; intro w1 hown hgrow; have hmk := made_blk hown hgrow; clear hown hgrow)
  obtain ⟨hblk1, hb1⟩ := hmk
  refine (scr_any m _ (by omega)).mono ?_
  rintro e w1' ⟨rfl, hw⟩;obtain rfl := hw.symm;rw [← HNS.out];clear hw
  go_wp2_with (at_make; refine wpList_make_full _ rfl _ _ 22 rfl w1.heap.size 71 i0 (.int .u64 0) 1 Tryz.underlying22 hi hzz0 hzz1 _ _ _ _ ns rfl rfl (by omega) (by omega) (by rw [hzz2]; omega) (by unfold maxLen; omega) (Nat.le_refl _) ?_; intro w2 hown hgrow; have hmk := made_blk hown hgrow; clear hown hgrow)
  obtain ⟨hblk2, hb2⟩ := hmk;have hlt1 := hblk1.lt;have hr1 := (hblk1.row (Dig.replicate _ _ B64_pos)).below hb2 hlt1;have hr2 := hblk2.row (Dig.replicate _ _ B64_pos);rw [List.length_replicate] at hr1 hr2;have hb12 : Below w.heap.size w w2 := hb1.trans (hb2.mono hb1.size);have Z2 := hZ.below hb12 ltz;have A2 := hA.below hb12; have B2 := hB.below hb12;have hgp : w.heap.size < w1.heap.size := hlt1;obtain ⟨gp, hgpe⟩ := exq w.heap.size;obtain ⟨gs, hgse⟩ := exq w1.heap.size;rw [← hgpe] at hr1 ⊢;rw [← hgse] at hr2 ⊢
  have hap : ga < gp ∧ gb < gp ∧ gz < gp ∧ gp < gs := by omega
  have HC2 : Hid (Chg (Rg gz oz (n + m)) w w2) := Below.chg hb12 _;have hs2 := hb2.size; have hs1 := hb1.size
  have hgpw : w.heap.size ≤ gp := by omega
  have hsz : gs < w2.heap.size := hr2.lt hscp;clear hblk1 hblk2 hb1 hb2 hlt1 hgp hb12 hgpe hgse;go_wp2_with fail
  go_loopw [10, 11, 26] (fun _ _ i wr => ∃ k : Nat, k ≤ cnt ∧ i = .int .i64 k ∧ BlkRel w2 gz oz (n + m) gp gs m ns xs ys (k * m) wr) (fun _ _ i _ => cnt - (intOf i).toNat)
  case atStart => exact ⟨0, Nat.zero_le _, rfl, Chg.refl _ _, ⟨_, hr1⟩, ⟨_, hr2⟩, zs, Z2, by rw [HZ0.out]; simp [valB]⟩
  case round =>
    obtain ⟨k, hk, rfl, hR⟩ := hrel
    by_cases hlt : k < cnt
    · obtain ⟨o, ho⟩ := exq (k * m)
      have hom : o + m ≤ n := by
        have h1 : (k + 1) * m ≤ cnt * m := Nat.mul_le_mul_right m hlt;have h2 := HCM.out;rw [Nat.add_mul, Nat.one_mul] at h1
        omega
      have e1 : (k : Int) * (m : Int) = (o : Int) := by rw [ho]; exact (Int.natCast_mul _ _).symm
      have e2 : ((k : Int) + 1) * (m : Int) = ((o + m : Nat) : Int) := by rw [Int.add_mul, e1]; omega
      rw [← ho] at hR;obtain ⟨ps, P3⟩ := hR.part;obtain ⟨ss, S3⟩ := hR.scr;obtain ⟨dk, Z3, vZ⟩ := hR.z;have C3 := hR.chg
      have A3 := A2.chg C3 (fun g off hp j hj hg => by
        simp only [Option.some.injEq, Addr.mk.injEq, and_true] at hp
        obtain ⟨rfl, rfl⟩ := hp;have := HDA.out; unfold Dj at this; unfold Rg; omega)
      have B3 := B2.chg C3 (fun g off hp j hj hg => by
        simp only [Option.some.injEq, Addr.mk.injEq, and_true] at hp
        obtain ⟨rfl, rfl⟩ := hp;have := HDB.out; unfold Dj at this; unfold Rg; omega)
      have RA : Rd wr ga oa n xs := by
        obtain ⟨g3, o3, hp3, hc3⟩ := A3.cells.resolve_left (by omega)
        simp only [Option.some.injEq, Addr.mk.injEq, and_true] at hp3
        obtain ⟨rfl, rfl⟩ := hp3
        exact ⟨al, A3.dig, hc3⟩
      have RB : Rd wr gb ob m ys := by
        obtain ⟨g3, o3, hp3, hc3⟩ := B3.cells.resolve_left (by omega)
        simp only [Option.some.injEq, Addr.mk.injEq, and_true] at hp3
        obtain ⟨rfl, rfl⟩ := hp3
        exact ⟨bl, B3.dig, hc3⟩
      have RK := RA.sub o m (by omega)
      have HVZ : Hid (valB B64 dk = valB B64 (xs.take o) * valB B64 ys) := vZ;have HO : Hid (o = k * m) := ho;clear hR vZ ho A3 B3;go_wp2_with fail
      refine (kar_any (m + 1) m (by omega) (by omega) (by omega) gp 0 (2 * m) (2 * m) ga (oa + o) m gb ob cm gs 0 ns ns _ _ _ _ _ rfl P3 RK RB S3 (by rw [HNS.out]; exact Nat.le_refl _) (Nat.le_refl _) (Nat.le_refl _) bcap (Nat.le_refl _) (by omega) (by omega) (by omega) (by omega) (by unfold Dj; omega) (by unfold Dj; omega) (by unfold Dj; omega) (by unfold Dj; omega) (by unfold Dj; omega)).mono ?_
      rintro e w4 ⟨zp, s4, rfl, C4, P4, S4, vP⟩
      have Z4 := Z3.chg C4 (fun j hj => by unfold Rg; omega)
      have ZO := Z4.sub o (n + m - o) (by omega)
      have tz : (dk.drop o).take (n + m - o) = dk.drop o := List.take_of_length_le (by rw [List.length_drop, Z4.len]; exact Nat.le_refl _)
      rw [tz] at ZO;have HVP : Hid (valB B64 zp = valB B64 ((xs.drop o).take m) * valB B64 ys) := vP;clear vP tz P3 S3 Z3 RA RB RK;go_wp2_with fail
      refine (ladd_any gz (oz + o) (n + m - o) (cz - o) _ (some ⟨gp, 0, none⟩) (2 * m) (2 * m) _ _ ZO (by omega) (by omega) (P4.at_ (Nat.le_refl _) (by unfold maxLen; omega)) (by omega) (fun g2 off2 _ hp => by
        simp only [Option.some.injEq, Addr.mk.injEq, and_true] at hp
        omega)).mono ?_
      rintro e w5 ⟨cy, zz, rfl, hcy, W5, ZZ5, e5⟩;have HE5 : Hid (valB B64 zz + B64 ^ (n + m - o) * cy = valB B64 (dk.drop o) + valB B64 zp) := e5;clear e5;go_wp2_with fail
      go_roundw
      case rel =>
        have ho := HO.out;have C5 := W5.chg
        refine ⟨k + 1, by omega, by go_num, ?_⟩
        rw [Nat.add_mul, Nat.one_mul, ← ho]
        refine ⟨(C3.trans (C4.mono (fun b c h => by unfold Rg at *; omega))).trans (C5.mono (fun b c h => by unfold Rg at *; omega)), ⟨_, P4.chg C5 (fun j hj => by unfold Rg; omega)⟩, ⟨_, S4.chg C5 (fun j hj => by unfold Rg; omega)⟩, dk.take o ++ zz, ?_, ?_⟩
        · have lo := (Z4.take o (by omega)).chg C5 (fun j hj => by unfold Rg; omega)
          have all := lo.join ZZ5
          rw [show o + (n + m - o) = n + m by omega] at all
          exact all
        · exact blk_val Z4.len (by omega) al bl rfl hA.dig hB.dig hom cy HVZ.out HVP.out HE5.out
      case measure => simp [intOf]; omega
    · obtain rfl : k = cnt := by omega
      obtain ⟨o, ho⟩ := exq (k * m)
      have hon : o ≤ n := by rw [ho]; exact HCM.out
      have e1 : (k : Int) * (m : Int) = (o : Int) := by rw [ho]; exact (Int.natCast_mul _ _).symm
      have hrm : n - o < m := by have := HDM.out; rw [← ho] at this; omega
      rw [← ho] at hR;have C3 := hR.chg;obtain ⟨dk, Z3, vZ⟩ := hR.z
      have HC3 : Hid (Chg (Rg gz oz (n + m)) w wr) := HC2.out.trans_new C3 (fun x c hx h => by unfold Rg at *; omega)
      have A3 := A2.chg C3 (fun g off hp j hj hg => by
        simp only [Option.some.injEq, Addr.mk.injEq, and_true] at hp
        obtain ⟨rfl, rfl⟩ := hp;have := HDA.out; unfold Dj at this; unfold Rg; omega)
      have B3 := B2.chg C3 (fun g off hp j hj hg => by
        simp only [Option.some.injEq, Addr.mk.injEq, and_true] at hp
        obtain ⟨rfl, rfl⟩ := hp;have := HDB.out; unfold Dj at this; unfold Rg; omega)
      have hszr := C3.size;have HVZ : Hid (valB B64 dk = valB B64 (xs.take o) * valB B64 ys) := vZ;have HO2 : Hid (k * m = o) := ho.symm;clear hR vZ ho HCM HDM
      by_cases hr0 : n ≤ o
      · go_wp2_with fail
        all_goals go_end0
        all_goals have hv2 : valB B64 dk = valB B64 xs * valB B64 ys := by rw [HVZ.out, List.take_of_length_le (by omega)]
        all_goals first | exact ⟨dk, rfl, HC3.out, Z3, hv2⟩ | exact ⟨rfl, HC3.out, dk, Z3, hv2⟩
      · have RA : Rd wr ga oa n xs := by
          obtain ⟨g3, o3, hp3, hc3⟩ := A3.cells.resolve_left (by omega)
          simp only [Option.some.injEq, Addr.mk.injEq, and_true] at hp3
          obtain ⟨rfl, rfl⟩ := hp3
          exact ⟨al, A3.dig, hc3⟩
        have RK := (RA.sub o (n - o) (by omega)).at_ (c := cn - o) (by omega) (by unfold maxLen; omega)
        have tk : (xs.drop o).take (n - o) = xs.drop o := List.take_of_length_le (by rw [List.length_drop, al]; exact Nat.le_refl _)
        rw [tk] at RK;have RK2 : At wr.drew (some ⟨ga, oa + o, none⟩) (n - o) (cn - o) (xs.drop o) := ⟨RK.len, RK.cap, RK.big, RK.dig, RK.cells⟩;have B32 : At wr.drew (some ⟨gb, ob, none⟩) m cm ys := ⟨B3.len, B3.cap, B3.big, B3.dig, B3.cells⟩
        have ZO := (Z3.sub o (n + m - o) (by omega)).drew
        have tz : (dk.drop o).take (n + m - o) = dk.drop o := List.take_of_length_le (by rw [List.length_drop, Z3.len]; exact Nat.le_refl _)
        rw [tz] at ZO
        have ZT := (Z3.take o (by omega)).drew
        have hzlt : gz < wr.heap.size := Z3.lt (by omega)
        have lenM : ∀ zs' : List Nat, Nf B64 zs' (valB B64 (xs.drop o) * valB B64 ys) → zs'.length ≤ n + m - o := by
          intro zs' hN
          refine (hN.len_le B64_one).2 ?_
          have b1 := valB_lt B64_pos (hA.dig.drop o); have b2 := valB_lt B64_pos hB.dig;rw [List.length_drop, al] at b1; rw [bl] at b2;have := Nat.mul_lt_mul'' b1 b2
          rw [← Nat.pow_add, show n - o + m = n + m - o by omega] at this; exact this
        have HLM : Hid (∀ zs' : List Nat, Nf B64 zs' (valB B64 (xs.drop o) * valB B64 ys) → zs'.length ≤ n + m - o) := lenM
        have HZL : Hid (dk.length = n + m) := Z3.len;clear tk tz RA RK A3 B3 lenM C3 Z3
        have h1 : ¬ o = cz := by omega
        have h2 : ¬ cz = o := by omega
        have h3 : (o : Int) ≤ (n : Int) + (m : Int) := by omega
        have h3n : o ≤ n + m := by omega
        go_wp2_with fail
        have hkm0 : 0 ≤ (k : Int) * (m : Int) := by rw [e1]; omega
        have hkm1 : (k : Int) * (m : Int) ≤ 1000000 := by rw [e1]; omega
        have hwo : IntKind.i64.wrap (o : Int) = (o : Int) := wrap_small o (by omega)
        clear h1 hkm0 hkm1
        go_region_with (first | (go_at_call 122; refine (HIH.out (n - o) hrm (by omega) (some ⟨ga, oa + o, none⟩) (some ⟨gb, ob, none⟩) (n - o) (cn - o) m cm _ _ _ RK2 B32 (by omega) (by omega) (by omega) (by omega) (.inl ⟨rfl, by omega⟩)).mono ?_; rintro e w6 ⟨p', m', zs6, rfl, ho6, n6, hb6⟩; have hm6 : m' ≤ n + m - o := (by rw [← ho6.len]; exact HLM.out zs6 n6); have ZO6 := ZO.below hb6 hzlt; have ZT6 := ZT.below hb6 hzlt) | (go_at_call 117; refine (ladd_any gz (oz + o) (n + m - o) (cz - o) _ p' m' m' _ _ ZO6 (by omega) (by omega) (ho6.at2 (by omega)) hm6 (ho6.dj hzlt)).mono ?_; rintro e w7 ⟨cy, zz, rfl, hcy, W7, ZZ7, e7⟩))
        all_goals
          go_wp2_with fail
          go_end0
          have C7 := W7.chg
          have lo := ZT6.chg C7 (fun j hj => by unfold Rg; omega)
          have all := lo.join ZZ7
          rw [show o + (n + m - o) = n + m by omega] at all
          refine ⟨dk.take o ++ zz, rfl, (HC3.out.drew.trans_new (Below.chg hb6 (Rg gz oz (n + m))) (fun x c _ h => h)).trans (C7.mono (fun b c h => by unfold Rg at *; omega)), all, ?_⟩
          have vps : valB B64 zs6 = valB B64 ((xs.drop o).take (n - o)) * valB B64 ys := by
            rw [n6.val, List.take_of_length_le (by rw [List.length_drop, al]; exact Nat.le_refl _)]
          exact blk_fin HZL.out hon al bl hA.dig hB.dig HVZ.out vps e7
theorem dj_fresh {w : World} {p : Option Addr} {n c : Nat} {xs : List Nat} (h : At w p n c xs) (hn : 0 < n) (off m : Nat) : ∀ g2 off2, p = some ⟨g2, off2, none⟩ → Dj g2 off2 n w.heap.size off m :=
 fun g2 off2 hp => .inl (h.fresh (Nat.le_refl _) g2 off2 hn hp)

theorem mul_of_blk (m : Nat) (hbk : 48 ≤ m → BlkAt m) : MulAt m := by
  intro p q n cn l cl xs ys w hA hB hn hl hn8 hl8 hcase
  have HB : Hid (48 ≤ m → BlkAt m) := hbk;have al := hA.len; have bl := hB.len;clear hbk;obtain ⟨i0, hi, hzz0, hzz1, hzz2⟩ := info_parts Tryz.infoU64
  by_cases hlt : n < l
  · have hm : n = m := by omega
    subst hm
    go_enter Tryz.func122, Tryz.ntmps122
    go_wp2_with (at_make; refine wpList_make_full _ rfl _ _ 22 rfl w.heap.size 71 i0 (.int .u64 0) 1 Tryz.underlying22 hi hzz0 hzz1 _ _ _ _ (l + n) rfl rfl (by omega) (by omega) (by rw [hzz2]; omega) (by unfold maxLen; omega) (Nat.le_refl _) ?_; intro w1 hown hgrow; have hmk := made_blk hown hgrow; clear hown hgrow)
    all_goals obtain ⟨hblk, hb1⟩ := hmk
    all_goals have hr := hblk.row (Dig.replicate _ _ B64_pos)
    all_goals rw [List.length_replicate] at hr
    all_goals have A1 := hB.below hb1
    all_goals have B1 := hA.below hb1
    · refine (rows_any w.heap.size 0 (l + n) _ q p l cl n cn ys xs _ hr (Nat.le_refl _) (by omega) A1 B1 (by omega) (by omega) (dj_fresh hB (by omega) 0 _) (dj_fresh hA (by omega) 0 _)).mono ?_
      rintro e w2 ⟨zs, rfl, hwr, hrow, hval⟩;have hb2 : Below w.heap.size w w2 := hb1.trans (hwr.below (Nat.le_refl _));clear hwr hb1 hblk hr A1 B1
      have A2 := hrow.at_ (Nat.le_refl _) (by unfold maxLen; omega)
      have hN := Nf.trim hrow.dig;rw [hval] at hN;have HV := hdQ hN;clear hval hN;go_wp2_with fail
      refine (trim_any A2).mono ?_
      rintro e w3 ⟨p', m', rfl, hm', hp', hw⟩;obtain rfl := hw.symm;have HM : Hid (m' = (trimL zs).length) := hm';clear hw hm';go_wp2_with fail
      go_ret
      exact ⟨p', m', trimL zs, rfl, hrow.own (Nat.le_refl _) HM.out hp', by rw [Nat.mul_comm]; exact HV.out, hb2⟩
    · refine (HB.out (by omega) w.heap.size 0 (l + n) l cl cn q p ys xs _ _ hr (valB_replicate _ _) (Nat.le_refl _) (by omega) A1 B1 (by omega) (by omega) (dj_fresh hB (by omega) 0 _) (dj_fresh hA (by omega) 0 _)).mono ?_
      rintro e w2 ⟨zs, rfl, hcg, hrow, hval⟩
      have hb2 : Below w.heap.size w w2 := hb1.trans (hcg.below (fun b o h => by unfold Rg at h; omega) (by have := hblk.lt; omega))
      clear hcg hb1 hblk hr A1 B1
      have A2 := hrow.at_ (Nat.le_refl _) (by unfold maxLen; omega)
      have hN := Nf.trim hrow.dig;rw [hval] at hN;have HV := hdQ hN;clear hval hN;go_wp2_with fail
      refine (trim_any A2).mono ?_
      rintro e w3 ⟨p', m', rfl, hm', hp', hw⟩;obtain rfl := hw.symm;have HM : Hid (m' = (trimL zs).length) := hm';clear hw hm';go_wp2_with fail
      go_ret
      exact ⟨p', m', trimL zs, rfl, hrow.own (Nat.le_refl _) HM.out hp', by rw [Nat.mul_comm]; exact HV.out, hb2⟩
  · have hm : l = m := by omega
    subst hm
    go_enter Tryz.func122, Tryz.ntmps122
    go_wp2_with (at_make; refine wpList_make_full _ rfl _ _ 22 rfl w.heap.size 71 i0 (.int .u64 0) 1 Tryz.underlying22 hi hzz0 hzz1 _ _ _ _ (n + l) rfl rfl (by omega) (by omega) (by rw [hzz2]; omega) (by unfold maxLen; omega) (Nat.le_refl _) ?_; intro w1 hown hgrow; have hmk := made_blk hown hgrow; clear hown hgrow)
    all_goals obtain ⟨hblk, hb1⟩ := hmk
    all_goals have hr := hblk.row (Dig.replicate _ _ B64_pos)
    all_goals rw [List.length_replicate] at hr
    all_goals have A1 := hA.below hb1
    all_goals have B1 := hB.below hb1
    · refine (rows_any w.heap.size 0 (n + l) _ p q n cn l cl xs ys _ hr (Nat.le_refl _) (by omega) A1 B1 (by omega) (by omega) (dj_fresh hA (by omega) 0 _) (dj_fresh hB (by omega) 0 _)).mono ?_
      rintro e w2 ⟨zs, rfl, hwr, hrow, hval⟩;have hb2 : Below w.heap.size w w2 := hb1.trans (hwr.below (Nat.le_refl _));clear hwr hb1 hblk hr A1 B1
      have A2 := hrow.at_ (Nat.le_refl _) (by unfold maxLen; omega)
      have hN := Nf.trim hrow.dig;rw [hval] at hN;have HV := hdQ hN;clear hval hN;go_wp2_with fail
      refine (trim_any A2).mono ?_
      rintro e w3 ⟨p', m', rfl, hm', hp', hw⟩;obtain rfl := hw.symm;have HM : Hid (m' = (trimL zs).length) := hm';clear hw hm';go_wp2_with fail
      go_ret
      exact ⟨p', m', trimL zs, rfl, hrow.own (Nat.le_refl _) HM.out hp', HV.out, hb2⟩
    · refine (HB.out (by omega) w.heap.size 0 (n + l) n cn cl p q xs ys _ _ hr (valB_replicate _ _) (Nat.le_refl _) (by omega) A1 B1 (by omega) (by omega) (dj_fresh hA (by omega) 0 _) (dj_fresh hB (by omega) 0 _)).mono ?_
      rintro e w2 ⟨zs, rfl, hcg, hrow, hval⟩
      have hb2 : Below w.heap.size w w2 := hb1.trans (hcg.below (fun b o h => by unfold Rg at h; omega) (by have := hblk.lt; omega))
      clear hcg hb1 hblk hr A1 B1
      have A2 := hrow.at_ (Nat.le_refl _) (by unfold maxLen; omega)
      have hN := Nf.trim hrow.dig;rw [hval] at hN;have HV := hdQ hN;clear hval hN;go_wp2_with fail
      refine (trim_any A2).mono ?_
      rintro e w3 ⟨p', m', rfl, hm', hp', hw⟩;obtain rfl := hw.symm;have HM : Hid (m' = (trimL zs).length) := hm';clear hw hm';go_wp2_with fail
      go_ret
      exact ⟨p', m', trimL zs, rfl, hrow.own (Nat.le_refl _) HM.out hp', HV.out, hb2⟩

theorem mul_at : ∀ (N m : Nat), m < N → MulAt m := by
  intro N
  induction N with
  | zero => intro m h; omega
  | succ N ih =>
    intro m hm
    exact mul_of_blk m (fun h48 => blk_step m h48 (fun r hr h0 => ih r (by omega)))
theorem mult_any {p q : Option Addr} {n cn l cl : Nat} {xs ys : List Nat} {w : World} (hA : At w p n cn xs) (hB : At w q l cl ys) (hn : 0 < n) (hl : 0 < l) (hn8 : n ≤ 8192) (hl8 : l ≤ 8192) :
  Calls Tryz.prog 122 #[.slice p n cn, .slice q l cl] w fun e w' => ∃ p' m' zs, e = .returned (.slice p' m' m') ∧ Own w.heap.size w' p' m' zs ∧ Nf B64 zs (valB B64 xs * valB B64 ys) ∧ Below w.heap.size w w' :=
 mul_at (min n l + 1) (min n l) (by omega) p q n cn l cl xs ys w hA hB hn hl hn8 hl8 (by omega)
theorem Nf.big {us : List Nat} {a n : Nat} (h : Nf B64 us a) (hl : us.length = n) (h0 : 0 < n) : B64 ^ (n - 1) ≤ a := by
  have := mt (h.len_le (k := n - 1) B64_one).2 (by omega)
  omega
theorem mul_big (K : Nat) {us vs : List Nat} {a b n m : Nat} (hx : Nf B64 us a) (hy : Nf B64 vs b) (hl : us.length = n) (hm : vs.length = m) (h0 : 0 < n) (h1 : 0 < m) (h : K < n + m - 1) : B64 ^ K ≤ a * b := by
  refine Nat.le_trans ?_ (Nat.mul_le_mul (hx.big hl h0) (hy.big hm h1))
  rw [← Nat.pow_add]
  exact Nat.pow_le_pow_right B64_pos (by omega)
theorem mul_lim {us vs : List Nat} {a b n m : Nat} (hx : Nf B64 us a) (hy : Nf B64 vs b) (hl : us.length = n) (hm : vs.length = m) (h0 : 0 < n) (h1 : 0 < m) (h : 8192 < n + m - 1) : LIM ≤ a * b := by
  obtain ⟨K, hK⟩ : ∃ K, K = 8192 := ⟨8192, rfl⟩
  rw [LIM_eq K hK]
  exact mul_big K hx hy hl hm h0 h1 (by omega)
theorem Nf.zero {us : List Nat} {a : Nat} (h : Nf B64 us a) (hl : us.length = 0) : a = 0 := by
  obtain rfl := List.eq_nil_of_length_eq_zero hl;have := h.val; simp [valB] at this; omega
theorem ans_zero (B : Nat) (w : World) : Ans B w (.returned (.tuple #[.slice none 0 0, .int .i64 0])) 0 :=
 .inl ⟨(Nf.nil B64).lim.1 (by simp), none, 0, [], rfl, ⟨rfl, Dig.nil _, .inl rfl⟩, Nf.nil _, by omega⟩

theorem mul_any {p q : Option Addr} {n m c d : Nat} {xs ys : List Nat} {a b : Nat} {w : World} (h : At w p n c xs) (k : At w q m d ys) (hx : Nf B64 xs a) (hy : Nf B64 ys b) (hlx : n ≤ 8192) (hly : m ≤ 8192) :
  Calls Tryz.prog 107 #[.slice p n c, .slice q m d] w fun e w' => Ans w.heap.size w' e (a * b) ∧ Below w.heap.size w w' := by
 have fx := hx.form (by rw [h.len]; exact hlx)
 have fy := hy.form (by rw [k.len]; exact hly)
 have HX := hdQ hx;have HY := hdQ hy;clear hx hy
 go_enter Tryz.func107, Tryz.ntmps107
 go_wp2_with fail
 refine (form_true h fx).mono ?_
 rintro e w' ⟨rfl, hw⟩;obtain rfl := hw.symm;clear hw;go_wp2_with fail
 refine (form_true k fy).mono ?_
 rintro e w' ⟨rfl, hw⟩;obtain rfl := hw.symm;clear hw fx fy
 by_cases hn0 : n = 0
 ·have HA : Hid (a = 0) := HX.out.zero (by rw [h.len]; exact hn0)
  subst hn0;go_wp2_with fail
  go_ret2
  rw [HA.out, Nat.zero_mul]
  exact ⟨ans_zero _ _, Below.refl _ _⟩
 ·by_cases hm0 : m = 0
  ·have HA : Hid (b = 0) := HY.out.zero (by rw [k.len]; exact hm0)
   subst hm0;go_wp2_with fail
   go_ret2
   rw [HA.out, Nat.mul_zero]
   exact ⟨ans_zero _ _, Below.refl _ _⟩
  ·have hn0' : ((n : Int) == 0) = false := by simp; omega
   have hm0' : ((m : Int) == 0) = false := by simp; omega
   by_cases hbig : 8192 < n + m - 1
   ·go_wp2_with fail
    go_ret2
    exact ⟨.inr ⟨mul_lim HX.out HY.out h.len k.len (by omega) (by omega) hbig, rfl⟩, Below.refl _ _⟩
   ·go_wp2_with fail
    refine (mult_any h k (by omega) (by omega) hlx hly).mono ?_
    rintro e w1 ⟨p', m', zs, rfl, ho, hN, hb⟩;rw [HX.out.val, HY.out.val] at hN;have HV := hdQ hN;have HO := hdQ ho;have hlen : zs.length = m' := ho.1;have HL : Hid (zs.length = m') := hlen;clear hN ho hlen
    by_cases hle : m' ≤ 8192
    ·go_wp2_with fail
     go_ret2
     exact ⟨.inl ⟨HV.out.lim.1 (by rw [HL.out]; exact hle), p', m', zs, rfl, HO.out, HV.out, hle⟩, hb⟩
    ·go_wp2_with fail
     go_ret2
     refine ⟨.inr ⟨?_, rfl⟩, hb⟩
     have := mt HV.out.lim.2 (by rw [HL.out]; exact hle)
     omega
end Go.Proofs.YtpdelpakgdanlaaGreatDoor
namespace Go.Proofs.YtpdelpakgdanlaaGreatDoor
open Go.RowKit Go.Shelf
set_option maxRecDepth 20000
set_option maxHeartbeats 0
structure Box (W : World) (g : Nat) (v0 v1 : Value) : Prop where
 c0 : W.cell? ⟨g, 0, none⟩ = some v0
 c1 : W.cell? ⟨g, 1, none⟩ = some v1
 f0 : W.frozen? ⟨g, 0, none⟩ = false
 f1 : W.frozen? ⟨g, 1, none⟩ = false
theorem Box.below {W W' : World} {g : Nat} {v0 v1 : Value} (h : Box W g v0 v1) (hb : Below W.heap.size W W') : Box W' g v0 v1 := by
  have hl : g < W.heap.size := World.block_lt_of_cell? W _ h.c0
  exact ⟨(hb.cell (p := ⟨g, 0, none⟩) hl).trans h.c0, (hb.cell (p := ⟨g, 1, none⟩) hl).trans h.c1, (hb.frozen (p := ⟨g, 0, none⟩) hl).trans h.f0, (hb.frozen (p := ⟨g, 1, none⟩) hl).trans h.f1⟩
theorem Box.b {W W' : World} {g : Nat} {v0 v1 : Value} (h : Hid (Box W g v0 v1)) (hb : Below W.heap.size W W') : Hid (Box W' g v0 v1) := Box.below h hb
theorem numform_t {p : Option Addr} {n c : Nat} {xs : List Nat} {a : Nat} {w : World} (s : Bool) (h : Num w p n c xs a) (hs : s = true → 0 < a) :
  Calls Tryz.prog 46 #[ZV s p n c] w fun e w' => e = .returned (.bool true) ∧ Below w.heap.size w w' := by
 have fx := h.nf.form (by rw [h.at_.len]; exact h.le)
 have hz := h.zero;have H := hdQ h;clear h
 cases s
 ·clear hs hz
  go_enter Tryz.func46, Tryz.ntmps46
  go_wp2_with fail
  refine (form_true (H.out.at_.alloc _) fx).mono ?_
  rintro e w' ⟨rfl, hw⟩;obtain rfl := hw.symm;clear hw fx;go_wp2_with fail
  go_ret
  exact ⟨rfl, below1 w _⟩
 ·have hn0 : n ≠ 0 := by have := hs rfl; intro e; have := hz.1 e; omega
  have hn0' : ((n : Int) == 0) = false := by simp; omega
  clear hs hz
  go_enter Tryz.func46, Tryz.ntmps46
  go_wp2_with fail
  refine (form_true (H.out.at_.alloc _) fx).mono ?_
  rintro e w' ⟨rfl, hw⟩;obtain rfl := hw.symm;clear hw fx;go_wp2_with fail
  go_ret
  exact ⟨rfl, below1 w _⟩

-- the calls
theorem nadd_any {p q : Option Addr} {n m c d : Nat} {xs ys : List Nat} {a b : Nat} {w : World} (s t : Bool) (h : Num w p n c xs a) (k : Num w q m d ys b) (hs : s = true → 0 < a) (ht : t = true → 0 < b) :
  Calls Tryz.prog 52 #[ZV s p n c, ZV t q m d] w fun e w' => AnsI w.heap.size w' e (iv s a + iv t b) ∧ Below w.heap.size w w' := by
 obtain ⟨z, hz⟩ := exq (iv s a + iv t b);rw [← hz];have HZ : Hid (z = iv s a + iv t b) := hz;have H := hdQ h;have K := hdQ k;have HS : Hid (s = true → 0 < a) := hs;have HT : Hid (t = true → 0 < b) := ht;clear h k hs ht hz
 go_enter Tryz.func52, Tryz.ntmps52
 go_wp2_with fail
 have B0 : Box (((w.alloc (.cells #[.bool s, .slice p n c] 24)).alloc (.cells #[.bool t, .slice q m d] 24)).alloc (.cells #[.bool false, .slice none 0 0] 24)) (w.heap.size) (.bool s) (.slice p n c) := ⟨by go_simp, by go_simp, by go_simp, by go_simp⟩
 have B1 : Box (((w.alloc (.cells #[.bool s, .slice p n c] 24)).alloc (.cells #[.bool t, .slice q m d] 24)).alloc (.cells #[.bool false, .slice none 0 0] 24)) (w.heap.size + 1) (.bool t) (.slice q m d) := ⟨by go_simp, by go_simp, by go_simp, by go_simp⟩
 have B2 : Box (((w.alloc (.cells #[.bool s, .slice p n c] 24)).alloc (.cells #[.bool t, .slice q m d] 24)).alloc (.cells #[.bool false, .slice none 0 0] 24)) (w.heap.size + 1 + 1) (.bool false) (.slice none 0 0) := ⟨by go_simp, by go_simp, by go_simp, by go_simp⟩
 have hbw : Below w.heap.size w (((w.alloc (.cells #[.bool s, .slice p n c] 24)).alloc (.cells #[.bool t, .slice q m d] 24)).alloc (.cells #[.bool false, .slice none 0 0] 24)) := below3 w _ _ _
 have hsW : (((w.alloc (.cells #[.bool s, .slice p n c] 24)).alloc (.cells #[.bool t, .slice q m d] 24)).alloc (.cells #[.bool false, .slice none 0 0] 24)).heap.size = w.heap.size + 1 + 1 + 1 := by simp
 generalize (((w.alloc (.cells #[.bool s, .slice p n c] 24)).alloc (.cells #[.bool t, .slice q m d] 24)).alloc (.cells #[.bool false, .slice none 0 0] 24)) = W0 at *;obtain ⟨hs, ehs⟩ := exq w.heap.size;have HHS : Hid (hs = w.heap.size) := ehs;rw [← ehs] at B0 B1 B2 hsW ⊢;replace H := Num.b H hbw;replace K := Num.b K hbw
 have hszW : hs + 1 + 1 + 1 ≤ W0.heap.size := by omega
 clear ehs hsW
 refine (numform_t s H.out HS.out).mono ?_
 rintro e w1 ⟨rfl, hb1⟩;have B0' : Box w1 (hs) (.bool s) (.slice p n c) := B0.below hb1;clear B0;have B0 := B0';clear B0';have B1' : Box w1 (hs + 1) (.bool t) (.slice q m d) := B1.below hb1;clear B1;have B1 := B1';clear B1';have B2' : Box w1 (hs + 1 + 1) (.bool false) (.slice none 0 0) := B2.below hb1;clear B2;have B2 := B2';clear B2';replace H := Num.b H hb1;replace K := Num.b K hb1;replace hbw := bon hbw hb1;have hszW' : hs + 1 + 1 + 1 ≤ w1.heap.size := Nat.le_trans hszW hb1.size;clear hszW;have hszW := hszW';clear hszW' hb1;obtain ⟨c00, c01, f00, f01⟩ := B0;obtain ⟨c10, c11, f10, f11⟩ := B1;obtain ⟨c20, c21, f20, f21⟩ := B2;go_wp2_with fail;have B0 : Box w1 (hs) (.bool s) (.slice p n c) := ⟨c00, c01, f00, f01⟩;clear c00 c01 f00 f01;have B1 : Box w1 (hs + 1) (.bool t) (.slice q m d) := ⟨c10, c11, f10, f11⟩;clear c10 c11 f10 f11;have B2 : Box w1 (hs + 1 + 1) (.bool false) (.slice none 0 0) := ⟨c20, c21, f20, f21⟩
 clear c20 c21 f20 f21
 refine (numform_t t K.out HT.out).mono ?_
 rintro e w2 ⟨rfl, hb2⟩;have B0' : Box w2 (hs) (.bool s) (.slice p n c) := B0.below hb2;clear B0;have B0 := B0';clear B0';have B1' : Box w2 (hs + 1) (.bool t) (.slice q m d) := B1.below hb2;clear B1;have B1 := B1';clear B1';have B2' : Box w2 (hs + 1 + 1) (.bool false) (.slice none 0 0) := B2.below hb2;clear B2;have B2 := B2';clear B2';replace H := Num.b H hb2;replace K := Num.b K hb2;replace hbw := bon hbw hb2;have hszW' : hs + 1 + 1 + 1 ≤ w2.heap.size := Nat.le_trans hszW hb2.size;clear hszW;have hszW := hszW';clear hszW' hb2;obtain ⟨c00, c01, f00, f01⟩ := B0;obtain ⟨c10, c11, f10, f11⟩ := B1;obtain ⟨c20, c21, f20, f21⟩ := B2;go_wp2_with fail;have B0 : Box w2 (hs) (.bool s) (.slice p n c) := ⟨c00, c01, f00, f01⟩;clear c00 c01 f00 f01;have B1 : Box w2 (hs + 1) (.bool t) (.slice q m d) := ⟨c10, c11, f10, f11⟩;clear c10 c11 f10 f11;have B2 : Box w2 (hs + 1 + 1) (.bool false) (.slice none 0 0) := ⟨c20, c21, f20, f21⟩
 clear c20 c21 f20 f21;have hsz0 := hszW
 refine (sum_any s t H.out K.out).mono ?_
 rintro e w3 ⟨ha, hb3⟩;rw [← HZ.out] at ha;have B0' : Box w3 (hs) (.bool s) (.slice p n c) := B0.below hb3;clear B0;have B0 := B0';clear B0';have B1' : Box w3 (hs + 1) (.bool t) (.slice q m d) := B1.below hb3;clear B1;have B1 := B1';clear B1';have B2' : Box w3 (hs + 1 + 1) (.bool false) (.slice none 0 0) := B2.below hb3;clear B2;have B2 := B2';clear B2';replace H := Num.b H hb3;replace K := Num.b K hb3;replace hbw := bon hbw hb3;have hszW' : hs + 1 + 1 + 1 ≤ w3.heap.size := Nat.le_trans hszW hb3.size;clear hszW;have hszW := hszW';clear hszW' hb3
 rcases ha with ⟨hl, p1, m1, z1, rfl, ho, hn, hm⟩ | ⟨hl, rfl⟩
 ·have HL : Hid (z.natAbs < LIM) := hl
  have HN := hdQ hn;have HM : Hid (m1 ≤ 8192) := hm;have HOW : Hid (Own (hs + 1 + 1 + 1) w3 p1 m1 z1) := ho.mono hsz0;obtain ⟨sz, hss⟩ := exq (decide (z < 0));rw [← hss];have HSZ : Hid (sz = decide (z < 0)) := hss;clear hl hn ho hm hss hsz0;obtain ⟨c00, c01, f00, f01⟩ := B0;obtain ⟨c10, c11, f10, f11⟩ := B1;obtain ⟨c20, c21, f20, f21⟩ := B2;go_wp2_with fail
  refine bodyPost_ret (v := .tuple #[ZV sz p1 m1 m1, .int .i64 0]) (by rw [results_cell_tmp rfl]; go_simp) rfl ⟨.inl ⟨HL.out, p1, m1, z1, by rw [HSZ.out], ?_, HN.out, HM.out⟩, ?_⟩
  ·exact ((HOW.out.setOld _ _ _ (by omega)).setOld _ _ _ (by omega)).mono (by have := HHS.out; omega)
  ·exact bSet (bSet hbw _ _ _ (by have := HHS.out; omega)) _ _ _ (by have := HHS.out; omega)
 ·have HL := hdQ hl
  clear hl hsz0;obtain ⟨c00, c01, f00, f01⟩ := B0;obtain ⟨c10, c11, f10, f11⟩ := B1;obtain ⟨c20, c21, f20, f21⟩ := B2;go_wp2_with fail
  refine bodyPost_ret (v := .tuple #[ZV false none 0 0, .int .i64 5]) (by rw [results_cell_tmp rfl]; go_simp) rfl ⟨.inr ⟨HL.out, rfl⟩, ?_⟩
  exact bSet (bSet hbw _ _ _ (by have := HHS.out; omega)) _ _ _ (by have := HHS.out; omega)
theorem iv_not (t : Bool) (b : Nat) : iv (!t) b = - iv t b := by cases t <;> simp [iv]
theorem iv_mul (s t : Bool) (a b : Nat) : (iv s a * iv t b).natAbs = a * b ∧ (decide (iv s a * iv t b < 0) = ((s != t) && decide (0 < a * b))) := by
  have h0 : ((a : Int) * (b : Int)) = ((a * b : Nat) : Int) := by simp
  cases s <;> cases t <;> simp only [iv, if_true, Int.neg_mul, Int.mul_neg, Int.neg_neg, Bool.false_eq_true, if_false, h0]
  · refine ⟨by omega, ?_⟩
    simp only [bne_self_eq_false, Bool.false_and, decide_eq_false_iff_not]; omega
  · refine ⟨by omega, ?_⟩
    simp only [Bool.bne_true, Bool.not_false, Bool.true_and]; exact decide_eq_decide.2 (by omega)
  · refine ⟨by omega, ?_⟩
    simp only [Bool.bne_false, Bool.true_and]; exact decide_eq_decide.2 (by omega)
  · refine ⟨by omega, ?_⟩
    simp only [bne_self_eq_false, Bool.false_and, decide_eq_false_iff_not]; omega
theorem nmul_any {p q : Option Addr} {n m c d : Nat} {xs ys : List Nat} {a b : Nat} {w : World} (s t : Bool) (h : Num w p n c xs a) (k : Num w q m d ys b) (hs : s = true → 0 < a) (ht : t = true → 0 < b) :
  Calls Tryz.prog 82 #[ZV s p n c, ZV t q m d] w fun e w' => AnsI w.heap.size w' e (iv s a * iv t b) ∧ Below w.heap.size w w' := by
 obtain ⟨z, hz⟩ := exq (iv s a * iv t b);rw [← hz];have HZ : Hid (z = iv s a * iv t b) := hz;have H := hdQ h;have K := hdQ k;have HS : Hid (s = true → 0 < a) := hs;have HT : Hid (t = true → 0 < b) := ht
 have HAB : Hid (z.natAbs = a * b ∧ decide (z < 0) = ((s != t) && decide (0 < a * b))) := by rw [hz]; exact iv_mul s t a b
 clear h k hs ht hz
 go_enter Tryz.func82, Tryz.ntmps82
 go_wp2_with fail
 have B0 : Box (((w.alloc (.cells #[.bool s, .slice p n c] 24)).alloc (.cells #[.bool t, .slice q m d] 24)).alloc (.cells #[.bool false, .slice none 0 0] 24)) (w.heap.size) (.bool s) (.slice p n c) := ⟨by go_simp, by go_simp, by go_simp, by go_simp⟩
 have B1 : Box (((w.alloc (.cells #[.bool s, .slice p n c] 24)).alloc (.cells #[.bool t, .slice q m d] 24)).alloc (.cells #[.bool false, .slice none 0 0] 24)) (w.heap.size + 1) (.bool t) (.slice q m d) := ⟨by go_simp, by go_simp, by go_simp, by go_simp⟩
 have B2 : Box (((w.alloc (.cells #[.bool s, .slice p n c] 24)).alloc (.cells #[.bool t, .slice q m d] 24)).alloc (.cells #[.bool false, .slice none 0 0] 24)) (w.heap.size + 1 + 1) (.bool false) (.slice none 0 0) := ⟨by go_simp, by go_simp, by go_simp, by go_simp⟩
 have hbw : Below w.heap.size w (((w.alloc (.cells #[.bool s, .slice p n c] 24)).alloc (.cells #[.bool t, .slice q m d] 24)).alloc (.cells #[.bool false, .slice none 0 0] 24)) := below3 w _ _ _
 have hsW : (((w.alloc (.cells #[.bool s, .slice p n c] 24)).alloc (.cells #[.bool t, .slice q m d] 24)).alloc (.cells #[.bool false, .slice none 0 0] 24)).heap.size = w.heap.size + 1 + 1 + 1 := by simp
 generalize (((w.alloc (.cells #[.bool s, .slice p n c] 24)).alloc (.cells #[.bool t, .slice q m d] 24)).alloc (.cells #[.bool false, .slice none 0 0] 24)) = W0 at *;obtain ⟨hs, ehs⟩ := exq w.heap.size;have HHS : Hid (hs = w.heap.size) := ehs;rw [← ehs] at B0 B1 B2 hsW ⊢;replace H := Num.b H hbw;replace K := Num.b K hbw
 have hszW : hs + 1 + 1 + 1 ≤ W0.heap.size := by omega
 clear ehs hsW
 refine (numform_t s H.out HS.out).mono ?_
 rintro e w1 ⟨rfl, hb1⟩;have B0' : Box w1 (hs) (.bool s) (.slice p n c) := B0.below hb1;clear B0;have B0 := B0';clear B0';have B1' : Box w1 (hs + 1) (.bool t) (.slice q m d) := B1.below hb1;clear B1;have B1 := B1';clear B1';have B2' : Box w1 (hs + 1 + 1) (.bool false) (.slice none 0 0) := B2.below hb1;clear B2;have B2 := B2';clear B2';replace H := Num.b H hb1;replace K := Num.b K hb1;replace hbw := bon hbw hb1;have hszW' : hs + 1 + 1 + 1 ≤ w1.heap.size := Nat.le_trans hszW hb1.size;clear hszW;have hszW := hszW';clear hszW' hb1;obtain ⟨c00, c01, f00, f01⟩ := B0;obtain ⟨c10, c11, f10, f11⟩ := B1;obtain ⟨c20, c21, f20, f21⟩ := B2;go_wp2_with fail;have B0 : Box w1 (hs) (.bool s) (.slice p n c) := ⟨c00, c01, f00, f01⟩;clear c00 c01 f00 f01;have B1 : Box w1 (hs + 1) (.bool t) (.slice q m d) := ⟨c10, c11, f10, f11⟩;clear c10 c11 f10 f11;have B2 : Box w1 (hs + 1 + 1) (.bool false) (.slice none 0 0) := ⟨c20, c21, f20, f21⟩
 clear c20 c21 f20 f21
 refine (numform_t t K.out HT.out).mono ?_
 rintro e w2 ⟨rfl, hb2⟩;have B0' : Box w2 (hs) (.bool s) (.slice p n c) := B0.below hb2;clear B0;have B0 := B0';clear B0';have B1' : Box w2 (hs + 1) (.bool t) (.slice q m d) := B1.below hb2;clear B1;have B1 := B1';clear B1';have B2' : Box w2 (hs + 1 + 1) (.bool false) (.slice none 0 0) := B2.below hb2;clear B2;have B2 := B2';clear B2';replace H := Num.b H hb2;replace K := Num.b K hb2;replace hbw := bon hbw hb2;have hszW' : hs + 1 + 1 + 1 ≤ w2.heap.size := Nat.le_trans hszW hb2.size;clear hszW;have hszW := hszW';clear hszW' hb2;obtain ⟨c00, c01, f00, f01⟩ := B0;obtain ⟨c10, c11, f10, f11⟩ := B1;obtain ⟨c20, c21, f20, f21⟩ := B2;go_wp2_with fail;have B0 : Box w2 (hs) (.bool s) (.slice p n c) := ⟨c00, c01, f00, f01⟩;clear c00 c01 f00 f01;have B1 : Box w2 (hs + 1) (.bool t) (.slice q m d) := ⟨c10, c11, f10, f11⟩;clear c10 c11 f10 f11;have B2 : Box w2 (hs + 1 + 1) (.bool false) (.slice none 0 0) := ⟨c20, c21, f20, f21⟩
 clear c20 c21 f20 f21;have hsz0 := hszW
 refine (mul_any H.out.at_ K.out.at_ H.out.nf K.out.nf H.out.le K.out.le).mono ?_
 rintro e w3 ⟨ha, hb3⟩;have B0' : Box w3 (hs) (.bool s) (.slice p n c) := B0.below hb3;clear B0;have B0 := B0';clear B0';have B1' : Box w3 (hs + 1) (.bool t) (.slice q m d) := B1.below hb3;clear B1;have B1 := B1';clear B1';have B2' : Box w3 (hs + 1 + 1) (.bool false) (.slice none 0 0) := B2.below hb3;clear B2;have B2 := B2';clear B2';replace H := Num.b H hb3;replace K := Num.b K hb3;replace hbw := bon hbw hb3;have hszW' : hs + 1 + 1 + 1 ≤ w3.heap.size := Nat.le_trans hszW hb3.size;clear hszW;have hszW := hszW';clear hszW' hb3
 rcases ha with ⟨hl, p1, m1, z1, rfl, ho, hn, hm⟩ | ⟨hl, rfl⟩
 ·have HL : Hid (a * b < LIM) := hl
  have HN := hdQ hn;have HM : Hid (m1 ≤ 8192) := hm;have HOW : Hid (Own (hs + 1 + 1 + 1) w3 p1 m1 z1) := ho.mono hsz0
  have hv : ((!(s == t)) && decide (0 < m1)) = decide (z < 0) := by rw [HAB.out.2, hn.lenpos ho.len]; rfl
  have HV : Hid (((!(s == t)) && decide (0 < m1)) = decide (z < 0)) := hv;clear hl hn ho hm hsz0 hv;obtain ⟨c00, c01, f00, f01⟩ := B0;obtain ⟨c10, c11, f10, f11⟩ := B1;obtain ⟨c20, c21, f20, f21⟩ := B2;go_wp2_with fail;have B0 : Box w3 (hs) (.bool s) (.slice p n c) := ⟨c00, c01, f00, f01⟩;clear c00 c01 f00 f01;have B1 : Box w3 (hs + 1) (.bool t) (.slice q m d) := ⟨c10, c11, f10, f11⟩;clear c10 c11 f10 f11;have B2 : Box w3 (hs + 1 + 1) (.bool false) (.slice none 0 0) := ⟨c20, c21, f20, f21⟩;clear c20 c21 f20 f21
  refine (signed_any _ p1 m1 m1 w3).mono ?_
  rintro e w4 ⟨rfl, hb4⟩;have B0' : Box w4 (hs) (.bool s) (.slice p n c) := B0.below hb4;clear B0;have B0 := B0';clear B0';have B1' : Box w4 (hs + 1) (.bool t) (.slice q m d) := B1.below hb4;clear B1;have B1 := B1';clear B1';have B2' : Box w4 (hs + 1 + 1) (.bool false) (.slice none 0 0) := B2.below hb4;clear B2;have B2 := B2';clear B2';replace H := Num.b H hb4;replace K := Num.b K hb4;replace HOW := Own.b HOW hb4;replace hbw := bon hbw hb4;have hszW' : hs + 1 + 1 + 1 ≤ w4.heap.size := Nat.le_trans hszW hb4.size;clear hszW;have hszW := hszW';clear hszW' hb4;rw [HV.out];obtain ⟨sz, hss⟩ := exq (decide (z < 0));rw [← hss];have HSZ : Hid (sz = decide (z < 0)) := hss;clear hss;obtain ⟨c00, c01, f00, f01⟩ := B0;obtain ⟨c10, c11, f10, f11⟩ := B1;obtain ⟨c20, c21, f20, f21⟩ := B2;go_wp2_with fail
  refine bodyPost_ret (v := .tuple #[ZV sz p1 m1 m1, .int .i64 0]) (by rw [results_cell_tmp rfl]; go_simp) rfl ⟨.inl ⟨by rw [HAB.out.1]; exact HL.out, p1, m1, z1, by rw [HSZ.out], ?_, by rw [HAB.out.1]; exact HN.out, HM.out⟩, ?_⟩
  ·exact ((HOW.out.setOld _ _ _ (by omega)).setOld _ _ _ (by omega)).mono (by have := HHS.out; omega)
  ·exact bSet (bSet hbw _ _ _ (by have := HHS.out; omega)) _ _ _ (by have := HHS.out; omega)
 ·have HL := hdQ hl
  clear hl hsz0;obtain ⟨c00, c01, f00, f01⟩ := B0;obtain ⟨c10, c11, f10, f11⟩ := B1;obtain ⟨c20, c21, f20, f21⟩ := B2;go_wp2_with fail;have B0 : Box w3 (hs) (.bool s) (.slice p n c) := ⟨c00, c01, f00, f01⟩;clear c00 c01 f00 f01;have B1 : Box w3 (hs + 1) (.bool t) (.slice q m d) := ⟨c10, c11, f10, f11⟩;clear c10 c11 f10 f11;have B2 : Box w3 (hs + 1 + 1) (.bool false) (.slice none 0 0) := ⟨c20, c21, f20, f21⟩;clear c20 c21 f20 f21
  refine (signed_any _ none 0 0 w3).mono ?_
  rintro e w4 ⟨rfl, hb4⟩;have B0' : Box w4 (hs) (.bool s) (.slice p n c) := B0.below hb4;clear B0;have B0 := B0';clear B0';have B1' : Box w4 (hs + 1) (.bool t) (.slice q m d) := B1.below hb4;clear B1;have B1 := B1';clear B1';have B2' : Box w4 (hs + 1 + 1) (.bool false) (.slice none 0 0) := B2.below hb4;clear B2;have B2 := B2';clear B2';replace H := Num.b H hb4;replace K := Num.b K hb4;replace hbw := bon hbw hb4;have hszW' : hs + 1 + 1 + 1 ≤ w4.heap.size := Nat.le_trans hszW hb4.size;clear hszW;have hszW := hszW';clear hszW' hb4
  rw [show ∀ x : Bool, (x && decide (0 < 0)) = false from fun x => by simp]
  obtain ⟨c00, c01, f00, f01⟩ := B0;obtain ⟨c10, c11, f10, f11⟩ := B1;obtain ⟨c20, c21, f20, f21⟩ := B2;go_wp2_with fail
  refine bodyPost_ret (v := .tuple #[ZV false none 0 0, .int .i64 5]) (by rw [results_cell_tmp rfl]; go_simp) rfl ⟨.inr ⟨by rw [HAB.out.1]; exact HL.out, rfl⟩, ?_⟩
  exact bSet (bSet hbw _ _ _ (by have := HHS.out; omega)) _ _ _ (by have := HHS.out; omega)
theorem wrap_u (n : Int) (m : Nat) (h : n % 18446744073709551616 = (m : Int)) : IntKind.u64.wrap n = (m : Int) := by
  simp [IntKind.wrap, IntKind.signed, IntKind.bits]
  omega
theorem Box.new (w : World) (ty : TypeId) (v0 v1 : Value) : Box (w.alloc (.cells #[v0, v1] ty)) w.heap.size v0 v1 := ⟨by go_simp, by go_simp, by go_simp, by go_simp⟩
theorem bDrew1 {B : Nat} {a w : World} (h : Below B a w) : Below B a w.drew := ⟨h.os, h.tape, h.output, h.size, h.block⟩
end Go.Proofs.YtpdelpakgdanlaaGreatDoor
namespace Go.Proofs.YtpdelpakgdanlaaGreatDoor
open Go.RowKit
set_option maxRecDepth 20000
set_option maxHeartbeats 0
def B32 : Nat := 4294967296
theorem B32_eq : B32 = 4294967296 := rfl
theorem B32_pos : 0 < B32 := by decide
theorem B32_one : 1 < B32 := by decide
theorem B32_two : B32 * B32 = B64 := by decide
abbrev V (n : Nat) : Value := .int .u32 (n : Int)

structure At32 (w : World) (p : Option Addr) (n c : Nat) (xs : List Nat) : Prop where
 len : xs.length = n
 cap : n ≤ c
 big : c ≤ maxLen
 dig : Dig B32 xs
 cells : n = 0 ∨ ∃ g off, p = some ⟨g, off, none⟩ ∧ ∀ j, j < n → w.cell? ⟨g, off + j, none⟩ = some (V (xs.getD j 0))
theorem At32.below {w w' : World} {p : Option Addr} {n c : Nat} {xs : List Nat} (h : At32 w p n c xs) (hb : Below w.heap.size w w') : At32 w' p n c xs := by
  refine ⟨h.len, h.cap, h.big, h.dig, ?_⟩
  rcases h.cells with h0 | ⟨g, off, rfl, hc⟩
  · exact .inl h0
  · exact .inr ⟨g, off, rfl, fun j hj => (hb.cell (p := ⟨g, off + j, none⟩) (World.block_lt_of_cell? w _ (hc j hj))).trans (hc j hj)⟩
theorem At32.b {w w' : World} {p : Option Addr} {n c : Nat} {xs : List Nat} (h : Hid (At32 w p n c xs)) (hb : Below w.heap.size w w') : Hid (At32 w' p n c xs) := At32.below h hb
theorem At32.drewN {w : World} {p : Option Addr} {n c : Nat} {xs : List Nat} (h : At32 w p n c xs) (q : Nat) : At32 (w.drewN q) p n c xs := ⟨h.len, h.cap, h.big, h.dig, h.cells⟩
theorem At32.alloc {w : World} {p : Option Addr} {n c : Nat} {xs : List Nat} (h : At32 w p n c xs) (o : Obj) : At32 (w.alloc o) p n c xs :=
 h.below ((Below.refl _ _).alloc (Nat.le_refl _) o)
theorem At32.take {w : World} {p : Option Addr} {n c : Nat} {xs : List Nat} (h : At32 w p n c xs) (m : Nat) (hm : m ≤ n) (c' : Nat) (hc : m ≤ c') (hb : c' ≤ maxLen) : At32 w p m c' (xs.take m) := by
  refine ⟨by rw [List.length_take, h.len]; omega, hc, hb, h.dig.take m, ?_⟩
  rcases h.cells with h0 | ⟨g, off, rfl, hcl⟩
  · exact .inl (by omega)
  · refine .inr ⟨g, off, rfl, fun j hj => ?_⟩
    have e : (xs.take m).getD j 0 = xs.getD j 0 := by rw [List.getD_eq_getElem?_getD, List.getD_eq_getElem?_getD, List.getElem?_take, if_pos hj]
    rw [e]; exact hcl j (by omega)
theorem At32.empty (w : World) (p : Option Addr) (c : Nat) (hb : c ≤ maxLen) : At32 w p 0 c [] := ⟨rfl, Nat.zero_le _, hb, Dig.nil _, .inl rfl⟩
theorem Tryz.infoU32 : (Tryz.prog.info? 92).map (fun i => (i.zero, i.size, i.bytes)) = some (some (.int .u32 0), 1, 4) := by kernel_rfl
theorem Tryz.sizeU32 : (Tryz.prog.info? 92).map (·.size) = some 1 := by kernel_rfl
def cellsV (xs : List Nat) : List Value := xs.map V
theorem madeV (n : Nat) : (madeCells (Value.cells (.int .u32 0)) (n * 1)).toList = cellsV (List.replicate n 0) := by
  unfold madeCells cellsV
  apply List.ext_getElem
  · simp
  · intro i h1 h2
    have e : i % 1 = 0 := Nat.mod_one i
    simp [Value.cells, V, e]
def Blk32 (w : World) (g : Nat) (xs : List Nat) : Prop := w.heap[g]? = some (.cells (cellsV xs).toArray 92 (0, 0))
theorem cellsV_get (xs : List Nat) (j : Nat) (h : j < xs.length) : (cellsV xs)[j]? = some (V (xs.getD j 0)) := by
  unfold cellsV;rw [List.getElem?_map, List.getElem?_eq_getElem h, List.getD_eq_getElem?_getD, List.getElem?_eq_getElem h]; rfl
theorem Blk32.cell {w : World} {g : Nat} {xs : List Nat} (h : Blk32 w g xs) (j : Nat) (hj : j < xs.length) : w.cell? ⟨g, j, none⟩ = some (V (xs.getD j 0)) := by
  rw [cell_of_row w g j _ _ _ h];rw [List.getElem?_toArray]; exact cellsV_get xs j hj
theorem Blk32.lt {w : World} {g : Nat} {xs : List Nat} (h : Blk32 w g xs) : g < w.heap.size := (Array.getElem?_eq_some_iff.1 h).1
theorem own_blk32 {w : World} {base g n : Nat} {xs : List Nat} (h : w.ownsRow base 92 1 (.slice (some ⟨g, 0, none⟩) n n) n (cellsV xs)) : Blk32 w g xs := by
  rcases h.2 with ⟨h', _⟩ | ⟨g', cap', cur, h', _, hg, _, _, hsz, htake⟩
  · simp at h'
  · simp only [Value.slice.injEq, Option.some.injEq, Addr.mk.injEq, and_true, true_and] at h'
    obtain ⟨rfl, rfl⟩ := h'
    have e : cur = (cellsV xs).toArray := by
      rw [← htake, List.take_of_length_le (by rw [Array.length_toList, hsz]; exact Nat.le_refl _)]
    unfold Blk32; rw [← e]; exact hg
theorem splice_cellsV (n : Nat) (xs : List Nat) : splice (cellsV (List.replicate n 0)) 0 (cellsV xs) = cellsV (xs ++ List.replicate (n - xs.length) 0) := by
  unfold splice cellsV
  simp only [List.take_zero, List.nil_append, List.length_map, Nat.zero_add, List.map_append, List.map_replicate, List.drop_replicate]
theorem made_blk32 {w w1 : World} {n : Nat} (hown : w1.ownsRow w.heap.size 92 1 (.slice (some ⟨w.heap.size, 0, none⟩) n n) n (madeCells (Value.cells (.int .u32 0)) (n * 1)).toList) (hgrow : w.grownBy w1 none) :
  Blk32 w1 w.heap.size (List.replicate n 0) ∧ Below w.heap.size w w1 := by
 rw [madeV] at hown
 exact ⟨own_blk32 hown, (Below.refl _ _).grown hgrow (Nat.le_refl _) (fun k hk => by simp at hk)⟩
theorem cellsV_one (xs : List Nat) : ∀ v ∈ cellsV xs, v.oneCell' = true := by
  intro v hv; unfold cellsV at hv; rw [List.mem_map] at hv; obtain ⟨x, _, rfl⟩ := hv; rfl
theorem cellsV_length (xs : List Nat) : (cellsV xs).length = xs.length := by simp [cellsV]
theorem At32.src {w : World} {p : Option Addr} {n c : Nat} {xs : List Nat} (h : At32 w p n c xs) (hn : 0 < n) : ∃ ad, p = some ad ∧ ∀ j v, (cellsV xs)[j]? = some v → w.cell? (ad.add j) = some v := by
  rcases h.cells with h0 | ⟨g, off, rfl, hc⟩
  · omega
  · refine ⟨_, rfl, fun j v hv => ?_⟩
    have hj : j < xs.length := by
      have := (List.getElem?_eq_some_iff.1 hv).1
      rwa [cellsV_length] at this
    have hadd : (⟨g, off, none⟩ : Addr).add j = ⟨g, off + j, none⟩ := by unfold Addr.add; split <;> simp_all
    rw [hadd, hc j (by have := h.len; omega)]
    rw [cellsV_get xs j hj] at hv; exact hv

theorem Blk32.at_ {w : World} {g : Nat} {xs : List Nat} (h : Blk32 w g xs) (hd : Dig B32 xs) {n : Nat} (hn : xs.length = n) (hb : n ≤ maxLen) : At32 w (some ⟨g, 0, none⟩) n n xs := by
  subst hn
  exact ⟨rfl, Nat.le_refl _, hb, hd, .inr ⟨g, 0, rfl, fun j hj => by rw [Nat.zero_add]; exact h.cell j hj⟩⟩
theorem At32.cellAt {w : World} {g off n c : Nat} {xs : List Nat} (h : At32 w (some ⟨g, off, none⟩) n c xs) (j : Nat) (hj : j < n) : w.cell? ⟨g, off + j, none⟩ = some (V (xs.getD j 0)) := by
  obtain ⟨g', o', he, hcell⟩ := h.cells.resolve_left (by omega)
  simp only [Option.some.injEq, Addr.mk.injEq, and_true] at he
  obtain ⟨rfl, rfl⟩ := he
  exact hcell j hj

def dig32 : List Nat → List Nat
 | [] => []
 | x :: xs => x % B32 :: x / B32 :: dig32 xs
theorem dig32_val (xs : List Nat) : valB B32 (dig32 xs) = valB B64 xs := by
  induction xs with
  | nil => rfl
  | cons x xs ih =>
    show x % B32 + B32 * (x / B32 + B32 * valB B32 (dig32 xs)) = x + B64 * valB B64 xs
    rw [ih, Nat.mul_add, ← Nat.mul_assoc, B32_two];have := Nat.mod_add_div x B32
    omega
theorem dig32_len (xs : List Nat) : (dig32 xs).length = 2 * xs.length := by
  induction xs with
  | nil => rfl
  | cons x xs ih => show (dig32 xs).length + 1 + 1 = 2 * (xs.length + 1); omega
theorem dig32_dig {xs : List Nat} (h : Dig B64 xs) : Dig B32 (dig32 xs) := by
  induction xs with
  | nil => exact Dig.nil _
  | cons x xs ih =>
    refine Dig.cons (Nat.mod_lt _ B32_pos) (Dig.cons ?_ (ih h.tail))
    refine Nat.div_lt_of_lt_mul ?_
    rw [B32_two]; exact h.head
theorem dig32_append (xs ys : List Nat) : dig32 (xs ++ ys) = dig32 xs ++ dig32 ys := by
  induction xs with
  | nil => rfl
  | cons x xs ih => show _ :: _ :: dig32 (xs ++ ys) = _; rw [ih]; rfl
theorem dig32_snoc (xs : List Nat) (k : Nat) (h : k < xs.length) : dig32 (xs.take (k + 1)) = dig32 (xs.take k) ++ [xs.getD k 0 % B32, xs.getD k 0 / B32] := by
  rw [take_succ_getD xs k h, dig32_append]; rfl

theorem rnorm_any {p : Option Addr} {n c : Nat} {xs : List Nat} {w : World} (h : At32 w p n c xs) (hn : n ≤ 35184372088832) :
  Calls Tryz.prog 62 #[.slice p n c] w fun e w' =>
   ∃ g, e = .returned (.slice (some ⟨g, 0, none⟩) (trimL xs).length (trimL xs).length) ∧ w.heap.size ≤ g ∧ Blk32 w' g (trimL xs) ∧ Below w.heap.size w w' := by
 obtain ⟨i0, hi, hz0, hz1, hz2⟩ := info_parts Tryz.infoU32;have hl := h.len; have cap := h.cap; have big := h.big;unfold maxLen at big;have HL : Hid (xs.length = n) := hl;clear hl
 go_enter Tryz.func62, Tryz.ntmps62
 go_wp2
 go_loopg [3] n (fun gk nv wr => nv = .int .i64 gk ∧ gk ≤ n ∧ Hid (∀ j, gk ≤ j → j < n → xs.getD j 0 = 0) ∧ wr = w)
 case atStart => exact ⟨rfl, Nat.le_refl _, fun j h1 h2 => absurd h1 (by omega), rfl⟩
 case round =>
  obtain ⟨rfl, hgn, HZ, hwr⟩ := hrel;obtain rfl := hwr.symm;clear hwr
  by_cases hg0 : gk = 0
  ·have HG0 : Hid (gk = 0) := hg0
   have hng : ¬ 0 < gk := by omega
   have hgc : gk ≤ c := by omega
   clear hg0
   cases p
   ·have ht : trimL xs = xs.take gk := trimL_of_take xs gk (by rw [HL.out]; omega) (fun j h1 h2 => HZ.out j h1 (by rw [← HL.out]; exact h2)) (.inl HG0.out)
    have hlt : (trimL xs).length = gk := by rw [ht, List.length_take, HL.out]; omega
    have HT : Hid (trimL xs = xs.take gk) := ht;have HLT : Hid ((trimL xs).length = gk) := hlt
    have hA := h.take gk (by omega) c (by omega) (by unfold maxLen; omega)
    clear ht hlt h
    go_wp2_with (first
     | (at_make; refine wpList_make_full _ rfl _ _ 65 rfl w.heap.size 92 i0 (.int .u32 0) 1 Tryz.underlying65 hi hz0 hz1 _ _ _ _ gk rfl rfl (by omega) (by omega) (by rw [hz2]; omega) (by unfold maxLen; omega) (Nat.le_refl _) ?_; intro w1 hown hgrow; have hb := made_blk32 hown hgrow; clear hown hgrow)
     | (refine wpList_copy_splice rfl (.tmp 21) (.tmp 24) 65 65 rfl 92 Tryz.underlying65 Tryz.sizeU32 (some ⟨w.heap.size, 0, none⟩) _ gk gk gk c rfl rfl w.heap.size 0 (cellsV (List.replicate gk 0)) 92 hb.1 (cellsV (xs.take gk)) (by rw [cellsV_length, hA.len]; exact (Nat.min_self gk).symm) (fun h0 => ⟨rfl, (hA.below hb.2).src (by rw [cellsV_length, hA.len] at h0; exact h0)⟩) (by simp [cellsV_length]; omega) (cellsV_one _) w.heap.size w hb.2 (Nat.le_refl _) ?_; intro w2 hg2 hb2))
    go_ret
    rw [HLT.out, HT.out]
    refine ⟨_, rfl, Nat.le_refl _, ?_, hb2⟩
    rw [splice_cellsV, hA.len, Nat.sub_self, List.replicate_zero, List.append_nil] at hg2
    exact hg2
   ·have ht : trimL xs = xs.take gk := trimL_of_take xs gk (by rw [HL.out]; omega) (fun j h1 h2 => HZ.out j h1 (by rw [← HL.out]; exact h2)) (.inl HG0.out)
    have hlt : (trimL xs).length = gk := by rw [ht, List.length_take, HL.out]; omega
    have HT : Hid (trimL xs = xs.take gk) := ht;have HLT : Hid ((trimL xs).length = gk) := hlt
    have hA := h.take gk (by omega) c (by omega) (by unfold maxLen; omega)
    clear ht hlt h
    go_wp2_with (first
     | (at_make; refine wpList_make_full _ rfl _ _ 65 rfl w.heap.size 92 i0 (.int .u32 0) 1 Tryz.underlying65 hi hz0 hz1 _ _ _ _ gk rfl rfl (by omega) (by omega) (by rw [hz2]; omega) (by unfold maxLen; omega) (Nat.le_refl _) ?_; intro w1 hown hgrow; have hb := made_blk32 hown hgrow; clear hown hgrow)
     | (refine wpList_copy_splice rfl (.tmp 21) (.tmp 24) 65 65 rfl 92 Tryz.underlying65 Tryz.sizeU32 (some ⟨w.heap.size, 0, none⟩) _ gk gk gk c rfl rfl w.heap.size 0 (cellsV (List.replicate gk 0)) 92 hb.1 (cellsV (xs.take gk)) (by rw [cellsV_length, hA.len]; exact (Nat.min_self gk).symm) (fun h0 => ⟨rfl, (hA.below hb.2).src (by rw [cellsV_length, hA.len] at h0; exact h0)⟩) (by simp [cellsV_length]; omega) (cellsV_one _) w.heap.size w hb.2 (Nat.le_refl _) ?_; intro w2 hg2 hb2))
    go_ret
    rw [HLT.out, HT.out]
    refine ⟨_, rfl, Nat.le_refl _, ?_, hb2⟩
    rw [splice_cellsV, hA.len, Nat.sub_self, List.replicate_zero, List.append_nil] at hg2
    exact hg2
  ·obtain ⟨g, off, rfl, hc⟩ := h.cells.resolve_left (by omega)
   obtain ⟨x, hx⟩ := exq (xs.getD (gk - 1) 0)
   have hcx : w.cell? ⟨g, off + (gk - 1), none⟩ = some (V x) := by rw [hx]; exact hc (gk - 1) (by omega)
   have hdg : decide ((0 : Int) < (gk : Int)) = true := decide_eq_true (by omega)
   have HX : Hid (x = xs.getD (gk - 1) 0) := hx;clear hc hx
   by_cases h0 : x = 0
   ·subst h0
    go_wp2_with fail
    go_roundg (gk - 1)
    case measure => omega
    case rel =>
     refine ⟨by go_num, by omega, fun j h1 h2 => ?_, rfl⟩
     by_cases hj : j = gk - 1
     ·subst hj; exact HX.out.symm
     ·exact HZ.out j (by omega) h2
   ·have h0' : ((x : Int) == 0) = false := by simp; omega
    have hgc : gk ≤ c := by omega
    have HXN : Hid (xs.getD (gk - 1) 0 ≠ 0) := by rw [← HX.out]; exact h0
    clear h0
    have ht : trimL xs = xs.take gk := trimL_of_take xs gk (by rw [HL.out]; omega) (fun j h1 h2 => HZ.out j h1 (by rw [← HL.out]; exact h2)) (.inr HXN.out)
    have hlt : (trimL xs).length = gk := by rw [ht, List.length_take, HL.out]; omega
    have HT : Hid (trimL xs = xs.take gk) := ht;have HLT : Hid ((trimL xs).length = gk) := hlt
    have hA := h.take gk (by omega) c (by omega) (by unfold maxLen; omega)
    clear ht hlt h
    go_wp2_with (first
     | (at_make; refine wpList_make_full _ rfl _ _ 65 rfl w.heap.size 92 i0 (.int .u32 0) 1 Tryz.underlying65 hi hz0 hz1 _ _ _ _ gk rfl rfl (by omega) (by omega) (by rw [hz2]; omega) (by unfold maxLen; omega) (Nat.le_refl _) ?_; intro w1 hown hgrow; have hb := made_blk32 hown hgrow; clear hown hgrow)
     | (refine wpList_copy_splice rfl (.tmp 21) (.tmp 24) 65 65 rfl 92 Tryz.underlying65 Tryz.sizeU32 (some ⟨w.heap.size, 0, none⟩) _ gk gk gk c rfl rfl w.heap.size 0 (cellsV (List.replicate gk 0)) 92 hb.1 (cellsV (xs.take gk)) (by rw [cellsV_length, hA.len]; exact (Nat.min_self gk).symm) (fun h0 => ⟨rfl, (hA.below hb.2).src (by rw [cellsV_length, hA.len] at h0; exact h0)⟩) (by simp [cellsV_length]; omega) (cellsV_one _) w.heap.size w hb.2 (Nat.le_refl _) ?_; intro w2 hg2 hb2))
    go_ret
    rw [HLT.out, HT.out]
    refine ⟨_, rfl, Nat.le_refl _, ?_, hb2⟩
    rw [splice_cellsV, hA.len, Nat.sub_self, List.replicate_zero, List.append_nil] at hg2
    exact hg2
theorem B64_p : B64 = 2 ^ 64 := rfl
theorem pow_split (s : Nat) (hs : s ≤ 64) : 2 ^ s * 2 ^ (64 - s) = B64 := by rw [← Nat.pow_add, show s + (64 - s) = 64 by omega]; rfl

def shlW (x s : Nat) : Nat := x * 2 ^ s % B64
theorem shlW_lt (x s : Nat) : shlW x s < B64 := Nat.mod_lt _ B64_pos
theorem shlW_eq (x s : Nat) (hs : s ≤ 64) : shlW x s = 2 ^ s * (x % 2 ^ (64 - s)) := by
  unfold shlW;rw [← pow_split s hs, Nat.mul_comm x, Nat.mul_mod_mul_left]
theorem shrW_eq (y s : Nat) (hs : s ≤ 64) : y / 2 ^ (64 - s) = y * 2 ^ s / B64 := by
  rw [← pow_split s hs, Nat.mul_comm y, Nat.mul_div_mul_left _ _ (Nat.two_pow_pos s)]
theorem shrW_lt (y s : Nat) (hs : s ≤ 64) (hy : y < B64) : y / 2 ^ (64 - s) < 2 ^ s := by
  rw [Nat.div_lt_iff_lt_mul (Nat.two_pow_pos _), pow_split s hs]; exact hy
theorem or_low (s A b : Nat) (hb : b < 2 ^ s) : (2 ^ s * A) ||| b = 2 ^ s * A + b := (Nat.two_pow_add_eq_or_of_lt hb A).symm

theorem int_pow (s : Nat) : ((2 : Int) ^ s) = ((2 ^ s : Nat) : Int) := by
  induction s with
  | zero => rfl
  | succ s ih => rw [Int.pow_succ, ih, Nat.pow_succ]; simp
theorem walk_shl (x s : Nat) : Value.int .u64 (IntKind.u64.wrap ((x : Int) * 2 ^ s)) = U (shlW x s) := by
  unfold U shlW;rw [int_pow, IntKind.wrap_u64, B64_eq, ← Int.natCast_mul]
  congr 1
theorem walk_shr (y s : Nat) : Value.int .u64 ((y : Int) / 2 ^ s) = U (y / 2 ^ s) := by
  unfold U;rw [int_pow]
  congr 1
theorem walk_or (a b : Nat) (ha : a < B64) (hb : b < B64) : bits .or .u64 (a : Int) (b : Int) = ((a ||| b : Nat) : Int) := by
  rw [B64_eq] at ha hb
  exact bits_or_u64_nat a b ha hb
theorem wrap_nat (x s : Nat) : IntKind.u64.wrap ((x : Int) * 2 ^ s) = ((shlW x s : Nat) : Int) := by
  have := walk_shl x s
  simpa [U] using this
theorem div_nat (y s : Nat) : (y : Int) / 2 ^ s = ((y / 2 ^ s : Nat) : Int) := by
  simp
theorem walk_up (x y s : Nat) (hs : s ≤ 64) (hy : y < B64) : Value.int .u64 (bits .or .u64 (IntKind.u64.wrap ((x : Int) * 2 ^ s)) ((y : Int) / 2 ^ (64 - s))) = U (shlW x s + y * 2 ^ s / B64) := by
  have h1 := shrW_lt y s hs hy
  have h2 : 2 ^ s ≤ B64 := by rw [B64_p]; exact Nat.pow_le_pow_right (by decide) hs
  rw [wrap_nat, div_nat, walk_or _ _ (shlW_lt x s) (by omega), shlW_eq x s hs, or_low s _ _ h1, shrW_eq y s hs]
theorem up_lt (x y s : Nat) (hs : s ≤ 64) (hy : y < B64) : shlW x s + y * 2 ^ s / B64 < B64 := by
  have h1 := shrW_lt y s hs hy;rw [← shrW_eq y s hs, shlW_eq x s hs];have h2 : x % 2 ^ (64 - s) + 1 ≤ 2 ^ (64 - s) := Nat.mod_lt _ (Nat.two_pow_pos _);have h3 := Nat.mul_le_mul_left (2 ^ s) h2;rw [pow_split s hs, Nat.mul_add] at h3
  omega
theorem walk_down (x z s : Nat) (hs : s ≤ 64) (hx : x < B64) : Value.int .u64 (bits .or .u64 ((x : Int) / 2 ^ s) (IntKind.u64.wrap ((z : Int) * 2 ^ (64 - s)))) = U (x / 2 ^ s + 2 ^ (64 - s) * (z % 2 ^ s)) := by
  have e : 64 - (64 - s) = s := by omega
  have h1 := shrW_lt x (64 - s) (by omega) hx
  rw [e] at h1
  have h2 : 2 ^ (64 - s) ≤ B64 := by rw [B64_p]; exact Nat.pow_le_pow_right (by decide) (by omega)
  rw [wrap_nat, div_nat, walk_or _ _ (by omega) (shlW_lt _ _), shlW_eq z (64 - s) (by omega), e, Nat.or_comm, or_low (64 - s) _ _ h1, Nat.add_comm]
theorem down_lt (x z s : Nat) (hs : s ≤ 64) (hx : x < B64) : x / 2 ^ s + 2 ^ (64 - s) * (z % 2 ^ s) < B64 := by
  have e : 64 - (64 - s) = s := by omega
  have h1 := shrW_lt x (64 - s) (by omega) hx
  rw [e] at h1;have h2 : z % 2 ^ s + 1 ≤ 2 ^ s := Nat.mod_lt _ (Nat.two_pow_pos _);have h3 := Nat.mul_le_mul_left (2 ^ (64 - s)) h2;rw [Nat.mul_comm (2 ^ (64 - s)) (2 ^ s), pow_split s hs, Nat.mul_add] at h3
  omega

def cin (zs : List Nat) (s j : Nat) : Nat := if j = 0 then 0 else zs.getD (j - 1) 0 * 2 ^ s / B64
theorem up_step {zs T : List Nat} {s a ov k d : Nat} (ha : a < zs.length) (hd : d = shlW (zs.getD a 0) s + cin zs s a) (h : valB B64 T + B64 ^ k * ov = 2 ^ s * valB B64 (zs.drop (a + 1)) + cin zs s (a + 1)) :
  valB B64 (d :: T) + B64 ^ (k + 1) * ov = 2 ^ s * valB B64 (zs.drop a) + cin zs s a := by
 have e1 : cin zs s (a + 1) = zs.getD a 0 * 2 ^ s / B64 := by unfold cin; rw [if_neg (by omega), Nat.add_sub_cancel]
 have e2 := Nat.mod_add_div (zs.getD a 0 * 2 ^ s) B64;rw [valB_cons, valB_drop _ zs a ha, hd];unfold shlW;rw [e1] at h
 have e3 : B64 * (valB B64 T + B64 ^ k * ov) = B64 * (2 ^ s * valB B64 (zs.drop (a + 1)) + zs.getD a 0 * 2 ^ s / B64) := by rw [h]
 rw [Nat.mul_add, Nat.mul_add] at e3;rw [Nat.pow_succ, Nat.mul_add]
 have e4 : B64 ^ k * B64 * ov = B64 * (B64 ^ k * ov) := by rw [Nat.mul_comm (B64 ^ k) B64, Nat.mul_assoc]
 have e5 : 2 ^ s * (B64 * valB B64 (zs.drop (a + 1))) = B64 * (2 ^ s * valB B64 (zs.drop (a + 1))) := by rw [← Nat.mul_assoc, ← Nat.mul_assoc, Nat.mul_comm (2 ^ s) B64]
 rw [e4, e5, Nat.mul_comm (2 ^ s) (zs.getD a 0)];generalize B64 * (B64 ^ k * ov) = X1 at *;generalize B64 * (2 ^ s * valB B64 (zs.drop (a + 1))) = X2 at *;generalize B64 * valB B64 T = X3 at *;generalize B64 * (zs.getD a 0 * 2 ^ s / B64) = X4 at *;generalize zs.getD a 0 * 2 ^ s = X5 at *
 omega

def cout (zs : List Nat) (s j : Nat) : Nat := zs.getD j 0 % 2 ^ s
theorem down_step {zs dk : List Nat} {s i rem d : Nat} (hs : s ≤ 64) (hd : d = zs.getD i 0 / 2 ^ s + 2 ^ (64 - s) * cout zs s (i + 1)) (h : 2 ^ s * valB B64 (dk.take i) + rem = valB B64 (zs.take i) + B64 ^ i * cout zs s i) (hi : i < zs.length) :
  2 ^ s * (valB B64 (dk.take i) + B64 ^ i * d) + rem = valB B64 (zs.take (i + 1)) + B64 ^ (i + 1) * cout zs s (i + 1) := by
 have e1 := Nat.mod_add_div (zs.getD i 0) (2 ^ s);rw [valB_take_succ _ zs i hi, Nat.pow_succ, hd, Nat.mul_add (2 ^ s)]
 have e2 : 2 ^ s * (B64 ^ i * (zs.getD i 0 / 2 ^ s + 2 ^ (64 - s) * cout zs s (i + 1))) = B64 ^ i * (2 ^ s * (zs.getD i 0 / 2 ^ s)) + B64 ^ i * B64 * cout zs s (i + 1) := by
  rw [← Nat.mul_assoc, Nat.mul_comm (2 ^ s) (B64 ^ i), Nat.mul_assoc, Nat.mul_add, Nat.mul_add, ← Nat.mul_assoc (2 ^ s) (2 ^ (64 - s)), pow_split s hs, Nat.mul_assoc]
 have e3 : B64 ^ i * (zs.getD i 0 % 2 ^ s) + B64 ^ i * (2 ^ s * (zs.getD i 0 / 2 ^ s)) = B64 ^ i * zs.getD i 0 := by rw [← Nat.mul_add, e1]
 rw [e2];have e4 : cout zs s i = zs.getD i 0 % 2 ^ s := rfl;rw [e4] at h;generalize B64 ^ i * (2 ^ s * (zs.getD i 0 / 2 ^ s)) = X1 at *;generalize B64 ^ i * (zs.getD i 0 % 2 ^ s) = X2 at *;generalize B64 ^ i * B64 * cout zs s (i + 1) = X3 at *
 omega
end Go.Proofs.YtpdelpakgdanlaaGreatDoor
namespace Go.Proofs.YtpdelpakgdanlaaGreatDoor
set_option maxRecDepth 20000
set_option maxHeartbeats 0
theorem kn_init {b y1 y0 u d : Nat} (hd : d < b) (hu : u < y1 * b + y0) (h0 : y0 < b) (h1 : b ≤ 2 * y1) : (u * b + d) / (y1 * b + y0) ≤ u / y1 ∧ u / y1 ≤ b + 1 := by
  have hy1 : 0 < y1 := by omega
  have hY : 0 < y1 * b + y0 := by
    have := Nat.mul_pos hy1 (show 0 < b by omega)
    omega
  have hm := Nat.div_add_mod u y1;have hl := Nat.mod_lt u hy1
  refine ⟨?_, ?_⟩
  · refine Nat.le_of_lt_succ ((Nat.div_lt_iff_lt_mul hY).2 ?_)
    have a1 : (u + 1) * b ≤ (u / y1 + 1) * y1 * b := by
      refine Nat.mul_le_mul_right b ?_
      rw [Nat.add_mul, Nat.one_mul, Nat.mul_comm (u / y1) y1]; omega
    have a2 : (u / y1 + 1) * (y1 * b + y0) = (u / y1 + 1) * y1 * b + (u / y1 + 1) * y0 := by rw [Nat.mul_add, Nat.mul_assoc]
    rw [Nat.succ_eq_add_one, a2];rw [Nat.add_mul, Nat.one_mul] at a1
    omega
  · refine Nat.le_of_lt_succ ((Nat.div_lt_iff_lt_mul hy1).2 ?_)
    have : (b + 1).succ * y1 = y1 * b + 2 * y1 := by rw [Nat.succ_eq_add_one, show b + 1 + 1 = b + 2 by omega, Nat.add_mul, Nat.mul_comm b y1]
    rw [this]; omega
theorem kn_more {b y1 y0 u d q r : Nat} (hd : d < b) (hu : u < y1 * b + y0) (hq : q * y1 + r = u) (hc : b ≤ q ∨ b * r + d < q * y0) : (u * b + d) / (y1 * b + y0) + 1 ≤ q := by
  refine (Nat.div_lt_iff_lt_mul (by omega)).2 ?_
  rcases hc with hc | hc
  · have a1 : b * (y1 * b + y0) ≤ q * (y1 * b + y0) := Nat.mul_le_mul_right _ hc
    have a2 : b * (u + 1) ≤ b * (y1 * b + y0) := Nat.mul_le_mul_left _ hu;rw [Nat.mul_add, Nat.mul_one, Nat.mul_comm b u] at a2
    omega
  · have a1 : q * (y1 * b + y0) = q * y1 * b + q * y0 := by rw [Nat.mul_add, Nat.mul_assoc]
    have a2 : u * b = q * y1 * b + r * b := by rw [← hq, Nat.add_mul]
    rw [Nat.mul_comm b r] at hc
    omega
theorem kn_exit {b y1 y0 u d q r : Nat} (hu : u < y1 * b + y0) (hq : q * y1 + r = u) (hQ : (u * b + d) / (y1 * b + y0) ≤ q) (hc : q * y0 ≤ b * r + d) : q = (u * b + d) / (y1 * b + y0) := by
  refine Nat.le_antisymm ((Nat.le_div_iff_mul_le (by omega)).2 ?_) hQ
  have a1 : q * (y1 * b + y0) = q * y1 * b + q * y0 := by rw [Nat.mul_add, Nat.mul_assoc]
  have a2 : u * b = q * y1 * b + r * b := by rw [← hq, Nat.add_mul]
  rw [Nat.mul_comm b r] at hc
  omega
theorem kn_far {b y0 d q r : Nat} (h0 : y0 < b) (hq : q ≤ b) (hr : b ≤ r) : q * y0 ≤ b * r + d := by
  have a1 : q * y0 ≤ b * b := Nat.mul_le_mul hq (by omega)
  have a2 : b * b ≤ b * r := Nat.mul_le_mul_left b hr
  omega
theorem kn_lt {b y1 y0 u d : Nat} (hd : d < b) (hu : u < y1 * b + y0) : (u * b + d) / (y1 * b + y0) < b := by
  refine (Nat.div_lt_iff_lt_mul (by omega)).2 ?_
  have a2 : b * (u + 1) ≤ b * (y1 * b + y0) := Nat.mul_le_mul_left _ hu;rw [Nat.mul_add, Nat.mul_one, Nat.mul_comm b u] at a2
  omega

theorem kn_join {b Y u un1 un0 q1 q0 r1 r0 : Nat} (h1 : u * b + un1 = q1 * Y + r1) (h0 : r1 * b + un0 = q0 * Y + r0) : u * (b * b) + (un1 * b + un0) = (q1 * b + q0) * Y + r0 := by
  have e1 : (u * b + un1) * b = (q1 * Y + r1) * b := by rw [h1]
  rw [Nat.add_mul, Nat.add_mul] at e1;have e2 : u * b * b = u * (b * b) := Nat.mul_assoc _ _ _
  have e3 : q1 * Y * b = q1 * b * Y := by rw [Nat.mul_assoc, Nat.mul_comm Y b, ← Nat.mul_assoc]
  rw [Nat.add_mul]
  omega
theorem kn_scale {P y n q r0 : Nat} (hP : 0 < P) (h : P * n = q * (y * P) + r0) (hr : r0 < y * P) : n = q * y + r0 / P ∧ r0 / P < y := by
  have e : q * (y * P) = P * (q * y) := by rw [← Nat.mul_assoc, Nat.mul_comm]
  rw [e] at h
  have hd : P ∣ r0 := by
    have : r0 = P * n - P * (q * y) := by omega
    rw [this, ← Nat.mul_sub]; exact Nat.dvd_mul_right _ _
  obtain ⟨t, rfl⟩ := hd;rw [Nat.mul_div_cancel_left _ hP];rw [← Nat.mul_add] at h
  refine ⟨Nat.eq_of_mul_eq_mul_left hP h, ?_⟩
  rw [Nat.mul_comm y P] at hr
  exact Nat.lt_of_mul_lt_mul_left hr
end Go.Proofs.YtpdelpakgdanlaaGreatDoor
