import Derived.Test.YtdkbfffpnpjpiaaChg
import Derived.Deep.RegionWith
namespace Go.Proofs.Ytdkbfffpnpjpiaa
open Go.RowKit

/-- What rows has done at round i. -/
structure RowsRel (w : World) (g off n m : Nat) (xs ys : List Nat) (i : Nat) (dk : List Nat) (wr : World) : Prop where
  wrs : Wr g off (n + m) w wr
  row : Row wr g off (n + m) dk
  val : valB B64 dk = valB B64 xs * valB B64 (ys.take i)
  top : dk.drop (i + n) = List.replicate (m - i) 0

theorem rows_val {xs ys dk zs2 : List Nat} {n m k cy y : Nat} (hl : dk.length = n + m) (hk : k < m) (hy : y = ys.getD k 0) (hv : valB B64 dk = valB B64 xs * valB B64 (ys.take k)) (ht : dk.drop (k + n) = List.replicate (m - k) 0)
    (hz : zs2.length = n) (hs : valB B64 zs2 + B64 ^ n * cy = valB B64 ((dk.drop k).take n) + valB B64 xs * y) : valB B64 (dk.take k ++ (zs2 ++ [cy] ++ List.replicate (m - k - 1) 0)) = valB B64 xs * valB B64 (ys.take (k + 1)) := by
  have e1 : valB B64 dk = valB B64 (dk.take k) + B64 ^ k * valB B64 ((dk.drop k).take n) := by
    rw [valB_split B64 dk k (by omega), valB_split B64 (dk.drop k) n (by simp; omega), List.drop_drop, ht, valB_replicate]; simp
  rw [valB_append, List.length_take, Nat.min_eq_left (by omega), valB_append_zeros, valB_snoc, hz, hs, valB_take_any _ ys k, ← hy, Nat.mul_add, Nat.mul_add, ← Nat.add_assoc, ← e1, hv]
  rw [show B64 ^ k * (valB B64 xs * y) = valB B64 xs * (B64 ^ k * y) by rw [← Nat.mul_assoc, ← Nat.mul_assoc, Nat.mul_comm (B64 ^ k)]]
theorem RowsRel.step {w : World} {g off n m : Nat} {xs ys : List Nat} {k : Nat} {dk : List Nat} {wr w2 w3 : World} (h : RowsRel w g off n m xs ys k dk wr) (hk : k < m) {y cy : Nat} (hy : y = ys.getD k 0) {zs2 : List Nat} (hcy : cy < B64)
    (hw2 : Wr g (off + k) n wr.drew w2) (hr2 : Row w2 g (off + k) n zs2) (hs : valB B64 zs2 + B64 ^ n * cy = valB B64 ((dk.drop k).take n) + valB B64 xs * y) (hc : w2.cell? ⟨g, off + (k + n), none⟩ = some (U 0)) (hf : w2.frozen? ⟨g, off + (k + n), none⟩ = false)
    (hw3 : w3 = w2.setCell ⟨g, off + (k + n), none⟩ (U cy)) : RowsRel w g off n m xs ys (k + 1) (dk.take k ++ (zs2 ++ [cy] ++ List.replicate (m - k - 1) 0)) w3 := by
  have hl := h.row.len
  have hW23 : Wr g (off + (k + n)) 1 w2 w3 := by rw [hw3]; exact (Wr.refl g (off + (k + n)) 1 w2).setCell _ ⟨by omega, by omega⟩ _
  have hlen2 : (dk.take k ++ (zs2 ++ [cy] ++ List.replicate (m - k - 1) 0)).length = n + m := by simp [hr2.len]; omega
  have lo : Row w3 g off k (dk.take k) := by
    have h0 := (h.row.take k (by omega)).drew
    exact (h0.chg hw2.chg (fun j hj => by unfold Rg; omega)).chg hW23.chg (fun j hj => by unfold Rg; omega)
  have mid : Row w3 g (off + k) n zs2 := hr2.chg hW23.chg (fun j hj => by unfold Rg; omega)
  have one : Row w3 g (off + k) (n + 1) (zs2 ++ [cy]) := by
    refine mid.snoc ?_ ?_ hcy
    · rw [hw3, Nat.add_assoc]; exact World.cell?_setCell_same _ _ _ hc
    · rw [hw3, Nat.add_assoc, World.frozen?_setCell]; exact hf
  have hi : Row w3 g (off + k + (n + 1)) (m - k - 1) (List.replicate (m - k - 1) 0) := by
    have h0 := (h.row.sub (k + n + 1) (m - k - 1) (by omega)).drew
    have e : (dk.drop (k + n + 1)).take (m - k - 1) = List.replicate (m - k - 1) 0 := by
      rw [← List.drop_drop, h.top, List.drop_replicate, List.take_replicate]; simp
    rw [e] at h0
    have h1 := (h0.chg hw2.chg (fun j hj => by unfold Rg; omega)).chg hW23.chg (fun j hj => by unfold Rg; omega)
    rw [show off + (k + n + 1) = off + k + (n + 1) by omega] at h1; exact h1
  have all := lo.join (one.join hi)
  rw [show k + (n + 1 + (m - k - 1)) = n + m by omega] at all
  have hWd : Wr g off (n + m) w wr.drew := h.wrs.drew
  refine ⟨(hWd.trans (hw2.mono (by omega) (by omega))).trans (hW23.mono (by omega) (by omega)), all, rows_val hl hk hy h.val h.top hr2.len hs, ?_⟩
  rw [show k + 1 + n = k + (n + 1) by omega, List.drop_append, List.drop_eq_nil_of_le (by simp; omega), List.nil_append, List.length_take, hl, Nat.min_eq_left (by omega), Nat.add_sub_cancel_left, List.drop_append, List.drop_eq_nil_of_le (by simp [hr2.len]), List.nil_append]
  simp [hr2.len]; omega

set_option maxRecDepth 20000 in
set_option maxHeartbeats 2000000 in
theorem rows_any (g off c : Nat) (zs : List Nat) (p q : Option Addr) (n cn m cm : Nat) (xs ys : List Nat) (w : World) (hz : Row w g off (n + m) zs) (hnc : n + m ≤ c) (hbig : c ≤ 9223372036854775807)
    (ha : At w p n cn xs) (hb : At w q m cm ys) (hn : 0 < n) (hm : 0 < m) (hap : ∀ g2 off2, p = some ⟨g2, off2, none⟩ → Dj g2 off2 n g off (n + m)) (hbp : ∀ g2 off2, q = some ⟨g2, off2, none⟩ → Dj g2 off2 m g off (n + m)) :
    Calls Try.prog 53 #[.slice (some ⟨g, off, none⟩) (n + m) c, .slice p n cn, .slice q m cm] w fun e w' =>
      ∃ zs', e = .returned (.tuple #[]) ∧ Wr g off (n + m) w w' ∧ Row w' g off (n + m) zs' ∧ valB B64 zs' = valB B64 xs * valB B64 ys := by
  have al := ha.len; have bl := hb.len; have bcap := hb.cap; have bbig := hb.big; have acap := ha.cap; have abig := ha.big
  unfold maxLen at abig bbig
  obtain ⟨ga, oa, rfl, hca⟩ := ha.cells.resolve_left (by omega)
  obtain ⟨gb, ob, rfl, hcb⟩ := hb.cells.resolve_left (by omega)
  have hda := hap ga oa rfl
  have hdb := hbp gb ob rfl
  have hcl := run_clear (c := c) hz (by omega)
  have h1 := hz.cleared
  have hW1 : Wr g off (n + m) w (w.setCells g off (List.replicate (n + m) (U 0))) := by
    have := Wr.setCells (g := g) (List.replicate (n + m) (U 0)) off w
    rw [List.length_replicate] at this; exact this
  generalize w.setCells g off (List.replicate (n + m) (U 0)) = w1 at *
  have HDA : Hid (Dj ga oa n g off (n + m)) := hda
  have HDB : Hid (Dj gb ob m g off (n + m)) := hdb
  clear hap hbp hda hdb hz
  go_enter Try.func53, Try.ntmps53
  go_wp2_with fail
  go_loopw [6, 10] (fun _ i wr => ∃ (k : Nat) (dk : List Nat), k ≤ m ∧ i = .int .i64 k ∧ RowsRel w g off n m xs ys k dk wr) (fun _ i _ => m - (intOf i).toNat)
  case atStart => exact ⟨0, _, Nat.zero_le _, rfl, hW1, h1, by simp [valB, valB_replicate], by simp [List.drop_replicate]⟩
  case round =>
    clear h1 hW1 hcl
    obtain ⟨k, dk, hk, rfl, hR⟩ := hrel
    by_cases hlt : k < m
    · obtain ⟨y, hy⟩ : ∃ y, y = ys.getD k 0 := ⟨_, rfl⟩
      have hcy : wr.cell? ⟨gb, ob + k, none⟩ = some (U y) := by
        rw [hy, hR.wrs.cell gb (ob + k) (by have := HDB.out; unfold Dj at this; omega)]; exact hcb k hlt
      have hyb : y < B64 := by rw [hy]; exact hb.dig.getD B64_pos k
      have hr1 := (hR.row.sub k n (by omega)).drew
      have hA1 : At wr.drew (some ⟨ga, oa, none⟩) n cn xs := ⟨al, acap, ha.big, ha.dig, .inr ⟨ga, oa, rfl, fun j hj => by show wr.cell? _ = _; rw [hR.wrs.cell ga (oa + j) (by have := HDA.out; unfold Dj at this; omega)]; exact hca j hj⟩⟩
      have HR : Hid (RowsRel w g off n m xs ys k dk wr) := hR
      have HY : Hid (y = ys.getD k 0) := hy
      have H0 : Hid (∀ w2, Wr g (off + k) n wr.drew w2 → w2.cell? ⟨g, off + (k + n), none⟩ = some (U 0) ∧ w2.frozen? ⟨g, off + (k + n), none⟩ = false) := by
        intro w2 hw2
        have h0 : dk.getD (k + n) 0 = 0 := by
          have := congrArg (fun l : List Nat => l[0]?) hR.top
          simp only [List.getElem?_drop, Nat.add_zero, List.getElem?_replicate, show 0 < m - k by omega, if_true] at this
          rw [List.getD_eq_getElem?_getD, this]; rfl
        have hc := hR.row.cell (k + n) (by omega)
        rw [h0] at hc
        exact ⟨by rw [hw2.cell g _ (by omega)]; exact hc, by rw [hw2.frozen]; exact hR.row.frozen (k + n) (by omega)⟩
      have HAP : Hid (∀ g2 off2, 0 < n → some (⟨ga, oa, none⟩ : Addr) = some ⟨g2, off2, none⟩ → g2 ≠ g ∨ off2 + n ≤ off + k ∨ off + k + n ≤ off2) := by
        intro g2 off2 _ hp
        simp only [Option.some.injEq, Addr.mk.injEq, and_true] at hp
        obtain ⟨rfl, rfl⟩ := hp
        have := HDA.out; unfold Dj at this; omega
      clear hR hy hca hcb
      go_wp2_with fail
      go_region_with (go_at_call 59; refine (amul_any g (off + k) (n + m - k) (c - k) _ (some ⟨ga, oa, none⟩) n cn xs y _ hr1 (by omega) (by omega) (by omega) hA1 hyb HAP.out).mono ?_; rintro e w2 ⟨cy, zs2, rfl, hcyb, hwr2, hrow2, hsum2⟩; obtain ⟨hcs, hfs⟩ := H0.out w2 hwr2)
      all_goals
        go_wp2_with fail
        go_roundw
        case rel => exact ⟨k + 1, _, by omega, by go_num, HR.out.step hlt HY.out hcyb hwr2 hrow2 hsum2 hcs hfs rfl⟩
        case measure => simp [intOf]; omega
    · obtain rfl : k = m := by omega
      have HR : Hid (RowsRel w g off n k xs ys k dk wr) := hR
      clear hR
      go_wp2_with fail
      go_end0
      have hh := HR.out
      have h2 := hh.val
      rw [List.take_of_length_le (by omega)] at h2
      exact ⟨dk, rfl, hh.wrs, hh.row, h2⟩
end Go.Proofs.Ytdkbfffpnpjpiaa
