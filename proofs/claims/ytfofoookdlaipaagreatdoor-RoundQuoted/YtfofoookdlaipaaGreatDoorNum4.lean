import Derived.Test.YtfofoookdlaipaaGreatDoorJ10
import Derived.Deep.RegionWith
namespace Go.Proofs.YtfofoookdlaipaaGreatDoor
open Go.RowKit Go.Shelf

theorem At32.setOther {w : World} {g off n c : Nat} {xs : List Nat} (h : At32 w (some ⟨g, off, none⟩) n c xs) (g2 o2 : Nat) (v : Value) (hne : g ≠ g2) : At32 (w.setCell ⟨g2, o2, none⟩ v) (some ⟨g, off, none⟩) n c xs := by
  refine ⟨h.len, h.cap, h.big, h.dig, ?_⟩
  rcases h.cells with h0 | ⟨g', o', he, hcl⟩
  · exact .inl h0
  · refine .inr ⟨g', o', he, fun j hj => ?_⟩
    simp only [Option.some.injEq, Addr.mk.injEq, and_true] at he
    rw [World.cell?_setCell_other _ _ _ _ (by intro e; apply hne; have := congrArg Addr.block e; simp at this; omega)]
    exact hcl j hj
theorem At.setOther {w : World} {g off n c : Nat} {xs : List Nat} (h : At w (some ⟨g, off, none⟩) n c xs) (g2 o2 : Nat) (v : Value) (hne : g ≠ g2) : At (w.setCell ⟨g2, o2, none⟩ v) (some ⟨g, off, none⟩) n c xs := by
  refine ⟨h.len, h.cap, h.big, h.dig, ?_⟩
  rcases h.cells with h0 | ⟨g', o', he, hcl⟩
  · exact .inl h0
  · refine .inr ⟨g', o', he, fun j hj => ?_⟩
    simp only [Option.some.injEq, Addr.mk.injEq, and_true] at he
    rw [World.cell?_setCell_other _ _ _ _ (by intro e; apply hne; have := congrArg Addr.block e; simp at this; omega)]
    exact hcl j hj

set_option maxRecDepth 20000 in
set_option maxHeartbeats 1000000 in
theorem mk04 {p : Option Addr} {n c : Nat} {xs : List Nat} {w : World} (s : Bool) (h : At32 w p n c xs) (hn : n ≤ 35184372088832) :
    Calls Tryz.prog 149 #[.bool s, .slice p n c] w fun e w' => ∃ g m, m = (trimL xs).length ∧ e = .returned (.agg #[.bool (s && decide (0 < m)), .slice (some ⟨g, 0, none⟩) m m]) ∧ w.heap.size ≤ g ∧ At32 w' (some ⟨g, 0, none⟩) m m (trimL xs) ∧ Below w.heap.size w w' := by
  have hd := h.dig.trimL
  have hle := trimL_length_le xs
  have hlx := h.len
  obtain ⟨zs, hzs⟩ : ∃ zs, zs = trimL xs := ⟨_, rfl⟩
  rw [← hzs] at hd hle
  rw [← hzs]
  have HZS : Hid (zs = trimL xs) := hzs
  clear hzs
  go_enter Tryz.func149, Tryz.ntmps149
  go_wp2_with fail
  have B0 : Box (w.alloc (.cells #[.bool false, .slice none 0 0] 153)) w.heap.size (.bool false) (.slice none 0 0) := ⟨by go_simp, by go_simp, by go_simp, by go_simp⟩
  refine (rnorm_any (h.alloc _) hn).mono ?_
  rintro e w1 ⟨g, rfl, hg, hblk, hb⟩
  rw [← HZS.out] at hblk ⊢
  obtain ⟨c0, c1, f0, f1⟩ := B0.below hb
  have hbw := Below.on (below1 w _) hb
  have HA : Hid (At32 w1 (some ⟨g, 0, none⟩) zs.length zs.length zs) := hblk.at_ hd rfl (by unfold maxLen; omega)
  have hg1 : w.heap.size + 1 ≤ g := by simp at hg; exact hg
  clear B0 hb hblk hg hle hlx h
  obtain ⟨m, hm⟩ : ∃ m, m = zs.length := ⟨_, rfl⟩
  rw [← hm] at HA ⊢
  have HM : Hid (m = zs.length) := hm
  clear hm
  have key : ∀ r : Bool, Hid (At32 ((w1.setCell ⟨w.heap.size, 0, none⟩ (.bool r)).setCell ⟨w.heap.size, 1, none⟩ (.slice (some ⟨g, 0, none⟩) m m)) (some ⟨g, 0, none⟩) m m zs) := by
    intro r
    have hA := HA.out
    refine ⟨hA.len, hA.cap, hA.big, hA.dig, ?_⟩
    rcases hA.cells with h0 | ⟨g', o', he, hcl⟩
    · exact .inl h0
    · refine .inr ⟨g', o', he, fun j hj => ?_⟩
      simp only [Option.some.injEq, Addr.mk.injEq, and_true] at he
      have hne : g' ≠ w.heap.size := by omega
      rw [World.cell?_setCell_other _ _ _ _ (by intro e; apply hne; have := congrArg Addr.block e; simp at this; omega), World.cell?_setCell_other _ _ _ _ (by intro e; apply hne; have := congrArg Addr.block e; simp at this; omega)]
      exact hcl j hj
  cases s
  · go_wp2_with fail
    exact bodyPost_ret (v := .agg #[.bool false, .slice (some ⟨g, 0, none⟩) m m]) (by rw [results_cell1 rfl]; go_simp) rfl ⟨g, m, HM.out, rfl, by omega, (key false).out, bSet (bSet hbw _ _ _ (Nat.le_refl _)) _ _ _ (Nat.le_refl _)⟩
  · by_cases hm0 : 0 < m
    · have hd0 : decide ((0 : Int) < (m : Int)) = true := decide_eq_true (by omega)
      go_wp2_with fail
      exact bodyPost_ret (v := .agg #[.bool true, .slice (some ⟨g, 0, none⟩) m m]) (by rw [results_cell1 rfl]; go_simp) rfl ⟨g, m, HM.out, by simp [hm0], by omega, (key true).out, bSet (bSet hbw _ _ _ (Nat.le_refl _)) _ _ _ (Nat.le_refl _)⟩
    · have hd0 : decide ((0 : Int) < (m : Int)) = false := decide_eq_false (by omega)
      go_wp2_with fail
      exact bodyPost_ret (v := .agg #[.bool false, .slice (some ⟨g, 0, none⟩) m m]) (by rw [results_cell1 rfl]; go_simp) rfl ⟨g, m, HM.out, by simp [hm0], by omega, (key false).out, bSet (bSet hbw _ _ _ (Nat.le_refl _)) _ _ _ (Nat.le_refl _)⟩

set_option maxRecDepth 20000 in
set_option maxHeartbeats 2000000 in
theorem from04 {p : Option Addr} {n c : Nat} {xs : List Nat} {w : World} (s : Bool) (h : At w p n c xs) (hn : n ≤ 17592186044416) :
    Calls Tryz.prog 112 #[ZV s p n c] w fun e w' => ∃ p' m zs, e = .returned (.agg #[.bool (s && decide (0 < m)), .slice p' m m]) ∧ At32 w' p' m m zs ∧ Nf B32 zs (valB B64 xs) ∧ m ≤ 2 * n ∧ Below w.heap.size w w' := by
  go_enter Tryz.func112, Tryz.ntmps112
  go_wp2_with fail
  have B0 : Box ((w.alloc (.cells #[.bool s, .slice p n c] 32)).alloc (.cells #[.bool false, .slice none 0 0] 153)) w.heap.size (.bool s) (.slice p n c) := ⟨by go_simp, by go_simp, by go_simp, by go_simp⟩
  have B1 : Box ((w.alloc (.cells #[.bool s, .slice p n c] 32)).alloc (.cells #[.bool false, .slice none 0 0] 153)) (w.heap.size + 1) (.bool false) (.slice none 0 0) := ⟨by go_simp, by go_simp, by go_simp, by go_simp⟩
  have hbw : Below w.heap.size w ((w.alloc (.cells #[.bool s, .slice p n c] 32)).alloc (.cells #[.bool false, .slice none 0 0] 153)) := below2 w _ _
  have hsW : ((w.alloc (.cells #[.bool s, .slice p n c] 32)).alloc (.cells #[.bool false, .slice none 0 0] 153)).heap.size = w.heap.size + 1 + 1 := by simp
  generalize ((w.alloc (.cells #[.bool s, .slice p n c] 32)).alloc (.cells #[.bool false, .slice none 0 0] 153)) = W at *
  obtain ⟨hs, ehs⟩ : ∃ hs, hs = w.heap.size := ⟨_, rfl⟩
  have HHS : Hid (hs = w.heap.size) := ehs
  rw [← ehs] at B0 B1 hsW ⊢
  have HSW : Hid (W.heap.size = hs + 1 + 1) := hsW
  have HBW : Hid (Below w.heap.size w W.drew) := bDrew hbw
  have HAT : Hid (At W.drew p n c xs) := (h.below hbw).drewN 1
  have X0 : Hid (Box W.drew hs (.bool s) (.slice p n c)) := ⟨B0.c0, B0.c1, B0.f0, B0.f1⟩
  have X1 : Hid (Box W.drew (hs + 1) (.bool false) (.slice none 0 0)) := ⟨B1.c0, B1.c1, B1.f0, B1.f1⟩
  obtain ⟨c00, c01, f00, f01⟩ := B0
  obtain ⟨c10, c11, f10, f11⟩ := B1
  clear ehs hsW hbw h
  go_region_with (first
    | (go_at_call 150; refine (from_any HAT.out hn).mono ?_; rintro e w1 ⟨g1, zs, rfl, hg1, hblk1, hnf1, hl1, hb1⟩; obtain ⟨d00, d01, e00, e01⟩ := X0.out.below hb1; have Y1 : Hid (Box w1 (hs + 1) (.bool false) (.slice none 0 0)) := X1.out.below hb1; have HA1 : Hid (At32 w1 (some ⟨g1, 0, none⟩) zs.length zs.length zs) := hblk1.at_ hnf1.dig rfl (by unfold maxLen; omega); have HN1 : Hid (Nf B32 zs (valB B64 xs)) := hnf1; have HL1 : Hid (zs.length ≤ 2 * n) := hl1; have HB1 : Hid (Below w.heap.size w w1) := Below.on HBW.out hb1; have HS1 : Hid (hs + 1 + 1 ≤ w1.heap.size) := Nat.le_trans (Nat.le_of_eq HSW.out.symm) hb1.size; clear hblk1 hnf1 hl1 hb1 hg1)
    | (go_at_call 149; refine (mk04 s HA1.out (by have := HL1.out; omega)).mono ?_; rintro e w2 ⟨g2, m2, hm2, rfl, hg2, hA2, hb2⟩; obtain ⟨c10, c11, f10, f11⟩ := Y1.out.below hb2; have HM2 : Hid (m2 = (trimL zs).length) := hm2; have HA2 : Hid (At32 w2 (some ⟨g2, 0, none⟩) m2 m2 (trimL zs)) := hA2; have HB2 : Hid (Below w.heap.size w w2) := Below.on HB1.out hb2; have HG2 : Hid (hs + 1 + 1 ≤ g2) := Nat.le_trans HS1.out hg2; clear hm2 hA2 hb2 hg2))
  all_goals
    (obtain ⟨sb, esb⟩ : ∃ sb, sb = (s && decide (0 < m2)) := ⟨_, rfl⟩
     rw [← esb]
     have HSB : Hid (sb = (s && decide (0 < m2))) := esb
     clear esb
     go_wp2_with fail
     refine bodyPost_ret (v := .agg #[.bool sb, .slice (some ⟨g2, 0, none⟩) m2 m2]) (by rw [results_cell1 rfl]; go_simp) rfl ⟨_, m2, trimL zs, by rw [HSB.out], (HA2.out.setOther _ _ _ (by have := HG2.out; omega)).setOther _ _ _ (by have := HG2.out; omega), ?_, ?_, bSet (bSet HB2.out _ _ _ (by have := HHS.out; omega)) _ _ _ (by have := HHS.out; omega)⟩
     · rw [trimL_of_Top HN1.out.top]; exact HN1.out
     · have h1 := HM2.out; have h2 := HL1.out; rw [trimL_of_Top HN1.out.top] at h1; omega)
end Go.Proofs.YtfofoookdlaipaaGreatDoor

