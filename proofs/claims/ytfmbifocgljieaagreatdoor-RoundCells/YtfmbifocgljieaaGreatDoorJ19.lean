import Derived.Test.YtfmbifocgljieaaGreatDoorJ17
import Derived.Test.YtfmbifocgljieaaGreatDoorJ16
import Derived.Test.YtfmbifocgljieaaGreatDoorJ18
import Derived.Test.YtfmbifocgljieaaGreatDoorJ15
import Derived.Test.YtfmbifocgljieaaGreatDoorJ11
namespace Go.Proofs.YtfmbifocgljieaaGreatDoor
open Go.RowKit Go.Shelf
set_option maxRecDepth 20000
set_option maxHeartbeats 0
theorem cell_e {f : Int} {b : Nat} {er : Int} (hB : ∀ w, Calls Tryz.prog 18 #[.int .i64 f, U b] w fun e w' => e = .returned (.tuple #[.int .i64 0, .int .i64 er]) ∧ Below w.heap.size w w') (he : er ≠ 0) (w : World) :
    Calls Tryz.prog 9 #[.int .i64 f, U b] w fun en w' => en = .returned (.tuple #[SV false none 0 0 0 false none 0 0 0, .bool false, .int .i64 er]) ∧ Below w.heap.size w w' := by
  have HB : Hid (∀ w, Calls Tryz.prog 18 #[.int .i64 f, U b] w fun e w' => e = .returned (.tuple #[.int .i64 0, .int .i64 er]) ∧ Below w.heap.size w w') := hB
  have e1 : (er == 0) = false := by simp [he]
  have e2 : (er != 0) = true := by simp [he]
  clear hB he
  go_enter Tryz.func9, Tryz.ntmps9
  go_wp2_with fail
  obtain ⟨W0, hW0⟩ : ∃ W0, W0 = (w.alloc (.cells #[.bool false, .slice none 0 0, .int .i64 0, .bool false, .slice none 0 0, .int .i64 0] 35)) := ⟨_, rfl⟩
  have Xr : Hid (B6q W0 (w.heap.size) (.bool false) (.slice none 0 0) (.int .i64 0) (.bool false) (.slice none 0 0) (.int .i64 0)) := by rw [hW0]; exact ⟨by go_simp, by go_simp, by go_simp, by go_simp, by go_simp, by go_simp, by go_simp, by go_simp, by go_simp, by go_simp, by go_simp, by go_simp⟩
  have hb0 : Below w.heap.size w W0 := by rw [hW0]; exact below1 w _
  rw [← hW0]
  clear hW0
  have hbw : Below w.heap.size w w := Below.refl _ _
  obtain ⟨gr, hgr⟩ : ∃ g, g = w.heap.size := ⟨_, rfl⟩
  have HGr : Hid (w.heap.size ≤ gr) := by rw [hgr]; show _ ≤ _; omega
  rw [← hgr] at Xr
  try rw [← hgr]
  clear hgr
  replace hbw := Below.on hbw hb0
  clear hb0
  refine (HB.out _).mono ?_
  rintro e v1 ⟨rfl, hb1⟩
  replace Xr : Hid _ := Xr.out.below hb1
  replace hbw := Below.on hbw hb1
  clear hb1
  obtain ⟨cr0, cr1, cr2, cr3, cr4, cr5, fr0, fr1, fr2, fr3, fr4, fr5⟩ := Xr.out
  have hner : gr < v1.heap.size := World.block_lt_of_cell? v1 _ cr0
  go_wp2_with fail
  refine bodyPost_ret (v := .tuple #[SV false none 0 0 0 false none 0 0 0, .bool false, .int .i64 er]) (by rw [results_ctt rfl]; go_simp) rfl ⟨rfl, ?_⟩
  exact (bSet (bSet (bSet (bSet (bSet (bSet hbw _ _ _ HGr.out) _ _ _ HGr.out) _ _ _ HGr.out) _ _ _ HGr.out) _ _ _ HGr.out) _ _ _ HGr.out)
theorem doccell_e {f : Int} {b : Nat} {er : Int} (hB : ∀ w, Calls Tryz.prog 90 #[.int .i64 f, U b] w fun e w' => e = .returned (.tuple #[.int .i64 0, .int .i64 er]) ∧ Below w.heap.size w w') (he : er ≠ 0) (w : World) :
    Calls Tryz.prog 54 #[.int .i64 f, U b] w fun en w' => en = .returned (.tuple #[SV false none 0 0 0 false none 0 0 0, .bool false, .int .i64 er]) ∧ Below w.heap.size w w' := by
  have HB : Hid (∀ w, Calls Tryz.prog 90 #[.int .i64 f, U b] w fun e w' => e = .returned (.tuple #[.int .i64 0, .int .i64 er]) ∧ Below w.heap.size w w') := hB
  have e1 : (er == 0) = false := by simp [he]
  have e2 : (er != 0) = true := by simp [he]
  clear hB he
  go_enter Tryz.func54, Tryz.ntmps54
  go_wp2_with fail
  obtain ⟨W0, hW0⟩ : ∃ W0, W0 = (w.alloc (.cells #[.bool false, .slice none 0 0, .int .i64 0, .bool false, .slice none 0 0, .int .i64 0] 35)) := ⟨_, rfl⟩
  have Xr : Hid (B6q W0 (w.heap.size) (.bool false) (.slice none 0 0) (.int .i64 0) (.bool false) (.slice none 0 0) (.int .i64 0)) := by rw [hW0]; exact ⟨by go_simp, by go_simp, by go_simp, by go_simp, by go_simp, by go_simp, by go_simp, by go_simp, by go_simp, by go_simp, by go_simp, by go_simp⟩
  have hb0 : Below w.heap.size w W0 := by rw [hW0]; exact below1 w _
  rw [← hW0]
  clear hW0
  have hbw : Below w.heap.size w w := Below.refl _ _
  obtain ⟨gr, hgr⟩ : ∃ g, g = w.heap.size := ⟨_, rfl⟩
  have HGr : Hid (w.heap.size ≤ gr) := by rw [hgr]; show _ ≤ _; omega
  rw [← hgr] at Xr
  try rw [← hgr]
  clear hgr
  replace hbw := Below.on hbw hb0
  clear hb0
  refine (HB.out _).mono ?_
  rintro e v1 ⟨rfl, hb1⟩
  replace Xr : Hid _ := Xr.out.below hb1
  replace hbw := Below.on hbw hb1
  clear hb1
  obtain ⟨cr0, cr1, cr2, cr3, cr4, cr5, fr0, fr1, fr2, fr3, fr4, fr5⟩ := Xr.out
  have hner : gr < v1.heap.size := World.block_lt_of_cell? v1 _ cr0
  go_wp2_with fail
  refine bodyPost_ret (v := .tuple #[SV false none 0 0 0 false none 0 0 0, .bool false, .int .i64 er]) (by rw [results_ctt rfl]; go_simp) rfl ⟨rfl, ?_⟩
  exact (bSet (bSet (bSet (bSet (bSet (bSet hbw _ _ _ HGr.out) _ _ _ HGr.out) _ _ _ HGr.out) _ _ _ HGr.out) _ _ _ HGr.out) _ _ _ HGr.out)
theorem cell_x80 {f : Int} {b : Nat} (hB : ∀ w, Calls Tryz.prog 18 #[.int .i64 f, U b] w fun e w' => e = .returned (.tuple #[.int .i64 0, .int .i64 0]) ∧ Below w.heap.size w w') (w : World) :
    Calls Tryz.prog 9 #[.int .i64 f, U b] w fun en w' => en = .returned (.tuple #[SV false none 0 0 0 false none 0 0 0, .bool false, .int .i64 6]) ∧ Below w.heap.size w w' := by
  have HB : Hid (∀ w, Calls Tryz.prog 18 #[.int .i64 f, U b] w fun e w' => e = .returned (.tuple #[.int .i64 0, .int .i64 0]) ∧ Below w.heap.size w w') := hB
  clear hB
  go_enter Tryz.func9, Tryz.ntmps9
  go_wp2_with fail
  obtain ⟨W0, hW0⟩ : ∃ W0, W0 = (w.alloc (.cells #[.bool false, .slice none 0 0, .int .i64 0, .bool false, .slice none 0 0, .int .i64 0] 35)) := ⟨_, rfl⟩
  have Xr : Hid (B6q W0 (w.heap.size) (.bool false) (.slice none 0 0) (.int .i64 0) (.bool false) (.slice none 0 0) (.int .i64 0)) := by rw [hW0]; exact ⟨by go_simp, by go_simp, by go_simp, by go_simp, by go_simp, by go_simp, by go_simp, by go_simp, by go_simp, by go_simp, by go_simp, by go_simp⟩
  have hb0 : Below w.heap.size w W0 := by rw [hW0]; exact below1 w _
  rw [← hW0]
  clear hW0
  have hbw : Below w.heap.size w w := Below.refl _ _
  obtain ⟨gr, hgr⟩ : ∃ g, g = w.heap.size := ⟨_, rfl⟩
  have HGr : Hid (w.heap.size ≤ gr) := by rw [hgr]; show _ ≤ _; omega
  rw [← hgr] at Xr
  try rw [← hgr]
  clear hgr
  replace hbw := Below.on hbw hb0
  clear hb0
  refine (HB.out _).mono ?_
  rintro e v1 ⟨rfl, hb1⟩
  replace Xr : Hid _ := Xr.out.below hb1
  replace hbw := Below.on hbw hb1
  clear hb1
  obtain ⟨cr0, cr1, cr2, cr3, cr4, cr5, fr0, fr1, fr2, fr3, fr4, fr5⟩ := Xr.out
  have hner : gr < v1.heap.size := World.block_lt_of_cell? v1 _ cr0
  go_wp2_with fail
  refine bodyPost_ret (v := .tuple #[SV false none 0 0 0 false none 0 0 0, .bool false, .int .i64 6]) (by rw [results_ctt rfl]; go_simp) rfl ⟨rfl, ?_⟩
  exact (bSet (bSet (bSet (bSet (bSet (bSet hbw _ _ _ HGr.out) _ _ _ HGr.out) _ _ _ HGr.out) _ _ _ HGr.out) _ _ _ HGr.out) _ _ _ HGr.out)
theorem cell_x83 {f : Int} {b : Nat} (hB : ∀ w, Calls Tryz.prog 18 #[.int .i64 f, U b] w fun e w' => e = .returned (.tuple #[.int .i64 3, .int .i64 0]) ∧ Below w.heap.size w w') (w : World) :
    Calls Tryz.prog 9 #[.int .i64 f, U b] w fun en w' => en = .returned (.tuple #[SV false none 0 0 0 false none 0 0 0, .bool false, .int .i64 6]) ∧ Below w.heap.size w w' := by
  have HB : Hid (∀ w, Calls Tryz.prog 18 #[.int .i64 f, U b] w fun e w' => e = .returned (.tuple #[.int .i64 3, .int .i64 0]) ∧ Below w.heap.size w w') := hB
  clear hB
  go_enter Tryz.func9, Tryz.ntmps9
  go_wp2_with fail
  obtain ⟨W0, hW0⟩ : ∃ W0, W0 = (w.alloc (.cells #[.bool false, .slice none 0 0, .int .i64 0, .bool false, .slice none 0 0, .int .i64 0] 35)) := ⟨_, rfl⟩
  have Xr : Hid (B6q W0 (w.heap.size) (.bool false) (.slice none 0 0) (.int .i64 0) (.bool false) (.slice none 0 0) (.int .i64 0)) := by rw [hW0]; exact ⟨by go_simp, by go_simp, by go_simp, by go_simp, by go_simp, by go_simp, by go_simp, by go_simp, by go_simp, by go_simp, by go_simp, by go_simp⟩
  have hb0 : Below w.heap.size w W0 := by rw [hW0]; exact below1 w _
  rw [← hW0]
  clear hW0
  have hbw : Below w.heap.size w w := Below.refl _ _
  obtain ⟨gr, hgr⟩ : ∃ g, g = w.heap.size := ⟨_, rfl⟩
  have HGr : Hid (w.heap.size ≤ gr) := by rw [hgr]; show _ ≤ _; omega
  rw [← hgr] at Xr
  try rw [← hgr]
  clear hgr
  replace hbw := Below.on hbw hb0
  clear hb0
  refine (HB.out _).mono ?_
  rintro e v1 ⟨rfl, hb1⟩
  replace Xr : Hid _ := Xr.out.below hb1
  replace hbw := Below.on hbw hb1
  clear hb1
  obtain ⟨cr0, cr1, cr2, cr3, cr4, cr5, fr0, fr1, fr2, fr3, fr4, fr5⟩ := Xr.out
  have hner : gr < v1.heap.size := World.block_lt_of_cell? v1 _ cr0
  go_wp2_with fail
  refine bodyPost_ret (v := .tuple #[SV false none 0 0 0 false none 0 0 0, .bool false, .int .i64 6]) (by rw [results_ctt rfl]; go_simp) rfl ⟨rfl, ?_⟩
  exact (bSet (bSet (bSet (bSet (bSet (bSet hbw _ _ _ HGr.out) _ _ _ HGr.out) _ _ _ HGr.out) _ _ _ HGr.out) _ _ _ HGr.out) _ _ _ HGr.out)
theorem cell_x84 {f : Int} {b : Nat} (hB : ∀ w, Calls Tryz.prog 18 #[.int .i64 f, U b] w fun e w' => e = .returned (.tuple #[.int .i64 4, .int .i64 0]) ∧ Below w.heap.size w w') (w : World) :
    Calls Tryz.prog 9 #[.int .i64 f, U b] w fun en w' => en = .returned (.tuple #[SV false none 0 0 0 false none 0 0 0, .bool false, .int .i64 6]) ∧ Below w.heap.size w w' := by
  have HB : Hid (∀ w, Calls Tryz.prog 18 #[.int .i64 f, U b] w fun e w' => e = .returned (.tuple #[.int .i64 4, .int .i64 0]) ∧ Below w.heap.size w w') := hB
  clear hB
  go_enter Tryz.func9, Tryz.ntmps9
  go_wp2_with fail
  obtain ⟨W0, hW0⟩ : ∃ W0, W0 = (w.alloc (.cells #[.bool false, .slice none 0 0, .int .i64 0, .bool false, .slice none 0 0, .int .i64 0] 35)) := ⟨_, rfl⟩
  have Xr : Hid (B6q W0 (w.heap.size) (.bool false) (.slice none 0 0) (.int .i64 0) (.bool false) (.slice none 0 0) (.int .i64 0)) := by rw [hW0]; exact ⟨by go_simp, by go_simp, by go_simp, by go_simp, by go_simp, by go_simp, by go_simp, by go_simp, by go_simp, by go_simp, by go_simp, by go_simp⟩
  have hb0 : Below w.heap.size w W0 := by rw [hW0]; exact below1 w _
  rw [← hW0]
  clear hW0
  have hbw : Below w.heap.size w w := Below.refl _ _
  obtain ⟨gr, hgr⟩ : ∃ g, g = w.heap.size := ⟨_, rfl⟩
  have HGr : Hid (w.heap.size ≤ gr) := by rw [hgr]; show _ ≤ _; omega
  rw [← hgr] at Xr
  try rw [← hgr]
  clear hgr
  replace hbw := Below.on hbw hb0
  clear hb0
  refine (HB.out _).mono ?_
  rintro e v1 ⟨rfl, hb1⟩
  replace Xr : Hid _ := Xr.out.below hb1
  replace hbw := Below.on hbw hb1
  clear hb1
  obtain ⟨cr0, cr1, cr2, cr3, cr4, cr5, fr0, fr1, fr2, fr3, fr4, fr5⟩ := Xr.out
  have hner : gr < v1.heap.size := World.block_lt_of_cell? v1 _ cr0
  go_wp2_with fail
  refine bodyPost_ret (v := .tuple #[SV false none 0 0 0 false none 0 0 0, .bool false, .int .i64 6]) (by rw [results_ctt rfl]; go_simp) rfl ⟨rfl, ?_⟩
  exact (bSet (bSet (bSet (bSet (bSet (bSet hbw _ _ _ HGr.out) _ _ _ HGr.out) _ _ _ HGr.out) _ _ _ HGr.out) _ _ _ HGr.out) _ _ _ HGr.out)
theorem doccell_x0 {f : Int} {b : Nat} (hB : ∀ w, Calls Tryz.prog 90 #[.int .i64 f, U b] w fun e w' => e = .returned (.tuple #[.int .i64 0, .int .i64 0]) ∧ Below w.heap.size w w') (w : World) :
    Calls Tryz.prog 54 #[.int .i64 f, U b] w fun en w' => en = .returned (.tuple #[SV false none 0 0 0 false none 0 0 0, .bool false, .int .i64 6]) ∧ Below w.heap.size w w' := by
  have HB : Hid (∀ w, Calls Tryz.prog 90 #[.int .i64 f, U b] w fun e w' => e = .returned (.tuple #[.int .i64 0, .int .i64 0]) ∧ Below w.heap.size w w') := hB
  clear hB
  go_enter Tryz.func54, Tryz.ntmps54
  go_wp2_with fail
  obtain ⟨W0, hW0⟩ : ∃ W0, W0 = (w.alloc (.cells #[.bool false, .slice none 0 0, .int .i64 0, .bool false, .slice none 0 0, .int .i64 0] 35)) := ⟨_, rfl⟩
  have Xr : Hid (B6q W0 (w.heap.size) (.bool false) (.slice none 0 0) (.int .i64 0) (.bool false) (.slice none 0 0) (.int .i64 0)) := by rw [hW0]; exact ⟨by go_simp, by go_simp, by go_simp, by go_simp, by go_simp, by go_simp, by go_simp, by go_simp, by go_simp, by go_simp, by go_simp, by go_simp⟩
  have hb0 : Below w.heap.size w W0 := by rw [hW0]; exact below1 w _
  rw [← hW0]
  clear hW0
  have hbw : Below w.heap.size w w := Below.refl _ _
  obtain ⟨gr, hgr⟩ : ∃ g, g = w.heap.size := ⟨_, rfl⟩
  have HGr : Hid (w.heap.size ≤ gr) := by rw [hgr]; show _ ≤ _; omega
  rw [← hgr] at Xr
  try rw [← hgr]
  clear hgr
  replace hbw := Below.on hbw hb0
  clear hb0
  refine (HB.out _).mono ?_
  rintro e v1 ⟨rfl, hb1⟩
  replace Xr : Hid _ := Xr.out.below hb1
  replace hbw := Below.on hbw hb1
  clear hb1
  obtain ⟨cr0, cr1, cr2, cr3, cr4, cr5, fr0, fr1, fr2, fr3, fr4, fr5⟩ := Xr.out
  have hner : gr < v1.heap.size := World.block_lt_of_cell? v1 _ cr0
  go_wp2_with fail
  refine bodyPost_ret (v := .tuple #[SV false none 0 0 0 false none 0 0 0, .bool false, .int .i64 6]) (by rw [results_ctt rfl]; go_simp) rfl ⟨rfl, ?_⟩
  exact (bSet (bSet (bSet (bSet (bSet (bSet hbw _ _ _ HGr.out) _ _ _ HGr.out) _ _ _ HGr.out) _ _ _ HGr.out) _ _ _ HGr.out) _ _ _ HGr.out)
theorem doccell_x3 {f : Int} {b : Nat} (hB : ∀ w, Calls Tryz.prog 90 #[.int .i64 f, U b] w fun e w' => e = .returned (.tuple #[.int .i64 3, .int .i64 0]) ∧ Below w.heap.size w w') (w : World) :
    Calls Tryz.prog 54 #[.int .i64 f, U b] w fun en w' => en = .returned (.tuple #[SV false none 0 0 0 false none 0 0 0, .bool false, .int .i64 6]) ∧ Below w.heap.size w w' := by
  have HB : Hid (∀ w, Calls Tryz.prog 90 #[.int .i64 f, U b] w fun e w' => e = .returned (.tuple #[.int .i64 3, .int .i64 0]) ∧ Below w.heap.size w w') := hB
  clear hB
  go_enter Tryz.func54, Tryz.ntmps54
  go_wp2_with fail
  obtain ⟨W0, hW0⟩ : ∃ W0, W0 = (w.alloc (.cells #[.bool false, .slice none 0 0, .int .i64 0, .bool false, .slice none 0 0, .int .i64 0] 35)) := ⟨_, rfl⟩
  have Xr : Hid (B6q W0 (w.heap.size) (.bool false) (.slice none 0 0) (.int .i64 0) (.bool false) (.slice none 0 0) (.int .i64 0)) := by rw [hW0]; exact ⟨by go_simp, by go_simp, by go_simp, by go_simp, by go_simp, by go_simp, by go_simp, by go_simp, by go_simp, by go_simp, by go_simp, by go_simp⟩
  have hb0 : Below w.heap.size w W0 := by rw [hW0]; exact below1 w _
  rw [← hW0]
  clear hW0
  have hbw : Below w.heap.size w w := Below.refl _ _
  obtain ⟨gr, hgr⟩ : ∃ g, g = w.heap.size := ⟨_, rfl⟩
  have HGr : Hid (w.heap.size ≤ gr) := by rw [hgr]; show _ ≤ _; omega
  rw [← hgr] at Xr
  try rw [← hgr]
  clear hgr
  replace hbw := Below.on hbw hb0
  clear hb0
  refine (HB.out _).mono ?_
  rintro e v1 ⟨rfl, hb1⟩
  replace Xr : Hid _ := Xr.out.below hb1
  replace hbw := Below.on hbw hb1
  clear hb1
  obtain ⟨cr0, cr1, cr2, cr3, cr4, cr5, fr0, fr1, fr2, fr3, fr4, fr5⟩ := Xr.out
  have hner : gr < v1.heap.size := World.block_lt_of_cell? v1 _ cr0
  go_wp2_with fail
  refine bodyPost_ret (v := .tuple #[SV false none 0 0 0 false none 0 0 0, .bool false, .int .i64 6]) (by rw [results_ctt rfl]; go_simp) rfl ⟨rfl, ?_⟩
  exact (bSet (bSet (bSet (bSet (bSet (bSet hbw _ _ _ HGr.out) _ _ _ HGr.out) _ _ _ HGr.out) _ _ _ HGr.out) _ _ _ HGr.out) _ _ _ HGr.out)
theorem doccell_x4 {f : Int} {b : Nat} (hB : ∀ w, Calls Tryz.prog 90 #[.int .i64 f, U b] w fun e w' => e = .returned (.tuple #[.int .i64 4, .int .i64 0]) ∧ Below w.heap.size w w') (w : World) :
    Calls Tryz.prog 54 #[.int .i64 f, U b] w fun en w' => en = .returned (.tuple #[SV false none 0 0 0 false none 0 0 0, .bool false, .int .i64 6]) ∧ Below w.heap.size w w' := by
  have HB : Hid (∀ w, Calls Tryz.prog 90 #[.int .i64 f, U b] w fun e w' => e = .returned (.tuple #[.int .i64 4, .int .i64 0]) ∧ Below w.heap.size w w') := hB
  clear hB
  go_enter Tryz.func54, Tryz.ntmps54
  go_wp2_with fail
  obtain ⟨W0, hW0⟩ : ∃ W0, W0 = (w.alloc (.cells #[.bool false, .slice none 0 0, .int .i64 0, .bool false, .slice none 0 0, .int .i64 0] 35)) := ⟨_, rfl⟩
  have Xr : Hid (B6q W0 (w.heap.size) (.bool false) (.slice none 0 0) (.int .i64 0) (.bool false) (.slice none 0 0) (.int .i64 0)) := by rw [hW0]; exact ⟨by go_simp, by go_simp, by go_simp, by go_simp, by go_simp, by go_simp, by go_simp, by go_simp, by go_simp, by go_simp, by go_simp, by go_simp⟩
  have hb0 : Below w.heap.size w W0 := by rw [hW0]; exact below1 w _
  rw [← hW0]
  clear hW0
  have hbw : Below w.heap.size w w := Below.refl _ _
  obtain ⟨gr, hgr⟩ : ∃ g, g = w.heap.size := ⟨_, rfl⟩
  have HGr : Hid (w.heap.size ≤ gr) := by rw [hgr]; show _ ≤ _; omega
  rw [← hgr] at Xr
  try rw [← hgr]
  clear hgr
  replace hbw := Below.on hbw hb0
  clear hb0
  refine (HB.out _).mono ?_
  rintro e v1 ⟨rfl, hb1⟩
  replace Xr : Hid _ := Xr.out.below hb1
  replace hbw := Below.on hbw hb1
  clear hb1
  obtain ⟨cr0, cr1, cr2, cr3, cr4, cr5, fr0, fr1, fr2, fr3, fr4, fr5⟩ := Xr.out
  have hner : gr < v1.heap.size := World.block_lt_of_cell? v1 _ cr0
  go_wp2_with fail
  refine bodyPost_ret (v := .tuple #[SV false none 0 0 0 false none 0 0 0, .bool false, .int .i64 6]) (by rw [results_ctt rfl]; go_simp) rfl ⟨rfl, ?_⟩
  exact (bSet (bSet (bSet (bSet (bSet (bSet hbw _ _ _ HGr.out) _ _ _ HGr.out) _ _ _ HGr.out) _ _ _ HGr.out) _ _ _ HGr.out) _ _ _ HGr.out)
theorem dn_off8 {w : World} {g gr m c : Nat} {s b0 : Bool} {e z : Int} (h : DN w s (some ⟨g, 0, none⟩) m c e z) (hz : z ≠ 0) (hx : w.cell? ⟨gr, 0, none⟩ = some (.bool b0)) : g ≠ gr := by
  rintro rfl
  obtain ⟨xs, hX⟩ := h.zn.ex
  have hn0 : 0 < m := by
    rcases Nat.eq_zero_or_pos m with h0 | h0
    · exfalso
      subst h0
      have h1 := hX.nf.val
      rw [List.eq_nil_of_length_eq_zero hX.at_.len] at h1
      simp [valB] at h1
      omega
    · exact h0
  have h1 := hX.at_.cellAt 0 (by have := hX.at_.len; omega)
  have h2 : w.cell? ⟨g, 0, none⟩ = some (U (xs.getD 0 0)) := h1
  rw [hx] at h2
  injection h2 with h2
  cases h2
def CelP (H : Nat) (l : Int) (sg : Bool) (z b : Nat) (w' : World) (en : Ending) : Prop := ∃ s1 p1 m1 c1 z1 e1 s2 p2 m2 c2 z2 e2, en = .returned (.tuple #[SV s1 p1 m1 c1 e1 s2 p2 m2 c2 e2, .bool (decide (b % 2 = 0)), .int .i64 0]) ∧ DN w' s1 p1 m1 c1 e1 z1 ∧ DN w' s2 p2 m2 c2 e2 z2 ∧ dv z1 e1 = cLo H l sg z ∧ dv z2 e2 = cHi H l sg z
theorem doccell_f {f c : Int} {b b1 H z : Nat} {l zo eo zi ei : Int} (hB : ∀ w, Calls Tryz.prog 90 #[.int .i64 f, U b] w fun e w' => e = .returned (.tuple #[.int .i64 c, .int .i64 0]) ∧ Below w.heap.size w w') (hc : c = 1 ∨ c = 2) (hb : b1 + 1 = b ∧ b < 18446744073709551616) (m1 : ∀ w, Calls Tryz.prog 91 #[.int .i64 f, U b] w fun en w' => ∃ g m' c', en = .returned (.tuple #[DV false (some ⟨g, 0, none⟩) m' c' eo, .int .i64 0]) ∧ DN w' false (some ⟨g, 0, none⟩) m' c' eo zo ∧ Below w.heap.size w w') (m2 : ∀ w, Calls Tryz.prog 91 #[.int .i64 f, U b1] w fun en w' => ∃ g m' c', en = .returned (.tuple #[DV false (some ⟨g, 0, none⟩) m' c' ei, .int .i64 0]) ∧ DN w' false (some ⟨g, 0, none⟩) m' c' ei zi ∧ Below w.heap.size w w') (hz : zo ≠ 0 ∧ zi ≠ 0) (h1 : dv zo eo = cHi H l false z) (h2 : dv zi ei = cLo H l false z) (w : World) :
    Calls Tryz.prog 54 #[.int .i64 f, U b] w fun en w' => CelP H l false z b w' en ∧ Below w.heap.size w w' := by
  have HB : Hid (∀ w, Calls Tryz.prog 90 #[.int .i64 f, U b] w fun e w' => e = .returned (.tuple #[.int .i64 c, .int .i64 0]) ∧ Below w.heap.size w w') := hB
  have k0 : (c == 0) = false := by rcases hc with rfl | rfl <;> rfl
  have k3 : (c == 3) = false := by rcases hc with rfl | rfl <;> rfl
  have k4 : (c == 4) = false := by rcases hc with rfl | rfl <;> rfl
  have w1 : IntKind.u64.wrap ((b : Int) - 1) = (b1 : Int) := by rw [show (b : Int) - 1 = (b1 : Int) by omega]; exact ju9 (by omega)
  have HM1 : Hid (∀ w, Calls Tryz.prog 91 #[.int .i64 f, U b] w fun en w' => ∃ g m' c', en = .returned (.tuple #[DV false (some ⟨g, 0, none⟩) m' c' eo, .int .i64 0]) ∧ DN w' false (some ⟨g, 0, none⟩) m' c' eo zo ∧ Below w.heap.size w w') := m1
  have HM2 : Hid (∀ w, Calls Tryz.prog 91 #[.int .i64 f, U b1] w fun en w' => ∃ g m' c', en = .returned (.tuple #[DV false (some ⟨g, 0, none⟩) m' c' ei, .int .i64 0]) ∧ DN w' false (some ⟨g, 0, none⟩) m' c' ei zi ∧ Below w.heap.size w w') := m2
  obtain ⟨od, hod⟩ : ∃ od, od = decide (b % 2 = 0) := ⟨_, rfl⟩
  have w2 : ((b : Int) % 2 == 0) = od := by
    rw [hod]
    by_cases h9 : b % 2 = 0
    · rw [show (b : Int) % 2 = 0 by omega, decide_eq_true h9]; rfl
    · rw [show (b : Int) % 2 = 1 by omega, decide_eq_false h9]; rfl
  have HZ : Hid (zo ≠ 0 ∧ zi ≠ 0 ∧ dv zo eo = cHi H l false z ∧ dv zi ei = cLo H l false z ∧ od = decide (b % 2 = 0)) := ⟨hz.1, hz.2, h1, h2, hod⟩
  clear hB hc hb m1 m2 hz h1 h2 hod
  go_enter Tryz.func54, Tryz.ntmps54
  go_wp2_with fail
  obtain ⟨W0, hW0⟩ : ∃ W0, W0 = (w.alloc (.cells #[.bool false, .slice none 0 0, .int .i64 0, .bool false, .slice none 0 0, .int .i64 0] 35)) := ⟨_, rfl⟩
  have Xr : Hid (B6q W0 (w.heap.size) (.bool false) (.slice none 0 0) (.int .i64 0) (.bool false) (.slice none 0 0) (.int .i64 0)) := by rw [hW0]; exact ⟨by go_simp, by go_simp, by go_simp, by go_simp, by go_simp, by go_simp, by go_simp, by go_simp, by go_simp, by go_simp, by go_simp, by go_simp⟩
  have hb0 : Below w.heap.size w W0 := by rw [hW0]; exact below1 w _
  rw [← hW0]
  clear hW0
  have hbw : Below w.heap.size w w := Below.refl _ _
  obtain ⟨gr, hgr⟩ : ∃ g, g = w.heap.size := ⟨_, rfl⟩
  have HGr : Hid (w.heap.size ≤ gr) := by rw [hgr]; show _ ≤ _; omega
  rw [← hgr] at Xr
  try rw [← hgr]
  clear hgr
  replace hbw := Below.on hbw hb0
  clear hb0
  refine (HB.out _).mono ?_
  rintro e v1 ⟨rfl, hb1⟩
  replace Xr : Hid _ := Xr.out.below hb1
  replace hbw := Below.on hbw hb1
  clear hb1
  obtain ⟨cr0, cr1, cr2, cr3, cr4, cr5, fr0, fr1, fr2, fr3, fr4, fr5⟩ := Xr.out
  have hner : gr < v1.heap.size := World.block_lt_of_cell? v1 _ cr0
  go_wp2_with fail
  clear cr0 cr1 cr2 cr3 cr4 cr5 fr0 fr1 fr2 fr3 fr4 fr5 hner
  refine (HM1.out _).mono ?_
  rintro e9 v2 ⟨g2, m2, c2, rfl, hd2, hb2⟩
  replace Xr : Hid _ := Xr.out.below hb2
  replace hbw := Below.on hbw hb2
  clear hb2
  have D2 : Hid (DN v2 false (some ⟨g2, 0, none⟩) m2 c2 eo zo) := hd2
  clear hd2
  obtain ⟨cr0, cr1, cr2, cr3, cr4, cr5, fr0, fr1, fr2, fr3, fr4, fr5⟩ := Xr.out
  have hner : gr < v2.heap.size := World.block_lt_of_cell? v2 _ cr0
  go_wp2_with fail
  clear cr0 cr1 cr2 cr3 cr4 cr5 fr0 fr1 fr2 fr3 fr4 fr5 hner
  have Xu0 : Hid (B3q (v2.alloc (.cells #[.bool false, .slice (some ⟨g2, 0, none⟩) m2 c2, .int .i64 eo] 33)) v2.heap.size (.bool false) (.slice (some ⟨g2, 0, none⟩) m2 c2) (.int .i64 eo)) := B3q.new v2 _ _ _ _
  have hbn : Below v2.heap.size v2 (v2.alloc (.cells #[.bool false, .slice (some ⟨g2, 0, none⟩) m2 c2, .int .i64 eo] 33)) := below1 v2 _
  generalize v2.alloc (.cells #[.bool false, .slice (some ⟨g2, 0, none⟩) m2 c2, .int .i64 eo] 33) = Wu at *
  have HGu : Hid (w.heap.size ≤ v2.heap.size) := hbw.size
  replace Xr : Hid _ := Xr.out.below hbn
  replace D2 : Hid _ := D2.out.below hbn
  replace hbw := Below.on hbw hbn
  clear hbn
  generalize v2.heap.size = gu at *
  have Xu := Xu0
  clear Xu0
  refine (HM2.out _).mono ?_
  rintro e9 v3 ⟨g3, m3, c3, rfl, hd3, hb3⟩
  replace Xr : Hid _ := Xr.out.below hb3
  replace Xu : Hid _ := Xu.out.below hb3
  replace D2 : Hid _ := D2.out.below hb3
  replace hbw := Below.on hbw hb3
  clear hb3
  have D3 : Hid (DN v3 false (some ⟨g3, 0, none⟩) m3 c3 ei zi) := hd3
  clear hd3
  have HO2 : Hid (g2 ≠ gr) := dn_off8 D2.out HZ.out.1 Xr.out.c0
  have HO3 : Hid (g3 ≠ gr) := dn_off8 D3.out HZ.out.2.1 Xr.out.c0
  obtain ⟨cr0, cr1, cr2, cr3, cr4, cr5, fr0, fr1, fr2, fr3, fr4, fr5⟩ := Xr.out
  have hner : gr < v3.heap.size := World.block_lt_of_cell? v3 _ cr0
  obtain ⟨cu0, cu1, cu2, fu0, fu1, fu2⟩ := Xu.out
  have hneu : gu < v3.heap.size := World.block_lt_of_cell? v3 _ cu0
  go_wp2_with fail
  refine bodyPost_ret (v := .tuple #[SV false (some ⟨g3, 0, none⟩) m3 c3 ei false (some ⟨g2, 0, none⟩) m2 c2 eo, .bool od, .int .i64 0]) (by rw [results_ctt rfl]; go_simp) rfl ⟨⟨false, some ⟨g3, 0, none⟩, m3, c3, zi, ei, false, some ⟨g2, 0, none⟩, m2, c2, zo, eo, by rw [HZ.out.2.2.2.2], ((((((D3.out.set _ _ _ HO3.out).set _ _ _ HO3.out).set _ _ _ HO3.out).set _ _ _ HO3.out).set _ _ _ HO3.out).set _ _ _ HO3.out).below (below1 _ _), ((((((D2.out.set _ _ _ HO2.out).set _ _ _ HO2.out).set _ _ _ HO2.out).set _ _ _ HO2.out).set _ _ _ HO2.out).set _ _ _ HO2.out).below (below1 _ _), HZ.out.2.2.2.1, HZ.out.2.2.1⟩, Below.on (bSet (bSet (bSet (bSet (bSet (bSet hbw _ _ _ HGr.out) _ _ _ HGr.out) _ _ _ HGr.out) _ _ _ HGr.out) _ _ _ HGr.out) _ _ _ HGr.out) (below1 _ _)⟩
theorem doccell_t {f c : Int} {b b1 H z : Nat} {l zo eo zi ei : Int} (hB : ∀ w, Calls Tryz.prog 90 #[.int .i64 f, U b] w fun e w' => e = .returned (.tuple #[.int .i64 c, .int .i64 0]) ∧ Below w.heap.size w w') (hc : c = 1 ∨ c = 2) (hb : b1 + 1 = b ∧ b < 18446744073709551616) (m1 : ∀ w, Calls Tryz.prog 91 #[.int .i64 f, U b] w fun en w' => ∃ g m' c', en = .returned (.tuple #[DV true (some ⟨g, 0, none⟩) m' c' eo, .int .i64 0]) ∧ DN w' true (some ⟨g, 0, none⟩) m' c' eo zo ∧ Below w.heap.size w w') (m2 : ∀ w, Calls Tryz.prog 91 #[.int .i64 f, U b1] w fun en w' => ∃ g m' c', en = .returned (.tuple #[DV true (some ⟨g, 0, none⟩) m' c' ei, .int .i64 0]) ∧ DN w' true (some ⟨g, 0, none⟩) m' c' ei zi ∧ Below w.heap.size w w') (hz : zo ≠ 0 ∧ zi ≠ 0) (h1 : dv zo eo = cLo H l true z) (h2 : dv zi ei = cHi H l true z) (w : World) :
    Calls Tryz.prog 54 #[.int .i64 f, U b] w fun en w' => CelP H l true z b w' en ∧ Below w.heap.size w w' := by
  have HB : Hid (∀ w, Calls Tryz.prog 90 #[.int .i64 f, U b] w fun e w' => e = .returned (.tuple #[.int .i64 c, .int .i64 0]) ∧ Below w.heap.size w w') := hB
  have k0 : (c == 0) = false := by rcases hc with rfl | rfl <;> rfl
  have k3 : (c == 3) = false := by rcases hc with rfl | rfl <;> rfl
  have k4 : (c == 4) = false := by rcases hc with rfl | rfl <;> rfl
  have w1 : IntKind.u64.wrap ((b : Int) - 1) = (b1 : Int) := by rw [show (b : Int) - 1 = (b1 : Int) by omega]; exact ju9 (by omega)
  have HM1 : Hid (∀ w, Calls Tryz.prog 91 #[.int .i64 f, U b] w fun en w' => ∃ g m' c', en = .returned (.tuple #[DV true (some ⟨g, 0, none⟩) m' c' eo, .int .i64 0]) ∧ DN w' true (some ⟨g, 0, none⟩) m' c' eo zo ∧ Below w.heap.size w w') := m1
  have HM2 : Hid (∀ w, Calls Tryz.prog 91 #[.int .i64 f, U b1] w fun en w' => ∃ g m' c', en = .returned (.tuple #[DV true (some ⟨g, 0, none⟩) m' c' ei, .int .i64 0]) ∧ DN w' true (some ⟨g, 0, none⟩) m' c' ei zi ∧ Below w.heap.size w w') := m2
  obtain ⟨od, hod⟩ : ∃ od, od = decide (b % 2 = 0) := ⟨_, rfl⟩
  have w2 : ((b : Int) % 2 == 0) = od := by
    rw [hod]
    by_cases h9 : b % 2 = 0
    · rw [show (b : Int) % 2 = 0 by omega, decide_eq_true h9]; rfl
    · rw [show (b : Int) % 2 = 1 by omega, decide_eq_false h9]; rfl
  have HZ : Hid (zo ≠ 0 ∧ zi ≠ 0 ∧ dv zo eo = cLo H l true z ∧ dv zi ei = cHi H l true z ∧ od = decide (b % 2 = 0)) := ⟨hz.1, hz.2, h1, h2, hod⟩
  clear hB hc hb m1 m2 hz h1 h2 hod
  go_enter Tryz.func54, Tryz.ntmps54
  go_wp2_with fail
  obtain ⟨W0, hW0⟩ : ∃ W0, W0 = (w.alloc (.cells #[.bool false, .slice none 0 0, .int .i64 0, .bool false, .slice none 0 0, .int .i64 0] 35)) := ⟨_, rfl⟩
  have Xr : Hid (B6q W0 (w.heap.size) (.bool false) (.slice none 0 0) (.int .i64 0) (.bool false) (.slice none 0 0) (.int .i64 0)) := by rw [hW0]; exact ⟨by go_simp, by go_simp, by go_simp, by go_simp, by go_simp, by go_simp, by go_simp, by go_simp, by go_simp, by go_simp, by go_simp, by go_simp⟩
  have hb0 : Below w.heap.size w W0 := by rw [hW0]; exact below1 w _
  rw [← hW0]
  clear hW0
  have hbw : Below w.heap.size w w := Below.refl _ _
  obtain ⟨gr, hgr⟩ : ∃ g, g = w.heap.size := ⟨_, rfl⟩
  have HGr : Hid (w.heap.size ≤ gr) := by rw [hgr]; show _ ≤ _; omega
  rw [← hgr] at Xr
  try rw [← hgr]
  clear hgr
  replace hbw := Below.on hbw hb0
  clear hb0
  refine (HB.out _).mono ?_
  rintro e v1 ⟨rfl, hb1⟩
  replace Xr : Hid _ := Xr.out.below hb1
  replace hbw := Below.on hbw hb1
  clear hb1
  obtain ⟨cr0, cr1, cr2, cr3, cr4, cr5, fr0, fr1, fr2, fr3, fr4, fr5⟩ := Xr.out
  have hner : gr < v1.heap.size := World.block_lt_of_cell? v1 _ cr0
  go_wp2_with fail
  clear cr0 cr1 cr2 cr3 cr4 cr5 fr0 fr1 fr2 fr3 fr4 fr5 hner
  refine (HM1.out _).mono ?_
  rintro e9 v2 ⟨g2, m2, c2, rfl, hd2, hb2⟩
  replace Xr : Hid _ := Xr.out.below hb2
  replace hbw := Below.on hbw hb2
  clear hb2
  have D2 : Hid (DN v2 true (some ⟨g2, 0, none⟩) m2 c2 eo zo) := hd2
  clear hd2
  obtain ⟨cr0, cr1, cr2, cr3, cr4, cr5, fr0, fr1, fr2, fr3, fr4, fr5⟩ := Xr.out
  have hner : gr < v2.heap.size := World.block_lt_of_cell? v2 _ cr0
  go_wp2_with fail
  clear cr0 cr1 cr2 cr3 cr4 cr5 fr0 fr1 fr2 fr3 fr4 fr5 hner
  have Xu0 : Hid (B3q (v2.alloc (.cells #[.bool true, .slice (some ⟨g2, 0, none⟩) m2 c2, .int .i64 eo] 33)) v2.heap.size (.bool true) (.slice (some ⟨g2, 0, none⟩) m2 c2) (.int .i64 eo)) := B3q.new v2 _ _ _ _
  have hbn : Below v2.heap.size v2 (v2.alloc (.cells #[.bool true, .slice (some ⟨g2, 0, none⟩) m2 c2, .int .i64 eo] 33)) := below1 v2 _
  generalize v2.alloc (.cells #[.bool true, .slice (some ⟨g2, 0, none⟩) m2 c2, .int .i64 eo] 33) = Wu at *
  have HGu : Hid (w.heap.size ≤ v2.heap.size) := hbw.size
  replace Xr : Hid _ := Xr.out.below hbn
  replace D2 : Hid _ := D2.out.below hbn
  replace hbw := Below.on hbw hbn
  clear hbn
  generalize v2.heap.size = gu at *
  have Xu := Xu0
  clear Xu0
  refine (HM2.out _).mono ?_
  rintro e9 v3 ⟨g3, m3, c3, rfl, hd3, hb3⟩
  replace Xr : Hid _ := Xr.out.below hb3
  replace Xu : Hid _ := Xu.out.below hb3
  replace D2 : Hid _ := D2.out.below hb3
  replace hbw := Below.on hbw hb3
  clear hb3
  have D3 : Hid (DN v3 true (some ⟨g3, 0, none⟩) m3 c3 ei zi) := hd3
  clear hd3
  have HO2 : Hid (g2 ≠ gr) := dn_off8 D2.out HZ.out.1 Xr.out.c0
  have HO3 : Hid (g3 ≠ gr) := dn_off8 D3.out HZ.out.2.1 Xr.out.c0
  obtain ⟨cr0, cr1, cr2, cr3, cr4, cr5, fr0, fr1, fr2, fr3, fr4, fr5⟩ := Xr.out
  have hner : gr < v3.heap.size := World.block_lt_of_cell? v3 _ cr0
  obtain ⟨cu0, cu1, cu2, fu0, fu1, fu2⟩ := Xu.out
  have hneu : gu < v3.heap.size := World.block_lt_of_cell? v3 _ cu0
  go_wp2_with fail
  refine bodyPost_ret (v := .tuple #[SV true (some ⟨g2, 0, none⟩) m2 c2 eo true (some ⟨g3, 0, none⟩) m3 c3 ei, .bool od, .int .i64 0]) (by rw [results_ctt rfl]; go_simp) rfl ⟨⟨true, some ⟨g2, 0, none⟩, m2, c2, zo, eo, true, some ⟨g3, 0, none⟩, m3, c3, zi, ei, by rw [HZ.out.2.2.2.2], ((((((D2.out.set _ _ _ HO2.out).set _ _ _ HO2.out).set _ _ _ HO2.out).set _ _ _ HO2.out).set _ _ _ HO2.out).set _ _ _ HO2.out).below (below1 _ _), ((((((D3.out.set _ _ _ HO3.out).set _ _ _ HO3.out).set _ _ _ HO3.out).set _ _ _ HO3.out).set _ _ _ HO3.out).set _ _ _ HO3.out).below (below1 _ _), HZ.out.2.2.1, HZ.out.2.2.2.1⟩, Below.on (bSet (bSet (bSet (bSet (bSet (bSet hbw _ _ _ HGr.out) _ _ _ HGr.out) _ _ _ HGr.out) _ _ _ HGr.out) _ _ _ HGr.out) _ _ _ HGr.out) (below1 _ _)⟩
theorem cls_of9 (H I s : Nat) : (clsN H I s = 0) ∨ (clsN H I s = 3) ∨ (clsN H I s = 4) ∨ ((clsN H I s = 1 ∨ clsN H I s = 2) ∧ s ≠ 0 ∧ (s < H ∨ s < I)) := by
  unfold clsN
  split
  · exact .inl rfl
  · split
    · exact .inr (.inr (.inr ⟨.inl rfl, by assumption, .inl (by assumption)⟩))
    · split
      · exact .inr (.inr (.inr ⟨.inr rfl, by assumption, .inr (by assumption)⟩))
      · split
        · exact .inr (.inl rfl)
        · exact .inr (.inr (.inl rfl))
def CelB (f : Int) (b : Nat) : Prop :=
  (∃ er : Int, (∀ w, Calls Tryz.prog 9 #[.int .i64 f, U b] w fun en w' => en = .returned (.tuple #[SV false none 0 0 0 false none 0 0 0, .bool false, .int .i64 er]) ∧ Below w.heap.size w w') ∧ (∀ w, Calls Tryz.prog 54 #[.int .i64 f, U b] w fun en w' => en = .returned (.tuple #[SV false none 0 0 0 false none 0 0 0, .bool false, .int .i64 er]) ∧ Below w.heap.size w w')) ∨
  (∃ H l sg z, (∀ w, Tab w → Calls Tryz.prog 9 #[.int .i64 f, U b] w fun en w' => CelP H l sg z b w' en ∧ Below w.heap.size w w') ∧ (∀ w, Calls Tryz.prog 54 #[.int .i64 f, U b] w fun en w' => CelP H l sg z b w' en ∧ Below w.heap.size w w'))
theorem mid_iv {H z : Nat} {l : Int} (sg : Bool) (hl : -4194303 ≤ l) : dv (iv sg (2 * (z - (z / H - 1) * H) + 1)) (l - 1 + ((z / H - 1 : Nat) : Int)) = if sg then - dv (hv H z : Int) (l - 1) else dv (hv H z : Int) (l - 1) := by
  rw [dv_iv, show l - 1 + ((z / H - 1 : Nat) : Int) = l + ((z / H - 1 : Nat) : Int) - 1 by omega, mid_dv z hl]
theorem iv_odd {sg : Bool} {n : Nat} : iv sg (2 * n + 1) ≠ 0 := by cases sg <;> simp [iv] <;> omega
theorem cel_fin {f p m l P G : Int} {S I H sd Q : Nat} {Be : Int} (J : Jn f p m l S I H sd Be) (R : Rf f S P l G I Q) (wh : ∀ (b : Nat) w, Calls Tryz.prog 138 #[FV S P l G I Q, U b] w fun en w' => ∃ v, en = .returned v ∧ GotR w.heap.size w' v (svS S H b) 2200 ∧ Below w.heap.size w w') {b : Nat} {c : Int} (hb : b < 2 * S) (h0 : b % S ≠ 0) (h1 : b % S < I) (hc : c = 1 ∨ c = 2) (hd : ∀ w, Calls Tryz.prog 90 #[.int .i64 f, U b] w fun e w' => e = .returned (.tuple #[.int .i64 c, .int .i64 0]) ∧ Below w.heap.size w w') : CelB f b := by
  have hlt := J.jm.pm.fm.lt
  have hle := J.jm.pm.fm.le
  have hp := J.jm.pm.hp
  have hlo := J.jm.pm.lo
  have hb0 : b ≠ 0 := fun h => h0 (by rw [h]; exact Nat.zero_mod _)
  have hb1 : (b - 1) % S = b % S - 1 := by
    have e1 := Nat.div_add_mod b S
    have e2 := Nat.mod_lt b (show 0 < S by omega)
    have : b - 1 = b % S - 1 + S * (b / S) := by omega
    rw [this, Nat.add_mul_mod_self_left, Nat.mod_eq_of_lt (by omega)]
  have hsg : decide (S ≤ b - 1) = decide (S ≤ b) := by
    refine decide_eq_decide.2 ⟨fun h => by omega, fun h => ?_⟩
    have : b ≠ S := fun h2 => by rw [h2, Nat.mod_self] at h0; exact h0 rfl
    omega
  have hC : I < S ∧ S ≤ 9223372036854775808 ∧ 0 < H ∧ -1074 ≤ l ∧ l ≤ -149 := ⟨hlt, hle, hp, hlo.1, hlo.2⟩
  have m1 := rmid_o R wh b hb h1 hC (J.jm.pm.st _ h1)
  have m2 := rmid_o R wh (b - 1) (by omega) (by rw [hb1]; omega) hC (J.jm.pm.st _ (by rw [hb1]; omega))
  rw [hb1, hsg] at m2
  refine .inr ⟨H, l, decide (S ≤ b), b % S, fun w hT => ?_, fun w => ?_⟩
  · refine (cell_ok J b hb h0 h1 w hT).mono fun en w' ⟨s1, p1, m1, z1, e1, s2, p2, m2, z2, e2, q1, q2, q3, q4, q5, q6⟩ => ⟨⟨s1, p1, m1, m1, z1, e1, s2, p2, m2, m2, z2, e2, q1, q2.dn, q3.dn, q4, q5⟩, q6⟩
  · generalize hs : decide (S ≤ b) = sg at m1 m2 ⊢
    have d1 := mid_iv (H := H) (z := b % S) (l := l) sg (by omega)
    have d2 := mid_iv (H := H) (z := b % S - 1) (l := l) sg (by omega)
    cases sg
    · exact doccell_f hd hc ⟨by omega, by omega⟩ m1 m2 ⟨iv_odd, iv_odd⟩ (by rw [d1]; rfl) (by rw [d2]; rfl) w
    · exact doccell_t hd hc ⟨by omega, by omega⟩ m1 m2 ⟨iv_odd, iv_odd⟩ (by rw [d1]; rfl) (by rw [d2]; rfl) w
theorem cel_fmt {f p m l P G : Int} {S I H sd Q : Nat} {Be : Int} (J : Jn f p m l S I H sd Be) (R : Rf f S P l G I Q) (wh : ∀ (b : Nat) w, Calls Tryz.prog 138 #[FV S P l G I Q, U b] w fun en w' => ∃ v, en = .returned v ∧ GotR w.heap.size w' v (svS S H b) 2200 ∧ Below w.heap.size w w') {b : Nat} (hb : b < 2 * S) (hd : ∀ w, Calls Tryz.prog 90 #[.int .i64 f, U b] w fun e w' => e = .returned (.tuple #[.int .i64 (clsN H I (b % S)), .int .i64 0]) ∧ Below w.heap.size w w') : CelB f b := by
  have hp := fun w => J.cl b w hb
  have h2 := J.jm.pm.h2
  rcases cls_of9 H I (b % S) with h | h | h | ⟨h, h0, h1⟩
  · rw [h] at hp hd
    exact .inl ⟨6, cell_x80 hp, doccell_x0 hd⟩
  · rw [h] at hp hd
    exact .inl ⟨6, cell_x83 hp, doccell_x3 hd⟩
  · rw [h] at hp hd
    exact .inl ⟨6, cell_x84 hp, doccell_x4 hd⟩
  · exact cel_fin J R wh hb h0 (by omega) h hd
theorem cel_all (f : Int) {b : Nat} (hb9 : b < B64) : CelB f b := by
  by_cases h1 : f = 32
  · subst h1
    by_cases h2 : b < 2 * 2147483648
    · exact cel_fmt jn_32 rf_32 (fun b w => rwhole_32 w) h2 (docclass_32 b h2)
    · exact .inl ⟨2, cell_e (cls_e (fun w => fm_32.big b w hb9 (by omega)) (by decide)) (by decide), doccell_e (docclass_e (check_big rf_32 b hb9 (by omega)) (by decide)) (by decide)⟩
  by_cases h2 : f = 64
  · subst h2
    have h3 : b < 2 * 9223372036854775808 := by rw [B64_eq] at hb9; omega
    exact cel_fmt jn_64 rf_64 (fun b w => rwhole_64 w) h3 (docclass_64 b h3)
  · exact .inl ⟨1, cell_e (cls_e (fun w => patternOf_x f h1 h2 b w) (by decide)) (by decide), doccell_e (docclass_e (fun w => check_x f h1 h2 b w) (by decide)) (by decide)⟩
theorem plays8_3z {pa pb : Option Addr} {na ca nb cb wd : Nat} {xa xb : List Nat} {w : World} {ff ea eb : Int} (sa sb : Bool) (ha : At w pa na ca xa) (hb : At w pb nb cb xb) (hn : na ≤ 17592186044416 ∧ nb ≤ 17592186044416 ∧ wd < B64) (hT : Tab w) {er : Int} (h1 : ∀ (w : World), Calls Tryz.prog 9 #[.int .i64 ff, U wd] w fun en w' => en = .returned (.tuple #[SV false none 0 0 0 false none 0 0 0, .bool false, .int .i64 er]) ∧ Below w.heap.size w w') (h2 : ∀ (w : World), Calls Tryz.prog 54 #[.int .i64 ff, U wd] w fun en w' => en = .returned (.tuple #[SV false none 0 0 0 false none 0 0 0, .bool false, .int .i64 er]) ∧ Below w.heap.size w w') :
    Calls Tryz.prog 24 #[(.agg #[.int .i64 3, .int .i64 ff, .bool sa, .slice pa na ca, .int .i64 ea, .bool sb, .slice pb nb cb, .int .i64 eb, U wd])] w fun en w' => en = .returned (.bool true) ∧ Below w.heap.size w w' := by
  have HA : Hid (At w pa na ca xa) := ha
  have HB : Hid (At w pb nb cb xb) := hb
  have HN : Hid (na ≤ 17592186044416 ∧ nb ≤ 17592186044416 ∧ wd < B64) := hn
  have TB : Hid (Tab w) := hT
  clear ha hb hn hT
  have H1 : Hid (∀ (w : World), Calls Tryz.prog 9 #[.int .i64 ff, U wd] w fun en w' => en = .returned (.tuple #[SV false none 0 0 0 false none 0 0 0, .bool false, .int .i64 er]) ∧ Below w.heap.size w w') := h1
  have H2 : Hid (∀ (w : World), Calls Tryz.prog 54 #[.int .i64 ff, U wd] w fun en w' => en = .returned (.tuple #[SV false none 0 0 0 false none 0 0 0, .bool false, .int .i64 er]) ∧ Below w.heap.size w w') := h2
  have q1 : (er == er) = true := by simp
  clear h1 h2
  go_enter Tryz.func24, Tryz.ntmps24
  go_wp2_with fail
  obtain ⟨W0, hW0⟩ : ∃ W0, W0 = (w.alloc (.cells #[.int .i64 3, .int .i64 ff, .bool sa, .slice pa na ca, .int .i64 ea, .bool sb, .slice pb nb cb, .int .i64 eb, U wd] 59)) := ⟨_, rfl⟩
  have Xo : Hid (B9q W0 (w.heap.size) (.int .i64 3) (.int .i64 ff) (.bool sa) (.slice pa na ca) (.int .i64 ea) (.bool sb) (.slice pb nb cb) (.int .i64 eb) (U wd)) := by rw [hW0]; exact ⟨by go_simp, by go_simp, by go_simp, by go_simp, by go_simp, by go_simp, by go_simp, by go_simp, by go_simp, by go_simp, by go_simp, by go_simp, by go_simp, by go_simp, by go_simp, by go_simp, by go_simp, by go_simp⟩
  have hb0 : Below w.heap.size w W0 := by rw [hW0]; exact below1 w _
  rw [← hW0]
  clear hW0
  have hbw : Below w.heap.size w w := Below.refl _ _
  obtain ⟨go, hgo⟩ : ∃ g, g = w.heap.size := ⟨_, rfl⟩
  have HGo : Hid (w.heap.size ≤ go) := by rw [hgo]; show _ ≤ _; omega
  rw [← hgo] at Xo
  try rw [← hgo]
  clear hgo
  replace hbw := Below.on hbw hb0
  clear hb0
  obtain ⟨W1, hW1⟩ : ∃ W1, W1 = W0.drew := ⟨_, rfl⟩
  have hbd : Below W0.heap.size W0 W1 := by rw [hW1]; exact bDrew1 (Below.refl _ _)
  replace Xo : Hid (B9q W1 go (.int .i64 3) (.int .i64 ff) (.bool sa) (.slice pa na ca) (.int .i64 ea) (.bool sb) (.slice pb nb cb) (.int .i64 eb) (U wd)) := Xo.out.below hbd
  replace hbw := Below.on hbw hbd
  clear hbd
  have HJ : Hid ((fun W' : World => W'.cell? ⟨go, 0, none⟩ = some (.int .i64 3) ∧ W'.cell? ⟨go, 1, none⟩ = some (.int .i64 ff) ∧ W'.cell? ⟨go, 2, none⟩ = some (.bool sa) ∧ W'.cell? ⟨go, 3, none⟩ = some (.slice pa na ca) ∧ W'.cell? ⟨go, 4, none⟩ = some (.int .i64 ea) ∧ W'.cell? ⟨go, 5, none⟩ = some (.bool sb) ∧ W'.cell? ⟨go, 6, none⟩ = some (.slice pb nb cb) ∧ W'.cell? ⟨go, 7, none⟩ = some (.int .i64 eb) ∧ W'.cell? ⟨go, 8, none⟩ = some (U wd)) W1) := ⟨Xo.out.c0, Xo.out.c1, Xo.out.c2, Xo.out.c3, Xo.out.c4, Xo.out.c5, Xo.out.c6, Xo.out.c7, Xo.out.c8⟩
  refine wp_region_J (fun W' => W'.cell? ⟨go, 0, none⟩ = some (.int .i64 3) ∧ W'.cell? ⟨go, 1, none⟩ = some (.int .i64 ff) ∧ W'.cell? ⟨go, 2, none⟩ = some (.bool sa) ∧ W'.cell? ⟨go, 3, none⟩ = some (.slice pa na ca) ∧ W'.cell? ⟨go, 4, none⟩ = some (.int .i64 ea) ∧ W'.cell? ⟨go, 5, none⟩ = some (.bool sb) ∧ W'.cell? ⟨go, 6, none⟩ = some (.slice pb nb cb) ∧ W'.cell? ⟨go, 7, none⟩ = some (.int .i64 eb) ∧ W'.cell? ⟨go, 8, none⟩ = some (U wd)) (by kernel_rfl) ?_
  rw [← hW1]
  clear hW1
  refine wpJ_tq 0 rfl HJ.out ?_
  refine wpJ_tq 2 rfl HJ.out ?_
  refine wpJ_tq 3 rfl HJ.out ?_
  go_simp
  refine wpJ_nodes5 fun WP hWP L0 a0 hL ha => ?_
  have N1_4 : ∀ (ga : Nat) (gb : Nat) (gt : Nat) (W' : World), (B9q W' go (.int .i64 3) (.int .i64 ff) (.bool sa) (.slice pa na ca) (.int .i64 ea) (.bool sb) (.slice pb nb cb) (.int .i64 eb) (U wd)) ∧ (Below w.heap.size w W') ∧ (At W' (some ⟨ga, 0, none⟩) na na xa) ∧ (At W' (some ⟨gb, 0, none⟩) nb nb xb) ∧ (B9q W' gt (.int .i64 0) (.int .i64 0) (.bool false) (.slice none 0 0) (.int .i64 0) (.bool false) (.slice none 0 0) (.int .i64 0) (.int .u64 0)) ∧ (w.heap.size ≤ gt) ∧ (go ≠ gt) ∧ (na = 0 ∨ ga ≠ gt) ∧ (nb = 0 ∨ gb ≠ gt) → WP 2 ((L0.setIfInBounds 1 true).setIfInBounds 4 true) ((a0.put (some 34) (.agg #[.int .i64 3, .int .i64 ff, .bool sa, .slice (some ⟨ga, 0, none⟩) na na, .int .i64 ea, .bool sb, .slice (some ⟨gb, 0, none⟩) nb nb, .int .i64 eb, U wd])).put (some 3) (.pointer (some ⟨gt, 0, none⟩))) W' := by
    rintro ga gb gt W' ⟨xo, hbw, ta, tb, xt, ht, nt, oa, ob⟩
    subst hWP hL ha
    have Hxo := Hid.mk5 xo
    have Hta := Hid.mk5 ta
    have Htb := Hid.mk5 tb
    have Hxt := Hid.mk5 xt
    have Hht := Hid.mk5 ht
    have Hnt := Hid.mk5 nt
    have Hoa := Hid.mk5 oa
    have Hob := Hid.mk5 ob
    clear xo ta tb xt ht nt oa ob
    go_simp
    have Xo := Hxo
    have Xt := Hxt
    clear Hxo Hxt
    have q1 := Hnt.out
    have q1' := Ne.symm q1
    have HJ : Hid ((fun W' : World => W'.cell? ⟨go, 0, none⟩ = some (.int .i64 3) ∧ W'.cell? ⟨go, 1, none⟩ = some (.int .i64 ff) ∧ W'.cell? ⟨go, 2, none⟩ = some (.bool sa) ∧ W'.cell? ⟨go, 3, none⟩ = some (.slice pa na ca) ∧ W'.cell? ⟨go, 4, none⟩ = some (.int .i64 ea) ∧ W'.cell? ⟨go, 5, none⟩ = some (.bool sb) ∧ W'.cell? ⟨go, 6, none⟩ = some (.slice pb nb cb) ∧ W'.cell? ⟨go, 7, none⟩ = some (.int .i64 eb) ∧ W'.cell? ⟨go, 8, none⟩ = some (U wd)) W') := ⟨Xo.out.c0, Xo.out.c1, Xo.out.c2, Xo.out.c3, Xo.out.c4, Xo.out.c5, Xo.out.c6, Xo.out.c7, Xo.out.c8⟩
    obtain ⟨co0, co1, co2, co3, co4, co5, co6, co7, co8, fo0, fo1, fo2, fo3, fo4, fo5, fo6, fo7, fo8⟩ := Xo.out
    have hneo : go < W'.heap.size := World.block_lt_of_cell? W' _ co0
    obtain ⟨ct0, ct1, ct2, ct3, ct4, ct5, ct6, ct7, ct8, ft0, ft1, ft2, ft3, ft4, ft5, ft6, ft7, ft8⟩ := Xt.out
    have hnet : gt < W'.heap.size := World.block_lt_of_cell? W' _ ct0
    refine wpJ_on 5 rfl fun KJ hK => ?_
    go_simp
    have Yo : Hid (B9q (((((((((W'.setCell ⟨gt, 0, none⟩ (.int .i64 3)).setCell ⟨gt, 1, none⟩ (.int .i64 ff)).setCell ⟨gt, 2, none⟩ (.bool sa)).setCell ⟨gt, 3, none⟩ (.slice (some ⟨ga, 0, none⟩) na na)).setCell ⟨gt, 4, none⟩ (.int .i64 ea)).setCell ⟨gt, 5, none⟩ (.bool sb)).setCell ⟨gt, 6, none⟩ (.slice (some ⟨gb, 0, none⟩) nb nb)).setCell ⟨gt, 7, none⟩ (.int .i64 eb)).setCell ⟨gt, 8, none⟩ (U wd)) go (.int .i64 3) (.int .i64 ff) (.bool sa) (.slice pa na ca) (.int .i64 ea) (.bool sb) (.slice pb nb cb) (.int .i64 eb) (U wd)) := ⟨by go_simp, by go_simp, by go_simp, by go_simp, by go_simp, by go_simp, by go_simp, by go_simp, by go_simp, by go_simp, by go_simp, by go_simp, by go_simp, by go_simp, by go_simp, by go_simp, by go_simp, by go_simp⟩
    clear co0 co1 co2 co3 co4 co5 co6 co7 co8 fo0 fo1 fo2 fo3 fo4 fo5 fo6 fo7 fo8 hneo
    clear ct0 ct1 ct2 ct3 ct4 ct5 ct6 ct7 ct8 ft0 ft1 ft2 ft3 ft4 ft5 ft6 ft7 ft8 hnet
    have Yt : Hid (B9q (((((((((W'.setCell ⟨gt, 0, none⟩ (.int .i64 3)).setCell ⟨gt, 1, none⟩ (.int .i64 ff)).setCell ⟨gt, 2, none⟩ (.bool sa)).setCell ⟨gt, 3, none⟩ (.slice (some ⟨ga, 0, none⟩) na na)).setCell ⟨gt, 4, none⟩ (.int .i64 ea)).setCell ⟨gt, 5, none⟩ (.bool sb)).setCell ⟨gt, 6, none⟩ (.slice (some ⟨gb, 0, none⟩) nb nb)).setCell ⟨gt, 7, none⟩ (.int .i64 eb)).setCell ⟨gt, 8, none⟩ (U wd)) gt (.int .i64 3) (.int .i64 ff) (.bool sa) (.slice (some ⟨ga, 0, none⟩) na na) (.int .i64 ea) (.bool sb) (.slice (some ⟨gb, 0, none⟩) nb nb) (.int .i64 eb) (U wd)) := Xt.out.set9
    have TA : Hid (At (((((((((W'.setCell ⟨gt, 0, none⟩ (.int .i64 3)).setCell ⟨gt, 1, none⟩ (.int .i64 ff)).setCell ⟨gt, 2, none⟩ (.bool sa)).setCell ⟨gt, 3, none⟩ (.slice (some ⟨ga, 0, none⟩) na na)).setCell ⟨gt, 4, none⟩ (.int .i64 ea)).setCell ⟨gt, 5, none⟩ (.bool sb)).setCell ⟨gt, 6, none⟩ (.slice (some ⟨gb, 0, none⟩) nb nb)).setCell ⟨gt, 7, none⟩ (.int .i64 eb)).setCell ⟨gt, 8, none⟩ (U wd)) (some ⟨ga, 0, none⟩) na na xa) := (at_set9 (at_set9 (at_set9 (at_set9 (at_set9 (at_set9 (at_set9 (at_set9 (at_set9 Hta.out _ _ _ Hoa.out) _ _ _ Hoa.out) _ _ _ Hoa.out) _ _ _ Hoa.out) _ _ _ Hoa.out) _ _ _ Hoa.out) _ _ _ Hoa.out) _ _ _ Hoa.out) _ _ _ Hoa.out)
    have TC : Hid (At (((((((((W'.setCell ⟨gt, 0, none⟩ (.int .i64 3)).setCell ⟨gt, 1, none⟩ (.int .i64 ff)).setCell ⟨gt, 2, none⟩ (.bool sa)).setCell ⟨gt, 3, none⟩ (.slice (some ⟨ga, 0, none⟩) na na)).setCell ⟨gt, 4, none⟩ (.int .i64 ea)).setCell ⟨gt, 5, none⟩ (.bool sb)).setCell ⟨gt, 6, none⟩ (.slice (some ⟨gb, 0, none⟩) nb nb)).setCell ⟨gt, 7, none⟩ (.int .i64 eb)).setCell ⟨gt, 8, none⟩ (U wd)) (some ⟨gb, 0, none⟩) nb nb xb) := (at_set9 (at_set9 (at_set9 (at_set9 (at_set9 (at_set9 (at_set9 (at_set9 (at_set9 Htb.out _ _ _ Hob.out) _ _ _ Hob.out) _ _ _ Hob.out) _ _ _ Hob.out) _ _ _ Hob.out) _ _ _ Hob.out) _ _ _ Hob.out) _ _ _ Hob.out) _ _ _ Hob.out)
    have HJ2 : Hid ((fun W' : World => W'.cell? ⟨go, 0, none⟩ = some (.int .i64 3) ∧ W'.cell? ⟨go, 1, none⟩ = some (.int .i64 ff) ∧ W'.cell? ⟨go, 2, none⟩ = some (.bool sa) ∧ W'.cell? ⟨go, 3, none⟩ = some (.slice pa na ca) ∧ W'.cell? ⟨go, 4, none⟩ = some (.int .i64 ea) ∧ W'.cell? ⟨go, 5, none⟩ = some (.bool sb) ∧ W'.cell? ⟨go, 6, none⟩ = some (.slice pb nb cb) ∧ W'.cell? ⟨go, 7, none⟩ = some (.int .i64 eb) ∧ W'.cell? ⟨go, 8, none⟩ = some (U wd)) (((((((((W'.setCell ⟨gt, 0, none⟩ (.int .i64 3)).setCell ⟨gt, 1, none⟩ (.int .i64 ff)).setCell ⟨gt, 2, none⟩ (.bool sa)).setCell ⟨gt, 3, none⟩ (.slice (some ⟨ga, 0, none⟩) na na)).setCell ⟨gt, 4, none⟩ (.int .i64 ea)).setCell ⟨gt, 5, none⟩ (.bool sb)).setCell ⟨gt, 6, none⟩ (.slice (some ⟨gb, 0, none⟩) nb nb)).setCell ⟨gt, 7, none⟩ (.int .i64 eb)).setCell ⟨gt, 8, none⟩ (U wd))) := ⟨Yo.out.c0, Yo.out.c1, Yo.out.c2, Yo.out.c3, Yo.out.c4, Yo.out.c5, Yo.out.c6, Yo.out.c7, Yo.out.c8⟩
    have hbw2 : Below w.heap.size w (((((((((W'.setCell ⟨gt, 0, none⟩ (.int .i64 3)).setCell ⟨gt, 1, none⟩ (.int .i64 ff)).setCell ⟨gt, 2, none⟩ (.bool sa)).setCell ⟨gt, 3, none⟩ (.slice (some ⟨ga, 0, none⟩) na na)).setCell ⟨gt, 4, none⟩ (.int .i64 ea)).setCell ⟨gt, 5, none⟩ (.bool sb)).setCell ⟨gt, 6, none⟩ (.slice (some ⟨gb, 0, none⟩) nb nb)).setCell ⟨gt, 7, none⟩ (.int .i64 eb)).setCell ⟨gt, 8, none⟩ (U wd)) := below_set9 hbw Hht.out
    refine hK _ _ HJ2.out ?_
    clear hK HJ
    have HJ := HJ2
    clear HJ2
    clear Hta Htb hbw Xo Xt
    have Xo := Yo
    have Xt := Yt
    have hbw := hbw2
    clear hbw2 Yo Yt
    generalize (((((((((W'.setCell ⟨gt, 0, none⟩ (.int .i64 3)).setCell ⟨gt, 1, none⟩ (.int .i64 ff)).setCell ⟨gt, 2, none⟩ (.bool sa)).setCell ⟨gt, 3, none⟩ (.slice (some ⟨ga, 0, none⟩) na na)).setCell ⟨gt, 4, none⟩ (.int .i64 ea)).setCell ⟨gt, 5, none⟩ (.bool sb)).setCell ⟨gt, 6, none⟩ (.slice (some ⟨gb, 0, none⟩) nb nb)).setCell ⟨gt, 7, none⟩ (.int .i64 eb)).setCell ⟨gt, 8, none⟩ (U wd)) = V9 at *
    refine wpJ_tq 6 rfl HJ.out ?_
    refine wpJ_done (by kernel_rfl) ?_ _
    clear HJ
    obtain ⟨co0, co1, co2, co3, co4, co5, co6, co7, co8, fo0, fo1, fo2, fo3, fo4, fo5, fo6, fo7, fo8⟩ := Xo.out
    have hneo : go < V9.heap.size := World.block_lt_of_cell? V9 _ co0
    obtain ⟨ct0, ct1, ct2, ct3, ct4, ct5, ct6, ct7, ct8, ft0, ft1, ft2, ft3, ft4, ft5, ft6, ft7, ft8⟩ := Xt.out
    have hnet : gt < V9.heap.size := World.block_lt_of_cell? V9 _ ct0
    go_wp2_with fail
    clear co0 co1 co2 co3 co4 co5 co6 co7 co8 fo0 fo1 fo2 fo3 fo4 fo5 fo6 fo7 fo8 hneo
    clear ct0 ct1 ct2 ct3 ct4 ct5 ct6 ct7 ct8 ft0 ft1 ft2 ft3 ft4 ft5 ft6 ft7 ft8 hnet
    refine (H1.out _).mono ?_
    rintro e v2 ⟨rfl, hb2⟩
    replace Xo : Hid (B9q v2 go (.int .i64 3) (.int .i64 ff) (.bool sa) (.slice pa na ca) (.int .i64 ea) (.bool sb) (.slice pb nb cb) (.int .i64 eb) (U wd)) := Xo.out.below hb2
    replace Xt : Hid (B9q v2 gt (.int .i64 3) (.int .i64 ff) (.bool sa) (.slice (some ⟨ga, 0, none⟩) na na) (.int .i64 ea) (.bool sb) (.slice (some ⟨gb, 0, none⟩) nb nb) (.int .i64 eb) (U wd)) := Xt.out.below hb2
    replace TA : Hid _ := TA.out.below hb2
    replace TC : Hid _ := TC.out.below hb2
    replace hbw := Below.on hbw hb2
    clear hb2
    obtain ⟨co0, co1, co2, co3, co4, co5, co6, co7, co8, fo0, fo1, fo2, fo3, fo4, fo5, fo6, fo7, fo8⟩ := Xo.out
    have hneo : go < v2.heap.size := World.block_lt_of_cell? v2 _ co0
    go_wp2_with fail
    clear co0 co1 co2 co3 co4 co5 co6 co7 co8 fo0 fo1 fo2 fo3 fo4 fo5 fo6 fo7 fo8 hneo
    have Xsp0 : Hid (B6q (v2.alloc (.cells #[.bool false, .slice none 0 0, .int .i64 0, .bool false, .slice none 0 0, .int .i64 0] 35)) v2.heap.size (.bool false) (.slice none 0 0) (.int .i64 0) (.bool false) (.slice none 0 0) (.int .i64 0)) := B6q.new v2 _ _ _ _ _ _ _
    have hbn : Below v2.heap.size v2 (v2.alloc (.cells #[.bool false, .slice none 0 0, .int .i64 0, .bool false, .slice none 0 0, .int .i64 0] 35)) := below1 v2 _
    generalize v2.alloc (.cells #[.bool false, .slice none 0 0, .int .i64 0, .bool false, .slice none 0 0, .int .i64 0] 35) = Wsp at *
    have HGsp : Hid (w.heap.size ≤ v2.heap.size) := hbw.size
    replace Xo : Hid (B9q Wsp go (.int .i64 3) (.int .i64 ff) (.bool sa) (.slice pa na ca) (.int .i64 ea) (.bool sb) (.slice pb nb cb) (.int .i64 eb) (U wd)) := Xo.out.below hbn
    replace Xt : Hid (B9q Wsp gt (.int .i64 3) (.int .i64 ff) (.bool sa) (.slice (some ⟨ga, 0, none⟩) na na) (.int .i64 ea) (.bool sb) (.slice (some ⟨gb, 0, none⟩) nb nb) (.int .i64 eb) (U wd)) := Xt.out.below hbn
    replace TA : Hid _ := TA.out.below hbn
    replace TC : Hid _ := TC.out.below hbn
    replace hbw := Below.on hbw hbn
    clear hbn
    generalize v2.heap.size = gsp at *
    have Xsp := Xsp0
    clear Xsp0
    refine (H2.out _).mono ?_
    rintro e v3 ⟨rfl, hb3⟩
    replace Xo : Hid (B9q v3 go (.int .i64 3) (.int .i64 ff) (.bool sa) (.slice pa na ca) (.int .i64 ea) (.bool sb) (.slice pb nb cb) (.int .i64 eb) (U wd)) := Xo.out.below hb3
    replace Xt : Hid (B9q v3 gt (.int .i64 3) (.int .i64 ff) (.bool sa) (.slice (some ⟨ga, 0, none⟩) na na) (.int .i64 ea) (.bool sb) (.slice (some ⟨gb, 0, none⟩) nb nb) (.int .i64 eb) (U wd)) := Xt.out.below hb3
    replace Xsp : Hid _ := Xsp.out.below hb3
    replace TA : Hid _ := TA.out.below hb3
    replace TC : Hid _ := TC.out.below hb3
    replace hbw := Below.on hbw hb3
    clear hb3
    obtain ⟨co0, co1, co2, co3, co4, co5, co6, co7, co8, fo0, fo1, fo2, fo3, fo4, fo5, fo6, fo7, fo8⟩ := Xo.out
    have hneo : go < v3.heap.size := World.block_lt_of_cell? v3 _ co0
    obtain ⟨csp0, csp1, csp2, csp3, csp4, csp5, fsp0, fsp1, fsp2, fsp3, fsp4, fsp5⟩ := Xsp.out
    have hnesp : gsp < v3.heap.size := World.block_lt_of_cell? v3 _ csp0
    go_wp2_with fail
    clear co0 co1 co2 co3 co4 co5 co6 co7 co8 fo0 fo1 fo2 fo3 fo4 fo5 fo6 fo7 fo8 hneo
    clear csp0 csp1 csp2 csp3 csp4 csp5 fsp0 fsp1 fsp2 fsp3 fsp4 fsp5 hnesp
    have Xsc0 : Hid (B6q (v3.alloc (.cells #[.bool false, .slice none 0 0, .int .i64 0, .bool false, .slice none 0 0, .int .i64 0] 35)) v3.heap.size (.bool false) (.slice none 0 0) (.int .i64 0) (.bool false) (.slice none 0 0) (.int .i64 0)) := B6q.new v3 _ _ _ _ _ _ _
    have hbn : Below v3.heap.size v3 (v3.alloc (.cells #[.bool false, .slice none 0 0, .int .i64 0, .bool false, .slice none 0 0, .int .i64 0] 35)) := below1 v3 _
    generalize v3.alloc (.cells #[.bool false, .slice none 0 0, .int .i64 0, .bool false, .slice none 0 0, .int .i64 0] 35) = Wsc at *
    have HGsc : Hid (w.heap.size ≤ v3.heap.size) := hbw.size
    replace Xo : Hid (B9q Wsc go (.int .i64 3) (.int .i64 ff) (.bool sa) (.slice pa na ca) (.int .i64 ea) (.bool sb) (.slice pb nb cb) (.int .i64 eb) (U wd)) := Xo.out.below hbn
    replace Xt : Hid (B9q Wsc gt (.int .i64 3) (.int .i64 ff) (.bool sa) (.slice (some ⟨ga, 0, none⟩) na na) (.int .i64 ea) (.bool sb) (.slice (some ⟨gb, 0, none⟩) nb nb) (.int .i64 eb) (U wd)) := Xt.out.below hbn
    replace Xsp : Hid _ := Xsp.out.below hbn
    replace TA : Hid _ := TA.out.below hbn
    replace TC : Hid _ := TC.out.below hbn
    replace hbw := Below.on hbw hbn
    clear hbn
    generalize v3.heap.size = gsc at *
    have Xsc := Xsc0
    clear Xsc0
    refine (spans8 (dn_z0 _) (dn_z0 _) (dn_z0 _) (dn_z0 _)).mono ?_
    rintro e v4 ⟨rfl, hb4⟩
    replace Xo : Hid (B9q v4 go (.int .i64 3) (.int .i64 ff) (.bool sa) (.slice pa na ca) (.int .i64 ea) (.bool sb) (.slice pb nb cb) (.int .i64 eb) (U wd)) := Xo.out.below hb4
    replace Xt : Hid (B9q v4 gt (.int .i64 3) (.int .i64 ff) (.bool sa) (.slice (some ⟨ga, 0, none⟩) na na) (.int .i64 ea) (.bool sb) (.slice (some ⟨gb, 0, none⟩) nb nb) (.int .i64 eb) (U wd)) := Xt.out.below hb4
    replace Xsp : Hid _ := Xsp.out.below hb4
    replace Xsc : Hid _ := Xsc.out.below hb4
    replace TA : Hid _ := TA.out.below hb4
    replace TC : Hid _ := TC.out.below hb4
    replace hbw := Below.on hbw hb4
    clear hb4
    obtain ⟨co0, co1, co2, co3, co4, co5, co6, co7, co8, fo0, fo1, fo2, fo3, fo4, fo5, fo6, fo7, fo8⟩ := Xo.out
    have hneo : go < v4.heap.size := World.block_lt_of_cell? v4 _ co0
    go_wp2_with fail
    clear co0 co1 co2 co3 co4 co5 co6 co7 co8 fo0 fo1 fo2 fo3 fo4 fo5 fo6 fo7 fo8 hneo
    go_ret
    exact ⟨rfl, hbw⟩
  have N1 : ∀ (ga : Nat) (gb : Nat) (W' : World), (B9q W' go (.int .i64 3) (.int .i64 ff) (.bool sa) (.slice pa na ca) (.int .i64 ea) (.bool sb) (.slice pb nb cb) (.int .i64 eb) (U wd)) ∧ (Below w.heap.size w W') ∧ (At W' (some ⟨ga, 0, none⟩) na na xa) ∧ (At W' (some ⟨gb, 0, none⟩) nb nb xb) → WP 3 (L0.setIfInBounds 1 true) (a0.put (some 34) (.agg #[.int .i64 3, .int .i64 ff, .bool sa, .slice (some ⟨ga, 0, none⟩) na na, .int .i64 ea, .bool sb, .slice (some ⟨gb, 0, none⟩) nb nb, .int .i64 eb, U wd])) W' := by
    rintro ga gb W' ⟨xo, hbw, ta, tb⟩
    subst hWP hL ha
    have Hxo := Hid.mk5 xo
    have Hta := Hid.mk5 ta
    have Htb := Hid.mk5 tb
    clear xo ta tb
    go_simp
    refine wpJ_on 4 rfl fun KJ hK => ?_
    go_simp
    have hb := below1 W' (.cells #[.int .i64 0, .int .i64 0, .bool false, .slice none 0 0, .int .i64 0, .bool false, .slice none 0 0, .int .i64 0, .int .u64 0] 59)
    refine hK _ _ ⟨(Hxo.out.below hb).c0, (Hxo.out.below hb).c1, (Hxo.out.below hb).c2, (Hxo.out.below hb).c3, (Hxo.out.below hb).c4, (Hxo.out.below hb).c5, (Hxo.out.below hb).c6, (Hxo.out.below hb).c7, (Hxo.out.below hb).c8⟩ ?_
    exact wpJ_same5 (by kernel_rfl) (by kernel_rfl) (N1_4 ga gb W'.heap.size _ ⟨(Hxo.out.below hb), (Below.on hbw hb), (Hta.out.below hb), (Htb.out.below hb), (B9q.new W' _ _ _ _ _ _ _ _ _ _), hbw.size, (Nat.ne_of_lt Hxo.out.lt), ((at_blk9 Hta.out).imp id Nat.ne_of_lt), ((at_blk9 Htb.out).imp id Nat.ne_of_lt)⟩)
  have N4 : ∀ (gt : Nat) (W' : World), (B9q W' go (.int .i64 3) (.int .i64 ff) (.bool sa) (.slice pa na ca) (.int .i64 ea) (.bool sb) (.slice pb nb cb) (.int .i64 eb) (U wd)) ∧ (Below w.heap.size w W') ∧ (B9q W' gt (.int .i64 0) (.int .i64 0) (.bool false) (.slice none 0 0) (.int .i64 0) (.bool false) (.slice none 0 0) (.int .i64 0) (.int .u64 0)) ∧ (w.heap.size ≤ gt) ∧ (go ≠ gt) → WP 3 (L0.setIfInBounds 4 true) (a0.put (some 3) (.pointer (some ⟨gt, 0, none⟩))) W' := by
    rintro gt W' ⟨xo, hbw, xt, ht, nt⟩
    subst hWP hL ha
    have Hxo := Hid.mk5 xo
    have Hxt := Hid.mk5 xt
    have Hht := Hid.mk5 ht
    have Hnt := Hid.mk5 nt
    clear xo xt ht nt
    go_simp
    refine wpJ_on 1 rfl fun KJ hK => ?_
    go_simp
    refine (twin8 sa sb (HA.out.below hbw) (HB.out.below hbw) ⟨HN.out.1, HN.out.2.1⟩).mono ?_
    rintro e9 W2 ⟨ga, gb, rfl, hga, hgb, hta, htb, hb⟩
    refine hK _ _ ⟨(Hxo.out.below hb).c0, (Hxo.out.below hb).c1, (Hxo.out.below hb).c2, (Hxo.out.below hb).c3, (Hxo.out.below hb).c4, (Hxo.out.below hb).c5, (Hxo.out.below hb).c6, (Hxo.out.below hb).c7, (Hxo.out.below hb).c8⟩ ?_
    exact wpJ_same5 (by kernel_rfl) (by kernel_rfl) (N1_4 ga gb gt W2 ⟨(Hxo.out.below hb), (Below.on hbw hb), hta, htb, (Hxt.out.below hb), Hht.out, Hnt.out, (.inr (Nat.ne_of_gt (Nat.lt_of_lt_of_le Hxt.out.lt hga))), (.inr (Nat.ne_of_gt (Nat.lt_of_lt_of_le Hxt.out.lt hgb)))⟩)
  have N_ : ∀ (W' : World), (B9q W' go (.int .i64 3) (.int .i64 ff) (.bool sa) (.slice pa na ca) (.int .i64 ea) (.bool sb) (.slice pb nb cb) (.int .i64 eb) (U wd)) ∧ (Below w.heap.size w W') → WP 4 L0 a0 W' := by
    rintro  W' ⟨xo, hbw⟩
    subst hWP hL ha
    have Hxo := Hid.mk5 xo
    clear xo
    go_simp
    refine wpJ_two (i := 1) (k := 4) (by kernel_rfl) rfl rfl (by kernel_rfl) (by kernel_rfl) (fun KJ hK => ?_) (fun KJ hK => ?_)
    · go_simp
      refine (twin8 sa sb (HA.out.below hbw) (HB.out.below hbw) ⟨HN.out.1, HN.out.2.1⟩).mono ?_
      rintro e9 W2 ⟨ga, gb, rfl, hga, hgb, hta, htb, hb⟩
      refine hK _ _ ⟨(Hxo.out.below hb).c0, (Hxo.out.below hb).c1, (Hxo.out.below hb).c2, (Hxo.out.below hb).c3, (Hxo.out.below hb).c4, (Hxo.out.below hb).c5, (Hxo.out.below hb).c6, (Hxo.out.below hb).c7, (Hxo.out.below hb).c8⟩ ?_
      exact wpJ_same5 (by kernel_rfl) (by kernel_rfl) (N1 ga gb W2 ⟨(Hxo.out.below hb), (Below.on hbw hb), hta, htb⟩)
    · go_simp
      have hb := below1 W' (.cells #[.int .i64 0, .int .i64 0, .bool false, .slice none 0 0, .int .i64 0, .bool false, .slice none 0 0, .int .i64 0, .int .u64 0] 59)
      refine hK _ _ ⟨(Hxo.out.below hb).c0, (Hxo.out.below hb).c1, (Hxo.out.below hb).c2, (Hxo.out.below hb).c3, (Hxo.out.below hb).c4, (Hxo.out.below hb).c5, (Hxo.out.below hb).c6, (Hxo.out.below hb).c7, (Hxo.out.below hb).c8⟩ ?_
      exact wpJ_same5 (by kernel_rfl) (by kernel_rfl) (N4 W'.heap.size _ ⟨(Hxo.out.below hb), (Below.on hbw hb), (B9q.new W' _ _ _ _ _ _ _ _ _ _), hbw.size, (Nat.ne_of_lt Hxo.out.lt)⟩)
  exact N_ W1 ⟨Xo.out, hbw⟩
theorem plays8_3f {pa pb : Option Addr} {na ca nb cb wd : Nat} {xa xb : List Nat} {w : World} {ff ea eb : Int} (sa sb : Bool) (ha : At w pa na ca xa) (hb : At w pb nb cb xb) (hn : na ≤ 17592186044416 ∧ nb ≤ 17592186044416 ∧ wd < B64) (hT : Tab w) {H : Nat} {l : Int} {sg : Bool} {z : Nat} (h1 : ∀ (w : World), Tab w → Calls Tryz.prog 9 #[.int .i64 ff, U wd] w fun en w' => CelP H l sg z wd w' en ∧ Below w.heap.size w w') (h2 : ∀ (w : World), Calls Tryz.prog 54 #[.int .i64 ff, U wd] w fun en w' => CelP H l sg z wd w' en ∧ Below w.heap.size w w') :
    Calls Tryz.prog 24 #[(.agg #[.int .i64 3, .int .i64 ff, .bool sa, .slice pa na ca, .int .i64 ea, .bool sb, .slice pb nb cb, .int .i64 eb, U wd])] w fun en w' => en = .returned (.bool true) ∧ Below w.heap.size w w' := by
  have HA : Hid (At w pa na ca xa) := ha
  have HB : Hid (At w pb nb cb xb) := hb
  have HN : Hid (na ≤ 17592186044416 ∧ nb ≤ 17592186044416 ∧ wd < B64) := hn
  have TB : Hid (Tab w) := hT
  clear ha hb hn hT
  have H1 : Hid (∀ (w : World), Tab w → Calls Tryz.prog 9 #[.int .i64 ff, U wd] w fun en w' => CelP H l sg z wd w' en ∧ Below w.heap.size w w') := h1
  have H2 : Hid (∀ (w : World), Calls Tryz.prog 54 #[.int .i64 ff, U wd] w fun en w' => CelP H l sg z wd w' en ∧ Below w.heap.size w w') := h2
  clear h1 h2
  go_enter Tryz.func24, Tryz.ntmps24
  go_wp2_with fail
  obtain ⟨W0, hW0⟩ : ∃ W0, W0 = (w.alloc (.cells #[.int .i64 3, .int .i64 ff, .bool sa, .slice pa na ca, .int .i64 ea, .bool sb, .slice pb nb cb, .int .i64 eb, U wd] 59)) := ⟨_, rfl⟩
  have Xo : Hid (B9q W0 (w.heap.size) (.int .i64 3) (.int .i64 ff) (.bool sa) (.slice pa na ca) (.int .i64 ea) (.bool sb) (.slice pb nb cb) (.int .i64 eb) (U wd)) := by rw [hW0]; exact ⟨by go_simp, by go_simp, by go_simp, by go_simp, by go_simp, by go_simp, by go_simp, by go_simp, by go_simp, by go_simp, by go_simp, by go_simp, by go_simp, by go_simp, by go_simp, by go_simp, by go_simp, by go_simp⟩
  have hb0 : Below w.heap.size w W0 := by rw [hW0]; exact below1 w _
  rw [← hW0]
  clear hW0
  have hbw : Below w.heap.size w w := Below.refl _ _
  obtain ⟨go, hgo⟩ : ∃ g, g = w.heap.size := ⟨_, rfl⟩
  have HGo : Hid (w.heap.size ≤ go) := by rw [hgo]; show _ ≤ _; omega
  rw [← hgo] at Xo
  try rw [← hgo]
  clear hgo
  replace hbw := Below.on hbw hb0
  clear hb0
  obtain ⟨W1, hW1⟩ : ∃ W1, W1 = W0.drew := ⟨_, rfl⟩
  have hbd : Below W0.heap.size W0 W1 := by rw [hW1]; exact bDrew1 (Below.refl _ _)
  replace Xo : Hid (B9q W1 go (.int .i64 3) (.int .i64 ff) (.bool sa) (.slice pa na ca) (.int .i64 ea) (.bool sb) (.slice pb nb cb) (.int .i64 eb) (U wd)) := Xo.out.below hbd
  replace hbw := Below.on hbw hbd
  clear hbd
  have HJ : Hid ((fun W' : World => W'.cell? ⟨go, 0, none⟩ = some (.int .i64 3) ∧ W'.cell? ⟨go, 1, none⟩ = some (.int .i64 ff) ∧ W'.cell? ⟨go, 2, none⟩ = some (.bool sa) ∧ W'.cell? ⟨go, 3, none⟩ = some (.slice pa na ca) ∧ W'.cell? ⟨go, 4, none⟩ = some (.int .i64 ea) ∧ W'.cell? ⟨go, 5, none⟩ = some (.bool sb) ∧ W'.cell? ⟨go, 6, none⟩ = some (.slice pb nb cb) ∧ W'.cell? ⟨go, 7, none⟩ = some (.int .i64 eb) ∧ W'.cell? ⟨go, 8, none⟩ = some (U wd)) W1) := ⟨Xo.out.c0, Xo.out.c1, Xo.out.c2, Xo.out.c3, Xo.out.c4, Xo.out.c5, Xo.out.c6, Xo.out.c7, Xo.out.c8⟩
  refine wp_region_J (fun W' => W'.cell? ⟨go, 0, none⟩ = some (.int .i64 3) ∧ W'.cell? ⟨go, 1, none⟩ = some (.int .i64 ff) ∧ W'.cell? ⟨go, 2, none⟩ = some (.bool sa) ∧ W'.cell? ⟨go, 3, none⟩ = some (.slice pa na ca) ∧ W'.cell? ⟨go, 4, none⟩ = some (.int .i64 ea) ∧ W'.cell? ⟨go, 5, none⟩ = some (.bool sb) ∧ W'.cell? ⟨go, 6, none⟩ = some (.slice pb nb cb) ∧ W'.cell? ⟨go, 7, none⟩ = some (.int .i64 eb) ∧ W'.cell? ⟨go, 8, none⟩ = some (U wd)) (by kernel_rfl) ?_
  rw [← hW1]
  clear hW1
  refine wpJ_tq 0 rfl HJ.out ?_
  refine wpJ_tq 2 rfl HJ.out ?_
  refine wpJ_tq 3 rfl HJ.out ?_
  go_simp
  refine wpJ_nodes5 fun WP hWP L0 a0 hL ha => ?_
  have N1_4 : ∀ (ga : Nat) (gb : Nat) (gt : Nat) (W' : World), (B9q W' go (.int .i64 3) (.int .i64 ff) (.bool sa) (.slice pa na ca) (.int .i64 ea) (.bool sb) (.slice pb nb cb) (.int .i64 eb) (U wd)) ∧ (Below w.heap.size w W') ∧ (At W' (some ⟨ga, 0, none⟩) na na xa) ∧ (At W' (some ⟨gb, 0, none⟩) nb nb xb) ∧ (B9q W' gt (.int .i64 0) (.int .i64 0) (.bool false) (.slice none 0 0) (.int .i64 0) (.bool false) (.slice none 0 0) (.int .i64 0) (.int .u64 0)) ∧ (w.heap.size ≤ gt) ∧ (go ≠ gt) ∧ (na = 0 ∨ ga ≠ gt) ∧ (nb = 0 ∨ gb ≠ gt) → WP 2 ((L0.setIfInBounds 1 true).setIfInBounds 4 true) ((a0.put (some 34) (.agg #[.int .i64 3, .int .i64 ff, .bool sa, .slice (some ⟨ga, 0, none⟩) na na, .int .i64 ea, .bool sb, .slice (some ⟨gb, 0, none⟩) nb nb, .int .i64 eb, U wd])).put (some 3) (.pointer (some ⟨gt, 0, none⟩))) W' := by
    rintro ga gb gt W' ⟨xo, hbw, ta, tb, xt, ht, nt, oa, ob⟩
    subst hWP hL ha
    have Hxo := Hid.mk5 xo
    have Hta := Hid.mk5 ta
    have Htb := Hid.mk5 tb
    have Hxt := Hid.mk5 xt
    have Hht := Hid.mk5 ht
    have Hnt := Hid.mk5 nt
    have Hoa := Hid.mk5 oa
    have Hob := Hid.mk5 ob
    clear xo ta tb xt ht nt oa ob
    go_simp
    have Xo := Hxo
    have Xt := Hxt
    clear Hxo Hxt
    have q1 := Hnt.out
    have q1' := Ne.symm q1
    have HJ : Hid ((fun W' : World => W'.cell? ⟨go, 0, none⟩ = some (.int .i64 3) ∧ W'.cell? ⟨go, 1, none⟩ = some (.int .i64 ff) ∧ W'.cell? ⟨go, 2, none⟩ = some (.bool sa) ∧ W'.cell? ⟨go, 3, none⟩ = some (.slice pa na ca) ∧ W'.cell? ⟨go, 4, none⟩ = some (.int .i64 ea) ∧ W'.cell? ⟨go, 5, none⟩ = some (.bool sb) ∧ W'.cell? ⟨go, 6, none⟩ = some (.slice pb nb cb) ∧ W'.cell? ⟨go, 7, none⟩ = some (.int .i64 eb) ∧ W'.cell? ⟨go, 8, none⟩ = some (U wd)) W') := ⟨Xo.out.c0, Xo.out.c1, Xo.out.c2, Xo.out.c3, Xo.out.c4, Xo.out.c5, Xo.out.c6, Xo.out.c7, Xo.out.c8⟩
    obtain ⟨co0, co1, co2, co3, co4, co5, co6, co7, co8, fo0, fo1, fo2, fo3, fo4, fo5, fo6, fo7, fo8⟩ := Xo.out
    have hneo : go < W'.heap.size := World.block_lt_of_cell? W' _ co0
    obtain ⟨ct0, ct1, ct2, ct3, ct4, ct5, ct6, ct7, ct8, ft0, ft1, ft2, ft3, ft4, ft5, ft6, ft7, ft8⟩ := Xt.out
    have hnet : gt < W'.heap.size := World.block_lt_of_cell? W' _ ct0
    refine wpJ_on 5 rfl fun KJ hK => ?_
    go_simp
    have Yo : Hid (B9q (((((((((W'.setCell ⟨gt, 0, none⟩ (.int .i64 3)).setCell ⟨gt, 1, none⟩ (.int .i64 ff)).setCell ⟨gt, 2, none⟩ (.bool sa)).setCell ⟨gt, 3, none⟩ (.slice (some ⟨ga, 0, none⟩) na na)).setCell ⟨gt, 4, none⟩ (.int .i64 ea)).setCell ⟨gt, 5, none⟩ (.bool sb)).setCell ⟨gt, 6, none⟩ (.slice (some ⟨gb, 0, none⟩) nb nb)).setCell ⟨gt, 7, none⟩ (.int .i64 eb)).setCell ⟨gt, 8, none⟩ (U wd)) go (.int .i64 3) (.int .i64 ff) (.bool sa) (.slice pa na ca) (.int .i64 ea) (.bool sb) (.slice pb nb cb) (.int .i64 eb) (U wd)) := ⟨by go_simp, by go_simp, by go_simp, by go_simp, by go_simp, by go_simp, by go_simp, by go_simp, by go_simp, by go_simp, by go_simp, by go_simp, by go_simp, by go_simp, by go_simp, by go_simp, by go_simp, by go_simp⟩
    clear co0 co1 co2 co3 co4 co5 co6 co7 co8 fo0 fo1 fo2 fo3 fo4 fo5 fo6 fo7 fo8 hneo
    clear ct0 ct1 ct2 ct3 ct4 ct5 ct6 ct7 ct8 ft0 ft1 ft2 ft3 ft4 ft5 ft6 ft7 ft8 hnet
    have Yt : Hid (B9q (((((((((W'.setCell ⟨gt, 0, none⟩ (.int .i64 3)).setCell ⟨gt, 1, none⟩ (.int .i64 ff)).setCell ⟨gt, 2, none⟩ (.bool sa)).setCell ⟨gt, 3, none⟩ (.slice (some ⟨ga, 0, none⟩) na na)).setCell ⟨gt, 4, none⟩ (.int .i64 ea)).setCell ⟨gt, 5, none⟩ (.bool sb)).setCell ⟨gt, 6, none⟩ (.slice (some ⟨gb, 0, none⟩) nb nb)).setCell ⟨gt, 7, none⟩ (.int .i64 eb)).setCell ⟨gt, 8, none⟩ (U wd)) gt (.int .i64 3) (.int .i64 ff) (.bool sa) (.slice (some ⟨ga, 0, none⟩) na na) (.int .i64 ea) (.bool sb) (.slice (some ⟨gb, 0, none⟩) nb nb) (.int .i64 eb) (U wd)) := Xt.out.set9
    have TA : Hid (At (((((((((W'.setCell ⟨gt, 0, none⟩ (.int .i64 3)).setCell ⟨gt, 1, none⟩ (.int .i64 ff)).setCell ⟨gt, 2, none⟩ (.bool sa)).setCell ⟨gt, 3, none⟩ (.slice (some ⟨ga, 0, none⟩) na na)).setCell ⟨gt, 4, none⟩ (.int .i64 ea)).setCell ⟨gt, 5, none⟩ (.bool sb)).setCell ⟨gt, 6, none⟩ (.slice (some ⟨gb, 0, none⟩) nb nb)).setCell ⟨gt, 7, none⟩ (.int .i64 eb)).setCell ⟨gt, 8, none⟩ (U wd)) (some ⟨ga, 0, none⟩) na na xa) := (at_set9 (at_set9 (at_set9 (at_set9 (at_set9 (at_set9 (at_set9 (at_set9 (at_set9 Hta.out _ _ _ Hoa.out) _ _ _ Hoa.out) _ _ _ Hoa.out) _ _ _ Hoa.out) _ _ _ Hoa.out) _ _ _ Hoa.out) _ _ _ Hoa.out) _ _ _ Hoa.out) _ _ _ Hoa.out)
    have TC : Hid (At (((((((((W'.setCell ⟨gt, 0, none⟩ (.int .i64 3)).setCell ⟨gt, 1, none⟩ (.int .i64 ff)).setCell ⟨gt, 2, none⟩ (.bool sa)).setCell ⟨gt, 3, none⟩ (.slice (some ⟨ga, 0, none⟩) na na)).setCell ⟨gt, 4, none⟩ (.int .i64 ea)).setCell ⟨gt, 5, none⟩ (.bool sb)).setCell ⟨gt, 6, none⟩ (.slice (some ⟨gb, 0, none⟩) nb nb)).setCell ⟨gt, 7, none⟩ (.int .i64 eb)).setCell ⟨gt, 8, none⟩ (U wd)) (some ⟨gb, 0, none⟩) nb nb xb) := (at_set9 (at_set9 (at_set9 (at_set9 (at_set9 (at_set9 (at_set9 (at_set9 (at_set9 Htb.out _ _ _ Hob.out) _ _ _ Hob.out) _ _ _ Hob.out) _ _ _ Hob.out) _ _ _ Hob.out) _ _ _ Hob.out) _ _ _ Hob.out) _ _ _ Hob.out) _ _ _ Hob.out)
    have HJ2 : Hid ((fun W' : World => W'.cell? ⟨go, 0, none⟩ = some (.int .i64 3) ∧ W'.cell? ⟨go, 1, none⟩ = some (.int .i64 ff) ∧ W'.cell? ⟨go, 2, none⟩ = some (.bool sa) ∧ W'.cell? ⟨go, 3, none⟩ = some (.slice pa na ca) ∧ W'.cell? ⟨go, 4, none⟩ = some (.int .i64 ea) ∧ W'.cell? ⟨go, 5, none⟩ = some (.bool sb) ∧ W'.cell? ⟨go, 6, none⟩ = some (.slice pb nb cb) ∧ W'.cell? ⟨go, 7, none⟩ = some (.int .i64 eb) ∧ W'.cell? ⟨go, 8, none⟩ = some (U wd)) (((((((((W'.setCell ⟨gt, 0, none⟩ (.int .i64 3)).setCell ⟨gt, 1, none⟩ (.int .i64 ff)).setCell ⟨gt, 2, none⟩ (.bool sa)).setCell ⟨gt, 3, none⟩ (.slice (some ⟨ga, 0, none⟩) na na)).setCell ⟨gt, 4, none⟩ (.int .i64 ea)).setCell ⟨gt, 5, none⟩ (.bool sb)).setCell ⟨gt, 6, none⟩ (.slice (some ⟨gb, 0, none⟩) nb nb)).setCell ⟨gt, 7, none⟩ (.int .i64 eb)).setCell ⟨gt, 8, none⟩ (U wd))) := ⟨Yo.out.c0, Yo.out.c1, Yo.out.c2, Yo.out.c3, Yo.out.c4, Yo.out.c5, Yo.out.c6, Yo.out.c7, Yo.out.c8⟩
    have hbw2 : Below w.heap.size w (((((((((W'.setCell ⟨gt, 0, none⟩ (.int .i64 3)).setCell ⟨gt, 1, none⟩ (.int .i64 ff)).setCell ⟨gt, 2, none⟩ (.bool sa)).setCell ⟨gt, 3, none⟩ (.slice (some ⟨ga, 0, none⟩) na na)).setCell ⟨gt, 4, none⟩ (.int .i64 ea)).setCell ⟨gt, 5, none⟩ (.bool sb)).setCell ⟨gt, 6, none⟩ (.slice (some ⟨gb, 0, none⟩) nb nb)).setCell ⟨gt, 7, none⟩ (.int .i64 eb)).setCell ⟨gt, 8, none⟩ (U wd)) := below_set9 hbw Hht.out
    refine hK _ _ HJ2.out ?_
    clear hK HJ
    have HJ := HJ2
    clear HJ2
    clear Hta Htb hbw Xo Xt
    have Xo := Yo
    have Xt := Yt
    have hbw := hbw2
    clear hbw2 Yo Yt
    generalize (((((((((W'.setCell ⟨gt, 0, none⟩ (.int .i64 3)).setCell ⟨gt, 1, none⟩ (.int .i64 ff)).setCell ⟨gt, 2, none⟩ (.bool sa)).setCell ⟨gt, 3, none⟩ (.slice (some ⟨ga, 0, none⟩) na na)).setCell ⟨gt, 4, none⟩ (.int .i64 ea)).setCell ⟨gt, 5, none⟩ (.bool sb)).setCell ⟨gt, 6, none⟩ (.slice (some ⟨gb, 0, none⟩) nb nb)).setCell ⟨gt, 7, none⟩ (.int .i64 eb)).setCell ⟨gt, 8, none⟩ (U wd)) = V9 at *
    refine wpJ_tq 6 rfl HJ.out ?_
    refine wpJ_done (by kernel_rfl) ?_ _
    clear HJ
    obtain ⟨co0, co1, co2, co3, co4, co5, co6, co7, co8, fo0, fo1, fo2, fo3, fo4, fo5, fo6, fo7, fo8⟩ := Xo.out
    have hneo : go < V9.heap.size := World.block_lt_of_cell? V9 _ co0
    obtain ⟨ct0, ct1, ct2, ct3, ct4, ct5, ct6, ct7, ct8, ft0, ft1, ft2, ft3, ft4, ft5, ft6, ft7, ft8⟩ := Xt.out
    have hnet : gt < V9.heap.size := World.block_lt_of_cell? V9 _ ct0
    go_wp2_with fail
    clear co0 co1 co2 co3 co4 co5 co6 co7 co8 fo0 fo1 fo2 fo3 fo4 fo5 fo6 fo7 fo8 hneo
    clear ct0 ct1 ct2 ct3 ct4 ct5 ct6 ct7 ct8 ft0 ft1 ft2 ft3 ft4 ft5 ft6 ft7 ft8 hnet
    refine (H1.out _ (TB.out.below hbw)).mono ?_
    rintro e9 v2 ⟨⟨s2, p2, m2, c2, z2, e2, t2, q2, n2, d2, y2, f2, rfl, ha2, hc2, hlo2, hhi2⟩, hb2⟩
    replace Xo : Hid (B9q v2 go (.int .i64 3) (.int .i64 ff) (.bool sa) (.slice pa na ca) (.int .i64 ea) (.bool sb) (.slice pb nb cb) (.int .i64 eb) (U wd)) := Xo.out.below hb2
    replace Xt : Hid (B9q v2 gt (.int .i64 3) (.int .i64 ff) (.bool sa) (.slice (some ⟨ga, 0, none⟩) na na) (.int .i64 ea) (.bool sb) (.slice (some ⟨gb, 0, none⟩) nb nb) (.int .i64 eb) (U wd)) := Xt.out.below hb2
    replace TA : Hid _ := TA.out.below hb2
    replace TC : Hid _ := TC.out.below hb2
    replace hbw := Below.on hbw hb2
    clear hb2
    have L2 : Hid (DN v2 s2 p2 m2 c2 e2 z2) := ha2
    have U2 : Hid (DN v2 t2 q2 n2 d2 f2 y2) := hc2
    have HV2 : Hid (dv z2 e2 = cLo H l sg z ∧ dv y2 f2 = cHi H l sg z) := ⟨hlo2, hhi2⟩
    clear ha2 hc2 hlo2 hhi2
    obtain ⟨od, hod⟩ : ∃ od, od = decide (wd % 2 = 0) := ⟨_, rfl⟩
    rw [← hod]
    have HOD : Hid (decide (wd % 2 = 0) = od) := hod.symm
    have q5 : (od == od) = true := by simp
    clear hod
    obtain ⟨co0, co1, co2, co3, co4, co5, co6, co7, co8, fo0, fo1, fo2, fo3, fo4, fo5, fo6, fo7, fo8⟩ := Xo.out
    have hneo : go < v2.heap.size := World.block_lt_of_cell? v2 _ co0
    go_wp2_with fail
    clear co0 co1 co2 co3 co4 co5 co6 co7 co8 fo0 fo1 fo2 fo3 fo4 fo5 fo6 fo7 fo8 hneo
    have Xsp0 : Hid (B6q (v2.alloc (.cells #[.bool s2, .slice p2 m2 c2, .int .i64 e2, .bool t2, .slice q2 n2 d2, .int .i64 f2] 35)) v2.heap.size (.bool s2) (.slice p2 m2 c2) (.int .i64 e2) (.bool t2) (.slice q2 n2 d2) (.int .i64 f2)) := B6q.new v2 _ _ _ _ _ _ _
    have hbn : Below v2.heap.size v2 (v2.alloc (.cells #[.bool s2, .slice p2 m2 c2, .int .i64 e2, .bool t2, .slice q2 n2 d2, .int .i64 f2] 35)) := below1 v2 _
    generalize v2.alloc (.cells #[.bool s2, .slice p2 m2 c2, .int .i64 e2, .bool t2, .slice q2 n2 d2, .int .i64 f2] 35) = Wsp at *
    have HGsp : Hid (w.heap.size ≤ v2.heap.size) := hbw.size
    replace Xo : Hid (B9q Wsp go (.int .i64 3) (.int .i64 ff) (.bool sa) (.slice pa na ca) (.int .i64 ea) (.bool sb) (.slice pb nb cb) (.int .i64 eb) (U wd)) := Xo.out.below hbn
    replace Xt : Hid (B9q Wsp gt (.int .i64 3) (.int .i64 ff) (.bool sa) (.slice (some ⟨ga, 0, none⟩) na na) (.int .i64 ea) (.bool sb) (.slice (some ⟨gb, 0, none⟩) nb nb) (.int .i64 eb) (U wd)) := Xt.out.below hbn
    replace TA : Hid _ := TA.out.below hbn
    replace TC : Hid _ := TC.out.below hbn
    replace L2 : Hid _ := L2.out.below hbn
    replace U2 : Hid _ := U2.out.below hbn
    replace hbw := Below.on hbw hbn
    clear hbn
    generalize v2.heap.size = gsp at *
    have Xsp := Xsp0
    clear Xsp0
    refine (H2.out _).mono ?_
    rintro e9 v3 ⟨⟨s3, p3, m3, c3, z3, e3, t3, q3, n3, d3, y3, f3, rfl, ha3, hc3, hlo3, hhi3⟩, hb3⟩
    replace Xo : Hid (B9q v3 go (.int .i64 3) (.int .i64 ff) (.bool sa) (.slice pa na ca) (.int .i64 ea) (.bool sb) (.slice pb nb cb) (.int .i64 eb) (U wd)) := Xo.out.below hb3
    replace Xt : Hid (B9q v3 gt (.int .i64 3) (.int .i64 ff) (.bool sa) (.slice (some ⟨ga, 0, none⟩) na na) (.int .i64 ea) (.bool sb) (.slice (some ⟨gb, 0, none⟩) nb nb) (.int .i64 eb) (U wd)) := Xt.out.below hb3
    replace Xsp : Hid _ := Xsp.out.below hb3
    replace TA : Hid _ := TA.out.below hb3
    replace TC : Hid _ := TC.out.below hb3
    replace L2 : Hid _ := L2.out.below hb3
    replace U2 : Hid _ := U2.out.below hb3
    replace hbw := Below.on hbw hb3
    clear hb3
    have L3 : Hid (DN v3 s3 p3 m3 c3 e3 z3) := ha3
    have U3 : Hid (DN v3 t3 q3 n3 d3 f3 y3) := hc3
    have HV3 : Hid (dv z3 e3 = cLo H l sg z ∧ dv y3 f3 = cHi H l sg z) := ⟨hlo3, hhi3⟩
    clear ha3 hc3 hlo3 hhi3
    obtain ⟨rfl, rfl⟩ := dv_inj L2.out.fm L3.out.fm (HV2.out.1.trans HV3.out.1.symm)
    obtain ⟨rfl, rfl⟩ := dv_inj U2.out.fm U3.out.fm (HV2.out.2.trans HV3.out.2.symm)
    rw [HOD.out]
    obtain ⟨co0, co1, co2, co3, co4, co5, co6, co7, co8, fo0, fo1, fo2, fo3, fo4, fo5, fo6, fo7, fo8⟩ := Xo.out
    have hneo : go < v3.heap.size := World.block_lt_of_cell? v3 _ co0
    obtain ⟨csp0, csp1, csp2, csp3, csp4, csp5, fsp0, fsp1, fsp2, fsp3, fsp4, fsp5⟩ := Xsp.out
    have hnesp : gsp < v3.heap.size := World.block_lt_of_cell? v3 _ csp0
    go_wp2_with fail
    clear co0 co1 co2 co3 co4 co5 co6 co7 co8 fo0 fo1 fo2 fo3 fo4 fo5 fo6 fo7 fo8 hneo
    clear csp0 csp1 csp2 csp3 csp4 csp5 fsp0 fsp1 fsp2 fsp3 fsp4 fsp5 hnesp
    have Xsc0 : Hid (B6q (v3.alloc (.cells #[.bool s3, .slice p3 m3 c3, .int .i64 e2, .bool t3, .slice q3 n3 d3, .int .i64 f2] 35)) v3.heap.size (.bool s3) (.slice p3 m3 c3) (.int .i64 e2) (.bool t3) (.slice q3 n3 d3) (.int .i64 f2)) := B6q.new v3 _ _ _ _ _ _ _
    have hbn : Below v3.heap.size v3 (v3.alloc (.cells #[.bool s3, .slice p3 m3 c3, .int .i64 e2, .bool t3, .slice q3 n3 d3, .int .i64 f2] 35)) := below1 v3 _
    generalize v3.alloc (.cells #[.bool s3, .slice p3 m3 c3, .int .i64 e2, .bool t3, .slice q3 n3 d3, .int .i64 f2] 35) = Wsc at *
    have HGsc : Hid (w.heap.size ≤ v3.heap.size) := hbw.size
    replace Xo : Hid (B9q Wsc go (.int .i64 3) (.int .i64 ff) (.bool sa) (.slice pa na ca) (.int .i64 ea) (.bool sb) (.slice pb nb cb) (.int .i64 eb) (U wd)) := Xo.out.below hbn
    replace Xt : Hid (B9q Wsc gt (.int .i64 3) (.int .i64 ff) (.bool sa) (.slice (some ⟨ga, 0, none⟩) na na) (.int .i64 ea) (.bool sb) (.slice (some ⟨gb, 0, none⟩) nb nb) (.int .i64 eb) (U wd)) := Xt.out.below hbn
    replace Xsp : Hid _ := Xsp.out.below hbn
    replace TA : Hid _ := TA.out.below hbn
    replace TC : Hid _ := TC.out.below hbn
    replace L2 : Hid _ := L2.out.below hbn
    replace U2 : Hid _ := U2.out.below hbn
    replace L3 : Hid _ := L3.out.below hbn
    replace U3 : Hid _ := U3.out.below hbn
    replace hbw := Below.on hbw hbn
    clear hbn
    generalize v3.heap.size = gsc at *
    have Xsc := Xsc0
    clear Xsc0
    refine (spans8 L2.out U2.out L3.out U3.out).mono ?_
    rintro e v4 ⟨rfl, hb4⟩
    replace Xo : Hid (B9q v4 go (.int .i64 3) (.int .i64 ff) (.bool sa) (.slice pa na ca) (.int .i64 ea) (.bool sb) (.slice pb nb cb) (.int .i64 eb) (U wd)) := Xo.out.below hb4
    replace Xt : Hid (B9q v4 gt (.int .i64 3) (.int .i64 ff) (.bool sa) (.slice (some ⟨ga, 0, none⟩) na na) (.int .i64 ea) (.bool sb) (.slice (some ⟨gb, 0, none⟩) nb nb) (.int .i64 eb) (U wd)) := Xt.out.below hb4
    replace Xsp : Hid _ := Xsp.out.below hb4
    replace Xsc : Hid _ := Xsc.out.below hb4
    replace TA : Hid _ := TA.out.below hb4
    replace TC : Hid _ := TC.out.below hb4
    replace L2 : Hid _ := L2.out.below hb4
    replace U2 : Hid _ := U2.out.below hb4
    replace L3 : Hid _ := L3.out.below hb4
    replace U3 : Hid _ := U3.out.below hb4
    replace hbw := Below.on hbw hb4
    clear hb4
    obtain ⟨co0, co1, co2, co3, co4, co5, co6, co7, co8, fo0, fo1, fo2, fo3, fo4, fo5, fo6, fo7, fo8⟩ := Xo.out
    have hneo : go < v4.heap.size := World.block_lt_of_cell? v4 _ co0
    go_wp2_with fail
    clear co0 co1 co2 co3 co4 co5 co6 co7 co8 fo0 fo1 fo2 fo3 fo4 fo5 fo6 fo7 fo8 hneo
    go_ret
    exact ⟨rfl, hbw⟩
  have N1 : ∀ (ga : Nat) (gb : Nat) (W' : World), (B9q W' go (.int .i64 3) (.int .i64 ff) (.bool sa) (.slice pa na ca) (.int .i64 ea) (.bool sb) (.slice pb nb cb) (.int .i64 eb) (U wd)) ∧ (Below w.heap.size w W') ∧ (At W' (some ⟨ga, 0, none⟩) na na xa) ∧ (At W' (some ⟨gb, 0, none⟩) nb nb xb) → WP 3 (L0.setIfInBounds 1 true) (a0.put (some 34) (.agg #[.int .i64 3, .int .i64 ff, .bool sa, .slice (some ⟨ga, 0, none⟩) na na, .int .i64 ea, .bool sb, .slice (some ⟨gb, 0, none⟩) nb nb, .int .i64 eb, U wd])) W' := by
    rintro ga gb W' ⟨xo, hbw, ta, tb⟩
    subst hWP hL ha
    have Hxo := Hid.mk5 xo
    have Hta := Hid.mk5 ta
    have Htb := Hid.mk5 tb
    clear xo ta tb
    go_simp
    refine wpJ_on 4 rfl fun KJ hK => ?_
    go_simp
    have hb := below1 W' (.cells #[.int .i64 0, .int .i64 0, .bool false, .slice none 0 0, .int .i64 0, .bool false, .slice none 0 0, .int .i64 0, .int .u64 0] 59)
    refine hK _ _ ⟨(Hxo.out.below hb).c0, (Hxo.out.below hb).c1, (Hxo.out.below hb).c2, (Hxo.out.below hb).c3, (Hxo.out.below hb).c4, (Hxo.out.below hb).c5, (Hxo.out.below hb).c6, (Hxo.out.below hb).c7, (Hxo.out.below hb).c8⟩ ?_
    exact wpJ_same5 (by kernel_rfl) (by kernel_rfl) (N1_4 ga gb W'.heap.size _ ⟨(Hxo.out.below hb), (Below.on hbw hb), (Hta.out.below hb), (Htb.out.below hb), (B9q.new W' _ _ _ _ _ _ _ _ _ _), hbw.size, (Nat.ne_of_lt Hxo.out.lt), ((at_blk9 Hta.out).imp id Nat.ne_of_lt), ((at_blk9 Htb.out).imp id Nat.ne_of_lt)⟩)
  have N4 : ∀ (gt : Nat) (W' : World), (B9q W' go (.int .i64 3) (.int .i64 ff) (.bool sa) (.slice pa na ca) (.int .i64 ea) (.bool sb) (.slice pb nb cb) (.int .i64 eb) (U wd)) ∧ (Below w.heap.size w W') ∧ (B9q W' gt (.int .i64 0) (.int .i64 0) (.bool false) (.slice none 0 0) (.int .i64 0) (.bool false) (.slice none 0 0) (.int .i64 0) (.int .u64 0)) ∧ (w.heap.size ≤ gt) ∧ (go ≠ gt) → WP 3 (L0.setIfInBounds 4 true) (a0.put (some 3) (.pointer (some ⟨gt, 0, none⟩))) W' := by
    rintro gt W' ⟨xo, hbw, xt, ht, nt⟩
    subst hWP hL ha
    have Hxo := Hid.mk5 xo
    have Hxt := Hid.mk5 xt
    have Hht := Hid.mk5 ht
    have Hnt := Hid.mk5 nt
    clear xo xt ht nt
    go_simp
    refine wpJ_on 1 rfl fun KJ hK => ?_
    go_simp
    refine (twin8 sa sb (HA.out.below hbw) (HB.out.below hbw) ⟨HN.out.1, HN.out.2.1⟩).mono ?_
    rintro e9 W2 ⟨ga, gb, rfl, hga, hgb, hta, htb, hb⟩
    refine hK _ _ ⟨(Hxo.out.below hb).c0, (Hxo.out.below hb).c1, (Hxo.out.below hb).c2, (Hxo.out.below hb).c3, (Hxo.out.below hb).c4, (Hxo.out.below hb).c5, (Hxo.out.below hb).c6, (Hxo.out.below hb).c7, (Hxo.out.below hb).c8⟩ ?_
    exact wpJ_same5 (by kernel_rfl) (by kernel_rfl) (N1_4 ga gb gt W2 ⟨(Hxo.out.below hb), (Below.on hbw hb), hta, htb, (Hxt.out.below hb), Hht.out, Hnt.out, (.inr (Nat.ne_of_gt (Nat.lt_of_lt_of_le Hxt.out.lt hga))), (.inr (Nat.ne_of_gt (Nat.lt_of_lt_of_le Hxt.out.lt hgb)))⟩)
  have N_ : ∀ (W' : World), (B9q W' go (.int .i64 3) (.int .i64 ff) (.bool sa) (.slice pa na ca) (.int .i64 ea) (.bool sb) (.slice pb nb cb) (.int .i64 eb) (U wd)) ∧ (Below w.heap.size w W') → WP 4 L0 a0 W' := by
    rintro  W' ⟨xo, hbw⟩
    subst hWP hL ha
    have Hxo := Hid.mk5 xo
    clear xo
    go_simp
    refine wpJ_two (i := 1) (k := 4) (by kernel_rfl) rfl rfl (by kernel_rfl) (by kernel_rfl) (fun KJ hK => ?_) (fun KJ hK => ?_)
    · go_simp
      refine (twin8 sa sb (HA.out.below hbw) (HB.out.below hbw) ⟨HN.out.1, HN.out.2.1⟩).mono ?_
      rintro e9 W2 ⟨ga, gb, rfl, hga, hgb, hta, htb, hb⟩
      refine hK _ _ ⟨(Hxo.out.below hb).c0, (Hxo.out.below hb).c1, (Hxo.out.below hb).c2, (Hxo.out.below hb).c3, (Hxo.out.below hb).c4, (Hxo.out.below hb).c5, (Hxo.out.below hb).c6, (Hxo.out.below hb).c7, (Hxo.out.below hb).c8⟩ ?_
      exact wpJ_same5 (by kernel_rfl) (by kernel_rfl) (N1 ga gb W2 ⟨(Hxo.out.below hb), (Below.on hbw hb), hta, htb⟩)
    · go_simp
      have hb := below1 W' (.cells #[.int .i64 0, .int .i64 0, .bool false, .slice none 0 0, .int .i64 0, .bool false, .slice none 0 0, .int .i64 0, .int .u64 0] 59)
      refine hK _ _ ⟨(Hxo.out.below hb).c0, (Hxo.out.below hb).c1, (Hxo.out.below hb).c2, (Hxo.out.below hb).c3, (Hxo.out.below hb).c4, (Hxo.out.below hb).c5, (Hxo.out.below hb).c6, (Hxo.out.below hb).c7, (Hxo.out.below hb).c8⟩ ?_
      exact wpJ_same5 (by kernel_rfl) (by kernel_rfl) (N4 W'.heap.size _ ⟨(Hxo.out.below hb), (Below.on hbw hb), (B9q.new W' _ _ _ _ _ _ _ _ _ _), hbw.size, (Nat.ne_of_lt Hxo.out.lt)⟩)
  exact N_ W1 ⟨Xo.out, hbw⟩
theorem plays8_3 {pa pb : Option Addr} {na ca nb cb wd : Nat} {xa xb : List Nat} {w : World} {ff ea eb : Int} (sa sb : Bool) (ha : At w pa na ca xa) (hb : At w pb nb cb xb) (hn : na ≤ 17592186044416 ∧ nb ≤ 17592186044416 ∧ wd < B64) (hT : Tab w) :
    Calls Tryz.prog 24 #[(.agg #[.int .i64 3, .int .i64 ff, .bool sa, .slice pa na ca, .int .i64 ea, .bool sb, .slice pb nb cb, .int .i64 eb, U wd])] w fun en w' => en = .returned (.bool true) ∧ Below w.heap.size w w' := by
  rcases cel_all ff hn.2.2 with ⟨er, h1, h2⟩ | ⟨H, l, sg, z, h1, h2⟩
  · exact plays8_3z sa sb ha hb hn hT h1 h2
  · exact plays8_3f sa sb ha hb hn hT h1 h2
theorem aw8_c : rnp (-1074) 52 1024 9223372036854775808 9218868437227405312 1 0 = 4607182418800017408 := by decide +kernel
theorem aw8_d : rnp (-1074) 52 1024 9223372036854775808 9218868437227405312 9007199254740993 (-53) = 4607182418800017408 := by decide +kernel
theorem aw8_lo {z e : Int} (hf : DFm z e) (h : dv z e = cLo 4503599627370496 (-1074) (decide (9223372036854775808 ≤ 1)) (1 % 9223372036854775808)) : z = 1 ∧ e = -1075 := by
  refine dv_inj hf (.inr ⟨by decide, by decide, by decide⟩) (h.trans ?_)
  rw [show decide (9223372036854775808 ≤ 1) = false from by decide, show 1 % 9223372036854775808 = 1 from by decide]
  unfold cLo
  rw [if_neg (by decide), show hv 4503599627370496 (1 - 1) = 1 from by decide]
  rfl
theorem aw8_hi {z e : Int} (hf : DFm z e) (h : dv z e = cHi 4503599627370496 (-1074) (decide (9223372036854775808 ≤ 1)) (1 % 9223372036854775808)) : z = 3 ∧ e = -1075 := by
  refine dv_inj hf (.inr ⟨by decide, by decide, by decide⟩) (h.trans ?_)
  rw [show decide (9223372036854775808 ≤ 1) = false from by decide, show 1 % 9223372036854775808 = 1 from by decide]
  unfold cHi
  rw [if_neg (by decide), show hv 4503599627370496 1 = 3 from by decide]
  rfl
theorem aw8_le : dv 1 0 ≤ dv 9007199254740993 (-53) := by
  rw [dv_shift (z := 1) (e := 0) (f := -53) (by decide) (by decide)]
  have h : (1 * ((2 ^ ((0 : Int) - -53).toNat : Nat) : Int)) < 9007199254740993 := by decide
  exact Int.le_of_lt ((dv_lt_iff (-53)).2 h)
theorem roundCells_walk {P : Option Addr} {N C : Nat} {its : List Op9} {w : World} (h : Scr8 w P N C its) (hT : Tab w) :
    Calls Tryz.prog 4 #[.slice P N C] w fun en w' => en = .returned (.bool true) ∧ Below w.heap.size w w' := by
  have H : Hid (Scr8 w P N C its) := h
  have TB : Hid (Tab w) := hT
  have hbw : Below w.heap.size w w := Below.refl _ _
  clear h hT
  go_enter Tryz.func4, Tryz.ntmps4
  go_wp2_with fail
  refine (cell_ok jn_64 1 (by decide) (by decide) (by decide) w TB.out).mono ?_
  rintro e9 v1 ⟨s1, p1, m1, z1, e1, t1, q1, n1, y1, f1, rfl, ha, hc, hlo, hhi, hb1⟩
  obtain ⟨rfl, rfl⟩ := aw8_lo ha.dn.fm hlo
  obtain ⟨rfl, rfl⟩ := aw8_hi hc.dn.fm hhi
  clear hlo hhi
  rw [show decide (1 % 2 = 0) = false from by decide]
  replace hbw := Below.on hbw hb1
  clear hb1
  have L1 : Hid (DN v1 s1 p1 m1 m1 (-1075) 1) := ha.dn
  have U1 : Hid (DN v1 t1 q1 n1 n1 (-1075) 3) := hc.dn
  clear ha hc
  go_wp2_with fail
  have Xsp0 : Hid (B6q (v1.alloc (.cells #[.bool s1, .slice p1 m1 m1, .int .i64 (-1075), .bool t1, .slice q1 n1 n1, .int .i64 (-1075)] 35)) v1.heap.size (.bool s1) (.slice p1 m1 m1) (.int .i64 (-1075)) (.bool t1) (.slice q1 n1 n1) (.int .i64 (-1075))) := B6q.new v1 _ _ _ _ _ _ _
  have hbn : Below v1.heap.size v1 (v1.alloc (.cells #[.bool s1, .slice p1 m1 m1, .int .i64 (-1075), .bool t1, .slice q1 n1 n1, .int .i64 (-1075)] 35)) := below1 v1 _
  generalize v1.alloc (.cells #[.bool s1, .slice p1 m1 m1, .int .i64 (-1075), .bool t1, .slice q1 n1 n1, .int .i64 (-1075)] 35) = Wsp at *
  have HGsp : Hid (w.heap.size ≤ v1.heap.size) := hbw.size
  replace L1 : Hid _ := L1.out.below hbn
  replace U1 : Hid _ := U1.out.below hbn
  replace hbw := Below.on hbw hbn
  clear hbn
  generalize v1.heap.size = gsp at *
  have Xsp := Xsp0
  clear Xsp0
  refine (num8 (1) (0) (by decide) (by decide) (by decide)).mono ?_
  rintro e2 v2 ⟨s2, g2, m2, c2, rfl, _, hd2, hb2⟩
  replace Xsp : Hid _ := Xsp.out.below hb2
  replace L1 : Hid _ := L1.out.below hb2
  replace U1 : Hid _ := U1.out.below hb2
  replace hbw := Below.on hbw hb2
  clear hb2
  have D2 : Hid (DN v2 s2 (some ⟨g2, 0, none⟩) m2 c2 (0) (1)) := hd2
  clear hd2
  obtain ⟨csp0, csp1, csp2, csp3, csp4, csp5, fsp0, fsp1, fsp2, fsp3, fsp4, fsp5⟩ := Xsp.out
  have hnesp : gsp < v2.heap.size := World.block_lt_of_cell? v2 _ csp0
  go_wp2_with fail
  clear csp0 csp1 csp2 csp3 csp4 csp5 fsp0 fsp1 fsp2 fsp3 fsp4 fsp5 hnesp
  refine (num8 (9007199254740993) (-53) (by decide) (by decide) (by decide)).mono ?_
  rintro e2 v3 ⟨s3, g3, m3, c3, rfl, _, hd3, hb3⟩
  replace Xsp : Hid _ := Xsp.out.below hb3
  replace L1 : Hid _ := L1.out.below hb3
  replace U1 : Hid _ := U1.out.below hb3
  replace D2 : Hid _ := D2.out.below hb3
  replace hbw := Below.on hbw hb3
  clear hb3
  have D3 : Hid (DN v3 s3 (some ⟨g3, 0, none⟩) m3 c3 (-53) (9007199254740993)) := hd3
  clear hd3
  obtain ⟨csp0, csp1, csp2, csp3, csp4, csp5, fsp0, fsp1, fsp2, fsp3, fsp4, fsp5⟩ := Xsp.out
  have hnesp : gsp < v3.heap.size := World.block_lt_of_cell? v3 _ csp0
  go_wp2_with fail
  clear csp0 csp1 csp2 csp3 csp4 csp5 fsp0 fsp1 fsp2 fsp3 fsp4 fsp5 hnesp
  have hs := decide_y jn_64 D2.out D3.out aw8_le (aw8_c.trans aw8_d.symm) (TB.out.below hbw)
  rw [aw8_c] at hs
  refine Calls.mono hs ?_
  clear hs
  rintro e9 v4 ⟨rfl, hb4⟩
  replace Xsp : Hid _ := Xsp.out.below hb4
  replace L1 : Hid _ := L1.out.below hb4
  replace U1 : Hid _ := U1.out.below hb4
  replace D2 : Hid _ := D2.out.below hb4
  replace D3 : Hid _ := D3.out.below hb4
  replace hbw := Below.on hbw hb4
  clear hb4
  clear D2
  clear D3
  obtain ⟨csp0, csp1, csp2, csp3, csp4, csp5, fsp0, fsp1, fsp2, fsp3, fsp4, fsp5⟩ := Xsp.out
  have hnesp : gsp < v4.heap.size := World.block_lt_of_cell? v4 _ csp0
  go_wp2_with fail
  clear csp0 csp1 csp2 csp3 csp4 csp5 fsp0 fsp1 fsp2 fsp3 fsp4 fsp5 hnesp
  obtain ⟨Wr, hWr⟩ : ∃ W1, W1 = v4.drew := ⟨_, rfl⟩
  have hbd : Below v4.heap.size v4 Wr := by rw [hWr]; exact bDrew1 (Below.refl _ _)
  replace Xsp : Hid _ := Xsp.out.below hbd
  replace L1 : Hid _ := L1.out.below hbd
  replace U1 : Hid _ := U1.out.below hbd
  replace hbw := Below.on hbw hbd
  clear hbd
  have HJ : Hid ((fun W' : World => W'.cell? ⟨gsp, 0, none⟩ = some (.bool s1) ∧ W'.cell? ⟨gsp, 1, none⟩ = some (.slice p1 m1 m1) ∧ W'.cell? ⟨gsp, 2, none⟩ = some (.int .i64 (-1075)) ∧ W'.cell? ⟨gsp, 3, none⟩ = some (.bool t1) ∧ W'.cell? ⟨gsp, 4, none⟩ = some (.slice q1 n1 n1) ∧ W'.cell? ⟨gsp, 5, none⟩ = some (.int .i64 (-1075))) Wr) := ⟨Xsp.out.c0, Xsp.out.c1, Xsp.out.c2, Xsp.out.c3, Xsp.out.c4, Xsp.out.c5⟩
  refine wp_region_J (fun W' => W'.cell? ⟨gsp, 0, none⟩ = some (.bool s1) ∧ W'.cell? ⟨gsp, 1, none⟩ = some (.slice p1 m1 m1) ∧ W'.cell? ⟨gsp, 2, none⟩ = some (.int .i64 (-1075)) ∧ W'.cell? ⟨gsp, 3, none⟩ = some (.bool t1) ∧ W'.cell? ⟨gsp, 4, none⟩ = some (.slice q1 n1 n1) ∧ W'.cell? ⟨gsp, 5, none⟩ = some (.int .i64 (-1075))) (by kernel_rfl) ?_
  rw [← hWr]
  clear hWr
  refine wpJ_tq 0 rfl HJ.out ?_
  refine wpJ_on 1 rfl fun KJ hK => ?_
  go_simp
  refine (num8 (1) (-1075) (by decide) (by decide) (by decide)).mono ?_
  rintro e2 v6 ⟨s6, g6, m6, c6, rfl, _, hd6, hb6⟩
  replace Xsp : Hid _ := Xsp.out.below hb6
  replace L1 : Hid _ := L1.out.below hb6
  replace U1 : Hid _ := U1.out.below hb6
  replace hbw := Below.on hbw hb6
  clear hb6
  have D6 : Hid (DN v6 s6 (some ⟨g6, 0, none⟩) m6 c6 (-1075) (1)) := hd6
  clear hd6
  refine hK _ _ ⟨Xsp.out.c0, Xsp.out.c1, Xsp.out.c2, Xsp.out.c3, Xsp.out.c4, Xsp.out.c5⟩ ?_
  clear hK
  refine wpJ_on 2 rfl fun KJ hK => ?_
  go_simp
  refine (num8 (3) (-1075) (by decide) (by decide) (by decide)).mono ?_
  rintro e2 v7 ⟨s7, g7, m7, c7, rfl, _, hd7, hb7⟩
  replace Xsp : Hid _ := Xsp.out.below hb7
  replace L1 : Hid _ := L1.out.below hb7
  replace U1 : Hid _ := U1.out.below hb7
  replace D6 : Hid _ := D6.out.below hb7
  replace hbw := Below.on hbw hb7
  clear hb7
  have D7 : Hid (DN v7 s7 (some ⟨g7, 0, none⟩) m7 c7 (-1075) (3)) := hd7
  clear hd7
  clear HJ
  have HJ : Hid ((fun W' : World => W'.cell? ⟨gsp, 0, none⟩ = some (.bool s1) ∧ W'.cell? ⟨gsp, 1, none⟩ = some (.slice p1 m1 m1) ∧ W'.cell? ⟨gsp, 2, none⟩ = some (.int .i64 (-1075)) ∧ W'.cell? ⟨gsp, 3, none⟩ = some (.bool t1) ∧ W'.cell? ⟨gsp, 4, none⟩ = some (.slice q1 n1 n1) ∧ W'.cell? ⟨gsp, 5, none⟩ = some (.int .i64 (-1075))) v7) := ⟨Xsp.out.c0, Xsp.out.c1, Xsp.out.c2, Xsp.out.c3, Xsp.out.c4, Xsp.out.c5⟩
  refine hK _ _ HJ.out ?_
  clear hK
  refine wpJ_tq 3 rfl HJ.out ?_
  refine wpJ_on 4 rfl fun KJ hK => ?_
  go_simp
  refine (spans8 L1.out U1.out D6.out D7.out).mono ?_
  rintro e v8 ⟨rfl, hb8⟩
  replace Xsp : Hid _ := Xsp.out.below hb8
  replace L1 : Hid _ := L1.out.below hb8
  replace U1 : Hid _ := U1.out.below hb8
  replace D6 : Hid _ := D6.out.below hb8
  replace D7 : Hid _ := D7.out.below hb8
  replace hbw := Below.on hbw hb8
  clear hb8
  clear HJ
  have HJ : Hid ((fun W' : World => W'.cell? ⟨gsp, 0, none⟩ = some (.bool s1) ∧ W'.cell? ⟨gsp, 1, none⟩ = some (.slice p1 m1 m1) ∧ W'.cell? ⟨gsp, 2, none⟩ = some (.int .i64 (-1075)) ∧ W'.cell? ⟨gsp, 3, none⟩ = some (.bool t1) ∧ W'.cell? ⟨gsp, 4, none⟩ = some (.slice q1 n1 n1) ∧ W'.cell? ⟨gsp, 5, none⟩ = some (.int .i64 (-1075))) v8) := ⟨Xsp.out.c0, Xsp.out.c1, Xsp.out.c2, Xsp.out.c3, Xsp.out.c4, Xsp.out.c5⟩
  refine hK _ _ HJ.out ?_
  clear hK
  refine wpJ_tq 5 rfl HJ.out ?_
  refine wpJ_tq 6 rfl HJ.out ?_
  refine wpJ_tq 7 rfl HJ.out ?_
  refine wpJ_tq 8 rfl HJ.out ?_
  refine wpJ_tq 9 rfl HJ.out ?_
  go_simp
  refine wpJ_tq 10 rfl HJ.out ?_
  refine wpJ_tq 11 rfl HJ.out ?_
  refine wpJ_tq 12 rfl HJ.out ?_
  refine wpJ_tq 13 rfl HJ.out ?_
  refine wpJ_tq 14 rfl HJ.out ?_
  refine wpJ_on 15 rfl fun KJ hK => ?_
  go_simp
  refine (all8 (H.out.below hbw) (TB.out.below hbw) ?_).mono ?_
  · intro k h5 h9 pa pb na ca nb cb wd xa xb w ff ea eb sa sb ha hb hn hT
    rcases (by omega : k = 2 ∨ k = 3) with rfl | rfl
    · exact plays8_2 sa sb ha hb hn hT
    · exact plays8_3 sa sb ha hb hn hT
  rintro e w9 ⟨rfl, hb9⟩
  replace Xsp : Hid _ := Xsp.out.below hb9
  replace L1 : Hid _ := L1.out.below hb9
  replace U1 : Hid _ := U1.out.below hb9
  replace D6 : Hid _ := D6.out.below hb9
  replace D7 : Hid _ := D7.out.below hb9
  replace hbw := Below.on hbw hb9
  clear hb9
  clear HJ
  have HJ : Hid ((fun W' : World => W'.cell? ⟨gsp, 0, none⟩ = some (.bool s1) ∧ W'.cell? ⟨gsp, 1, none⟩ = some (.slice p1 m1 m1) ∧ W'.cell? ⟨gsp, 2, none⟩ = some (.int .i64 (-1075)) ∧ W'.cell? ⟨gsp, 3, none⟩ = some (.bool t1) ∧ W'.cell? ⟨gsp, 4, none⟩ = some (.slice q1 n1 n1) ∧ W'.cell? ⟨gsp, 5, none⟩ = some (.int .i64 (-1075))) w9) := ⟨Xsp.out.c0, Xsp.out.c1, Xsp.out.c2, Xsp.out.c3, Xsp.out.c4, Xsp.out.c5⟩
  refine hK _ _ HJ.out ?_
  clear hK
  refine wpJ_tq 16 rfl HJ.out ?_
  refine wpJ_tq 17 rfl HJ.out ?_
  go_simp
  refine wpJ_done (by kernel_rfl) ?_ _
  clear HJ
  go_wp2_with fail
  go_ret
  exact ⟨rfl, hbw⟩
end Go.Proofs.YtfmbifocgljieaaGreatDoor
