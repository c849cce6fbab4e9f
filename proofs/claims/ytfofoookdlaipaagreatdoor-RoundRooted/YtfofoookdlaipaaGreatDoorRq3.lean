import Derived.Test.YtfofoookdlaipaaGreatDoorJ28
import Derived.Test.YtfofoookdlaipaaGreatDoorDa15
namespace Go.Proofs.YtfofoookdlaipaaGreatDoor
open Go.RowKit Go.Shelf

theorem shl_lim2 {x P : Nat} (h : bitsN x + P ≤ 524288) : 2 ^ P * x < LIM := by
  by_cases h0 : x = 0
  · rw [h0, Nat.mul_zero]; exact lt_LIM (L := 1) (by decide) (by decide)
  · exact (lim_shl x P h0).2 (by omega)
set_option maxRecDepth 20000 in
set_option maxHeartbeats 8000000 in
theorem nearest_o {p m l : Int} {q : Option Addr} {n c : Nat} {w : World} {e : Int} {s : Bool} {xs : List Nat} (h : Num w q n c xs 0) :
    Calls Tryz.prog 39 #[WV p m l, ZV s q n c, .int .i64 e] w fun en w' => en = .returned (.int .u64 0) ∧ Below w.heap.size w w' := by
  have HZN : Hid (Num w q n c xs 0) := h
  have HS : Hid (sgnI (iv s 0) = 0) := by show sgnI (iv s 0) = 0; cases s <;> rfl
  clear h
  go_enter Tryz.func39, Tryz.ntmps39
  go_wp2_with fail
  obtain ⟨W0, hW0⟩ : ∃ W0, W0 = ((w.alloc (.cells #[.int .i64 p, .int .i64 m, .int .i64 l] 71)).alloc (.cells #[.bool s, .slice q n c] 32)) := ⟨_, rfl⟩
  have Xg : Hid (B3q W0 (w.heap.size) (.int .i64 p) (.int .i64 m) (.int .i64 l)) := by rw [hW0]; exact ⟨by go_simp, by go_simp, by go_simp, by go_simp, by go_simp, by go_simp⟩
  have Xm : Hid (Box W0 (w.heap.size + 1) (.bool s) (.slice q n c)) := by rw [hW0]; exact ⟨by go_simp, by go_simp, by go_simp, by go_simp⟩
  have hb0 : Below w.heap.size w W0 := by rw [hW0]; exact below2 w _ _
  rw [← hW0]
  clear hW0
  have hbw : Below w.heap.size w w := Below.refl _ _
  obtain ⟨gm, hgm⟩ : ∃ g, g = w.heap.size + 1 := ⟨_, rfl⟩
  have HGm : Hid (w.heap.size ≤ gm) := by rw [hgm]; show _ ≤ _; omega
  rw [← hgm] at Xm
  try rw [← hgm]
  obtain ⟨gg, hgg⟩ : ∃ g, g = w.heap.size := ⟨_, rfl⟩
  have HGg : Hid (w.heap.size ≤ gg) := by rw [hgg]; show _ ≤ _; omega
  rw [← hgg] at Xg
  try rw [← hgg]
  have HGD : Hid (gg ≠ gm ∧ gm ≠ gg) := by rw [hgg, hgm]; exact ⟨by omega, by omega⟩
  clear hgg hgm
  replace hbw := Below.on hbw hb0
  clear hb0
  refine (sign_any s (HZN.out.below hbw)).mono ?_
  rintro e v1 ⟨rfl, hb1⟩
  rw [HS.out]
  replace Xg : Hid _ := Xg.out.below hb1
  replace Xm : Hid _ := Xm.out.below hb1
  replace hbw := Below.on hbw hb1
  clear hb1
  obtain ⟨cm0, cm1, fm0, fm1⟩ := Xm.out
  have hnem := Xm.out.lt
  go_wp2_with fail
  clear cm0 cm1 fm0 fm1 hnem
  go_ret
  exact ⟨rfl, hbw⟩
end Go.Proofs.YtfofoookdlaipaaGreatDoor

