import Derived.Test.YtgodajcnhipleaaGreatDoorJ13
import Derived.Test.YtgodajcnhipleaaGreatDoorJ14
import Derived.Test.YtgodajcnhipleaaGreatDoorJ12
namespace Go.Proofs.YtgodajcnhipleaaGreatDoor
open Go.RowKit Go.Shelf

theorem rdivmod04 {p q : Option Addr} {n m c d : Nat} {xs ys : List Nat} {a b : Nat} {w : World} (h : At32 w p n c xs) (k : At32 w q m d ys) (hx : Nf B32 xs a) (hy : Nf B32 ys b) (hn : n ≤ 16384) (hm : m ≤ 40000) (hb : b ≠ 0) :
    Calls Tryz.prog 130 #[.slice p n c, .slice q m d] w fun e w' => ∃ p1 m1 z1 p2 m2 z2, e = .returned (.tuple #[.slice p1 m1 m1, .slice p2 m2 m2]) ∧ At32 w' p1 m1 m1 z1 ∧ Nf B32 z1 (a / b) ∧ At32 w' p2 m2 m2 z2 ∧ Nf B32 z2 (a % b) ∧ m1 ≤ n ∧ m2 ≤ n ∧ Below w.heap.size w w' := by
  rcases Nat.lt_or_ge a b with hlt | hge
  · exact rdivmod_lt h k hx hy hn hm hb hlt
  · have hmn : m ≤ n := by
      have h1 := (hx.len_le B32_one (k := n)).1 (by rw [h.len]; exact Nat.le_refl _)
      have h2 := (hy.len_le B32_one (k := n)).2 (Nat.lt_of_le_of_lt hge h1)
      rw [k.len] at h2
      exact h2
    by_cases h1 : m = 1
    · exact rdivmod_one h k hx hy hn (by omega) hb hge h1
    · have hm0 : m ≠ 0 := fun e => hb ((hy.zero_iff B32_one).1 (List.eq_nil_of_length_eq_zero (by rw [k.len]; exact e)))
      exact rdivmod_big h k hx hy hn (by omega) hb hge (by omega)
theorem rof04 (z : Int) (w : World) (h0 : -9223372036854775808 ≤ z) (h1 : z ≤ 9223372036854775807) :
    Calls Tryz.prog 45 #[.int .i64 z] w fun e w' => ∃ s g m, e = .returned (.agg #[.bool s, .slice (some ⟨g, 0, none⟩) m m]) ∧ ZR w' s (some ⟨g, 0, none⟩) m z ∧ m ≤ 3 ∧ Below w.heap.size w w' :=
  (rof_any z w h0 h1).mono fun _ _ ⟨g, m, zs, he, hA, hN, hl, hb⟩ => ⟨_, g, m, he, ⟨⟨zs, hA, hN⟩, rfl⟩, hl, hb⟩
set_option maxRecDepth 20000 in
set_option maxHeartbeats 8000000 in
theorem rshl_nil {p : Option Addr} {c : Nat} {w : World} (hc : c ≤ maxLen) (k : Int) :
    Calls Tryz.prog 120 #[.slice p 0 c, .int .i64 k] w fun e w' => ∃ g, e = .returned (.slice (some ⟨g, 0, none⟩) 0 0) ∧ At32 w' (some ⟨g, 0, none⟩) 0 0 [] ∧ Below w.heap.size w w' := by
  have HC : Hid (c ≤ maxLen) := hc
  clear hc
  by_cases h0 : k ≤ 0
  · have h1 : ¬ 0 < k := by omega
    go_enter Tryz.func120, Tryz.ntmps120
    go_wp2_with fail
    refine (rnorm_any (At32.empty w p c HC.out) (by omega)).mono ?_
    rintro e w1 ⟨g, rfl, hg, hblk, hb⟩
    go_wp2_with fail
    go_ret
    exact ⟨g, rfl, At32.empty _ _ _ (by decide), hb⟩
  · have h1 : 0 < k := by omega
    go_enter Tryz.func120, Tryz.ntmps120
    go_wp2_with fail
    refine (rnorm_any (At32.empty w p c HC.out) (by omega)).mono ?_
    rintro e w1 ⟨g, rfl, hg, hblk, hb⟩
    go_wp2_with fail
    go_ret
    exact ⟨g, rfl, At32.empty _ _ _ (by decide), hb⟩
theorem rshl_all {p : Option Addr} {n : Nat} {xs : List Nat} {a : Nat} {w : World} (h : At32 w p n n xs) (hx : Nf B32 xs a) (hn : n ≤ 16384) (k : Nat) (hk : k ≤ 524288 ∨ a = 0) :
    Calls Tryz.prog 120 #[.slice p n n, .int .i64 k] w fun e w' => ∃ p' m' zs, e = .returned (.slice p' m' m') ∧ At32 w' p' m' m' zs ∧ Nf B32 zs (a * 2 ^ k) ∧ m' ≤ 40000 ∧ Below w.heap.size w w' := by
  rcases Nat.eq_zero_or_pos n with h0 | h0
  · subst h0
    have ha : a = 0 := (hx.zero_iff B32_one).1 (List.eq_nil_of_length_eq_zero h.len)
    refine (rshl_nil (by unfold maxLen; omega) (k : Int)).mono ?_
    rintro e w' ⟨g, he, hA, hb⟩
    exact ⟨_, 0, [], he, hA, by rw [ha, Nat.zero_mul]; exact Nf.nil _, by omega, hb⟩
  · refine rshl_any h hx h0 hn k (hk.resolve_right fun e => ?_)
    have := (hx.zero_iff B32_one).2 e
    rw [this] at h
    have := h.len
    simp at this
    omega
theorem iv_mul_nat (s : Bool) (a k : Nat) : iv s (a * k) = iv s a * (k : Int) := by cases s <;> simp [iv, Int.neg_mul]
set_option maxRecDepth 20000 in
set_option maxHeartbeats 8000000 in
theorem rshl04 {p : Option Addr} {m : Nat} {w : World} {x : Int} (s : Bool) (h : ZR w s p m x) (hm : m ≤ 16384) (k : Nat) (hk : k ≤ 524288 ∨ x = 0) :
    Calls Tryz.prog 96 #[.agg #[.bool s, .slice p m m], .int .i64 k] w fun e w' => ∃ v, e = .returned v ∧ GotR w.heap.size w' v (x * 2 ^ k) (40000) ∧ Below w.heap.size w w' := by
  have HA : Hid (ZR w s p m x) := h
  have HM : Hid (m ≤ 16384 ∧ (k ≤ 524288 ∨ x = 0)) := ⟨hm, hk⟩
  have HZV : Hid (iv s (x.natAbs * 2 ^ k) = x * 2 ^ k) := by show _ = _; rw [iv_mul_nat, h.iv]; rfl
  obtain ⟨xs, hAx, hNx⟩ := h.ex
  have HNX : Hid (Nf B32 xs x.natAbs) := hNx
  have AX : Hid (At32 w p m m xs) := hAx
  clear h hm hk hAx hNx
  go_enter Tryz.func96, Tryz.ntmps96
  go_wp2_with fail
  obtain ⟨W0, hW0⟩ : ∃ W0, W0 = ((w.alloc (.cells #[.bool s, .slice p m m] 70)).alloc (.cells #[.bool false, .slice none 0 0] 70)) := ⟨_, rfl⟩
  have Xa : Hid (Box W0 (w.heap.size) (.bool s) (.slice p m m)) := by rw [hW0]; exact ⟨by go_simp, by go_simp, by go_simp, by go_simp⟩
  have Xr : Hid (Box W0 (w.heap.size + 1) (.bool false) (.slice none 0 0)) := by rw [hW0]; exact ⟨by go_simp, by go_simp, by go_simp, by go_simp⟩
  have hb0 : Below w.heap.size w W0 := by rw [hW0]; exact below2 w _ _
  rw [← hW0]
  clear hW0
  have hbw : Below w.heap.size w w := Below.refl _ _
  obtain ⟨gr, hgr⟩ : ∃ g, g = w.heap.size + 1 := ⟨_, rfl⟩
  have HGr : Hid (w.heap.size ≤ gr) := by rw [hgr]; show _ ≤ _; omega
  rw [← hgr] at Xr
  try rw [← hgr]
  obtain ⟨ga, hga⟩ : ∃ g, g = w.heap.size := ⟨_, rfl⟩
  have HGa : Hid (w.heap.size ≤ ga) := by rw [hga]; show _ ≤ _; omega
  rw [← hga] at Xa
  try rw [← hga]
  have HGD : Hid (ga ≠ gr ∧ gr ≠ ga) := by rw [hga, hgr]; exact ⟨by omega, by omega⟩
  clear hga hgr
  replace AX : Hid _ := AX.out.below hb0
  replace hbw := Below.on hbw hb0
  clear hb0
  obtain ⟨W1, hW1⟩ : ∃ W1, W1 = W0.drew := ⟨_, rfl⟩
  have hbd : Below W0.heap.size W0 W1 := by rw [hW1]; exact bDrew1 (Below.refl _ _)
  replace Xa : Hid _ := Xa.out.below hbd
  replace Xr : Hid _ := Xr.out.below hbd
  replace AX : Hid _ := AX.out.below hbd
  replace hbw := Below.on hbw hbd
  clear hbd
  have HJ : Hid ((fun W' : World => W'.cell? ⟨ga, 0, none⟩ = some (.bool s) ∧ W'.cell? ⟨ga, 1, none⟩ = some (.slice p m m)) W1) := ⟨Xa.out.c0, Xa.out.c1⟩
  refine wp_region_J (fun W' => W'.cell? ⟨ga, 0, none⟩ = some (.bool s) ∧ W'.cell? ⟨ga, 1, none⟩ = some (.slice p m m)) (by kernel_rfl) ?_
  rw [← hW1]
  clear hW1
  refine wpJ_take (i := 0) (v := ?v1x0) rfl (by kernel_rfl) (by kernel_rfl) (by kernel_rfl) (fun _ _ _ h => h) (by kernel_rfl) ?hy1x0 HJ.out ?rest1x0
  case hy1x0 => (intro W' hJ; obtain ⟨j0, j1⟩ := hJ; go_simp; first | done | with_reducible rfl)
  refine wpJ_take (i := 1) (v := ?v2x1) rfl (by kernel_rfl) (by kernel_rfl) (by kernel_rfl) (fun _ _ _ h => h) (by kernel_rfl) ?hy2x1 HJ.out ?rest2x1
  case hy2x1 => (intro W' hJ; obtain ⟨j0, j1⟩ := hJ; go_simp; first | done | with_reducible rfl)
  refine wpJ_take (i := 2) (v := ?v3x2) rfl (by kernel_rfl) (by kernel_rfl) (by kernel_rfl) (fun _ _ _ h => h) (by kernel_rfl) ?hy3x2 HJ.out ?rest3x2
  case hy3x2 => (intro W' hJ; obtain ⟨j0, j1⟩ := hJ; go_simp; first | done | with_reducible rfl)
  refine wpJ_take (i := 3) (v := ?v4x3) rfl (by kernel_rfl) (by kernel_rfl) (by kernel_rfl) (fun _ _ _ h => h) (by kernel_rfl) ?hy4x3 HJ.out ?rest4x3
  case hy4x3 => (intro W' hJ; obtain ⟨j0, j1⟩ := hJ; go_simp; first | done | with_reducible rfl)
  refine wpJ_take (i := 4) (v := ?v5x4) rfl (by kernel_rfl) (by kernel_rfl) (by kernel_rfl) (fun _ _ _ h => h) (by kernel_rfl) ?hy5x4 HJ.out ?rest5x4
  case hy5x4 => (intro W' hJ; obtain ⟨j0, j1⟩ := hJ; go_simp; first | done | with_reducible rfl)
  refine wpJ_one (i := 5) (by kernel_rfl) rfl (by kernel_rfl) (fun KJ hK => ?_)
  go_simp
  refine (rshl_all AX.out HNX.out HM.out.1 k (by have := HM.out.2; omega)).mono ?_
  rintro e v2 ⟨p2, m2, z2, rfl, hA2, hN2, hl2, hb2⟩
  replace Xa : Hid _ := Xa.out.below hb2
  replace Xr : Hid _ := Xr.out.below hb2
  replace AX : Hid _ := AX.out.below hb2
  replace hbw := Below.on hbw hb2
  clear hb2
  have A2 : Hid (At32 v2 p2 m2 m2 z2) := hA2
  have N2 : Hid (Nf B32 z2 (x.natAbs * 2 ^ k) ∧ m2 ≤ 40000) := ⟨hN2, hl2⟩
  clear hA2 hN2 hl2
  refine hK _ _ ⟨Xa.out.c0, Xa.out.c1⟩ ?_
  clear hK
  have HRB : Hid (gr < v2.heap.size ∧ w.heap.size ≤ v2.heap.size) := ⟨Xr.out.lt, hbw.size⟩
  refine wpJ_one (i := 6) (by kernel_rfl) rfl (by kernel_rfl) (fun KJ hK => ?_)
  go_simp
  refine (rmk_any s A2.out N2.out.1 (by have := N2.out.2; omega)).mono ?_
  rintro e v3 ⟨v, rfl, hv, hb3⟩
  rw [HZV.out] at hv
  obtain ⟨s9, g9, m9, rfl, hg9, hz9, hl9⟩ := hv
  have HN9 : Hid (v2.heap.size ≤ g9) := hg9
  replace Xa : Hid _ := Xa.out.below hb3
  replace Xr : Hid _ := Xr.out.below hb3
  replace AX : Hid _ := AX.out.below hb3
  replace A2 : Hid _ := A2.out.below hb3
  replace hbw := Below.on hbw hb3
  clear hb3
  have Z9 : Hid (ZR v3 s9 (some ⟨g9, 0, none⟩) m9 (x * 2 ^ k)) := hz9
  have HL9 : Hid (m9 ≤ 40000) := Nat.le_trans hl9 N2.out.2
  clear hg9 hz9 hl9
  refine hK _ _ ⟨Xa.out.c0, Xa.out.c1⟩ ?_
  clear hK
  obtain ⟨cr0, cr1, fr0, fr1⟩ := Xr.out
  have hner := Xr.out.lt
  obtain ⟨ca0, ca1, fa0, fa1⟩ := Xa.out
  have hnea := Xa.out.lt
  obtain ⟨hgd0, hgd1⟩ := HGD.out
  refine wpJ_one (i := 7) (by kernel_rfl) rfl (by kernel_rfl) (fun KJ hK => ?_)
  go_simp
  have HJ2 : Hid ((fun W' : World => W'.cell? ⟨ga, 0, none⟩ = some (.bool s) ∧ W'.cell? ⟨ga, 1, none⟩ = some (.slice p m m)) ((v3.setCell ⟨gr, 0, none⟩ (.bool s9)).setCell ⟨gr, 1, none⟩ (.slice (some ⟨g9, 0, none⟩) m9 m9))) := ⟨by go_simp, by go_simp⟩
  refine hK _ _ HJ2.out ?_
  clear hK HJ
  have HJ := HJ2
  clear HJ2
  refine wpJ_done (by kernel_rfl) ?_ _
  clear HJ
  go_wp2_with fail
  refine bodyPost_ret (v := .agg #[.bool s9, .slice (some ⟨g9, 0, none⟩) m9 m9]) (by rw [results_cell1 rfl]; go_simp) rfl ⟨_, rfl, ⟨s9, g9, m9, rfl, Nat.le_trans HRB.out.2 HN9.out, ?_, HL9.out⟩, ?_⟩
  · have := HN9.out; have := HRB.out.1
    exact (Z9.out.set _ _ _ (by omega)).set _ _ _ (by omega)
  · exact bSet (bSet hbw _ _ _ HGr.out) _ _ _ HGr.out
end Go.Proofs.YtgodajcnhipleaaGreatDoor

namespace Go.Proofs.YtgodajcnhipleaaGreatDoor
open Go.RowKit Go.Shelf

end Go.Proofs.YtgodajcnhipleaaGreatDoor

namespace Go.Proofs.YtgodajcnhipleaaGreatDoor
open Go.RowKit Go.Shelf

set_option maxRecDepth 20000 in
set_option maxHeartbeats 4000000 in
theorem near_zero (w : World) :
    Calls Tryz.prog 40 #[FR false none 0 0 false 0] w fun e w' => e = .returned (ZV false none 0 0) ∧ Below w.heap.size w w' := by
  go_enter Tryz.func40, Tryz.ntmps40
  go_wp2_with fail
  obtain ⟨W0, hW0⟩ : ∃ W0, W0 = ((w.alloc (.cells #[.bool false, .slice none 0 0, .bool false, .int .i64 0] 59)).alloc (.cells #[.bool false, .slice none 0 0] 28)) := ⟨_, rfl⟩
  have Xf : Hid (B4q W0 (w.heap.size) (.bool false) (.slice none 0 0) (.bool false) (.int .i64 0)) := by rw [hW0]; exact ⟨by go_simp, by go_simp, by go_simp, by go_simp, by go_simp, by go_simp, by go_simp, by go_simp⟩
  have Xr : Hid (Box W0 (w.heap.size + 1) (.bool false) (.slice none 0 0)) := by rw [hW0]; exact ⟨by go_simp, by go_simp, by go_simp, by go_simp⟩
  have hb0 : Below w.heap.size w W0 := by rw [hW0]; exact below2 w _ _
  rw [← hW0]
  clear hW0
  have hbw : Below w.heap.size w w := Below.refl _ _
  obtain ⟨gr, hgr⟩ : ∃ g, g = w.heap.size + 1 := ⟨_, rfl⟩
  have HGr : Hid (w.heap.size ≤ gr) := by rw [hgr]; show _ ≤ _; omega
  rw [← hgr] at Xr
  try rw [← hgr]
  obtain ⟨gf, hgf⟩ : ∃ g, g = w.heap.size := ⟨_, rfl⟩
  have HGf : Hid (w.heap.size ≤ gf) := by rw [hgf]; show _ ≤ _; omega
  rw [← hgf] at Xf
  try rw [← hgf]
  have HGD : Hid (gf ≠ gr ∧ gr ≠ gf) := by rw [hgf, hgr]; exact ⟨by omega, by omega⟩
  clear hgf hgr
  replace hbw := Below.on hbw hb0
  clear hb0
  obtain ⟨W1, hW1⟩ : ∃ W1, W1 = W0.drew := ⟨_, rfl⟩
  have hbd : Below W0.heap.size W0 W1 := by rw [hW1]; exact bDrew1 (Below.refl _ _)
  replace Xf : Hid _ := Xf.out.below hbd
  replace Xr : Hid _ := Xr.out.below hbd
  replace hbw := Below.on hbw hbd
  clear hbd
  have HJ : Hid ((fun W' : World => W'.cell? ⟨gf, 0, none⟩ = some (.bool false) ∧ W'.cell? ⟨gf, 1, none⟩ = some (.slice none 0 0) ∧ W'.cell? ⟨gf, 2, none⟩ = some (.bool false) ∧ W'.cell? ⟨gf, 3, none⟩ = some (.int .i64 0)) W1) := ⟨Xf.out.c0, Xf.out.c1, Xf.out.c2, Xf.out.c3⟩
  refine wp_region_J (fun W' => W'.cell? ⟨gf, 0, none⟩ = some (.bool false) ∧ W'.cell? ⟨gf, 1, none⟩ = some (.slice none 0 0) ∧ W'.cell? ⟨gf, 2, none⟩ = some (.bool false) ∧ W'.cell? ⟨gf, 3, none⟩ = some (.int .i64 0)) (by kernel_rfl) ?_
  rw [← hW1]
  clear hW1
  refine wpJ_take (i := 0) (v := ?v1x0) rfl (by kernel_rfl) (by kernel_rfl) (by kernel_rfl) (fun _ _ _ h => h) (by kernel_rfl) ?hy1x0 HJ.out ?rest1x0
  case hy1x0 => (intro W' hJ; obtain ⟨j0, j1, j2, j3⟩ := hJ; go_simp; first | done | with_reducible rfl)
  refine wpJ_take (i := 1) (v := ?v2x1) rfl (by kernel_rfl) (by kernel_rfl) (by kernel_rfl) (fun _ _ _ h => h) (by kernel_rfl) ?hy2x1 HJ.out ?rest2x1
  case hy2x1 => (intro W' hJ; obtain ⟨j0, j1, j2, j3⟩ := hJ; go_simp; first | done | with_reducible rfl)
  refine wpJ_take (i := 2) (v := ?v3x2) rfl (by kernel_rfl) (by kernel_rfl) (by kernel_rfl) (fun _ _ _ h => h) (by kernel_rfl) ?hy3x2 HJ.out ?rest3x2
  case hy3x2 => (intro W' hJ; obtain ⟨j0, j1, j2, j3⟩ := hJ; go_simp; first | done | with_reducible rfl)
  refine wpJ_take (i := 3) (v := ?v4x3) rfl (by kernel_rfl) (by kernel_rfl) (by kernel_rfl) (fun _ _ _ h => h) (by kernel_rfl) ?hy4x3 HJ.out ?rest4x3
  case hy4x3 => (intro W' hJ; obtain ⟨j0, j1, j2, j3⟩ := hJ; go_simp; first | done | with_reducible rfl)
  refine wpJ_take (i := 4) (v := ?v5x4) rfl (by kernel_rfl) (by kernel_rfl) (by kernel_rfl) (fun _ _ _ h => h) (by kernel_rfl) ?hy5x4 HJ.out ?rest5x4
  case hy5x4 => (intro W' hJ; obtain ⟨j0, j1, j2, j3⟩ := hJ; go_simp; first | done | with_reducible rfl)
  refine wpJ_take (i := 5) (v := ?v6x5) rfl (by kernel_rfl) (by kernel_rfl) (by kernel_rfl) (fun _ _ _ h => h) (by kernel_rfl) ?hy6x5 HJ.out ?rest6x5
  case hy6x5 => (intro W' hJ; obtain ⟨j0, j1, j2, j3⟩ := hJ; go_simp; first | done | with_reducible rfl)
  refine wpJ_take (i := 6) (v := ?v7x6) rfl (by kernel_rfl) (by kernel_rfl) (by kernel_rfl) (fun _ _ _ h => h) (by kernel_rfl) ?hy7x6 HJ.out ?rest7x6
  case hy7x6 => (intro W' hJ; obtain ⟨j0, j1, j2, j3⟩ := hJ; go_simp; first | done | with_reducible rfl)
  refine wpJ_take (i := 7) (v := ?v8x7) rfl (by kernel_rfl) (by kernel_rfl) (by kernel_rfl) (fun _ _ _ h => h) (by kernel_rfl) ?hy8x7 HJ.out ?rest8x7
  case hy8x7 => (intro W' hJ; obtain ⟨j0, j1, j2, j3⟩ := hJ; go_simp; first | done | with_reducible rfl)
  refine wpJ_take (i := 8) (v := ?v9x8) rfl (by kernel_rfl) (by kernel_rfl) (by kernel_rfl) (fun _ _ _ h => h) (by kernel_rfl) ?hy9x8 HJ.out ?rest9x8
  case hy9x8 => (intro W' hJ; obtain ⟨j0, j1, j2, j3⟩ := hJ; go_simp; first | done | with_reducible rfl)
  refine wpJ_take (i := 9) (v := ?v10x9) rfl (by kernel_rfl) (by kernel_rfl) (by kernel_rfl) (fun _ _ _ h => h) (by kernel_rfl) ?hy10x9 HJ.out ?rest10x9
  case hy10x9 => (intro W' hJ; obtain ⟨j0, j1, j2, j3⟩ := hJ; go_simp; first | done | with_reducible rfl)
  refine wpJ_take (i := 10) (v := ?v11x10) rfl (by kernel_rfl) (by kernel_rfl) (by kernel_rfl) (fun _ _ _ h => h) (by kernel_rfl) ?hy11x10 HJ.out ?rest11x10
  case hy11x10 => (intro W' hJ; obtain ⟨j0, j1, j2, j3⟩ := hJ; go_simp; first | done | with_reducible rfl)
  refine wpJ_one (i := 11) (by kernel_rfl) rfl (by kernel_rfl) (fun KJ hK => ?_)
  go_simp
  refine (bit_int (xs := []) (i := 0) (At.empty _ none 0 (by decide)) (by decide) (by decide)).mono ?_
  rintro e w2 ⟨rfl, hw⟩
  obtain rfl := hw.symm
  clear hw
  rw [show bitO (valB B64 []) 0 = false from by unfold bitO; simp [valB]]
  clear HJ
  have HJ : Hid ((fun W' : World => W'.cell? ⟨gf, 0, none⟩ = some (.bool false) ∧ W'.cell? ⟨gf, 1, none⟩ = some (.slice none 0 0) ∧ W'.cell? ⟨gf, 2, none⟩ = some (.bool false) ∧ W'.cell? ⟨gf, 3, none⟩ = some (.int .i64 0)) W1) := ⟨Xf.out.c0, Xf.out.c1, Xf.out.c2, Xf.out.c3⟩
  refine hK _ _ HJ.out ?_
  clear hK
  refine wpJ_take (i := 12) (v := ?v12x12) rfl (by kernel_rfl) (by kernel_rfl) (by kernel_rfl) (fun _ _ _ h => h) (by kernel_rfl) ?hy12x12 HJ.out ?rest12x12
  case hy12x12 => (intro W' hJ; obtain ⟨j0, j1, j2, j3⟩ := hJ; go_simp; first | done | with_reducible rfl)
  refine wpJ_take (i := 13) (v := ?v13x13) rfl (by kernel_rfl) (by kernel_rfl) (by kernel_rfl) (fun _ _ _ h => h) (by kernel_rfl) ?hy13x13 HJ.out ?rest13x13
  case hy13x13 => (intro W' hJ; obtain ⟨j0, j1, j2, j3⟩ := hJ; go_simp; first | done | with_reducible rfl)
  refine wpJ_one (i := 14) (by kernel_rfl) rfl (by kernel_rfl) (fun KJ hK => ?_)
  go_simp
  refine (rounded_f none 0 false false 0 W1).mono ?_
  rintro e w9 ⟨rfl, hb9⟩
  rw [show (false && decide (0 < 0)) = false from rfl]
  replace Xf : Hid _ := Xf.out.below hb9
  replace Xr : Hid _ := Xr.out.below hb9
  replace hbw := Below.on hbw hb9
  clear hb9
  refine hK _ _ ⟨Xf.out.c0, Xf.out.c1, Xf.out.c2, Xf.out.c3⟩ ?_
  clear hK
  obtain ⟨cr0, cr1, fr0, fr1⟩ := Xr.out
  have hner := Xr.out.lt
  obtain ⟨cf0, cf1, cf2, cf3, ff0, ff1, ff2, ff3⟩ := Xf.out
  have hnef : gf < w9.heap.size := World.block_lt_of_cell? w9 _ cf0
  obtain ⟨hgd0, hgd1⟩ := HGD.out
  refine wpJ_one (i := 15) (by kernel_rfl) rfl (by kernel_rfl) (fun KJ hK => ?_)
  go_simp
  have HJ2 : Hid ((fun W' : World => W'.cell? ⟨gf, 0, none⟩ = some (.bool false) ∧ W'.cell? ⟨gf, 1, none⟩ = some (.slice none 0 0) ∧ W'.cell? ⟨gf, 2, none⟩ = some (.bool false) ∧ W'.cell? ⟨gf, 3, none⟩ = some (.int .i64 0)) ((w9.setCell ⟨gr, 0, none⟩ (.bool false)).setCell ⟨gr, 1, none⟩ (.slice none 0 0))) := ⟨by go_simp, by go_simp, by go_simp, by go_simp⟩
  refine hK _ _ HJ2.out ?_
  clear hK HJ
  have HJ := HJ2
  clear HJ2
  refine wpJ_done (by kernel_rfl) ?_ _
  clear HJ
  go_wp2_with fail
  refine bodyPost_ret (v := ZV false none 0 0) (by rw [results_cell1 rfl]; go_simp) rfl ⟨rfl, ?_⟩
  exact bSet (bSet hbw _ _ _ HGr.out) _ _ _ HGr.out
theorem ansz_none (B : Nat) (w : World) : AnsZ B w (ZV false none 0 0) 0 := ⟨none, 0, [], rfl, ⟨rfl, Dig.nil _, .inl rfl⟩, Nf.nil _, by omega⟩
set_option maxRecDepth 20000 in
set_option maxHeartbeats 4000000 in
theorem divided_bad1 {p q : Option Addr} {m c n d : Nat} {xs ys : List Nat} {w : World} (s t : Bool) (h : At w p m c xs) (k : At w q n d ys) (hf : formZ s xs = false)  :
    Calls Tryz.prog 37 #[ZV s p m c, ZV t q n d] w fun e w' => e = .returned (.tuple #[FR false none 0 0 false 0, .int .i64 2]) ∧ Below w.heap.size w w' := by
  have H : Hid (At w p m c xs) := h
  have K : Hid (At w q n d ys) := k
  have HF : Hid (formZ s xs = false) := hf
  clear h k hf
  go_enter Tryz.func37, Tryz.ntmps37
  go_wp2_with fail
  obtain ⟨W0, hW0⟩ : ∃ W0, W0 = (((w.alloc (.cells #[.bool s, .slice p m c] 28)).alloc (.cells #[.bool t, .slice q n d] 28)).alloc (.cells #[.bool false, .slice none 0 0, .bool false, .int .i64 0] 59)) := ⟨_, rfl⟩
  have Xx : Hid (Box W0 (w.heap.size) (.bool s) (.slice p m c)) := by rw [hW0]; exact ⟨by go_simp, by go_simp, by go_simp, by go_simp⟩
  have Xy : Hid (Box W0 (w.heap.size + 1) (.bool t) (.slice q n d)) := by rw [hW0]; exact ⟨by go_simp, by go_simp, by go_simp, by go_simp⟩
  have Xr : Hid (B4q W0 (w.heap.size + 1 + 1) (.bool false) (.slice none 0 0) (.bool false) (.int .i64 0)) := by rw [hW0]; exact ⟨by go_simp, by go_simp, by go_simp, by go_simp, by go_simp, by go_simp, by go_simp, by go_simp⟩
  have hb0 : Below w.heap.size w W0 := by rw [hW0]; exact below3 w _ _ _
  rw [← hW0]
  clear hW0
  have hbw : Below w.heap.size w w := Below.refl _ _
  obtain ⟨gr, hgr⟩ : ∃ g, g = w.heap.size + 1 + 1 := ⟨_, rfl⟩
  have HGr : Hid (w.heap.size ≤ gr) := by rw [hgr]; show _ ≤ _; omega
  rw [← hgr] at Xr
  try rw [← hgr]
  obtain ⟨gy, hgy⟩ : ∃ g, g = w.heap.size + 1 := ⟨_, rfl⟩
  have HGy : Hid (w.heap.size ≤ gy) := by rw [hgy]; show _ ≤ _; omega
  rw [← hgy] at Xy
  try rw [← hgy]
  obtain ⟨gx, hgx⟩ : ∃ g, g = w.heap.size := ⟨_, rfl⟩
  have HGx : Hid (w.heap.size ≤ gx) := by rw [hgx]; show _ ≤ _; omega
  rw [← hgx] at Xx
  try rw [← hgx]
  have HGD : Hid (gx ≠ gy ∧ gx ≠ gr ∧ gy ≠ gx ∧ gy ≠ gr ∧ gr ≠ gx ∧ gr ≠ gy) := by rw [hgx, hgy, hgr]; exact ⟨by omega, by omega, by omega, by omega, by omega, by omega⟩
  clear hgx hgy hgr
  replace H : Hid _ := H.out.below hb0
  replace K : Hid _ := K.out.below hb0
  replace hbw := Below.on hbw hb0
  clear hb0
  refine (numform_f s H.out HF.out).mono ?_
  rintro e w1 ⟨rfl, hb1⟩
  replace Xx : Hid _ := Xx.out.below hb1
  replace Xy : Hid _ := Xy.out.below hb1
  replace Xr : Hid _ := Xr.out.below hb1
  replace H : Hid _ := H.out.below hb1
  replace K : Hid _ := K.out.below hb1
  replace hbw := Below.on hbw hb1
  clear hb1
  obtain ⟨cr0, cr1, cr2, cr3, fr0, fr1, fr2, fr3⟩ := Xr.out
  have hner : gr < w1.heap.size := World.block_lt_of_cell? w1 _ cr0
  go_wp2_with fail
  refine bodyPost_ret (v := .tuple #[FR false none 0 0 false 0, .int .i64 2]) (by rw [results_cell_tmp rfl]; go_simp) rfl ⟨rfl, ?_⟩
  exact bSet4 hbw _ _ _ _ _ HGr.out
set_option maxRecDepth 20000 in
set_option maxHeartbeats 4000000 in
theorem divided_bad2 {p q : Option Addr} {m c n d : Nat} {xs ys : List Nat} {w : World} (s t : Bool) (h : At w p m c xs) (k : At w q n d ys) (hf : formZ s xs = true) (kf : formZ t ys = false) :
    Calls Tryz.prog 37 #[ZV s p m c, ZV t q n d] w fun e w' => e = .returned (.tuple #[FR false none 0 0 false 0, .int .i64 2]) ∧ Below w.heap.size w w' := by
  have H : Hid (At w p m c xs) := h
  have K : Hid (At w q n d ys) := k
  have HF : Hid (formZ s xs = true) := hf
  have KF : Hid (formZ t ys = false) := kf
  clear h k hf kf
  go_enter Tryz.func37, Tryz.ntmps37
  go_wp2_with fail
  obtain ⟨W0, hW0⟩ : ∃ W0, W0 = (((w.alloc (.cells #[.bool s, .slice p m c] 28)).alloc (.cells #[.bool t, .slice q n d] 28)).alloc (.cells #[.bool false, .slice none 0 0, .bool false, .int .i64 0] 59)) := ⟨_, rfl⟩
  have Xx : Hid (Box W0 (w.heap.size) (.bool s) (.slice p m c)) := by rw [hW0]; exact ⟨by go_simp, by go_simp, by go_simp, by go_simp⟩
  have Xy : Hid (Box W0 (w.heap.size + 1) (.bool t) (.slice q n d)) := by rw [hW0]; exact ⟨by go_simp, by go_simp, by go_simp, by go_simp⟩
  have Xr : Hid (B4q W0 (w.heap.size + 1 + 1) (.bool false) (.slice none 0 0) (.bool false) (.int .i64 0)) := by rw [hW0]; exact ⟨by go_simp, by go_simp, by go_simp, by go_simp, by go_simp, by go_simp, by go_simp, by go_simp⟩
  have hb0 : Below w.heap.size w W0 := by rw [hW0]; exact below3 w _ _ _
  rw [← hW0]
  clear hW0
  have hbw : Below w.heap.size w w := Below.refl _ _
  obtain ⟨gr, hgr⟩ : ∃ g, g = w.heap.size + 1 + 1 := ⟨_, rfl⟩
  have HGr : Hid (w.heap.size ≤ gr) := by rw [hgr]; show _ ≤ _; omega
  rw [← hgr] at Xr
  try rw [← hgr]
  obtain ⟨gy, hgy⟩ : ∃ g, g = w.heap.size + 1 := ⟨_, rfl⟩
  have HGy : Hid (w.heap.size ≤ gy) := by rw [hgy]; show _ ≤ _; omega
  rw [← hgy] at Xy
  try rw [← hgy]
  obtain ⟨gx, hgx⟩ : ∃ g, g = w.heap.size := ⟨_, rfl⟩
  have HGx : Hid (w.heap.size ≤ gx) := by rw [hgx]; show _ ≤ _; omega
  rw [← hgx] at Xx
  try rw [← hgx]
  have HGD : Hid (gx ≠ gy ∧ gx ≠ gr ∧ gy ≠ gx ∧ gy ≠ gr ∧ gr ≠ gx ∧ gr ≠ gy) := by rw [hgx, hgy, hgr]; exact ⟨by omega, by omega, by omega, by omega, by omega, by omega⟩
  clear hgx hgy hgr
  replace H : Hid _ := H.out.below hb0
  replace K : Hid _ := K.out.below hb0
  replace hbw := Below.on hbw hb0
  clear hb0
  refine (numform_g s H.out HF.out).mono ?_
  rintro e w1 ⟨rfl, hb1⟩
  replace Xx : Hid _ := Xx.out.below hb1
  replace Xy : Hid _ := Xy.out.below hb1
  replace Xr : Hid _ := Xr.out.below hb1
  replace H : Hid _ := H.out.below hb1
  replace K : Hid _ := K.out.below hb1
  replace hbw := Below.on hbw hb1
  clear hb1
  obtain ⟨cy0, cy1, fy0, fy1⟩ := Xy.out
  have hney := Xy.out.lt
  go_wp2_with fail
  clear cy0 cy1 fy0 fy1 hney
  refine (numform_f t K.out KF.out).mono ?_
  rintro e w2 ⟨rfl, hb2⟩
  replace Xx : Hid _ := Xx.out.below hb2
  replace Xy : Hid _ := Xy.out.below hb2
  replace Xr : Hid _ := Xr.out.below hb2
  replace H : Hid _ := H.out.below hb2
  replace K : Hid _ := K.out.below hb2
  replace hbw := Below.on hbw hb2
  clear hb2
  obtain ⟨cr0, cr1, cr2, cr3, fr0, fr1, fr2, fr3⟩ := Xr.out
  have hner : gr < w2.heap.size := World.block_lt_of_cell? w2 _ cr0
  go_wp2_with fail
  refine bodyPost_ret (v := .tuple #[FR false none 0 0 false 0, .int .i64 2]) (by rw [results_cell_tmp rfl]; go_simp) rfl ⟨rfl, ?_⟩
  exact bSet4 hbw _ _ _ _ _ HGr.out
set_option maxRecDepth 20000 in
set_option maxHeartbeats 4000000 in
theorem nmod_bad1 {p q : Option Addr} {m c n d : Nat} {xs ys : List Nat} {w : World} (s t : Bool) (h : At w p m c xs) (k : At w q n d ys) (hf : formZ s xs = false)  :
    Calls Tryz.prog 19 #[ZV s p m c, ZV t q n d] w fun e w' => e = .returned (.tuple #[ZV false none 0 0, .int .i64 2]) ∧ Below w.heap.size w w' := by
  have H : Hid (At w p m c xs) := h
  have K : Hid (At w q n d ys) := k
  have HF : Hid (formZ s xs = false) := hf
  clear h k hf
  go_enter Tryz.func19, Tryz.ntmps19
  go_wp2_with fail
  obtain ⟨W0, hW0⟩ : ∃ W0, W0 = (((w.alloc (.cells #[.bool s, .slice p m c] 28)).alloc (.cells #[.bool t, .slice q n d] 28)).alloc (.cells #[.bool false, .slice none 0 0] 28)) := ⟨_, rfl⟩
  have Xx : Hid (Box W0 (w.heap.size) (.bool s) (.slice p m c)) := by rw [hW0]; exact ⟨by go_simp, by go_simp, by go_simp, by go_simp⟩
  have Xy : Hid (Box W0 (w.heap.size + 1) (.bool t) (.slice q n d)) := by rw [hW0]; exact ⟨by go_simp, by go_simp, by go_simp, by go_simp⟩
  have Xr : Hid (Box W0 (w.heap.size + 1 + 1) (.bool false) (.slice none 0 0)) := by rw [hW0]; exact ⟨by go_simp, by go_simp, by go_simp, by go_simp⟩
  have hb0 : Below w.heap.size w W0 := by rw [hW0]; exact below3 w _ _ _
  rw [← hW0]
  clear hW0
  have hbw : Below w.heap.size w w := Below.refl _ _
  obtain ⟨gr, hgr⟩ : ∃ g, g = w.heap.size + 1 + 1 := ⟨_, rfl⟩
  have HGr : Hid (w.heap.size ≤ gr) := by rw [hgr]; show _ ≤ _; omega
  rw [← hgr] at Xr
  try rw [← hgr]
  obtain ⟨gy, hgy⟩ : ∃ g, g = w.heap.size + 1 := ⟨_, rfl⟩
  have HGy : Hid (w.heap.size ≤ gy) := by rw [hgy]; show _ ≤ _; omega
  rw [← hgy] at Xy
  try rw [← hgy]
  obtain ⟨gx, hgx⟩ : ∃ g, g = w.heap.size := ⟨_, rfl⟩
  have HGx : Hid (w.heap.size ≤ gx) := by rw [hgx]; show _ ≤ _; omega
  rw [← hgx] at Xx
  try rw [← hgx]
  have HGD : Hid (gx ≠ gy ∧ gx ≠ gr ∧ gy ≠ gx ∧ gy ≠ gr ∧ gr ≠ gx ∧ gr ≠ gy) := by rw [hgx, hgy, hgr]; exact ⟨by omega, by omega, by omega, by omega, by omega, by omega⟩
  clear hgx hgy hgr
  replace H : Hid _ := H.out.below hb0
  replace K : Hid _ := K.out.below hb0
  replace hbw := Below.on hbw hb0
  clear hb0
  refine (numform_f s H.out HF.out).mono ?_
  rintro e w1 ⟨rfl, hb1⟩
  replace Xx : Hid _ := Xx.out.below hb1
  replace Xy : Hid _ := Xy.out.below hb1
  replace Xr : Hid _ := Xr.out.below hb1
  replace H : Hid _ := H.out.below hb1
  replace K : Hid _ := K.out.below hb1
  replace hbw := Below.on hbw hb1
  clear hb1
  obtain ⟨cr0, cr1, fr0, fr1⟩ := Xr.out
  have hner := Xr.out.lt
  go_wp2_with fail
  refine bodyPost_ret (v := .tuple #[ZV false none 0 0, .int .i64 2]) (by rw [results_cell_tmp rfl]; go_simp) rfl ⟨rfl, ?_⟩
  exact bSet (bSet hbw _ _ _ HGr.out) _ _ _ HGr.out
set_option maxRecDepth 20000 in
set_option maxHeartbeats 4000000 in
theorem nmod_bad2 {p q : Option Addr} {m c n d : Nat} {xs ys : List Nat} {w : World} (s t : Bool) (h : At w p m c xs) (k : At w q n d ys) (hf : formZ s xs = true) (kf : formZ t ys = false) :
    Calls Tryz.prog 19 #[ZV s p m c, ZV t q n d] w fun e w' => e = .returned (.tuple #[ZV false none 0 0, .int .i64 2]) ∧ Below w.heap.size w w' := by
  have H : Hid (At w p m c xs) := h
  have K : Hid (At w q n d ys) := k
  have HF : Hid (formZ s xs = true) := hf
  have KF : Hid (formZ t ys = false) := kf
  clear h k hf kf
  go_enter Tryz.func19, Tryz.ntmps19
  go_wp2_with fail
  obtain ⟨W0, hW0⟩ : ∃ W0, W0 = (((w.alloc (.cells #[.bool s, .slice p m c] 28)).alloc (.cells #[.bool t, .slice q n d] 28)).alloc (.cells #[.bool false, .slice none 0 0] 28)) := ⟨_, rfl⟩
  have Xx : Hid (Box W0 (w.heap.size) (.bool s) (.slice p m c)) := by rw [hW0]; exact ⟨by go_simp, by go_simp, by go_simp, by go_simp⟩
  have Xy : Hid (Box W0 (w.heap.size + 1) (.bool t) (.slice q n d)) := by rw [hW0]; exact ⟨by go_simp, by go_simp, by go_simp, by go_simp⟩
  have Xr : Hid (Box W0 (w.heap.size + 1 + 1) (.bool false) (.slice none 0 0)) := by rw [hW0]; exact ⟨by go_simp, by go_simp, by go_simp, by go_simp⟩
  have hb0 : Below w.heap.size w W0 := by rw [hW0]; exact below3 w _ _ _
  rw [← hW0]
  clear hW0
  have hbw : Below w.heap.size w w := Below.refl _ _
  obtain ⟨gr, hgr⟩ : ∃ g, g = w.heap.size + 1 + 1 := ⟨_, rfl⟩
  have HGr : Hid (w.heap.size ≤ gr) := by rw [hgr]; show _ ≤ _; omega
  rw [← hgr] at Xr
  try rw [← hgr]
  obtain ⟨gy, hgy⟩ : ∃ g, g = w.heap.size + 1 := ⟨_, rfl⟩
  have HGy : Hid (w.heap.size ≤ gy) := by rw [hgy]; show _ ≤ _; omega
  rw [← hgy] at Xy
  try rw [← hgy]
  obtain ⟨gx, hgx⟩ : ∃ g, g = w.heap.size := ⟨_, rfl⟩
  have HGx : Hid (w.heap.size ≤ gx) := by rw [hgx]; show _ ≤ _; omega
  rw [← hgx] at Xx
  try rw [← hgx]
  have HGD : Hid (gx ≠ gy ∧ gx ≠ gr ∧ gy ≠ gx ∧ gy ≠ gr ∧ gr ≠ gx ∧ gr ≠ gy) := by rw [hgx, hgy, hgr]; exact ⟨by omega, by omega, by omega, by omega, by omega, by omega⟩
  clear hgx hgy hgr
  replace H : Hid _ := H.out.below hb0
  replace K : Hid _ := K.out.below hb0
  replace hbw := Below.on hbw hb0
  clear hb0
  refine (numform_g s H.out HF.out).mono ?_
  rintro e w1 ⟨rfl, hb1⟩
  replace Xx : Hid _ := Xx.out.below hb1
  replace Xy : Hid _ := Xy.out.below hb1
  replace Xr : Hid _ := Xr.out.below hb1
  replace H : Hid _ := H.out.below hb1
  replace K : Hid _ := K.out.below hb1
  replace hbw := Below.on hbw hb1
  clear hb1
  obtain ⟨cy0, cy1, fy0, fy1⟩ := Xy.out
  have hney := Xy.out.lt
  go_wp2_with fail
  clear cy0 cy1 fy0 fy1 hney
  refine (numform_f t K.out KF.out).mono ?_
  rintro e w2 ⟨rfl, hb2⟩
  replace Xx : Hid _ := Xx.out.below hb2
  replace Xy : Hid _ := Xy.out.below hb2
  replace Xr : Hid _ := Xr.out.below hb2
  replace H : Hid _ := H.out.below hb2
  replace K : Hid _ := K.out.below hb2
  replace hbw := Below.on hbw hb2
  clear hb2
  obtain ⟨cr0, cr1, fr0, fr1⟩ := Xr.out
  have hner := Xr.out.lt
  go_wp2_with fail
  refine bodyPost_ret (v := .tuple #[ZV false none 0 0, .int .i64 2]) (by rw [results_cell_tmp rfl]; go_simp) rfl ⟨rfl, ?_⟩
  exact bSet (bSet hbw _ _ _ HGr.out) _ _ _ HGr.out
set_option maxRecDepth 20000 in
set_option maxHeartbeats 4000000 in
theorem nmod_zero {p q : Option Addr} {m c n d : Nat} {xs ys : List Nat} {a b : Nat} {w : World} (s : Bool) (h : Num w p m c xs a) (hs : s = true → 0 < a) (k : Num w q n d ys b) (hb : b = 0) :
    Calls Tryz.prog 19 #[ZV s p m c, ZV false q n d] w fun e w' => e = .returned (.tuple #[ZV false none 0 0, .int .i64 4]) ∧ Below w.heap.size w w' := by
  have H : Hid (Num w p m c xs a) := h
  have HS : Hid (s = true → 0 < a) := hs
  have K : Hid (Num w q n d ys b) := k
  have HB0 : Hid (b = 0) := hb
  clear h hs k hb
  go_enter Tryz.func19, Tryz.ntmps19
  go_wp2_with fail
  obtain ⟨W0, hW0⟩ : ∃ W0, W0 = (((w.alloc (.cells #[.bool s, .slice p m c] 28)).alloc (.cells #[.bool false, .slice q n d] 28)).alloc (.cells #[.bool false, .slice none 0 0] 28)) := ⟨_, rfl⟩
  have Xx : Hid (Box W0 (w.heap.size) (.bool s) (.slice p m c)) := by rw [hW0]; exact ⟨by go_simp, by go_simp, by go_simp, by go_simp⟩
  have Xy : Hid (Box W0 (w.heap.size + 1) (.bool false) (.slice q n d)) := by rw [hW0]; exact ⟨by go_simp, by go_simp, by go_simp, by go_simp⟩
  have Xr : Hid (Box W0 (w.heap.size + 1 + 1) (.bool false) (.slice none 0 0)) := by rw [hW0]; exact ⟨by go_simp, by go_simp, by go_simp, by go_simp⟩
  have hb0 : Below w.heap.size w W0 := by rw [hW0]; exact below3 w _ _ _
  rw [← hW0]
  clear hW0
  have hbw : Below w.heap.size w w := Below.refl _ _
  obtain ⟨gr, hgr⟩ : ∃ g, g = w.heap.size + 1 + 1 := ⟨_, rfl⟩
  have HGr : Hid (w.heap.size ≤ gr) := by rw [hgr]; show _ ≤ _; omega
  rw [← hgr] at Xr
  try rw [← hgr]
  obtain ⟨gy, hgy⟩ : ∃ g, g = w.heap.size + 1 := ⟨_, rfl⟩
  have HGy : Hid (w.heap.size ≤ gy) := by rw [hgy]; show _ ≤ _; omega
  rw [← hgy] at Xy
  try rw [← hgy]
  obtain ⟨gx, hgx⟩ : ∃ g, g = w.heap.size := ⟨_, rfl⟩
  have HGx : Hid (w.heap.size ≤ gx) := by rw [hgx]; show _ ≤ _; omega
  rw [← hgx] at Xx
  try rw [← hgx]
  have HGD : Hid (gx ≠ gy ∧ gx ≠ gr ∧ gy ≠ gx ∧ gy ≠ gr ∧ gr ≠ gx ∧ gr ≠ gy) := by rw [hgx, hgy, hgr]; exact ⟨by omega, by omega, by omega, by omega, by omega, by omega⟩
  clear hgx hgy hgr
  replace H : Hid _ := H.out.below hb0
  replace K : Hid _ := K.out.below hb0
  replace hbw := Below.on hbw hb0
  clear hb0
  refine (numform_t s H.out HS.out).mono ?_
  rintro e w1 ⟨rfl, hb1⟩
  replace Xx : Hid _ := Xx.out.below hb1
  replace Xy : Hid _ := Xy.out.below hb1
  replace Xr : Hid _ := Xr.out.below hb1
  replace H : Hid _ := H.out.below hb1
  replace K : Hid _ := K.out.below hb1
  replace hbw := Below.on hbw hb1
  clear hb1
  obtain ⟨cy0, cy1, fy0, fy1⟩ := Xy.out
  have hney := Xy.out.lt
  go_wp2_with fail
  clear cy0 cy1 fy0 fy1 hney
  refine (numform_t false K.out (fun hh => by cases hh)).mono ?_
  rintro e w2 ⟨rfl, hb2⟩
  replace Xx : Hid _ := Xx.out.below hb2
  replace Xy : Hid _ := Xy.out.below hb2
  replace Xr : Hid _ := Xr.out.below hb2
  replace H : Hid _ := H.out.below hb2
  replace K : Hid _ := K.out.below hb2
  replace hbw := Below.on hbw hb2
  clear hb2
  obtain ⟨cx0, cx1, fx0, fx1⟩ := Xx.out
  have hnex := Xx.out.lt
  obtain ⟨cy0, cy1, fy0, fy1⟩ := Xy.out
  have hney := Xy.out.lt
  go_wp2_with fail
  clear cx0 cx1 fx0 fx1 hnex
  clear cy0 cy1 fy0 fy1 hney
  refine (quorem_zero H.out.at_ K.out.at_ H.out.nf K.out.nf H.out.le K.out.le HB0.out).mono ?_
  rintro e w3 ⟨rfl, hw⟩
  obtain rfl := hw.symm
  clear hw
  obtain ⟨cy0, cy1, fy0, fy1⟩ := Xy.out
  have hney := Xy.out.lt
  go_wp2_with fail
  clear cy0 cy1 fy0 fy1 hney
  refine (signed_any false none 0 0 w2).mono ?_
  rintro e w6 ⟨rfl, hb6⟩
  rw [show (false && decide (0 < 0)) = false from rfl]
  replace Xx : Hid _ := Xx.out.below hb6
  replace Xy : Hid _ := Xy.out.below hb6
  replace Xr : Hid _ := Xr.out.below hb6
  replace H : Hid _ := H.out.below hb6
  replace K : Hid _ := K.out.below hb6
  replace hbw := Below.on hbw hb6
  clear hb6
  obtain ⟨cr0, cr1, fr0, fr1⟩ := Xr.out
  have hner := Xr.out.lt
  go_wp2_with fail
  refine bodyPost_ret (v := .tuple #[ZV false none 0 0, .int .i64 4]) (by rw [results_cell_tmp rfl]; go_simp) rfl ⟨rfl, ?_⟩
  exact bSet (bSet hbw _ _ _ HGr.out) _ _ _ HGr.out
set_option maxRecDepth 20000 in
set_option maxHeartbeats 4000000 in
theorem fdiv_err {p q : Option Addr} {m c n d : Nat} {s t : Bool} {w : World} (er : Int) (hi : ∀ W, Below w.heap.size w W → Calls Tryz.prog 37 #[ZV s p m c, ZV t q n d] W fun e w' => e = .returned (.tuple #[FR false none 0 0 false 0, .int .i64 er]) ∧ Below W.heap.size W w') :
    Calls Tryz.prog 17 #[ZV s p m c, ZV t q n d] w fun e w' => ∃ v, e = .returned (.tuple #[v, .int .i64 er]) ∧ AnsZ w.heap.size w' v 0 ∧ Below w.heap.size w w' := by
  have HI : Hid (∀ W, Below w.heap.size w W → Calls Tryz.prog 37 #[ZV s p m c, ZV t q n d] W fun e w' => e = .returned (.tuple #[FR false none 0 0 false 0, .int .i64 er]) ∧ Below W.heap.size W w') := hi
  obtain ⟨z, hz⟩ : ∃ z, z = (0 : Int) := ⟨_, rfl⟩
  rw [← hz]
  have HZ : Hid (z = fl false 0 0) := hz
  clear hi hz
  go_enter Tryz.func17, Tryz.ntmps17
  go_wp2_with fail
  obtain ⟨W0, hW0⟩ : ∃ W0, W0 = (((w.alloc (.cells #[.bool s, .slice p m c] 28)).alloc (.cells #[.bool t, .slice q n d] 28)).alloc (.cells #[.bool false, .slice none 0 0] 28)) := ⟨_, rfl⟩
  have Xx : Hid (Box W0 (w.heap.size) (.bool s) (.slice p m c)) := by rw [hW0]; exact ⟨by go_simp, by go_simp, by go_simp, by go_simp⟩
  have Xy : Hid (Box W0 (w.heap.size + 1) (.bool t) (.slice q n d)) := by rw [hW0]; exact ⟨by go_simp, by go_simp, by go_simp, by go_simp⟩
  have Xr : Hid (Box W0 (w.heap.size + 1 + 1) (.bool false) (.slice none 0 0)) := by rw [hW0]; exact ⟨by go_simp, by go_simp, by go_simp, by go_simp⟩
  have hb0 : Below w.heap.size w W0 := by rw [hW0]; exact below3 w _ _ _
  rw [← hW0]
  clear hW0
  have hbw : Below w.heap.size w w := Below.refl _ _
  obtain ⟨gr, hgr⟩ : ∃ g, g = w.heap.size + 1 + 1 := ⟨_, rfl⟩
  have HGr : Hid (w.heap.size ≤ gr) := by rw [hgr]; show _ ≤ _; omega
  rw [← hgr] at Xr
  try rw [← hgr]
  obtain ⟨gy, hgy⟩ : ∃ g, g = w.heap.size + 1 := ⟨_, rfl⟩
  have HGy : Hid (w.heap.size ≤ gy) := by rw [hgy]; show _ ≤ _; omega
  rw [← hgy] at Xy
  try rw [← hgy]
  obtain ⟨gx, hgx⟩ : ∃ g, g = w.heap.size := ⟨_, rfl⟩
  have HGx : Hid (w.heap.size ≤ gx) := by rw [hgx]; show _ ≤ _; omega
  rw [← hgx] at Xx
  try rw [← hgx]
  have HGD : Hid (gx ≠ gy ∧ gx ≠ gr ∧ gy ≠ gx ∧ gy ≠ gr ∧ gr ≠ gx ∧ gr ≠ gy) := by rw [hgx, hgy, hgr]; exact ⟨by omega, by omega, by omega, by omega, by omega, by omega⟩
  clear hgx hgy hgr
  replace hbw := Below.on hbw hb0
  clear hb0
  have HSZ : Hid (GeW W0.heap.size W0) := Nat.le_refl _
  have HRL : Hid (gr < W0.heap.size ∧ w.heap.size ≤ W0.heap.size) := ⟨Xr.out.lt, hbw.size⟩
  refine (HI.out W0 hbw).mono ?_
  rintro e w2 ⟨rfl, hb2⟩
  replace Xx : Hid _ := Xx.out.below hb2
  replace Xy : Hid _ := Xy.out.below hb2
  replace Xr : Hid _ := Xr.out.below hb2
  replace HSZ : Hid (GeW W0.heap.size w2) := HSZ.out.below hb2
  replace hbw := Below.on hbw hb2
  clear hb2
  have HF : Hid (FrIs W0.heap.size w2 false 0 0 none 0 [] false 0) := ⟨⟨rfl, Dig.nil _, .inl rfl⟩, Nf.nil _, by omega, rfl, .inr (.inl ⟨rfl, rfl⟩), small_lim (by decide)⟩
  obtain ⟨cr0, cr1, fr0, fr1⟩ := Xr.out
  have hner := Xr.out.lt
  go_wp2_with fail
  clear cr0 cr1 fr0 fr1 hner
  have Xf0 : Hid (B4q (w2.alloc (.cells #[.bool false, .slice none 0 0, .bool false, .int .i64 0] 59)) w2.heap.size (.bool false) (.slice none 0 0) (.bool false) (.int .i64 0)) := B4q.new w2 _ _ _ _ _
  have hbn : Below w2.heap.size w2 (w2.alloc (.cells #[.bool false, .slice none 0 0, .bool false, .int .i64 0] 59)) := below1 w2 _
  generalize w2.alloc (.cells #[.bool false, .slice none 0 0, .bool false, .int .i64 0] 59) = W3 at *
  have HGf : Hid (w.heap.size ≤ w2.heap.size) := hbw.size
  replace Xx : Hid _ := Xx.out.below hbn
  replace Xy : Hid _ := Xy.out.below hbn
  replace Xr : Hid _ := Xr.out.below hbn
  replace HSZ : Hid (GeW W0.heap.size W3) := HSZ.out.below hbn
  replace HF : Hid _ := HF.out.below hbn
  replace hbw := Below.on hbw hbn
  clear hbn
  generalize w2.heap.size = gf at *
  have Xf := Xf0
  clear Xf0
  have hBs : W0.heap.size ≤ W3.heap.size := HSZ.out
  refine (floor_any false false 0 HF.out hBs).mono ?_
  rintro e w4 ⟨v, rfl, hv, hb4⟩
  clear hBs
  rw [← HZ.out] at hv
  obtain ⟨p4, m4, z4, rfl, ho, hn, hm⟩ := hv
  replace Xx : Hid _ := Xx.out.below hb4
  replace Xy : Hid _ := Xy.out.below hb4
  replace Xr : Hid _ := Xr.out.below hb4
  replace Xf : Hid _ := Xf.out.below hb4
  replace HSZ : Hid (GeW W0.heap.size w4) := HSZ.out.below hb4
  replace HF : Hid _ := HF.out.below hb4
  replace hbw := Below.on hbw hb4
  clear hb4
  have HO4 : Hid (Own W0.heap.size w4 p4 m4 z4) := ho
  have HN4 : Hid (Nf B64 z4 z.natAbs ∧ m4 ≤ 8192) := ⟨hn, hm⟩
  clear ho hn hm
  obtain ⟨b9, hb9⟩ : ∃ b, b = decide (z < 0) := ⟨_, rfl⟩
  rw [← hb9]
  have HB9 : Hid (b9 = decide (z < 0)) := hb9
  clear hb9
  obtain ⟨cr0, cr1, fr0, fr1⟩ := Xr.out
  have hner := Xr.out.lt
  go_wp2_with fail
  refine bodyPost_ret (v := .tuple #[ZV b9 p4 m4 m4, .int .i64 er]) (by rw [results_cell_tmp rfl]; go_simp) rfl ⟨_, rfl, ⟨p4, m4, z4, by rw [HB9.out], ?_, HN4.out.1, HN4.out.2⟩, ?_⟩
  · exact own_set2 HO4.out HRL.out.1 HRL.out.2 _ _
  · exact bSet (bSet hbw _ _ _ HGr.out) _ _ _ HGr.out
set_option maxRecDepth 20000 in
set_option maxHeartbeats 4000000 in
theorem cdiv_err {p q : Option Addr} {m c n d : Nat} {s t : Bool} {w : World} (er : Int) (hi : ∀ W, Below w.heap.size w W → Calls Tryz.prog 37 #[ZV s p m c, ZV t q n d] W fun e w' => e = .returned (.tuple #[FR false none 0 0 false 0, .int .i64 er]) ∧ Below W.heap.size W w') :
    Calls Tryz.prog 65 #[ZV s p m c, ZV t q n d] w fun e w' => ∃ v, e = .returned (.tuple #[v, .int .i64 er]) ∧ AnsZ w.heap.size w' v 0 ∧ Below w.heap.size w w' := by
  have HI : Hid (∀ W, Below w.heap.size w W → Calls Tryz.prog 37 #[ZV s p m c, ZV t q n d] W fun e w' => e = .returned (.tuple #[FR false none 0 0 false 0, .int .i64 er]) ∧ Below W.heap.size W w') := hi
  obtain ⟨z, hz⟩ : ∃ z, z = (0 : Int) := ⟨_, rfl⟩
  rw [← hz]
  have HZ : Hid (z = ce false 0 0) := hz
  clear hi hz
  go_enter Tryz.func65, Tryz.ntmps65
  go_wp2_with fail
  obtain ⟨W0, hW0⟩ : ∃ W0, W0 = (((w.alloc (.cells #[.bool s, .slice p m c] 28)).alloc (.cells #[.bool t, .slice q n d] 28)).alloc (.cells #[.bool false, .slice none 0 0] 28)) := ⟨_, rfl⟩
  have Xx : Hid (Box W0 (w.heap.size) (.bool s) (.slice p m c)) := by rw [hW0]; exact ⟨by go_simp, by go_simp, by go_simp, by go_simp⟩
  have Xy : Hid (Box W0 (w.heap.size + 1) (.bool t) (.slice q n d)) := by rw [hW0]; exact ⟨by go_simp, by go_simp, by go_simp, by go_simp⟩
  have Xr : Hid (Box W0 (w.heap.size + 1 + 1) (.bool false) (.slice none 0 0)) := by rw [hW0]; exact ⟨by go_simp, by go_simp, by go_simp, by go_simp⟩
  have hb0 : Below w.heap.size w W0 := by rw [hW0]; exact below3 w _ _ _
  rw [← hW0]
  clear hW0
  have hbw : Below w.heap.size w w := Below.refl _ _
  obtain ⟨gr, hgr⟩ : ∃ g, g = w.heap.size + 1 + 1 := ⟨_, rfl⟩
  have HGr : Hid (w.heap.size ≤ gr) := by rw [hgr]; show _ ≤ _; omega
  rw [← hgr] at Xr
  try rw [← hgr]
  obtain ⟨gy, hgy⟩ : ∃ g, g = w.heap.size + 1 := ⟨_, rfl⟩
  have HGy : Hid (w.heap.size ≤ gy) := by rw [hgy]; show _ ≤ _; omega
  rw [← hgy] at Xy
  try rw [← hgy]
  obtain ⟨gx, hgx⟩ : ∃ g, g = w.heap.size := ⟨_, rfl⟩
  have HGx : Hid (w.heap.size ≤ gx) := by rw [hgx]; show _ ≤ _; omega
  rw [← hgx] at Xx
  try rw [← hgx]
  have HGD : Hid (gx ≠ gy ∧ gx ≠ gr ∧ gy ≠ gx ∧ gy ≠ gr ∧ gr ≠ gx ∧ gr ≠ gy) := by rw [hgx, hgy, hgr]; exact ⟨by omega, by omega, by omega, by omega, by omega, by omega⟩
  clear hgx hgy hgr
  replace hbw := Below.on hbw hb0
  clear hb0
  have HSZ : Hid (GeW W0.heap.size W0) := Nat.le_refl _
  have HRL : Hid (gr < W0.heap.size ∧ w.heap.size ≤ W0.heap.size) := ⟨Xr.out.lt, hbw.size⟩
  refine (HI.out W0 hbw).mono ?_
  rintro e w2 ⟨rfl, hb2⟩
  replace Xx : Hid _ := Xx.out.below hb2
  replace Xy : Hid _ := Xy.out.below hb2
  replace Xr : Hid _ := Xr.out.below hb2
  replace HSZ : Hid (GeW W0.heap.size w2) := HSZ.out.below hb2
  replace hbw := Below.on hbw hb2
  clear hb2
  have HF : Hid (FrIs W0.heap.size w2 false 0 0 none 0 [] false 0) := ⟨⟨rfl, Dig.nil _, .inl rfl⟩, Nf.nil _, by omega, rfl, .inr (.inl ⟨rfl, rfl⟩), small_lim (by decide)⟩
  obtain ⟨cr0, cr1, fr0, fr1⟩ := Xr.out
  have hner := Xr.out.lt
  go_wp2_with fail
  clear cr0 cr1 fr0 fr1 hner
  have Xf0 : Hid (B4q (w2.alloc (.cells #[.bool false, .slice none 0 0, .bool false, .int .i64 0] 59)) w2.heap.size (.bool false) (.slice none 0 0) (.bool false) (.int .i64 0)) := B4q.new w2 _ _ _ _ _
  have hbn : Below w2.heap.size w2 (w2.alloc (.cells #[.bool false, .slice none 0 0, .bool false, .int .i64 0] 59)) := below1 w2 _
  generalize w2.alloc (.cells #[.bool false, .slice none 0 0, .bool false, .int .i64 0] 59) = W3 at *
  have HGf : Hid (w.heap.size ≤ w2.heap.size) := hbw.size
  replace Xx : Hid _ := Xx.out.below hbn
  replace Xy : Hid _ := Xy.out.below hbn
  replace Xr : Hid _ := Xr.out.below hbn
  replace HSZ : Hid (GeW W0.heap.size W3) := HSZ.out.below hbn
  replace HF : Hid _ := HF.out.below hbn
  replace hbw := Below.on hbw hbn
  clear hbn
  generalize w2.heap.size = gf at *
  have Xf := Xf0
  clear Xf0
  have hBs : W0.heap.size ≤ W3.heap.size := HSZ.out
  refine (ceil_any false false 0 HF.out hBs).mono ?_
  rintro e w4 ⟨v, rfl, hv, hb4⟩
  clear hBs
  rw [← HZ.out] at hv
  obtain ⟨p4, m4, z4, rfl, ho, hn, hm⟩ := hv
  replace Xx : Hid _ := Xx.out.below hb4
  replace Xy : Hid _ := Xy.out.below hb4
  replace Xr : Hid _ := Xr.out.below hb4
  replace Xf : Hid _ := Xf.out.below hb4
  replace HSZ : Hid (GeW W0.heap.size w4) := HSZ.out.below hb4
  replace HF : Hid _ := HF.out.below hb4
  replace hbw := Below.on hbw hb4
  clear hb4
  have HO4 : Hid (Own W0.heap.size w4 p4 m4 z4) := ho
  have HN4 : Hid (Nf B64 z4 z.natAbs ∧ m4 ≤ 8192) := ⟨hn, hm⟩
  clear ho hn hm
  obtain ⟨b9, hb9⟩ : ∃ b, b = decide (z < 0) := ⟨_, rfl⟩
  rw [← hb9]
  have HB9 : Hid (b9 = decide (z < 0)) := hb9
  clear hb9
  obtain ⟨cr0, cr1, fr0, fr1⟩ := Xr.out
  have hner := Xr.out.lt
  go_wp2_with fail
  refine bodyPost_ret (v := .tuple #[ZV b9 p4 m4 m4, .int .i64 er]) (by rw [results_cell_tmp rfl]; go_simp) rfl ⟨_, rfl, ⟨p4, m4, z4, by rw [HB9.out], ?_, HN4.out.1, HN4.out.2⟩, ?_⟩
  · exact own_set2 HO4.out HRL.out.1 HRL.out.2 _ _
  · exact bSet (bSet hbw _ _ _ HGr.out) _ _ _ HGr.out
set_option maxRecDepth 20000 in
set_option maxHeartbeats 4000000 in
theorem rdiv_err {p q : Option Addr} {m c n d : Nat} {s t : Bool} {w : World} (er : Int) (hi : ∀ W, Below w.heap.size w W → Calls Tryz.prog 37 #[ZV s p m c, ZV t q n d] W fun e w' => e = .returned (.tuple #[FR false none 0 0 false 0, .int .i64 er]) ∧ Below W.heap.size W w') :
    Calls Tryz.prog 66 #[ZV s p m c, ZV t q n d] w fun e w' => ∃ v, e = .returned (.tuple #[v, .int .i64 er]) ∧ AnsZ w.heap.size w' v 0 ∧ Below w.heap.size w w' := by
  have HI : Hid (∀ W, Below w.heap.size w W → Calls Tryz.prog 37 #[ZV s p m c, ZV t q n d] W fun e w' => e = .returned (.tuple #[FR false none 0 0 false 0, .int .i64 er]) ∧ Below W.heap.size W w') := hi
  obtain ⟨z, hz⟩ : ∃ z, z = (0 : Int) := ⟨_, rfl⟩
  rw [← hz]
  have HZ : Hid (z = ne false 0 0) := hz
  clear hi hz
  go_enter Tryz.func66, Tryz.ntmps66
  go_wp2_with fail
  obtain ⟨W0, hW0⟩ : ∃ W0, W0 = (((w.alloc (.cells #[.bool s, .slice p m c] 28)).alloc (.cells #[.bool t, .slice q n d] 28)).alloc (.cells #[.bool false, .slice none 0 0] 28)) := ⟨_, rfl⟩
  have Xx : Hid (Box W0 (w.heap.size) (.bool s) (.slice p m c)) := by rw [hW0]; exact ⟨by go_simp, by go_simp, by go_simp, by go_simp⟩
  have Xy : Hid (Box W0 (w.heap.size + 1) (.bool t) (.slice q n d)) := by rw [hW0]; exact ⟨by go_simp, by go_simp, by go_simp, by go_simp⟩
  have Xr : Hid (Box W0 (w.heap.size + 1 + 1) (.bool false) (.slice none 0 0)) := by rw [hW0]; exact ⟨by go_simp, by go_simp, by go_simp, by go_simp⟩
  have hb0 : Below w.heap.size w W0 := by rw [hW0]; exact below3 w _ _ _
  rw [← hW0]
  clear hW0
  have hbw : Below w.heap.size w w := Below.refl _ _
  obtain ⟨gr, hgr⟩ : ∃ g, g = w.heap.size + 1 + 1 := ⟨_, rfl⟩
  have HGr : Hid (w.heap.size ≤ gr) := by rw [hgr]; show _ ≤ _; omega
  rw [← hgr] at Xr
  try rw [← hgr]
  obtain ⟨gy, hgy⟩ : ∃ g, g = w.heap.size + 1 := ⟨_, rfl⟩
  have HGy : Hid (w.heap.size ≤ gy) := by rw [hgy]; show _ ≤ _; omega
  rw [← hgy] at Xy
  try rw [← hgy]
  obtain ⟨gx, hgx⟩ : ∃ g, g = w.heap.size := ⟨_, rfl⟩
  have HGx : Hid (w.heap.size ≤ gx) := by rw [hgx]; show _ ≤ _; omega
  rw [← hgx] at Xx
  try rw [← hgx]
  have HGD : Hid (gx ≠ gy ∧ gx ≠ gr ∧ gy ≠ gx ∧ gy ≠ gr ∧ gr ≠ gx ∧ gr ≠ gy) := by rw [hgx, hgy, hgr]; exact ⟨by omega, by omega, by omega, by omega, by omega, by omega⟩
  clear hgx hgy hgr
  replace hbw := Below.on hbw hb0
  clear hb0
  have HSZ : Hid (GeW W0.heap.size W0) := Nat.le_refl _
  have HRL : Hid (gr < W0.heap.size ∧ w.heap.size ≤ W0.heap.size) := ⟨Xr.out.lt, hbw.size⟩
  refine (HI.out W0 hbw).mono ?_
  rintro e w2 ⟨rfl, hb2⟩
  replace Xx : Hid _ := Xx.out.below hb2
  replace Xy : Hid _ := Xy.out.below hb2
  replace Xr : Hid _ := Xr.out.below hb2
  replace HSZ : Hid (GeW W0.heap.size w2) := HSZ.out.below hb2
  replace hbw := Below.on hbw hb2
  clear hb2
  have HF : Hid (FrIs W0.heap.size w2 false 0 0 none 0 [] false 0) := ⟨⟨rfl, Dig.nil _, .inl rfl⟩, Nf.nil _, by omega, rfl, .inr (.inl ⟨rfl, rfl⟩), small_lim (by decide)⟩
  obtain ⟨cr0, cr1, fr0, fr1⟩ := Xr.out
  have hner := Xr.out.lt
  go_wp2_with fail
  clear cr0 cr1 fr0 fr1 hner
  have Xf0 : Hid (B4q (w2.alloc (.cells #[.bool false, .slice none 0 0, .bool false, .int .i64 0] 59)) w2.heap.size (.bool false) (.slice none 0 0) (.bool false) (.int .i64 0)) := B4q.new w2 _ _ _ _ _
  have hbn : Below w2.heap.size w2 (w2.alloc (.cells #[.bool false, .slice none 0 0, .bool false, .int .i64 0] 59)) := below1 w2 _
  generalize w2.alloc (.cells #[.bool false, .slice none 0 0, .bool false, .int .i64 0] 59) = W3 at *
  have HGf : Hid (w.heap.size ≤ w2.heap.size) := hbw.size
  replace Xx : Hid _ := Xx.out.below hbn
  replace Xy : Hid _ := Xy.out.below hbn
  replace Xr : Hid _ := Xr.out.below hbn
  replace HSZ : Hid (GeW W0.heap.size W3) := HSZ.out.below hbn
  replace HF : Hid _ := HF.out.below hbn
  replace hbw := Below.on hbw hbn
  clear hbn
  generalize w2.heap.size = gf at *
  have Xf := Xf0
  clear Xf0
  refine (near_zero W3).mono ?_
  rintro e w4 ⟨rfl, hb4⟩
  replace Xx : Hid _ := Xx.out.below hb4
  replace Xy : Hid _ := Xy.out.below hb4
  replace Xr : Hid _ := Xr.out.below hb4
  replace Xf : Hid _ := Xf.out.below hb4
  replace HSZ : Hid (GeW W0.heap.size w4) := HSZ.out.below hb4
  replace HF : Hid _ := HF.out.below hb4
  replace hbw := Below.on hbw hb4
  clear hb4
  obtain ⟨cr0, cr1, fr0, fr1⟩ := Xr.out
  have hner := Xr.out.lt
  go_wp2_with fail
  refine bodyPost_ret (v := .tuple #[ZV false none 0 0, .int .i64 er]) (by rw [results_cell_tmp rfl]; go_simp) rfl ⟨_, rfl, ?_, ?_⟩
  · rw [HZ.out]
    exact ansz_none _ _
  · exact bSet (bSet hbw _ _ _ HGr.out) _ _ _ HGr.out
end Go.Proofs.YtgodajcnhipleaaGreatDoor

namespace Go.Proofs.YtgodajcnhipleaaGreatDoor
open Go.RowKit Go.Shelf

end Go.Proofs.YtgodajcnhipleaaGreatDoor

namespace Go.Proofs.YtgodajcnhipleaaGreatDoor
open Go.RowKit Go.Shelf

theorem Own.newAt {B : Nat} {w : World} {p : Option Addr} {m : Nat} {zs : List Nat} (h : Own B w p m zs) (hm : m ≤ 8192) : NewAt B w p m m zs :=
  ⟨h.at_ hm, h.mem.imp id fun ⟨g, e, hg, _⟩ => ⟨g, e, hg⟩⟩
theorem NewAt.none_ (B : Nat) (w : World) : NewAt B w none 0 0 [] := ⟨At.empty _ none 0 (by decide), .inl rfl⟩
theorem AnsI.docZ {B : Nat} {w' : World} {e : Ending} {z : Int} (h : AnsI B w' e z) : ∃ s' p' m' c' us er, e = .returned (.tuple #[ZV s' p' m' c', .int .i64 er]) ∧ NewAt B w' p' m' c' us ∧ DocZ z s' us er := by
  rcases h with ⟨hl, p, m, zs, rfl, ho, hn, hm⟩ | ⟨hl, rfl⟩
  · exact ⟨_, p, m, m, zs, 0, rfl, ho.newAt hm, .inl ⟨hl, rfl, hn, rfl⟩⟩
  · exact ⟨false, none, 0, 0, [], 5, rfl, NewAt.none_ _ _, .inr ⟨hl, rfl, rfl, rfl⟩⟩
end Go.Proofs.YtgodajcnhipleaaGreatDoor

namespace Go.Proofs.YtgodajcnhipleaaGreatDoor
open Go.RowKit Go.Shelf

theorem B6q.lt {w : World} {g : Nat} {a b c d e f : Value} (h : B6q w g a b c d e f) : g < w.heap.size := World.block_lt_of_cell? w _ h.c0
def Off (p : Option Addr) (m g : Nat) : Prop := m = 0 ∨ ∃ g' off, p = some ⟨g', off, none⟩ ∧ g' ≠ g
theorem At.off_new {w : World} {p : Option Addr} {m c : Nat} {us : List Nat} (h : At w p m c us) : Off p m w.heap.size := by
  rcases Nat.eq_zero_or_pos m with e | e
  · exact .inl e
  · rcases h.cells with h0 | ⟨g, off, rfl, hc⟩
    · exact .inl h0
    · have := World.block_lt_of_cell? w _ (hc 0 e)
      exact .inr ⟨g, off, rfl, Nat.ne_of_lt this⟩
theorem NewAt.off {B : Nat} {w : World} {p : Option Addr} {m c : Nat} {us : List Nat} (h : NewAt B w p m c us) {g : Nat} (hg : g < B) : Off p m g :=
  h.2.imp id fun ⟨g', e, k⟩ => ⟨g', 0, e, by omega⟩
theorem At.setOff {w : World} {p : Option Addr} {m c : Nat} {us : List Nat} (h : At w p m c us) {g : Nat} (hf : Off p m g) (o : Nat) (v : Value) : At (w.setCell ⟨g, o, none⟩ v) p m c us := by
  rcases hf with h0 | ⟨g', off, rfl, hg⟩
  · subst h0
    obtain rfl : us = [] := List.eq_nil_of_length_eq_zero h.len
    exact At.empty _ _ _ h.big
  · exact h.setOther _ _ _ hg

end Go.Proofs.YtgodajcnhipleaaGreatDoor

namespace Go.Proofs.YtgodajcnhipleaaGreatDoor
open Go.RowKit Go.Shelf

def rFd (x y : Int) : Int := fl (decide (x < 0) != decide (y < 0)) x.natAbs y.natAbs
def rCd (x y : Int) : Int := ce (decide (x < 0) != decide (y < 0)) x.natAbs y.natAbs
def rNd (x y : Int) : Int := ne (decide (x < 0) != decide (y < 0)) x.natAbs y.natAbs
def rMo (x y : Int) : Int := mo (decide (x < 0)) (decide (y < 0)) x.natAbs y.natAbs
def ShiftZ (r : Int → Nat → Int) (sx : Bool) (xs : List Nat) (n : Int) (s : Bool) (us : List Nat) (er : Int) : Prop :=
  (n < 0 ∧ s = false ∧ us = [] ∧ er = 1) ∨ (0 ≤ n ∧ formZ sx xs = false ∧ s = false ∧ us = [] ∧ er = 2) ∨ (0 ≤ n ∧ formZ sx xs = true ∧ DocZ (r (iv sx (valB B64 xs)) n.toNat) s us er)
theorem ShiftZ.inj {r : Int → Nat → Int} {sx : Bool} {xs : List Nat} {n : Int} {s s' : Bool} {us us' : List Nat} {er er' : Int} (h : ShiftZ r sx xs n s us er) (k : ShiftZ r sx xs n s' us' er') : s = s' ∧ us = us' ∧ er = er' := by
  rcases h with ⟨h0, rfl, rfl, rfl⟩ | ⟨h0, h1, rfl, rfl, rfl⟩ | ⟨h0, h1, h2⟩ <;> rcases k with ⟨k0, rfl, rfl, rfl⟩ | ⟨k0, k1, rfl, rfl, rfl⟩ | ⟨k0, k1, k2⟩
  · exact ⟨rfl, rfl, rfl⟩
  · omega
  · omega
  · omega
  · exact ⟨rfl, rfl, rfl⟩
  · rw [h1] at k1; cases k1
  · omega
  · rw [h1] at k1; cases k1
  · exact h2.inj k2
def DivZ (r : Int → Int → Int) (sx : Bool) (xs : List Nat) (sy : Bool) (ys : List Nat) (s : Bool) (us : List Nat) (er : Int) : Prop :=
  ((formZ sx xs && formZ sy ys) = false ∧ s = false ∧ us = [] ∧ er = 2) ∨ ((formZ sx xs && formZ sy ys) = true ∧ iv sy (valB B64 ys) = 0 ∧ s = false ∧ us = [] ∧ er = 4) ∨ ((formZ sx xs && formZ sy ys) = true ∧ iv sy (valB B64 ys) ≠ 0 ∧ DocZ (r (iv sx (valB B64 xs)) (iv sy (valB B64 ys))) s us er)
theorem DivZ.inj {r : Int → Int → Int} {sx sy : Bool} {xs ys : List Nat} {s s' : Bool} {us us' : List Nat} {er er' : Int} (h : DivZ r sx xs sy ys s us er) (k : DivZ r sx xs sy ys s' us' er') : s = s' ∧ us = us' ∧ er = er' := by
  rcases h with ⟨h0, rfl, rfl, rfl⟩ | ⟨h0, h1, rfl, rfl, rfl⟩ | ⟨h0, h1, h2⟩ <;> rcases k with ⟨k0, rfl, rfl, rfl⟩ | ⟨k0, k1, rfl, rfl, rfl⟩ | ⟨k0, k1, k2⟩
  · exact ⟨rfl, rfl, rfl⟩
  · rw [h0] at k0; cases k0
  · rw [h0] at k0; cases k0
  · rw [h0] at k0; cases k0
  · exact ⟨rfl, rfl, rfl⟩
  · exact absurd h1 k1
  · rw [h0] at k0; cases k0
  · exact absurd k1 h1
  · exact h2.inj k2
theorem AnsZ.docZ {B : Nat} {w' : World} {v : Value} {z : Int} (h : AnsZ B w' v z) : ∃ s p m us, v = ZV s p m m ∧ NewAt B w' p m m us ∧ DocZ z s us 0 := by
  obtain ⟨p, m, zs, rfl, ho, hn, hm⟩ := h
  exact ⟨_, p, m, zs, rfl, ho.newAt hm, .inl ⟨hn.lim.1 (by rw [ho.len]; exact hm), rfl, hn, rfl⟩⟩
theorem AnsZ.none_ {B : Nat} {w' : World} {v : Value} (h : AnsZ B w' v 0) : ∃ p m, v = ZV false p m m ∧ NewAt B w' p m m [] := by
  obtain ⟨p, m, zs, rfl, ho, hn, hm⟩ := h
  obtain rfl : zs = [] := (hn.zero_iff B64_one).2 rfl
  exact ⟨p, m, rfl, ho.newAt hm⟩
theorem sg_iv {s : Bool} {a : Nat} (h : s = true → 0 < a) : decide (iv s a < 0) = s := by
  rw [iv_lt]
  cases s
  · rfl
  · rw [decide_eq_true (h rfl)]; rfl
theorem nfdiv4 {p q : Option Addr} {m c n d : Nat} {xs ys : List Nat} {w : World} (s t : Bool) (h : At w p m c xs) (k : At w q n d ys) :
    Calls Tryz.prog 17 #[ZV s p m c, ZV t q n d] w fun e w' => ∃ s' p' m' c' us er, e = .returned (.tuple #[ZV s' p' m' c', .int .i64 er]) ∧ NewAt w.heap.size w' p' m' c' us ∧ DivZ rFd s xs t ys s' us er ∧ Below w.heap.size w w' := by
  cases hf : formZ s xs
  · refine (fdiv_err 2 (fun W hb => divided_bad1 s t (h.below hb) (k.below hb) hf)).mono fun e w' ⟨v, he, hv, hb⟩ => ?_
    obtain ⟨p', m', rfl, hA⟩ := hv.none_
    exact ⟨false, p', m', m', [], 2, he, hA, .inl ⟨by rw [hf]; rfl, rfl, rfl, rfl⟩, hb⟩
  · cases kf : formZ t ys
    · refine (fdiv_err 2 (fun W hb => divided_bad2 s t (h.below hb) (k.below hb) hf kf)).mono fun e w' ⟨v, he, hv, hb⟩ => ?_
      obtain ⟨p', m', rfl, hA⟩ := hv.none_
      exact ⟨false, p', m', m', [], 2, he, hA, .inl ⟨by rw [hf, kf]; rfl, rfl, rfl, rfl⟩, hb⟩
    · have hx := formZ_num h hf
      have hy := formZ_num k kf
      have hff : (formZ s xs && formZ t ys) = true := by rw [hf, kf]; rfl
      by_cases h0 : valB B64 ys = 0
      · have ht : t = false := by
          cases t
          · rfl
          · have := hy.2 rfl; omega
        subst ht
        have hi : iv false (valB B64 ys) = 0 := by rw [h0]; rfl
        refine (fdiv_err 4 (fun W hb => divided_zero s false (hx.1.below hb) hx.2 (hy.1.below hb) hy.2 h0)).mono fun e w' ⟨v, he, hv, hb⟩ => ?_
        obtain ⟨p', m', rfl, hA⟩ := hv.none_
        exact ⟨false, p', m', m', [], 4, he, hA, .inr (.inl ⟨hff, hi, rfl, rfl, rfl⟩), hb⟩
      · refine (fdiv_any s t hx.1 hx.2 hy.1 hy.2 h0).mono fun e w' ⟨v, he, hv, hb⟩ => ?_
        obtain ⟨s', p', m', us, rfl, hA, hD⟩ := hv.docZ
        refine ⟨s', p', m', m', us, 0, he, hA, .inr (.inr ⟨hff, ?_, ?_⟩), hb⟩
        · intro e0
          have := congrArg Int.natAbs e0
          rw [iv_natAbs] at this
          exact h0 this
        · unfold rFd
          rw [sg_iv hx.2, sg_iv hy.2, iv_natAbs, iv_natAbs]
          exact hD
theorem ncdiv4 {p q : Option Addr} {m c n d : Nat} {xs ys : List Nat} {w : World} (s t : Bool) (h : At w p m c xs) (k : At w q n d ys) :
    Calls Tryz.prog 65 #[ZV s p m c, ZV t q n d] w fun e w' => ∃ s' p' m' c' us er, e = .returned (.tuple #[ZV s' p' m' c', .int .i64 er]) ∧ NewAt w.heap.size w' p' m' c' us ∧ DivZ rCd s xs t ys s' us er ∧ Below w.heap.size w w' := by
  cases hf : formZ s xs
  · refine (cdiv_err 2 (fun W hb => divided_bad1 s t (h.below hb) (k.below hb) hf)).mono fun e w' ⟨v, he, hv, hb⟩ => ?_
    obtain ⟨p', m', rfl, hA⟩ := hv.none_
    exact ⟨false, p', m', m', [], 2, he, hA, .inl ⟨by rw [hf]; rfl, rfl, rfl, rfl⟩, hb⟩
  · cases kf : formZ t ys
    · refine (cdiv_err 2 (fun W hb => divided_bad2 s t (h.below hb) (k.below hb) hf kf)).mono fun e w' ⟨v, he, hv, hb⟩ => ?_
      obtain ⟨p', m', rfl, hA⟩ := hv.none_
      exact ⟨false, p', m', m', [], 2, he, hA, .inl ⟨by rw [hf, kf]; rfl, rfl, rfl, rfl⟩, hb⟩
    · have hx := formZ_num h hf
      have hy := formZ_num k kf
      have hff : (formZ s xs && formZ t ys) = true := by rw [hf, kf]; rfl
      by_cases h0 : valB B64 ys = 0
      · have ht : t = false := by
          cases t
          · rfl
          · have := hy.2 rfl; omega
        subst ht
        have hi : iv false (valB B64 ys) = 0 := by rw [h0]; rfl
        refine (cdiv_err 4 (fun W hb => divided_zero s false (hx.1.below hb) hx.2 (hy.1.below hb) hy.2 h0)).mono fun e w' ⟨v, he, hv, hb⟩ => ?_
        obtain ⟨p', m', rfl, hA⟩ := hv.none_
        exact ⟨false, p', m', m', [], 4, he, hA, .inr (.inl ⟨hff, hi, rfl, rfl, rfl⟩), hb⟩
      · refine (cdiv_any s t hx.1 hx.2 hy.1 hy.2 h0).mono fun e w' ⟨v, he, hv, hb⟩ => ?_
        obtain ⟨s', p', m', us, rfl, hA, hD⟩ := hv.docZ
        refine ⟨s', p', m', m', us, 0, he, hA, .inr (.inr ⟨hff, ?_, ?_⟩), hb⟩
        · intro e0
          have := congrArg Int.natAbs e0
          rw [iv_natAbs] at this
          exact h0 this
        · unfold rCd
          rw [sg_iv hx.2, sg_iv hy.2, iv_natAbs, iv_natAbs]
          exact hD
theorem nrdiv4 {p q : Option Addr} {m c n d : Nat} {xs ys : List Nat} {w : World} (s t : Bool) (h : At w p m c xs) (k : At w q n d ys) :
    Calls Tryz.prog 66 #[ZV s p m c, ZV t q n d] w fun e w' => ∃ s' p' m' c' us er, e = .returned (.tuple #[ZV s' p' m' c', .int .i64 er]) ∧ NewAt w.heap.size w' p' m' c' us ∧ DivZ rNd s xs t ys s' us er ∧ Below w.heap.size w w' := by
  cases hf : formZ s xs
  · refine (rdiv_err 2 (fun W hb => divided_bad1 s t (h.below hb) (k.below hb) hf)).mono fun e w' ⟨v, he, hv, hb⟩ => ?_
    obtain ⟨p', m', rfl, hA⟩ := hv.none_
    exact ⟨false, p', m', m', [], 2, he, hA, .inl ⟨by rw [hf]; rfl, rfl, rfl, rfl⟩, hb⟩
  · cases kf : formZ t ys
    · refine (rdiv_err 2 (fun W hb => divided_bad2 s t (h.below hb) (k.below hb) hf kf)).mono fun e w' ⟨v, he, hv, hb⟩ => ?_
      obtain ⟨p', m', rfl, hA⟩ := hv.none_
      exact ⟨false, p', m', m', [], 2, he, hA, .inl ⟨by rw [hf, kf]; rfl, rfl, rfl, rfl⟩, hb⟩
    · have hx := formZ_num h hf
      have hy := formZ_num k kf
      have hff : (formZ s xs && formZ t ys) = true := by rw [hf, kf]; rfl
      by_cases h0 : valB B64 ys = 0
      · have ht : t = false := by
          cases t
          · rfl
          · have := hy.2 rfl; omega
        subst ht
        have hi : iv false (valB B64 ys) = 0 := by rw [h0]; rfl
        refine (rdiv_err 4 (fun W hb => divided_zero s false (hx.1.below hb) hx.2 (hy.1.below hb) hy.2 h0)).mono fun e w' ⟨v, he, hv, hb⟩ => ?_
        obtain ⟨p', m', rfl, hA⟩ := hv.none_
        exact ⟨false, p', m', m', [], 4, he, hA, .inr (.inl ⟨hff, hi, rfl, rfl, rfl⟩), hb⟩
      · refine (rdiv_any s t hx.1 hx.2 hy.1 hy.2 h0).mono fun e w' ⟨v, he, hv, hb⟩ => ?_
        obtain ⟨s', p', m', us, rfl, hA, hD⟩ := hv.docZ
        refine ⟨s', p', m', m', us, 0, he, hA, .inr (.inr ⟨hff, ?_, ?_⟩), hb⟩
        · intro e0
          have := congrArg Int.natAbs e0
          rw [iv_natAbs] at this
          exact h0 this
        · unfold rNd
          rw [sg_iv hx.2, sg_iv hy.2, iv_natAbs, iv_natAbs]
          exact hD
theorem nmod4 {p q : Option Addr} {m c n d : Nat} {xs ys : List Nat} {w : World} (s t : Bool) (h : At w p m c xs) (k : At w q n d ys) :
    Calls Tryz.prog 19 #[ZV s p m c, ZV t q n d] w fun e w' => ∃ s' p' m' c' us er, e = .returned (.tuple #[ZV s' p' m' c', .int .i64 er]) ∧ NewAt w.heap.size w' p' m' c' us ∧ DivZ rMo s xs t ys s' us er ∧ Below w.heap.size w w' := by
  cases hf : formZ s xs
  · exact (nmod_bad1 s t h k hf).mono fun e w' ⟨he, hb⟩ => ⟨false, none, 0, 0, [], 2, he, NewAt.none_ _ _, .inl ⟨by rw [hf]; rfl, rfl, rfl, rfl⟩, hb⟩
  · cases kf : formZ t ys
    · exact (nmod_bad2 s t h k hf kf).mono fun e w' ⟨he, hb⟩ => ⟨false, none, 0, 0, [], 2, he, NewAt.none_ _ _, .inl ⟨by rw [hf, kf]; rfl, rfl, rfl, rfl⟩, hb⟩
    · have hx := formZ_num h hf
      have hy := formZ_num k kf
      have hff : (formZ s xs && formZ t ys) = true := by rw [hf, kf]; rfl
      by_cases h0 : valB B64 ys = 0
      · have ht : t = false := by
          cases t
          · rfl
          · have := hy.2 rfl; omega
        subst ht
        have hi : iv false (valB B64 ys) = 0 := by rw [h0]; rfl
        exact (nmod_zero s hx.1 hx.2 hy.1 h0).mono fun e w' ⟨he, hb⟩ => ⟨false, none, 0, 0, [], 4, he, NewAt.none_ _ _, .inr (.inl ⟨hff, hi, rfl, rfl, rfl⟩), hb⟩
      · refine (mod_any s t hx.1 hx.2 hy.1 hy.2 h0).mono fun e w' ⟨v, he, hv, hb⟩ => ?_
        obtain ⟨s', p', m', us, rfl, hA, hD⟩ := hv.docZ
        refine ⟨s', p', m', m', us, 0, he, hA, .inr (.inr ⟨hff, ?_, ?_⟩), hb⟩
        · intro e0
          have := congrArg Int.natAbs e0
          rw [iv_natAbs] at this
          exact h0 this
        · unfold rMo
          rw [sg_iv hx.2, sg_iv hy.2, iv_natAbs, iv_natAbs]
          exact hD
end Go.Proofs.YtgodajcnhipleaaGreatDoor

namespace Go.Proofs.YtgodajcnhipleaaGreatDoor
open Go.RowKit Go.Shelf

theorem below4 (w : World) (a b c d : Obj) : Below w.heap.size w ((((w.alloc a).alloc b).alloc c).alloc d) := (below3 w a b c).alloc (by simp; omega) d
end Go.Proofs.YtgodajcnhipleaaGreatDoor

namespace Go.Proofs.YtgodajcnhipleaaGreatDoor
open Go.RowKit Go.Shelf

theorem results_cell2 {fn : Func} {p u : Tmp} {ty ty2 : TypeId} (h : fn.results = #[.cell p ty, .cell u ty2]) (tmps : Array Value) (P : Program) (w : World) :
    (results fn tmps).run P w = ((asAddr (tmps.getD p undef)).run P w).andThen fun a w₁ => ((loadVar ty a).run P w₁).andThen fun v w₂ => ((asAddr (tmps.getD u undef)).run P w₂).andThen fun b w₃ => ((loadVar ty2 b).run P w₃).andThen fun v2 w₄ => .ok (.tuple #[v, v2]) w₄ := by
  simp only [results, h]
  simp [Sem.run_bind, Result.andThen]
set_option maxRecDepth 20000 in
set_option maxHeartbeats 8000000 in
theorem rfloor04_p {p q : Option Addr} {m n : Nat} {w : World} {x y : Int} (h : ZR w false p m x) (k : ZR w false q n y) (hm : m ≤ 16384) (hn : n ≤ 40000) (hy : 0 < y) :
    Calls Tryz.prog 118 #[.agg #[.bool false, .slice p m m], .agg #[.bool false, .slice q n n]] w fun e w' => ∃ s1 g1 m1 s2 g2 m2, e = .returned (.tuple #[.agg #[.bool s1, .slice (some ⟨g1, 0, none⟩) m1 m1], .agg #[.bool s2, .slice (some ⟨g2, 0, none⟩) m2 m2]]) ∧ w.heap.size ≤ g1 ∧ w.heap.size ≤ g2 ∧ ZR w' s1 (some ⟨g1, 0, none⟩) m1 (rFd x y) ∧ ZR w' s2 (some ⟨g2, 0, none⟩) m2 (rMo x y) ∧ m1 ≤ 20000 ∧ m2 ≤ 40000 ∧ Below w.heap.size w w' := by
  have hyd : decide (y < 0) = false := decide_eq_false (by omega)
  have HQ : Hid (rFd x y = iv false (x.natAbs / y.natAbs)) := by show _ = _; unfold rFd fl; rw [← h.sg, hyd]; simp
  have HR : Hid (rMo x y = iv false (x.natAbs % y.natAbs)) := by show _ = _; unfold rMo mo; rw [← h.sg, hyd]; simp
  rw [HQ.out, HR.out]
  clear HQ HR hyd
  obtain ⟨xs, hAx, hNx⟩ := h.ex
  obtain ⟨ys, hAy, hNy⟩ := k.ex
  have HZ : Hid (ZR w false q n y) := k
  have AX : Hid (At32 w p m m xs ∧ At32 w q n n ys) := ⟨hAx, hAy⟩
  have NX : Hid (Nf B32 xs x.natAbs ∧ Nf B32 ys y.natAbs) := ⟨hNx, hNy⟩
  have HM : Hid (m ≤ 16384 ∧ n ≤ 40000 ∧ 0 < y) := ⟨hm, hn, hy⟩
  clear h k hm hn hy hAx hAy hNx hNy
  go_enter Tryz.func118, Tryz.ntmps118
  go_wp2_with fail
  obtain ⟨W0, hW0⟩ : ∃ W0, W0 = ((((w.alloc (.cells #[.bool false, .slice p m m] 70)).alloc (.cells #[.bool false, .slice q n n] 70)).alloc (.cells #[.bool false, .slice none 0 0] 70)).alloc (.cells #[.bool false, .slice none 0 0] 70)) := ⟨_, rfl⟩
  have Xa : Hid (Box W0 (w.heap.size) (.bool false) (.slice p m m)) := by rw [hW0]; exact ⟨by go_simp, by go_simp, by go_simp, by go_simp⟩
  have Xb : Hid (Box W0 (w.heap.size + 1) (.bool false) (.slice q n n)) := by rw [hW0]; exact ⟨by go_simp, by go_simp, by go_simp, by go_simp⟩
  have Xr : Hid (Box W0 (w.heap.size + 1 + 1) (.bool false) (.slice none 0 0)) := by rw [hW0]; exact ⟨by go_simp, by go_simp, by go_simp, by go_simp⟩
  have Xu : Hid (Box W0 (w.heap.size + 1 + 1 + 1) (.bool false) (.slice none 0 0)) := by rw [hW0]; exact ⟨by go_simp, by go_simp, by go_simp, by go_simp⟩
  have hb0 : Below w.heap.size w W0 := by rw [hW0]; exact below4 w _ _ _ _
  rw [← hW0]
  clear hW0
  have hbw : Below w.heap.size w w := Below.refl _ _
  obtain ⟨gu, hgu⟩ : ∃ g, g = w.heap.size + 1 + 1 + 1 := ⟨_, rfl⟩
  have HGu : Hid (w.heap.size ≤ gu) := by rw [hgu]; show _ ≤ _; omega
  rw [← hgu] at Xu
  try rw [← hgu]
  obtain ⟨gr, hgr⟩ : ∃ g, g = w.heap.size + 1 + 1 := ⟨_, rfl⟩
  have HGr : Hid (w.heap.size ≤ gr) := by rw [hgr]; show _ ≤ _; omega
  rw [← hgr] at Xr
  try rw [← hgr]
  obtain ⟨gb, hgb⟩ : ∃ g, g = w.heap.size + 1 := ⟨_, rfl⟩
  have HGb : Hid (w.heap.size ≤ gb) := by rw [hgb]; show _ ≤ _; omega
  rw [← hgb] at Xb
  try rw [← hgb]
  obtain ⟨ga, hga⟩ : ∃ g, g = w.heap.size := ⟨_, rfl⟩
  have HGa : Hid (w.heap.size ≤ ga) := by rw [hga]; show _ ≤ _; omega
  rw [← hga] at Xa
  try rw [← hga]
  have HGD : Hid (ga ≠ gb ∧ ga ≠ gr ∧ ga ≠ gu ∧ gb ≠ ga ∧ gb ≠ gr ∧ gb ≠ gu ∧ gr ≠ ga ∧ gr ≠ gb ∧ gr ≠ gu ∧ gu ≠ ga ∧ gu ≠ gb ∧ gu ≠ gr) := by rw [hga, hgb, hgr, hgu]; exact ⟨by omega, by omega, by omega, by omega, by omega, by omega, by omega, by omega, by omega, by omega, by omega, by omega⟩
  clear hga hgb hgr hgu
  replace hbw := Below.on hbw hb0
  clear hb0
  refine (rsign04 false (HZ.out.below hbw)).mono ?_
  rintro e v1 ⟨rfl, hb1⟩
  rw [show sgnI y = 1 from by have := HM.out.2.2; unfold sgnI; rw [if_neg (by omega), if_neg (by omega)]]
  replace Xa : Hid _ := Xa.out.below hb1
  replace Xb : Hid _ := Xb.out.below hb1
  replace Xr : Hid _ := Xr.out.below hb1
  replace Xu : Hid _ := Xu.out.below hb1
  replace hbw := Below.on hbw hb1
  clear hb1
  obtain ⟨ca0, ca1, fa0, fa1⟩ := Xa.out
  have hnea := Xa.out.lt
  obtain ⟨cb0, cb1, fb0, fb1⟩ := Xb.out
  have hneb := Xb.out.lt
  go_wp2_with fail
  clear ca0 ca1 fa0 fa1 hnea
  clear cb0 cb1 fb0 fb1 hneb
  refine (rdivmod04 (AX.out.1.below hbw) (AX.out.2.below hbw) NX.out.1 NX.out.2 HM.out.1 HM.out.2.1 (by have := HM.out.2.2; omega)).mono ?_
  rintro e v2 ⟨p2, m2, z2, p3, m3, z3, rfl, hA2, hN2, hA3, hN3, hl2, hl3, hb2⟩
  replace Xa : Hid _ := Xa.out.below hb2
  replace Xb : Hid _ := Xb.out.below hb2
  replace Xr : Hid _ := Xr.out.below hb2
  replace Xu : Hid _ := Xu.out.below hb2
  replace hbw := Below.on hbw hb2
  clear hb2
  have A2 : Hid (At32 v2 p2 m2 m2 z2) := hA2
  have A3 : Hid (At32 v2 p3 m3 m3 z3) := hA3
  have N2 : Hid (Nf B32 z2 (x.natAbs / y.natAbs) ∧ Nf B32 z3 (x.natAbs % y.natAbs) ∧ m2 ≤ m ∧ m3 ≤ m) := ⟨hN2, hN3, hl2, hl3⟩
  clear hA2 hN2 hA3 hN3 hl2 hl3
  obtain ⟨ca0, ca1, fa0, fa1⟩ := Xa.out
  have hnea := Xa.out.lt
  go_wp2_with fail
  clear ca0 ca1 fa0 fa1 hnea
  have HRB : Hid (gr < v2.heap.size ∧ gu < v2.heap.size ∧ w.heap.size ≤ v2.heap.size) := ⟨Xr.out.lt, Xu.out.lt, hbw.size⟩
  refine (rmk_any false A2.out N2.out.1 (by have := N2.out; have := HM.out; omega)).mono ?_
  rintro e v5 ⟨v, rfl, hv, hb5⟩
  obtain ⟨s5, g5, m5, rfl, hg5, hz5, hl5⟩ := hv
  have HN5 : Hid (v2.heap.size ≤ g5) := hg5
  have HB5 : Hid (v2.heap.size ≤ v5.heap.size) := hb5.size
  replace Xa : Hid _ := Xa.out.below hb5
  replace Xb : Hid _ := Xb.out.below hb5
  replace Xr : Hid _ := Xr.out.below hb5
  replace Xu : Hid _ := Xu.out.below hb5
  replace A2 : Hid _ := A2.out.below hb5
  replace A3 : Hid _ := A3.out.below hb5
  replace hbw := Below.on hbw hb5
  clear hb5
  have Z5 : Hid (ZR v5 s5 (some ⟨g5, 0, none⟩) m5 (iv false (x.natAbs / y.natAbs))) := hz5
  have HL5 : Hid (m5 ≤ m2) := hl5
  clear hz5 hl5 hg5
  have HBV : Hid (v2.heap.size ≤ v5.heap.size) := HB5.out
  go_wp2_with fail
  refine (rmk_any false A3.out N2.out.2.1 (by have := N2.out; have := HM.out; omega)).mono ?_
  rintro e v6 ⟨v, rfl, hv, hb6⟩
  obtain ⟨s6, g6, m6, rfl, hg6, hz6, hl6⟩ := hv
  have HN6 : Hid (v5.heap.size ≤ g6) := hg6
  have HB6 : Hid (v5.heap.size ≤ v6.heap.size) := hb6.size
  replace Xa : Hid _ := Xa.out.below hb6
  replace Xb : Hid _ := Xb.out.below hb6
  replace Xr : Hid _ := Xr.out.below hb6
  replace Xu : Hid _ := Xu.out.below hb6
  replace A2 : Hid _ := A2.out.below hb6
  replace A3 : Hid _ := A3.out.below hb6
  replace Z5 : Hid _ := Z5.out.below hb6
  replace hbw := Below.on hbw hb6
  clear hb6
  have Z6 : Hid (ZR v6 s6 (some ⟨g6, 0, none⟩) m6 (iv false (x.natAbs % y.natAbs))) := hz6
  have HL6 : Hid (m6 ≤ m3) := hl6
  clear hz6 hl6 hg6
  obtain ⟨hgd0, hgd1, hgd2, hgd3, hgd4, hgd5, hgd6, hgd7, hgd8, hgd9, hgd10, hgd11⟩ := HGD.out
  obtain ⟨cr0, cr1, fr0, fr1⟩ := Xr.out
  have hner := Xr.out.lt
  obtain ⟨cu0, cu1, fu0, fu1⟩ := Xu.out
  have hneu := Xu.out.lt
  go_wp2_with fail
  refine bodyPost_ret (v := .tuple #[.agg #[.bool s5, .slice (some ⟨g5, 0, none⟩) m5 m5], .agg #[.bool s6, .slice (some ⟨g6, 0, none⟩) m6 m6]]) (by rw [results_cell2 rfl]; go_simp) rfl ⟨s5, g5, m5, s6, g6, m6, rfl, Nat.le_trans HRB.out.2.2 HN5.out, Nat.le_trans HRB.out.2.2 (Nat.le_trans HBV.out HN6.out), ?_, ?_, ?_, ?_, ?_⟩
  · clear hgd0 hgd1 hgd2 hgd3 hgd4 hgd5 hgd6 hgd7 hgd8 hgd9 hgd10 hgd11
    have := HN5.out; have := HRB.out
    exact (((Z5.out.set _ _ _ (by omega)).set _ _ _ (by omega)).set _ _ _ (by omega)).set _ _ _ (by omega)
  · clear hgd0 hgd1 hgd2 hgd3 hgd4 hgd5 hgd6 hgd7 hgd8 hgd9 hgd10 hgd11
    have := HN6.out; have := HBV.out; have := HRB.out
    exact (((Z6.out.set _ _ _ (by omega)).set _ _ _ (by omega)).set _ _ _ (by omega)).set _ _ _ (by omega)
  · clear hgd0 hgd1 hgd2 hgd3 hgd4 hgd5 hgd6 hgd7 hgd8 hgd9 hgd10 hgd11
    have := HL5.out; have := N2.out; have := HM.out; omega
  · clear hgd0 hgd1 hgd2 hgd3 hgd4 hgd5 hgd6 hgd7 hgd8 hgd9 hgd10 hgd11
    have := HL6.out; have := N2.out; have := HM.out; omega
  · exact bSet (bSet (bSet (bSet hbw _ _ _ HGr.out) _ _ _ HGr.out) _ _ _ HGu.out) _ _ _ HGu.out
set_option maxRecDepth 20000 in
set_option maxHeartbeats 8000000 in
theorem rfloor04_n0 {p q : Option Addr} {m n : Nat} {w : World} {x y : Int} (h : ZR w true p m x) (k : ZR w false q n y) (hm : m ≤ 16384) (hn : n ≤ 40000) (hy : 0 < y) (hr : x.natAbs % y.natAbs = 0) :
    Calls Tryz.prog 118 #[.agg #[.bool true, .slice p m m], .agg #[.bool false, .slice q n n]] w fun e w' => ∃ s1 g1 m1 s2 g2 m2, e = .returned (.tuple #[.agg #[.bool s1, .slice (some ⟨g1, 0, none⟩) m1 m1], .agg #[.bool s2, .slice (some ⟨g2, 0, none⟩) m2 m2]]) ∧ w.heap.size ≤ g1 ∧ w.heap.size ≤ g2 ∧ ZR w' s1 (some ⟨g1, 0, none⟩) m1 (rFd x y) ∧ ZR w' s2 (some ⟨g2, 0, none⟩) m2 (rMo x y) ∧ m1 ≤ 20000 ∧ m2 ≤ 40000 ∧ Below w.heap.size w w' := by
  have hyd : decide (y < 0) = false := decide_eq_false (by omega)
  have HQ : Hid (rFd x y = iv true (x.natAbs / y.natAbs)) := by show _ = _; unfold rFd fl; rw [← h.sg, hyd, hr]; simp
  have HR : Hid (rMo x y = iv false (x.natAbs % y.natAbs)) := by show _ = _; unfold rMo mo; rw [← h.sg, hyd, hr]; simp
  rw [HQ.out, HR.out]
  clear HQ HR hyd
  obtain ⟨xs, hAx, hNx⟩ := h.ex
  obtain ⟨ys, hAy, hNy⟩ := k.ex
  have HZ : Hid (ZR w false q n y) := k
  have AX : Hid (At32 w p m m xs ∧ At32 w q n n ys) := ⟨hAx, hAy⟩
  have NX : Hid (Nf B32 xs x.natAbs ∧ Nf B32 ys y.natAbs) := ⟨hNx, hNy⟩
  have HM : Hid (m ≤ 16384 ∧ n ≤ 40000 ∧ 0 < y) := ⟨hm, hn, hy⟩
  have HLO : Hid (x.natAbs % y.natAbs = 0) := hr
  clear h k hm hn hy hAx hAy hNx hNy hr
  go_enter Tryz.func118, Tryz.ntmps118
  go_wp2_with fail
  obtain ⟨W0, hW0⟩ : ∃ W0, W0 = ((((w.alloc (.cells #[.bool true, .slice p m m] 70)).alloc (.cells #[.bool false, .slice q n n] 70)).alloc (.cells #[.bool false, .slice none 0 0] 70)).alloc (.cells #[.bool false, .slice none 0 0] 70)) := ⟨_, rfl⟩
  have Xa : Hid (Box W0 (w.heap.size) (.bool true) (.slice p m m)) := by rw [hW0]; exact ⟨by go_simp, by go_simp, by go_simp, by go_simp⟩
  have Xb : Hid (Box W0 (w.heap.size + 1) (.bool false) (.slice q n n)) := by rw [hW0]; exact ⟨by go_simp, by go_simp, by go_simp, by go_simp⟩
  have Xr : Hid (Box W0 (w.heap.size + 1 + 1) (.bool false) (.slice none 0 0)) := by rw [hW0]; exact ⟨by go_simp, by go_simp, by go_simp, by go_simp⟩
  have Xu : Hid (Box W0 (w.heap.size + 1 + 1 + 1) (.bool false) (.slice none 0 0)) := by rw [hW0]; exact ⟨by go_simp, by go_simp, by go_simp, by go_simp⟩
  have hb0 : Below w.heap.size w W0 := by rw [hW0]; exact below4 w _ _ _ _
  rw [← hW0]
  clear hW0
  have hbw : Below w.heap.size w w := Below.refl _ _
  obtain ⟨gu, hgu⟩ : ∃ g, g = w.heap.size + 1 + 1 + 1 := ⟨_, rfl⟩
  have HGu : Hid (w.heap.size ≤ gu) := by rw [hgu]; show _ ≤ _; omega
  rw [← hgu] at Xu
  try rw [← hgu]
  obtain ⟨gr, hgr⟩ : ∃ g, g = w.heap.size + 1 + 1 := ⟨_, rfl⟩
  have HGr : Hid (w.heap.size ≤ gr) := by rw [hgr]; show _ ≤ _; omega
  rw [← hgr] at Xr
  try rw [← hgr]
  obtain ⟨gb, hgb⟩ : ∃ g, g = w.heap.size + 1 := ⟨_, rfl⟩
  have HGb : Hid (w.heap.size ≤ gb) := by rw [hgb]; show _ ≤ _; omega
  rw [← hgb] at Xb
  try rw [← hgb]
  obtain ⟨ga, hga⟩ : ∃ g, g = w.heap.size := ⟨_, rfl⟩
  have HGa : Hid (w.heap.size ≤ ga) := by rw [hga]; show _ ≤ _; omega
  rw [← hga] at Xa
  try rw [← hga]
  have HGD : Hid (ga ≠ gb ∧ ga ≠ gr ∧ ga ≠ gu ∧ gb ≠ ga ∧ gb ≠ gr ∧ gb ≠ gu ∧ gr ≠ ga ∧ gr ≠ gb ∧ gr ≠ gu ∧ gu ≠ ga ∧ gu ≠ gb ∧ gu ≠ gr) := by rw [hga, hgb, hgr, hgu]; exact ⟨by omega, by omega, by omega, by omega, by omega, by omega, by omega, by omega, by omega, by omega, by omega, by omega⟩
  clear hga hgb hgr hgu
  replace hbw := Below.on hbw hb0
  clear hb0
  refine (rsign04 false (HZ.out.below hbw)).mono ?_
  rintro e v1 ⟨rfl, hb1⟩
  rw [show sgnI y = 1 from by have := HM.out.2.2; unfold sgnI; rw [if_neg (by omega), if_neg (by omega)]]
  replace Xa : Hid _ := Xa.out.below hb1
  replace Xb : Hid _ := Xb.out.below hb1
  replace Xr : Hid _ := Xr.out.below hb1
  replace Xu : Hid _ := Xu.out.below hb1
  replace hbw := Below.on hbw hb1
  clear hb1
  obtain ⟨ca0, ca1, fa0, fa1⟩ := Xa.out
  have hnea := Xa.out.lt
  obtain ⟨cb0, cb1, fb0, fb1⟩ := Xb.out
  have hneb := Xb.out.lt
  go_wp2_with fail
  clear ca0 ca1 fa0 fa1 hnea
  clear cb0 cb1 fb0 fb1 hneb
  refine (rdivmod04 (AX.out.1.below hbw) (AX.out.2.below hbw) NX.out.1 NX.out.2 HM.out.1 HM.out.2.1 (by have := HM.out.2.2; omega)).mono ?_
  rintro e v2 ⟨p2, m2, z2, p3, m3, z3, rfl, hA2, hN2, hA3, hN3, hl2, hl3, hb2⟩
  replace Xa : Hid _ := Xa.out.below hb2
  replace Xb : Hid _ := Xb.out.below hb2
  replace Xr : Hid _ := Xr.out.below hb2
  replace Xu : Hid _ := Xu.out.below hb2
  replace hbw := Below.on hbw hb2
  clear hb2
  have A2 : Hid (At32 v2 p2 m2 m2 z2) := hA2
  have A3 : Hid (At32 v2 p3 m3 m3 z3) := hA3
  have N2 : Hid (Nf B32 z2 (x.natAbs / y.natAbs) ∧ Nf B32 z3 (x.natAbs % y.natAbs) ∧ m2 ≤ m ∧ m3 ≤ m) := ⟨hN2, hN3, hl2, hl3⟩
  obtain rfl : m3 = 0 := by rw [← hA3.len, (hN3.zero_iff B32_one).2 HLO.out]; rfl
  clear hA2 hN2 hA3 hN3 hl2 hl3
  obtain ⟨ca0, ca1, fa0, fa1⟩ := Xa.out
  have hnea := Xa.out.lt
  go_wp2_with fail
  clear ca0 ca1 fa0 fa1 hnea
  have HRB : Hid (gr < v2.heap.size ∧ gu < v2.heap.size ∧ w.heap.size ≤ v2.heap.size) := ⟨Xr.out.lt, Xu.out.lt, hbw.size⟩
  refine (rmk_any true A2.out N2.out.1 (by have := N2.out; have := HM.out; omega)).mono ?_
  rintro e v5 ⟨v, rfl, hv, hb5⟩
  obtain ⟨s5, g5, m5, rfl, hg5, hz5, hl5⟩ := hv
  have HN5 : Hid (v2.heap.size ≤ g5) := hg5
  have HB5 : Hid (v2.heap.size ≤ v5.heap.size) := hb5.size
  replace Xa : Hid _ := Xa.out.below hb5
  replace Xb : Hid _ := Xb.out.below hb5
  replace Xr : Hid _ := Xr.out.below hb5
  replace Xu : Hid _ := Xu.out.below hb5
  replace A2 : Hid _ := A2.out.below hb5
  replace A3 : Hid _ := A3.out.below hb5
  replace hbw := Below.on hbw hb5
  clear hb5
  have Z5 : Hid (ZR v5 s5 (some ⟨g5, 0, none⟩) m5 (iv true (x.natAbs / y.natAbs))) := hz5
  have HL5 : Hid (m5 ≤ m2) := hl5
  clear hz5 hl5 hg5
  have HBV : Hid (v2.heap.size ≤ v5.heap.size) := HB5.out
  go_wp2_with fail
  refine (rmk_any false A3.out N2.out.2.1 (by have := N2.out; have := HM.out; omega)).mono ?_
  rintro e v6 ⟨v, rfl, hv, hb6⟩
  obtain ⟨s6, g6, m6, rfl, hg6, hz6, hl6⟩ := hv
  have HN6 : Hid (v5.heap.size ≤ g6) := hg6
  have HB6 : Hid (v5.heap.size ≤ v6.heap.size) := hb6.size
  replace Xa : Hid _ := Xa.out.below hb6
  replace Xb : Hid _ := Xb.out.below hb6
  replace Xr : Hid _ := Xr.out.below hb6
  replace Xu : Hid _ := Xu.out.below hb6
  replace A2 : Hid _ := A2.out.below hb6
  replace A3 : Hid _ := A3.out.below hb6
  replace Z5 : Hid _ := Z5.out.below hb6
  replace hbw := Below.on hbw hb6
  clear hb6
  have Z6 : Hid (ZR v6 s6 (some ⟨g6, 0, none⟩) m6 (iv false (x.natAbs % y.natAbs))) := hz6
  have HL6 : Hid (m6 ≤ 0) := hl6
  clear hz6 hl6 hg6
  obtain ⟨hgd0, hgd1, hgd2, hgd3, hgd4, hgd5, hgd6, hgd7, hgd8, hgd9, hgd10, hgd11⟩ := HGD.out
  obtain ⟨cr0, cr1, fr0, fr1⟩ := Xr.out
  have hner := Xr.out.lt
  obtain ⟨cu0, cu1, fu0, fu1⟩ := Xu.out
  have hneu := Xu.out.lt
  go_wp2_with fail
  refine bodyPost_ret (v := .tuple #[.agg #[.bool s5, .slice (some ⟨g5, 0, none⟩) m5 m5], .agg #[.bool s6, .slice (some ⟨g6, 0, none⟩) m6 m6]]) (by rw [results_cell2 rfl]; go_simp) rfl ⟨s5, g5, m5, s6, g6, m6, rfl, Nat.le_trans HRB.out.2.2 HN5.out, Nat.le_trans HRB.out.2.2 (Nat.le_trans HBV.out HN6.out), ?_, ?_, ?_, ?_, ?_⟩
  · clear hgd0 hgd1 hgd2 hgd3 hgd4 hgd5 hgd6 hgd7 hgd8 hgd9 hgd10 hgd11
    have := HN5.out; have := HRB.out
    exact (((Z5.out.set _ _ _ (by omega)).set _ _ _ (by omega)).set _ _ _ (by omega)).set _ _ _ (by omega)
  · clear hgd0 hgd1 hgd2 hgd3 hgd4 hgd5 hgd6 hgd7 hgd8 hgd9 hgd10 hgd11
    have := HN6.out; have := HBV.out; have := HRB.out
    exact (((Z6.out.set _ _ _ (by omega)).set _ _ _ (by omega)).set _ _ _ (by omega)).set _ _ _ (by omega)
  · clear hgd0 hgd1 hgd2 hgd3 hgd4 hgd5 hgd6 hgd7 hgd8 hgd9 hgd10 hgd11
    have := HL5.out; have := N2.out; have := HM.out; omega
  · clear hgd0 hgd1 hgd2 hgd3 hgd4 hgd5 hgd6 hgd7 hgd8 hgd9 hgd10 hgd11
    have := HL6.out; have := N2.out; have := HM.out; omega
  · exact bSet (bSet (bSet (bSet hbw _ _ _ HGr.out) _ _ _ HGr.out) _ _ _ HGu.out) _ _ _ HGu.out
set_option maxRecDepth 20000 in
set_option maxHeartbeats 8000000 in
theorem rfloor04_n1 {p q : Option Addr} {m n : Nat} {w : World} {x y : Int} (h : ZR w true p m x) (k : ZR w false q n y) (hm : m ≤ 16384) (hn : n ≤ 40000) (hy : 0 < y) (hr : x.natAbs % y.natAbs ≠ 0) :
    Calls Tryz.prog 118 #[.agg #[.bool true, .slice p m m], .agg #[.bool false, .slice q n n]] w fun e w' => ∃ s1 g1 m1 s2 g2 m2, e = .returned (.tuple #[.agg #[.bool s1, .slice (some ⟨g1, 0, none⟩) m1 m1], .agg #[.bool s2, .slice (some ⟨g2, 0, none⟩) m2 m2]]) ∧ w.heap.size ≤ g1 ∧ w.heap.size ≤ g2 ∧ ZR w' s1 (some ⟨g1, 0, none⟩) m1 (rFd x y) ∧ ZR w' s2 (some ⟨g2, 0, none⟩) m2 (rMo x y) ∧ m1 ≤ 20000 ∧ m2 ≤ 40000 ∧ Below w.heap.size w w' := by
  have hyd : decide (y < 0) = false := decide_eq_false (by omega)
  have HQ : Hid (rFd x y = iv true (x.natAbs / y.natAbs + 1)) := by show _ = _; unfold rFd fl; rw [← h.sg, hyd, decide_eq_true hr]; simp
  have HR : Hid (rMo x y = iv false (y.natAbs - x.natAbs % y.natAbs)) := by show _ = _; unfold rMo mo; rw [← h.sg, hyd, decide_eq_true hr]; simp
  rw [HQ.out, HR.out]
  clear HQ HR hyd
  obtain ⟨xs, hAx, hNx⟩ := h.ex
  obtain ⟨ys, hAy, hNy⟩ := k.ex
  have HZ : Hid (ZR w false q n y) := k
  have AX : Hid (At32 w p m m xs ∧ At32 w q n n ys) := ⟨hAx, hAy⟩
  have NX : Hid (Nf B32 xs x.natAbs ∧ Nf B32 ys y.natAbs) := ⟨hNx, hNy⟩
  have HM : Hid (m ≤ 16384 ∧ n ≤ 40000 ∧ 0 < y) := ⟨hm, hn, hy⟩
  have HLO : Hid (x.natAbs % y.natAbs ≠ 0) := hr
  clear h k hm hn hy hAx hAy hNx hNy hr
  go_enter Tryz.func118, Tryz.ntmps118
  go_wp2_with fail
  obtain ⟨W0, hW0⟩ : ∃ W0, W0 = ((((w.alloc (.cells #[.bool true, .slice p m m] 70)).alloc (.cells #[.bool false, .slice q n n] 70)).alloc (.cells #[.bool false, .slice none 0 0] 70)).alloc (.cells #[.bool false, .slice none 0 0] 70)) := ⟨_, rfl⟩
  have Xa : Hid (Box W0 (w.heap.size) (.bool true) (.slice p m m)) := by rw [hW0]; exact ⟨by go_simp, by go_simp, by go_simp, by go_simp⟩
  have Xb : Hid (Box W0 (w.heap.size + 1) (.bool false) (.slice q n n)) := by rw [hW0]; exact ⟨by go_simp, by go_simp, by go_simp, by go_simp⟩
  have Xr : Hid (Box W0 (w.heap.size + 1 + 1) (.bool false) (.slice none 0 0)) := by rw [hW0]; exact ⟨by go_simp, by go_simp, by go_simp, by go_simp⟩
  have Xu : Hid (Box W0 (w.heap.size + 1 + 1 + 1) (.bool false) (.slice none 0 0)) := by rw [hW0]; exact ⟨by go_simp, by go_simp, by go_simp, by go_simp⟩
  have hb0 : Below w.heap.size w W0 := by rw [hW0]; exact below4 w _ _ _ _
  rw [← hW0]
  clear hW0
  have hbw : Below w.heap.size w w := Below.refl _ _
  obtain ⟨gu, hgu⟩ : ∃ g, g = w.heap.size + 1 + 1 + 1 := ⟨_, rfl⟩
  have HGu : Hid (w.heap.size ≤ gu) := by rw [hgu]; show _ ≤ _; omega
  rw [← hgu] at Xu
  try rw [← hgu]
  obtain ⟨gr, hgr⟩ : ∃ g, g = w.heap.size + 1 + 1 := ⟨_, rfl⟩
  have HGr : Hid (w.heap.size ≤ gr) := by rw [hgr]; show _ ≤ _; omega
  rw [← hgr] at Xr
  try rw [← hgr]
  obtain ⟨gb, hgb⟩ : ∃ g, g = w.heap.size + 1 := ⟨_, rfl⟩
  have HGb : Hid (w.heap.size ≤ gb) := by rw [hgb]; show _ ≤ _; omega
  rw [← hgb] at Xb
  try rw [← hgb]
  obtain ⟨ga, hga⟩ : ∃ g, g = w.heap.size := ⟨_, rfl⟩
  have HGa : Hid (w.heap.size ≤ ga) := by rw [hga]; show _ ≤ _; omega
  rw [← hga] at Xa
  try rw [← hga]
  have HGD : Hid (ga ≠ gb ∧ ga ≠ gr ∧ ga ≠ gu ∧ gb ≠ ga ∧ gb ≠ gr ∧ gb ≠ gu ∧ gr ≠ ga ∧ gr ≠ gb ∧ gr ≠ gu ∧ gu ≠ ga ∧ gu ≠ gb ∧ gu ≠ gr) := by rw [hga, hgb, hgr, hgu]; exact ⟨by omega, by omega, by omega, by omega, by omega, by omega, by omega, by omega, by omega, by omega, by omega, by omega⟩
  clear hga hgb hgr hgu
  replace hbw := Below.on hbw hb0
  clear hb0
  refine (rsign04 false (HZ.out.below hbw)).mono ?_
  rintro e v1 ⟨rfl, hb1⟩
  rw [show sgnI y = 1 from by have := HM.out.2.2; unfold sgnI; rw [if_neg (by omega), if_neg (by omega)]]
  replace Xa : Hid _ := Xa.out.below hb1
  replace Xb : Hid _ := Xb.out.below hb1
  replace Xr : Hid _ := Xr.out.below hb1
  replace Xu : Hid _ := Xu.out.below hb1
  replace hbw := Below.on hbw hb1
  clear hb1
  obtain ⟨ca0, ca1, fa0, fa1⟩ := Xa.out
  have hnea := Xa.out.lt
  obtain ⟨cb0, cb1, fb0, fb1⟩ := Xb.out
  have hneb := Xb.out.lt
  go_wp2_with fail
  clear ca0 ca1 fa0 fa1 hnea
  clear cb0 cb1 fb0 fb1 hneb
  refine (rdivmod04 (AX.out.1.below hbw) (AX.out.2.below hbw) NX.out.1 NX.out.2 HM.out.1 HM.out.2.1 (by have := HM.out.2.2; omega)).mono ?_
  rintro e v2 ⟨p2, m2, z2, p3, m3, z3, rfl, hA2, hN2, hA3, hN3, hl2, hl3, hb2⟩
  replace Xa : Hid _ := Xa.out.below hb2
  replace Xb : Hid _ := Xb.out.below hb2
  replace Xr : Hid _ := Xr.out.below hb2
  replace Xu : Hid _ := Xu.out.below hb2
  replace hbw := Below.on hbw hb2
  clear hb2
  have A2 : Hid (At32 v2 p2 m2 m2 z2) := hA2
  have A3 : Hid (At32 v2 p3 m3 m3 z3) := hA3
  have N2 : Hid (Nf B32 z2 (x.natAbs / y.natAbs) ∧ Nf B32 z3 (x.natAbs % y.natAbs) ∧ m2 ≤ m ∧ m3 ≤ m) := ⟨hN2, hN3, hl2, hl3⟩
  have hm3 : ¬ m3 = 0 := fun e => HLO.out ((hN3.zero_iff B32_one).1 (List.eq_nil_of_length_eq_zero (by rw [hA3.len]; exact e)))
  have hm3b : ((m3 : Int) == 0) = false := by simp; omega
  clear hA2 hN2 hA3 hN3 hl2 hl3
  obtain ⟨ca0, ca1, fa0, fa1⟩ := Xa.out
  have hnea := Xa.out.lt
  go_wp2_with fail
  clear ca0 ca1 fa0 fa1 hnea
  clear hm3 hm3b
  obtain ⟨W4, hW4⟩ : ∃ W1, W1 = v2.drew := ⟨_, rfl⟩
  have hbd : Below v2.heap.size v2 W4 := by rw [hW4]; exact bDrew1 (Below.refl _ _)
  replace Xa : Hid _ := Xa.out.below hbd
  replace Xb : Hid _ := Xb.out.below hbd
  replace Xr : Hid _ := Xr.out.below hbd
  replace Xu : Hid _ := Xu.out.below hbd
  replace A2 : Hid _ := A2.out.below hbd
  replace A3 : Hid _ := A3.out.below hbd
  replace hbw := Below.on hbw hbd
  clear hbd
  have HJ : Hid ((fun W' : World => W'.cell? ⟨gb, 1, none⟩ = some (.slice q n n)) W4) := Xb.out.c1
  refine wp_region_J (fun W' => W'.cell? ⟨gb, 1, none⟩ = some (.slice q n n)) (by kernel_rfl) ?_
  rw [← hW4]
  clear hW4
  refine wpJ_take (i := 0) (v := ?v1x0) rfl (by kernel_rfl) (by kernel_rfl) (by kernel_rfl) (fun _ _ _ h => h) (by kernel_rfl) ?hy1x0 HJ.out ?rest1x0
  case hy1x0 => (intro W' hJ; have j0 := hJ; go_simp; first | done | with_reducible rfl)
  refine wpJ_take (i := 4) (v := ?v2x4) rfl (by kernel_rfl) (by kernel_rfl) (by kernel_rfl) (fun _ _ _ h => h) (by kernel_rfl) ?hy2x4 HJ.out ?rest2x4
  case hy2x4 => (intro W' hJ; have j0 := hJ; go_simp; first | done | with_reducible rfl)
  refine wpJ_take (i := 5) (v := ?v3x5) rfl (by kernel_rfl) (by kernel_rfl) (by kernel_rfl) (fun _ _ _ h => h) (by kernel_rfl) ?hy3x5 HJ.out ?rest3x5
  case hy3x5 => (intro W' hJ; have j0 := hJ; go_simp; first | done | with_reducible rfl)
  refine wpJ_take (i := 6) (v := ?v4x6) rfl (by kernel_rfl) (by kernel_rfl) (by kernel_rfl) (fun _ _ _ h => h) (by kernel_rfl) ?hy4x6 HJ.out ?rest4x6
  case hy4x6 => (intro W' hJ; have j0 := hJ; go_simp; first | done | with_reducible rfl)
  refine wpJ_one (i := 1) (by kernel_rfl) rfl (by kernel_rfl) (fun KJ hK => ?_)
  go_simp
  refine (rword 1 (by rw [B64_eq]; decide) _).mono ?_
  rintro e v4 ⟨g4, z4, rfl, hl4, hA4, hN4, hb4⟩
  replace Xa : Hid _ := Xa.out.below hb4
  replace Xb : Hid _ := Xb.out.below hb4
  replace Xr : Hid _ := Xr.out.below hb4
  replace Xu : Hid _ := Xu.out.below hb4
  replace A2 : Hid _ := A2.out.below hb4
  replace A3 : Hid _ := A3.out.below hb4
  replace hbw := Below.on hbw hb4
  clear hb4
  have A4 : Hid (At32 v4 (some ⟨g4, 0, none⟩) z4.length z4.length z4) := hA4
  have N4 : Hid (Nf B32 z4 1 ∧ z4.length ≤ 2) := ⟨hN4, hl4⟩
  clear hA4 hN4 hl4
  refine hK _ _ Xb.out.c1 ?_
  clear hK
  refine wpJ_one (i := 2) (by kernel_rfl) rfl (by kernel_rfl) (fun KJ hK => ?_)
  go_simp
  refine (radd_any A2.out A4.out N2.out.1 N4.out.1 (by have := N2.out; have := HM.out; omega) (by have := N4.out; omega)).mono ?_
  rintro e v5 ⟨p5, m5, z5, rfl, hA5, hN5, hb5⟩
  have hl5 : m5 ≤ m2 + 1 := by
    have h1 := (N2.out.1.len_le B32_one (k := m2)).1 (by rw [A2.out.len]; exact Nat.le_refl _)
    have h2 := (hN5.len_le B32_one (k := m2 + 1)).2 (by rw [Nat.pow_succ]; have h3 : 1 < B32 := B32_one; have h4 : 0 < B32 ^ m2 := Nat.pow_pos (by omega); have h5 : B32 ^ m2 * 2 ≤ B32 ^ m2 * B32 := Nat.mul_le_mul_left _ h3; omega)
    rw [hA5.len] at h2
    exact h2
  replace Xa : Hid _ := Xa.out.below hb5
  replace Xb : Hid _ := Xb.out.below hb5
  replace Xr : Hid _ := Xr.out.below hb5
  replace Xu : Hid _ := Xu.out.below hb5
  replace A2 : Hid _ := A2.out.below hb5
  replace A3 : Hid _ := A3.out.below hb5
  replace A4 : Hid _ := A4.out.below hb5
  replace hbw := Below.on hbw hb5
  clear hb5
  have A5 : Hid (At32 v5 p5 m5 m5 z5) := hA5
  have N5 : Hid (Nf B32 z5 (x.natAbs / y.natAbs + 1) ∧ m5 ≤ m2 + 1) := ⟨hN5, hl5⟩
  clear hA5 hN5 hl5
  refine hK _ _ Xb.out.c1 ?_
  clear hK
  have HRB : Hid (gr < v5.heap.size ∧ gu < v5.heap.size ∧ w.heap.size ≤ v5.heap.size) := ⟨Xr.out.lt, Xu.out.lt, hbw.size⟩
  refine wpJ_one (i := 3) (by kernel_rfl) rfl (by kernel_rfl) (fun KJ hK => ?_)
  go_simp
  refine (rmk_any true A5.out N5.out.1 (by have := N5.out; have := N2.out; have := HM.out; omega)).mono ?_
  rintro e v6 ⟨v, rfl, hv, hb6⟩
  obtain ⟨s6, g6, m6, rfl, hg6, hz6, hl6⟩ := hv
  have HN6 : Hid (v5.heap.size ≤ g6) := hg6
  have HB6 : Hid (v5.heap.size ≤ v6.heap.size) := hb6.size
  replace Xa : Hid _ := Xa.out.below hb6
  replace Xb : Hid _ := Xb.out.below hb6
  replace Xr : Hid _ := Xr.out.below hb6
  replace Xu : Hid _ := Xu.out.below hb6
  replace A2 : Hid _ := A2.out.below hb6
  replace A3 : Hid _ := A3.out.below hb6
  replace A4 : Hid _ := A4.out.below hb6
  replace A5 : Hid _ := A5.out.below hb6
  replace hbw := Below.on hbw hb6
  clear hb6
  have Z6 : Hid (ZR v6 s6 (some ⟨g6, 0, none⟩) m6 (iv true (x.natAbs / y.natAbs + 1))) := hz6
  have HL6 : Hid (m6 ≤ m5) := hl6
  clear hz6 hl6 hg6
  refine hK _ _ Xb.out.c1 ?_
  clear hK
  refine wpJ_one (i := 7) (by kernel_rfl) rfl (by kernel_rfl) (fun KJ hK => ?_)
  go_simp
  refine (rsub_any (AX.out.2.below hbw) A3.out NX.out.2 N2.out.2.1 (by have := HM.out; omega) (Nat.le_of_lt (Nat.mod_lt _ (by have := HM.out.2.2; omega)))).mono ?_
  rintro e v7 ⟨p7, m7, z7, rfl, hA7, hN7, hl7, hb7⟩
  have HB7 : Hid (v6.heap.size ≤ v7.heap.size) := hb7.size
  replace Xa : Hid _ := Xa.out.below hb7
  replace Xb : Hid _ := Xb.out.below hb7
  replace Xr : Hid _ := Xr.out.below hb7
  replace Xu : Hid _ := Xu.out.below hb7
  replace A2 : Hid _ := A2.out.below hb7
  replace A3 : Hid _ := A3.out.below hb7
  replace A4 : Hid _ := A4.out.below hb7
  replace A5 : Hid _ := A5.out.below hb7
  replace Z6 : Hid _ := Z6.out.below hb7
  replace hbw := Below.on hbw hb7
  clear hb7
  have A7 : Hid (At32 v7 p7 m7 m7 z7) := hA7
  have N7 : Hid (Nf B32 z7 (y.natAbs - x.natAbs % y.natAbs) ∧ m7 ≤ n) := ⟨hN7, hl7⟩
  clear hA7 hN7 hl7
  refine hK _ _ Xb.out.c1 ?_
  clear hK
  have HBV : Hid (v5.heap.size ≤ v7.heap.size) := Nat.le_trans HB6.out HB7.out
  refine wpJ_one (i := 8) (by kernel_rfl) rfl (by kernel_rfl) (fun KJ hK => ?_)
  go_simp
  refine (rmk_any false A7.out N7.out.1 (by have := N7.out; have := HM.out; omega)).mono ?_
  rintro e v8 ⟨v, rfl, hv, hb8⟩
  obtain ⟨s8, g8, m8, rfl, hg8, hz8, hl8⟩ := hv
  have HN8 : Hid (v7.heap.size ≤ g8) := hg8
  have HB8 : Hid (v7.heap.size ≤ v8.heap.size) := hb8.size
  replace Xa : Hid _ := Xa.out.below hb8
  replace Xb : Hid _ := Xb.out.below hb8
  replace Xr : Hid _ := Xr.out.below hb8
  replace Xu : Hid _ := Xu.out.below hb8
  replace A2 : Hid _ := A2.out.below hb8
  replace A3 : Hid _ := A3.out.below hb8
  replace A4 : Hid _ := A4.out.below hb8
  replace A5 : Hid _ := A5.out.below hb8
  replace Z6 : Hid _ := Z6.out.below hb8
  replace A7 : Hid _ := A7.out.below hb8
  replace hbw := Below.on hbw hb8
  clear hb8
  have Z8 : Hid (ZR v8 s8 (some ⟨g8, 0, none⟩) m8 (iv false (y.natAbs - x.natAbs % y.natAbs))) := hz8
  have HL8 : Hid (m8 ≤ m7) := hl8
  clear hz8 hl8 hg8
  refine hK _ _ Xb.out.c1 ?_
  clear hK
  obtain ⟨cr0, cr1, fr0, fr1⟩ := Xr.out
  have hner := Xr.out.lt
  obtain ⟨cu0, cu1, fu0, fu1⟩ := Xu.out
  have hneu := Xu.out.lt
  obtain ⟨cb0, cb1, fb0, fb1⟩ := Xb.out
  have hneb := Xb.out.lt
  obtain ⟨hgd0, hgd1, hgd2, hgd3, hgd4, hgd5, hgd6, hgd7, hgd8, hgd9, hgd10, hgd11⟩ := HGD.out
  refine wpJ_one (i := 9) (by kernel_rfl) rfl (by kernel_rfl) (fun KJ hK => ?_)
  go_simp
  have HJ2 : Hid ((fun W' : World => W'.cell? ⟨gb, 1, none⟩ = some (.slice q n n)) ((v8.setCell ⟨gr, 0, none⟩ (.bool s6)).setCell ⟨gr, 1, none⟩ (.slice (some ⟨g6, 0, none⟩) m6 m6))) := by show World.cell? _ _ = _; go_simp
  refine hK _ _ HJ2.out ?_
  clear hK HJ
  have HJ := HJ2
  clear HJ2
  refine wpJ_one (i := 10) (by kernel_rfl) rfl (by kernel_rfl) (fun KJ hK => ?_)
  go_simp
  have HJ2 : Hid ((fun W' : World => W'.cell? ⟨gb, 1, none⟩ = some (.slice q n n)) ((((v8.setCell ⟨gr, 0, none⟩ (.bool s6)).setCell ⟨gr, 1, none⟩ (.slice (some ⟨g6, 0, none⟩) m6 m6)).setCell ⟨gu, 0, none⟩ (.bool s8)).setCell ⟨gu, 1, none⟩ (.slice (some ⟨g8, 0, none⟩) m8 m8))) := by show World.cell? _ _ = _; go_simp
  refine hK _ _ HJ2.out ?_
  clear hK HJ
  have HJ := HJ2
  clear HJ2
  refine wpJ_done (by kernel_rfl) ?_ _
  clear HJ
  go_wp2_with fail
  refine bodyPost_ret (v := .tuple #[.agg #[.bool s6, .slice (some ⟨g6, 0, none⟩) m6 m6], .agg #[.bool s8, .slice (some ⟨g8, 0, none⟩) m8 m8]]) (by rw [results_cell2 rfl]; go_simp) rfl ⟨s6, g6, m6, s8, g8, m8, rfl, Nat.le_trans HRB.out.2.2 HN6.out, Nat.le_trans HRB.out.2.2 (Nat.le_trans HBV.out HN8.out), ?_, ?_, ?_, ?_, ?_⟩
  · clear hgd0 hgd1 hgd2 hgd3 hgd4 hgd5 hgd6 hgd7 hgd8 hgd9 hgd10 hgd11
    have := HN6.out; have := HRB.out
    exact (((Z6.out.set _ _ _ (by omega)).set _ _ _ (by omega)).set _ _ _ (by omega)).set _ _ _ (by omega)
  · clear hgd0 hgd1 hgd2 hgd3 hgd4 hgd5 hgd6 hgd7 hgd8 hgd9 hgd10 hgd11
    have := HN8.out; have := HBV.out; have := HRB.out
    exact (((Z8.out.set _ _ _ (by omega)).set _ _ _ (by omega)).set _ _ _ (by omega)).set _ _ _ (by omega)
  · clear hgd0 hgd1 hgd2 hgd3 hgd4 hgd5 hgd6 hgd7 hgd8 hgd9 hgd10 hgd11
    have := HL6.out; have := N5.out; have := N2.out; have := HM.out; omega
  · clear hgd0 hgd1 hgd2 hgd3 hgd4 hgd5 hgd6 hgd7 hgd8 hgd9 hgd10 hgd11
    have := HL8.out; have := N7.out; have := HM.out; omega
  · exact bSet (bSet (bSet (bSet hbw _ _ _ HGr.out) _ _ _ HGr.out) _ _ _ HGu.out) _ _ _ HGu.out
theorem rfloor04 {p q : Option Addr} {m n : Nat} {w : World} {x y : Int} (s : Bool) (h : ZR w s p m x) (k : ZR w false q n y) (hm : m ≤ 16384) (hn : n ≤ 40000) (hy : 0 < y) :
    Calls Tryz.prog 118 #[.agg #[.bool s, .slice p m m], .agg #[.bool false, .slice q n n]] w fun e w' => ∃ s1 g1 m1 s2 g2 m2, e = .returned (.tuple #[.agg #[.bool s1, .slice (some ⟨g1, 0, none⟩) m1 m1], .agg #[.bool s2, .slice (some ⟨g2, 0, none⟩) m2 m2]]) ∧ w.heap.size ≤ g1 ∧ w.heap.size ≤ g2 ∧ ZR w' s1 (some ⟨g1, 0, none⟩) m1 (rFd x y) ∧ ZR w' s2 (some ⟨g2, 0, none⟩) m2 (rMo x y) ∧ m1 ≤ 20000 ∧ m2 ≤ 40000 ∧ Below w.heap.size w w' := by
  cases s
  · exact rfloor04_p h k hm hn hy
  · by_cases hr : x.natAbs % y.natAbs = 0
    · exact rfloor04_n0 h k hm hn hy hr
    · exact rfloor04_n1 h k hm hn hy hr
end Go.Proofs.YtgodajcnhipleaaGreatDoor

