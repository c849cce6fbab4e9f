import Derived.Test.YtjkhpkjpiifhoaaRoot2
import Derived.Test.YtjkhpkjpiifhoaaCmp32
namespace Go.Proofs.Ytjkhpkjpiifhoaa
open Go.RowKit Go.Shelf

set_option maxHeartbeats 400000 in
/-- gnomonlaw03.twin: a copy in new memory. -/
theorem twin3_any {p : Option Addr} {n c : Nat} {xs : List Nat} {w : World} (h : At w p n c xs) (hn : n ≤ 35184372088832) :
    Calls Try.prog 32 #[.slice p n c] w fun e w' =>
      ∃ g, e = .returned (.slice (some ⟨g, 0, none⟩) n n) ∧ w.heap.size ≤ g ∧ Blk w' g xs ∧ Below w.heap.size w w' := by
  obtain ⟨i0, hi, hz0, hz1, hz2⟩ := info_parts Try.infoU64
  have hl := h.len
  go_enter Try.func32, Try.ntmps32
  go_wp2_with (first
    | (at_make; refine wpList_make_full _ rfl _ _ 22 rfl w.heap.size 26 i0 (.int .u64 0) 1 Try.underlying22 hi hz0 hz1 _ _ _ _ n rfl rfl (by omega) (by omega) (by rw [hz2]; omega) (by unfold maxLen; omega) (Nat.le_refl _) ?_; intro w1 hown hgrow; have hb := made_blk hown hgrow; clear hown hgrow)
    | (refine wpList_copy_splice rfl (.tmp 7) (.tmp 8) 22 22 rfl 26 Try.underlying22 Try.sizeU64 (some ⟨w.heap.size, 0, none⟩) p n n n c rfl rfl w.heap.size 0 (cellsU (List.replicate n 0)) 26 hb.1 (cellsU xs) (by rw [cellsU_length, hl]; exact (Nat.min_self n).symm) (fun h0 => ⟨rfl, (h.below hb.2).src (by rw [cellsU_length] at h0; omega)⟩) (by simp [cellsU_length]; omega) (cellsU_one xs) w.heap.size w hb.2 (Nat.le_refl _) ?_; intro w2 hg2 hb2))
  go_ret
  refine ⟨_, rfl, Nat.le_refl _, ?_, hb2⟩
  rw [splice_cellsU, hl, Nat.sub_self, List.replicate_zero, List.append_nil] at hg2
  exact hg2
theorem twin3_num {p : Option Addr} {n c : Nat} {xs : List Nat} {a : Nat} {w : World} (h : Num w p n c xs a) :
    Calls Try.prog 32 #[.slice p n c] w fun e w' => ∃ p', e = .returned (.slice p' n n) ∧ Num w' p' n n xs a ∧ Below w.heap.size w w' := by
  refine (twin3_any h.at_ (by have := h.le; omega)).mono ?_
  rintro e w' ⟨g, rfl, hg, hblk, hb⟩
  exact ⟨_, rfl, ⟨hblk.at_ h.at_.dig h.at_.len (by unfold maxLen; have := h.le; omega), h.nf, h.le⟩, hb⟩

set_option maxHeartbeats 1000000 in
theorem root_any {p : Option Addr} {n c : Nat} {xs : List Nat} {a : Nat} {w : World} (h : Num w p n c xs a) :
    Calls Try.prog 36 #[.slice p n c] w fun e w' => ∃ v1 v2, e = .returned (.tuple #[v1, v2, .int .i64 0]) ∧ RootTo w a v1 v2 w' := by
  have fx := h.nf.form (by rw [h.at_.len]; exact h.le)
  have H : Hid (Num w p n c xs a) := h
  clear h
  go_enter Try.func36, Try.ntmps36
  go_wp2_with fail
  refine (form_true H.out.at_ fx).mono ?_
  rintro e w' ⟨rfl, hw⟩
  obtain rfl := hw.symm
  clear hw fx
  go_wp2_with fail
  refine (rootof_any a a (Nat.le_refl _) H.out.at_ H.out.nf H.out.le).mono ?_
  rintro e w1 ⟨v1, v2, rfl, hR⟩
  have HR : Hid (RootTo w a v1 v2 w1) := hR
  clear hR
  go_wp2_with fail
  go_ret3
  exact ⟨_, _, rfl, HR.out⟩

theorem own_one {B : Nat} {w : World} {p : Option Addr} {m : Nat} {zs : List Nat} {x : Nat} (ho : Own B w p m zs) (hn : Nf B64 zs x) (hx : x < B64) (h0 : x ≠ 0) : m = 1 ∧ ∃ g, p = some ⟨g, 0, none⟩ ∧ w.cell? ⟨g, 0, none⟩ = some (U x) ∧ g < w.heap.size := by
  obtain rfl : zs = [x] := hn.inj B64_one (nf_one hx h0)
  have hm : m = 1 := by rw [← ho.len]; rfl
  refine ⟨hm, ?_⟩
  obtain ⟨g, hp, _, hr⟩ := ho.mem.resolve_left (by omega)
  exact ⟨g, hp, hr.cell 0 (by omega), hr.lt (by omega)⟩
theorem root7 {s : Nat} (h1 : s * s ≤ 7) (h2 : 7 ≤ s * s + 2 * s) : s = 2 := by
  have h3 : s < 3 := by
    rcases Nat.lt_or_ge s 3 with e | e
    · exact e
    · have : 3 * 3 ≤ s * s := Nat.mul_le_mul e e
      omega
  match s, h3 with
  | 0, _ => simp at h2
  | 1, _ => simp at h2
  | 2, _ => rfl

set_option maxHeartbeats 1000000 in
theorem awake3_any (w : World) : Calls Try.prog 28 #[] w fun e w' => e = .returned (.bool true) ∧ Below w.heap.size w w' := by
  go_enter Try.func28, Try.ntmps28
  go_wp2_with fail
  refine (quorem_any ((lit_at w _ [7] 1 rfl rfl (dig1 (by decide)) (by omega)).alloc _) (lit_at1 w _ _ [3] 1 rfl rfl (dig1 (by decide)) (by omega)) (nf_one (by decide) (by decide)) (nf_one (by decide) (by decide)) (by omega) (by omega) (by decide)).mono ?_
  rintro e w1 ⟨v1, v2, rfl, hD⟩
  obtain ⟨p1, m1, z1, rfl, o1, n1, _⟩ := hD.quo
  obtain ⟨p2, m2, z2, rfl, o2, n2, _⟩ := hD.rem
  obtain ⟨rfl, g1, rfl, c1, l1⟩ := own_one o1 n1 (by decide) (by decide)
  obtain ⟨rfl, g2, rfl, c2, l2⟩ := own_one o2 n2 (by decide) (by decide)
  have hb : Below w.heap.size w w1 := Below.on (below2 w _ _) hD.bel
  clear hD o1 n1 o2 n2
  go_wp2_with fail
  have A7 : Num (w1.alloc (.cells #[U 7] 26)) (some ⟨w1.heap.size, 0, none⟩) 1 1 [7] 7 := ⟨lit_at w1 _ [7] 1 rfl rfl (dig1 (by decide)) (by omega), nf_one (by decide) (by decide), by omega⟩
  refine (root_any A7).mono ?_
  rintro e w2 ⟨v1, v2, rfl, hR⟩
  obtain ⟨s, p3, m3, z3, p4, m4, z4, h1, h2, rfl, o3, n3, _, rfl, o4, n4, _⟩ := hR.val
  obtain rfl := root7 h1 h2
  obtain ⟨rfl, g3, rfl, c3, l3⟩ := own_one o3 n3 (by decide) (by decide)
  obtain ⟨rfl, g4, rfl, c4, l4⟩ := own_one o4 n4 (by decide) (by decide)
  have hb2 : Below w1.heap.size w1 w2 := Below.on (below1 w1 _) hR.bel
  have d1 : w2.cell? ⟨g1, 0, none⟩ = some (U (7 / 3)) := (hb2.cell (p := ⟨g1, 0, none⟩) l1).trans c1
  have d2 : w2.cell? ⟨g2, 0, none⟩ = some (U (7 % 3)) := (hb2.cell (p := ⟨g2, 0, none⟩) l2).trans c2
  have hbw := Below.on hb hb2
  clear hR o3 n3 o4 n4 hb hb2 c1 c2 h1 h2 A7
  go_wp2_with fail
  go_ret
  exact ⟨rfl, hbw⟩
end Go.Proofs.Ytjkhpkjpiifhoaa
