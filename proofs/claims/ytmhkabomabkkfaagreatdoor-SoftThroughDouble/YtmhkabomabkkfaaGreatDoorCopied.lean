import Derived.Test.YtmhkabomabkkfaaGreatDoorTrim
import Derived.Laws.CopyOwn
namespace Go.Proofs.YtmhkabomabkkfaaGreatDoor
open Go.RowKit
set_option maxRecDepth 20000
set_option maxHeartbeats 0
theorem Tryz.infoU64 : (Tryz.prog.info? 22).map (fun i => (i.zero, i.size, i.bytes)) = some (some (.int .u64 0), 1, 8) := by kernel_rfl
theorem Tryz.sizeU64 : (Tryz.prog.info? 22).map (·.size) = some 1 := by kernel_rfl

def cellsU (xs : List Nat) : List Value := xs.map U
theorem madeU (n : Nat) : (madeCells (Value.cells (.int .u64 0)) (n * 1)).toList = cellsU (List.replicate n 0) := by
  unfold madeCells cellsU
  apply List.ext_getElem
  · simp
  · intro i h1 h2
    have e : i % 1 = 0 := Nat.mod_one i
    simp [Value.cells, U, e]

def Blk (w : World) (g : Nat) (xs : List Nat) : Prop := w.heap[g]? = some (.cells (cellsU xs).toArray 22 (0, 0))
theorem cellsU_get (xs : List Nat) (j : Nat) (h : j < xs.length) : (cellsU xs)[j]? = some (U (xs.getD j 0)) := by
  unfold cellsU
  rw [List.getElem?_map, List.getElem?_eq_getElem h, List.getD_eq_getElem?_getD, List.getElem?_eq_getElem h]; rfl
theorem Blk.cell {w : World} {g : Nat} {xs : List Nat} (h : Blk w g xs) (j : Nat) (hj : j < xs.length) : w.cell? ⟨g, j, none⟩ = some (U (xs.getD j 0)) := by
  rw [cell_of_row w g j _ _ _ h]
  rw [List.getElem?_toArray]; exact cellsU_get xs j hj
theorem Blk.frozen {w : World} {g : Nat} {xs : List Nat} (h : Blk w g xs) (j : Nat) : w.frozen? ⟨g, j, none⟩ = false := frozen_of_row w g j _ _ h
theorem Blk.row {w : World} {g : Nat} {xs : List Nat} (h : Blk w g xs) (hd : Dig B64 xs) : Row w g 0 xs.length xs :=
  ⟨rfl, hd, fun j hj => by rw [Nat.zero_add]; exact h.cell j hj, fun j _ => h.frozen _⟩
theorem Blk.lt {w : World} {g : Nat} {xs : List Nat} (h : Blk w g xs) : g < w.heap.size := (Array.getElem?_eq_some_iff.1 h).1
theorem own_blk {w : World} {base g n : Nat} {xs : List Nat} (h : w.ownsRow base 22 1 (.slice (some ⟨g, 0, none⟩) n n) n (cellsU xs)) : Blk w g xs := by
  rcases h.2 with ⟨h', _⟩ | ⟨g', cap', cur, h', _, hg, _, _, hsz, htake⟩
  · simp at h'
  · simp only [Value.slice.injEq, Option.some.injEq, Addr.mk.injEq, and_true, true_and] at h'
    obtain ⟨rfl, rfl⟩ := h'
    have e : cur = (cellsU xs).toArray := by
      rw [← htake, List.take_of_length_le (by rw [Array.length_toList, hsz]; exact Nat.le_refl _)]
    unfold Blk; rw [← e]; exact hg
theorem splice_cellsU (n : Nat) (xs : List Nat) : splice (cellsU (List.replicate n 0)) 0 (cellsU xs) = cellsU (xs ++ List.replicate (n - xs.length) 0) := by
  unfold splice cellsU
  simp only [List.take_zero, List.nil_append, List.length_map, Nat.zero_add, List.map_append, List.map_replicate, List.drop_replicate]

theorem made_blk {w w1 : World} {n : Nat} (hown : w1.ownsRow w.heap.size 22 1 (.slice (some ⟨w.heap.size, 0, none⟩) n n) n (madeCells (Value.cells (.int .u64 0)) (n * 1)).toList) (hgrow : w.grownBy w1 none) :
    Blk w1 w.heap.size (List.replicate n 0) ∧ Below w.heap.size w w1 := by
  rw [madeU] at hown
  exact ⟨own_blk hown, (Below.refl _ _).grown hgrow (Nat.le_refl _) (fun k hk => by simp at hk)⟩
theorem cellsU_one (xs : List Nat) : ∀ v ∈ cellsU xs, v.oneCell' = true := by
  intro v hv; unfold cellsU at hv; rw [List.mem_map] at hv; obtain ⟨x, _, rfl⟩ := hv; rfl
theorem cellsU_length (xs : List Nat) : (cellsU xs).length = xs.length := by simp [cellsU]
theorem At.src {w : World} {p : Option Addr} {n c : Nat} {xs : List Nat} (h : At w p n c xs) (hn : 0 < n) : ∃ ad, p = some ad ∧ ∀ j v, (cellsU xs)[j]? = some v → w.cell? (ad.add j) = some v := by
  rcases h.cells with h0 | ⟨g, off, rfl, hc⟩
  · omega
  · refine ⟨_, rfl, fun j v hv => ?_⟩
    have hj : j < xs.length := by
      have := (List.getElem?_eq_some_iff.1 hv).1
      rwa [cellsU_length] at this
    have hadd : (⟨g, off, none⟩ : Addr).add j = ⟨g, off + j, none⟩ := by unfold Addr.add; split <;> simp_all
    rw [hadd, hc j (by have := h.len; omega)]
    rw [cellsU_get xs j hj] at hv; exact hv

theorem copied_any {p : Option Addr} {m c : Nat} {xs : List Nat} {w : World} (h : At w p m c xs) (n : Nat) (hmn : m ≤ n) (hn : n ≤ 35184372088832) :
    Calls Tryz.prog 139 #[.slice p m c, .int .i64 n] w fun e w' =>
      ∃ g, e = .returned (.slice (some ⟨g, 0, none⟩) n n) ∧ w.heap.size ≤ g ∧ Blk w' g (xs ++ List.replicate (n - m) 0) ∧ Below w.heap.size w w' := by
  obtain ⟨i0, hi, hz0, hz1, hz2⟩ := info_parts Tryz.infoU64
  have hl := h.len
  go_enter Tryz.func139, Tryz.ntmps139
  go_wp2_with (first
    | (at_make; refine wpList_make_full _ rfl _ _ 93 rfl w.heap.size 22 i0 (.int .u64 0) 1 Tryz.underlying93 hi hz0 hz1 _ _ _ _ n rfl rfl (by omega) (by omega) (by rw [hz2]; omega) (by unfold maxLen; omega) (Nat.le_refl _) ?_; intro w1 hown hgrow; have hb := made_blk hown hgrow; clear hown hgrow)
    | (refine wpList_copy_splice rfl (.tmp 8) (.tmp 9) 93 93 rfl 22 Tryz.underlying93 Tryz.sizeU64 (some ⟨w.heap.size, 0, none⟩) p n n m c rfl rfl w.heap.size 0 (cellsU (List.replicate n 0)) 22 hb.1 (cellsU xs) (by rw [cellsU_length, hl]; exact (Nat.min_eq_left hmn).symm) (fun h0 => ⟨rfl, (h.below hb.2).src (by rw [cellsU_length] at h0; omega)⟩) (by simp [cellsU_length]; omega) (cellsU_one xs) w.heap.size w hb.2 (Nat.le_refl _) ?_; intro w2 hg2 hb2))
  go_ret
  refine ⟨_, rfl, Nat.le_refl _, ?_, hb2⟩
  rw [splice_cellsU, hl] at hg2
  exact hg2
end Go.Proofs.YtmhkabomabkkfaaGreatDoor
