import Derived.Test.YtilceolgfahhoaaJ11
import Derived.Test.YtilceolgfahhoaaJ9
import Derived.Test.YtilceolgfahhoaaJ12
namespace Go.Proofs.Ytilceolgfahhoaa
open Go.RowKit Go.Shelf
set_option maxRecDepth 20000
set_option maxHeartbeats 0
theorem wnk7 {n k : Nat} (h : n ≤ 17592186044496) (hk : k ≤ 16) : wrap64 ((n : Int) + (k : Int)) = ((n + k : Nat) : Int) := by
  have e : (n : Int) + (k : Int) = ((n + k : Nat) : Int) := by omega
  rw [e]
  simp only [wrap64]; omega
theorem lt7 {n k : Nat} (h : n ≤ 17592186044496) (hk : k ≤ 16) : n + k < 1000000000000000000 := by omega
theorem bd8 {i : Nat} (h : i ≤ 1000000) : i + 1 ≤ maxLen ∧ (i + 1) * 24 ≤ 140737488355328 := by
  unfold maxLen; omega
theorem bd7 {n k : Nat} (h : n ≤ 17592186044496) (hk : k ≤ 16) : n + k + 1 ≤ maxLen ∧ ((n + k + 1) + (n + k + 1) / 4 + 192) * 8 ≤ 281474976710656 := by
  unfold maxLen; omega
theorem wnk80 {n k : Nat} (h : n ≤ 17592186044496) (hk : k < 80) : wrap64 ((n : Int) + (k : Int)) = ((n + k : Nat) : Int) := by
  simp only [wrap64]; omega
theorem bd80 {n : Nat} (h : n ≤ 17592186044496) : n + 80 ≤ maxLen ∧ ((n + 80) + (n + 80) / 4 + 192) * 8 ≤ 281474976710656 := by
  unfold maxLen; omega
theorem bd88 {N i : Nat} (h : N ≤ 1000000) (hi : i ≤ 1000000) : N + i + 1 ≤ maxLen ∧ (N + i + 1) * 24 ≤ 140737488355328 := by
  unfold maxLen; omega
theorem mks_app {ys : List Nat} {i n L : Nat} (hl : ys.length = L) (h : ∀ m, m < L → ys.getD m 0 = mkN i (n + m)) : mks i n ++ ys = mks i (n + L) := by
  refine mks_eq (by rw [List.length_append, mks_len, hl]) fun j hj => ?_
  rw [List.getD_eq_getElem?_getD, List.getElem?_append, mks_len]
  by_cases h1 : j < n
  · rw [if_pos h1, ← List.getD_eq_getElem?_getD, mks_get h1]
  · rw [if_neg h1, ← List.getD_eq_getElem?_getD, h (j - n) (by omega)]
    rw [show n + (j - n) = j by omega]
theorem own_cells7 {w : World} {B k : Nat} {e : TypeId} {v : Value} {xs : List Value} (h : w.ownsRow B e 1 v k xs) (hk : 0 < k) : ∃ g cap, v = .slice (some ⟨g, 0, none⟩) k cap ∧ ∀ q, q < k → w.cell? ⟨g, q, none⟩ = xs[q]? := by
  rcases h.2 with ⟨_, h2⟩ | ⟨g, cap, cur, h2, h3, h4, h5, h6, h7, h8⟩
  · omega
  · refine ⟨g, cap, h2, fun q hq => ?_⟩
    rw [cell_of_row w g q _ _ _ h4, ← h8, Nat.mul_one, List.getElem?_take, if_pos hq, Array.getElem?_toList]
theorem wj7 {j : Nat} (h : j < 17592186044596) : wrap64 ((j : Int) + 1) = ((j + 1 : Nat) : Int) := by
  simp only [wrap64]; omega
theorem got7 {w : World} {fo : Option Nat} {N K gg : Nat} {Gs : List It} (h : GQ w fo N Gs) (hl : Gs.length = K) {q : Nat} (hq : q < K) (hc : w.cell? ⟨gg, q, none⟩ = (Gs.map itv)[q]?) : ∃ bi ni ci, w.cell? ⟨gg, q, none⟩ = some (.slice (some ⟨bi, 0, none⟩) ni ci) ∧ ni ≤ 17592186044596 ∧ ∀ m, m < ni → w.cell? ⟨bi, m, none⟩ = some (U (mkN (q % N) m)) := by
  have hq2 : q < Gs.length := by omega
  obtain ⟨bi, h1, -, -⟩ := h.blk q hq2
  have h2 := h.at_ q hq2
  refine ⟨bi, Gs[q].n, Gs[q].c, ?_, h.le q hq2, fun m hm => ?_⟩
  · rw [hc, List.getElem?_map, List.getElem?_eq_getElem hq2, ← h1]; rfl
  · obtain ⟨g', off, e, hcl⟩ := h2.cells.resolve_left (by omega)
    rw [h1] at e
    simp only [Option.some.injEq, Addr.mk.injEq, and_true] at e
    obtain ⟨rfl, rfl⟩ := e
    have h3 := hcl m hm
    rw [Nat.zero_add, h.mrk q hq2 m hm] at h3
    exact h3
theorem row_src7 {w : World} {g L : Nat} {xs : List Nat} (h : Row w g 0 L xs) : (cellsU xs).length = L * 1 ∧ (∀ j u, (cellsU xs)[j]? = some u → w.cell? ((⟨g, 0, none⟩ : Addr).add j) = some u) ∧ ∀ u ∈ cellsU xs, u.oneCell' = true := by
  refine ⟨by rw [cellsU_length, h.len]; omega, fun j u hu => ?_, fun u hu => ?_⟩
  · have hj : j < L := by
      rcases Nat.lt_or_ge j L with h6 | h6
      · exact h6
      · rw [List.getElem?_eq_none (by rw [cellsU_length, h.len]; exact h6)] at hu; cases hu
    have hadd : (⟨g, 0, none⟩ : Addr).add j = ⟨g, j, none⟩ := by unfold Addr.add; split <;> simp_all
    have hcl := h.cell j hj
    rw [Nat.zero_add] at hcl
    rw [hadd, hcl, ← hu, cellsU_get _ _ (by rw [h.len]; exact hj)]
  · obtain ⟨x, _, rfl⟩ := List.mem_map.1 hu
    rfl
theorem apart_ok {go off N C B : Nat} {p : Nat → Option Addr} {n b : Nat → Nat} {X : Nat → List Nat} {w : World} (h : LQ w B go off N p n b X) (hN : N ≤ 1000000) (hN0 : 0 < N) (_hC : N ≤ C) (_hC2 : C ≤ maxLen) (hB : B ≤ w.heap.size) :
    Calls Try.prog 17 #[.slice (some ⟨go, off, none⟩) N C] w fun en w' => en = .returned (.bool true) ∧ Below B w w' := by
  obtain ⟨i0, hi, hz0, hz1, hz2⟩ := info_parts Try.infoU64
  obtain ⟨s0, hs, hy0, hy1, hy2⟩ := info_parts Try.infoSl
  have H : Hid (LQ w B go off N p n b X) := h
  have HB : Hid (B ≤ w.heap.size) := hB
  clear h hB
  go_enter Try.func17, Try.ntmps17
  go_wp2_with fail
  go_loopg [3] N (fun gk iv wr => ∃ (i : Nat) (X : Nat → List Nat), i + gk = N ∧ iv = .int .i64 i ∧ LQ wr B go off N p n b X ∧ (∀ k, k < i → Mkd n X k) ∧ Below B w wr)
  case atStart => exact ⟨0, X, by omega, rfl, H.out, fun k hk => by omega, Below.refl _ _⟩
  case round =>
    obtain ⟨i, X, hig, rfl, xl, xm, hbw⟩ := hrel
    clear H
    have LL : Hid (LQ wr B go off N p n b X ∧ ∀ k, k < i → Mkd n X k) := ⟨xl, xm⟩
    clear xl xm
    cases gk with
    | succ gi =>
      have hil : (i : Int) < (N : Int) := by omega
      have hi0 : (0 : Int) ≤ (i : Int) ∧ (i : Int) < (N : Int) := by omega
      go_wp2_with fail
      have hbw1 := hbw
      clear hbw
      go_loopg [4] (n i) (fun gj jv wr => ∃ (j : Nat) (X : Nat → List Nat), j + gj = n i ∧ jv = .int .i64 j ∧ LQ wr B go off N p n b X ∧ (∀ k, k < i → Mkd n X k) ∧ (∀ m, m < j → (X i).getD m 0 = mkN i m) ∧ Below B w wr)
      case atStart => exact ⟨0, X, by omega, rfl, LL.out.1, LL.out.2, fun m hm => by omega, hbw1⟩
      case round =>
        obtain ⟨j, X, hjg, rfl, xl, xm, xj, hbw⟩ := hrel
        clear LL hbw1
        have LL : Hid (LQ wr B go off N p n b X) := xl
        have HM : Hid ((∀ k, k < i → Mkd n X k) ∧ ∀ m, m < j → (X i).getD m 0 = mkN i m) := ⟨xm, xj⟩
        clear xl xm xj
        have hcx := LL.out.cells i (by omega)
        have hle := LL.out.le i (by omega)
        cases gk with
        | succ gj =>
          have hp := (LL.out.addr i (by omega)).resolve_left (by omega)
          rw [hp] at hcx
          have hcl := (LL.out.row i (by omega)).cell j (by omega)
          have hfr := (LL.out.row i (by omega)).frozen j (by omega)
          rw [Nat.zero_add] at hcl hfr
          have HNE : Hid (b i ≠ go) := LL.out.ne i (by omega) (by omega)
          obtain ⟨ni, hni⟩ : ∃ x, x = n i := ⟨_, rfl⟩
          obtain ⟨bi, hbi⟩ : ∃ x, x = b i := ⟨_, rfl⟩
          rw [← hni, ← hbi] at hcx
          rw [← hni] at hle hjg
          rw [← hbi] at hcl hfr HNE
          have HNI : Hid (ni = n i ∧ bi = b i ∧ p i = some ⟨b i, 0, none⟩) := ⟨hni, hbi, hp⟩
          clear hni hbi hp
          have hjl : (j : Int) < (ni : Int) := by omega
          have hj0 : (0 : Int) ≤ (j : Int) ∧ (j : Int) < (ni : Int) := by omega
          go_wp2_with fail
          have HCX : Hid (wr.cell? ⟨go, off + i, none⟩ = some (.slice (some ⟨bi, 0, none⟩) ni ni)) := hcx
          have HCL : Hid (wr.cell? ⟨bi, j, none⟩ = some (U ((X i).getD j 0)) ∧ wr.frozen? ⟨bi, j, none⟩ = false) := ⟨hcl, hfr⟩
          have hbr : Below wr.heap.size wr wr := Below.refl _ _
          have hbB := hbw
          clear hcx hcl hfr hbw
          have hbw := hbr
          clear hbr
          obtain ⟨W1, hW1⟩ : ∃ W1, W1 = wr.drew := ⟨_, rfl⟩
          have hbd : Below wr.heap.size wr W1 := by rw [hW1]; exact bDrew1 (Below.refl _ _)
          replace hbw := Below.on hbw hbd
          clear hbd
          have HJ : Hid ((fun W' : World => W'.cell? ⟨go, off + i, none⟩ = some (.slice (some ⟨bi, 0, none⟩) ni ni)) W1) := ((hbw.cell (p := ⟨go, off + i, none⟩) (World.block_lt_of_cell? wr _ HCX.out)).trans HCX.out)
          refine wp_region_J (fun W' => W'.cell? ⟨go, off + i, none⟩ = some (.slice (some ⟨bi, 0, none⟩) ni ni)) (by kernel_rfl) ?_
          rw [← hW1]
          clear hW1
          refine wpJ_tk 0 (v := ?v1x0) rfl ?hy1x0 HJ.out ?_
          case hy1x0 => (intro W' hJ; have j0 := hJ; go_simp; first | done | with_reducible rfl)
          refine wpJ_tk 1 (v := ?v2x1) rfl ?hy2x1 HJ.out ?_
          case hy2x1 => (intro W' hJ; have j0 := hJ; go_simp; first | done | with_reducible rfl)
          refine wpJ_tk 2 (v := ?v3x2) rfl ?hy3x2 HJ.out ?_
          case hy3x2 => (intro W' hJ; have j0 := hJ; go_simp; first | done | with_reducible rfl)
          refine wpJ_tk 3 (v := ?v4x3) rfl ?hy4x3 HJ.out ?_
          case hy4x3 => (intro W' hJ; have j0 := hJ; go_simp; first | done | with_reducible rfl)
          refine wpJ_tk 4 (v := ?v5x4) rfl ?hy5x4 HJ.out ?_
          case hy5x4 => (intro W' hJ; have j0 := hJ; go_simp; first | done | with_reducible rfl)
          go_simp
          refine wpJ_tk 5 (v := ?v6x5) rfl ?hy6x5 HJ.out ?_
          case hy6x5 => (intro W' hJ; have j0 := hJ; go_simp; first | done | with_reducible rfl)
          refine wpJ_tk 6 (v := ?v7x6) rfl ?hy7x6 HJ.out ?_
          case hy7x6 => (intro W' hJ; have j0 := hJ; go_simp; first | done | with_reducible rfl)
          refine wpJ_on 7 rfl fun KJ hK => ?_
          go_simp
          refine (mark_ij i j (by omega) (by omega)).mono ?_
          rintro e w' ⟨rfl, hw⟩
          obtain rfl := hw.symm
          clear hw
          clear HJ
          have HJ : Hid ((fun W' : World => W'.cell? ⟨go, off + i, none⟩ = some (.slice (some ⟨bi, 0, none⟩) ni ni)) W1) := ((hbw.cell (p := ⟨go, off + i, none⟩) (World.block_lt_of_cell? wr _ HCX.out)).trans HCX.out)
          refine hK _ _ HJ.out ?_
          clear hK
          refine wpJ_tk 8 (v := ?v8x8) rfl ?hy8x8 HJ.out ?_
          case hy8x8 => (intro W' hJ; have j0 := hJ; go_simp; first | done | with_reducible rfl)
          have hcl := (hbw.cell (p := ⟨bi, j, none⟩) (World.block_lt_of_cell? wr _ HCL.out.1)).trans HCL.out.1
          have hfr := (hbw.frozen (p := ⟨bi, j, none⟩) (World.block_lt_of_cell? wr _ HCL.out.1)).trans HCL.out.2
          refine wpJ_on 9 rfl fun KJ hK => ?_
          go_simp
          have HJ2 : Hid ((fun W' : World => W'.cell? ⟨go, off + i, none⟩ = some (.slice (some ⟨bi, 0, none⟩) ni ni)) (W1.setCell ⟨bi, j, none⟩ (U (mkN i j)))) := (World.cell?_setCell_other _ _ _ _ (by intro e; exact HNE.out (congrArg Addr.block e))).trans HJ.out
          refine hK _ _ HJ2.out ?_
          clear hK HJ
          have HJ := HJ2
          clear HJ2
          refine wpJ_done (by kernel_rfl) ?_ _
          clear HJ
          have LL2 := (LL.out.below hbw).set (i := i) (j := j) (y := mkN i j) (by omega) (by rw [← HNI.out.1]; omega) (mkN_lt (by omega) (by omega))
          have HBG : Hid (B ≤ b i) := LL.out.ge i (by omega)
          rw [← HNI.out.2.1] at LL2
          have hbw2 := bSet (hbB.trans (hbw.mono (by have := hbB.size; have := HB.out; omega))) bi j (U (mkN i j)) (by rw [HNI.out.2.1]; exact HBG.out)
          generalize W1.setCell ⟨bi, j, none⟩ (U (mkN i j)) = W2 at *
          clear hcl hfr hbw hbB
          go_wp2_with fail
          go_roundg gj
          case measure => omega
          case rel =>
            refine ⟨j + 1, _, by rw [← HNI.out.1]; omega, by go_num, LL2, fun k hk => ?_, fun m hm => ?_, hbw2⟩
            · intro m hm; show (if k = i then (X i).set j (mkN i j) else X k).getD m 0 = _; rw [if_neg (by omega)]; exact HM.out.1 k hk m hm
            · show (if i = i then (X i).set j (mkN i j) else X i).getD m 0 = _; rw [if_pos rfl, getD_set _ _ _ _ (by rw [(LL.out.row i (by omega)).len, ← HNI.out.1]; omega)]
              by_cases e : m = j
              · rw [if_pos e, e]
              · rw [if_neg e]; exact HM.out.2 m (by omega)
        | zero =>
          obtain rfl : j = n i := by omega
          have hnj : ¬ ((n i : Nat) : Int) < ((n i : Nat) : Int) := by omega
          have HM2 : Hid (∀ k, k < i + 1 → Mkd n X k) := mkd_succ HM.out.1 HM.out.2
          generalize n i = ni at *
          go_wp2_with fail
          go_roundg gi
          case measure => omega
          case rel => exact ⟨i + 1, X, by omega, by go_num, LL.out, HM2.out, hbw⟩
    | zero =>
      obtain rfl : N = i := by omega
      have hnk : ¬ (N : Int) < (N : Int) := by omega
      go_wp2_with fail
      clear hnk hig
      generalize wr = w1 at *
      have LM : Hid (LQ w1 B go off N p n b X ∧ (∀ k, k < N → Mkd n X k) ∧ B ≤ w1.heap.size) := ⟨LL.out.1, LL.out.2, by have := hbw.size; have := HB.out; omega⟩
      have HBW : Hid (Below B w w1) := hbw
      clear LL hbw
      go_loopg [5, 6] N (fun gk gv iv wr => ∃ (i : Nat) (Gs : List It), i + gk = N ∧ iv = .int .i64 i ∧ Gs.length = i ∧ wr.ownsRow w1.heap.size 24 1 gv i (Gs.map itv) ∧ GQ wr gv.ownBlock N Gs ∧ Below w1.heap.size w1 wr)
      case atStart => exact ⟨0, [], by omega, rfl, rfl, ⟨rfl, .inl ⟨rfl, rfl⟩⟩, ⟨fun q h => absurd h (Nat.not_lt_zero _), fun q h => absurd h (Nat.not_lt_zero _), fun q h => absurd h (Nat.not_lt_zero _), fun q h => absurd h (Nat.not_lt_zero _)⟩, Below.refl _ _⟩
      case round =>
        obtain ⟨i, Gs, hig, rfl, hgl, xo, xg, hbw⟩ := hrel
        have OG : Hid (wr.ownsRow w1.heap.size 24 1 u5 i (Gs.map itv) ∧ Gs.length = i) := ⟨xo, hgl⟩
        have GG : Hid (GQ wr u5.ownBlock N Gs) := xg
        clear xo xg hgl
        cases gk with
        | succ gi =>
          have hil : (i : Int) < (N : Int) := by omega
          have hi0 : (0 : Int) ≤ (i : Int) ∧ (i : Int) < (N : Int) := by omega
          have HCX : Hid (w1.cell? ⟨go, off + i, none⟩ = some (.slice (p i) (n i) (n i))) := LM.out.1.cells i (by omega)
          have hle := LM.out.1.le i (by omega)
          obtain ⟨ni, hni⟩ : ∃ x, x = n i := ⟨_, rfl⟩
          obtain ⟨pi, hpi⟩ : ∃ x, x = p i := ⟨_, rfl⟩
          rw [← hni, ← hpi] at HCX
          rw [← hni] at hle
          have HNI : Hid (ni = n i ∧ pi = p i) := ⟨hni, hpi⟩
          clear hni hpi
          have hcx := (hbw.cell (p := ⟨go, off + i, none⟩) (World.block_lt_of_cell? w1 _ HCX.out)).trans HCX.out
          go_wp2_with fail
          clear hcx
          generalize wr = wi at *
          have hbi : Below w1.heap.size w1 wi := hbw
          have hb0 : Below wi.heap.size wi wi := Below.refl _ _
          clear hbw
          go_loopg [7, 8] 16 (fun gk gv kv wr => ∃ (k : Nat), k + gk = 16 ∧ kv = .int .i64 k ∧ ((k = 0 ∧ gv = .slice pi ni ni) ∨ (1 ≤ k ∧ wr.ownsRow wi.heap.size 23 1 gv (ni + k) (cellsU (mks i (ni + k))))) ∧ Below wi.heap.size wi wr)
          case atStart => exact ⟨0, by omega, rfl, .inl ⟨rfl, rfl⟩, hb0⟩
          case round =>
            obtain ⟨k, hkg, rfl, hgv, hbw⟩ := hrel
            clear hb0
            cases gk with
            | succ gk =>
              have hk16 : (k : Int) < 16 := by omega
              have HI6 : Hid (i ≤ 1000000 ∧ ni + k < 1000000000000000000) := ⟨by omega, lt7 hle (show k ≤ 16 by omega)⟩
              have HBD : Hid (ni + k + 1 ≤ maxLen ∧ ((ni + k + 1) + (ni + k + 1) / 4 + 192) * 8 ≤ 281474976710656) := bd7 hle (show k ≤ 16 by omega)
              have hb1 := Below.on hbi hbw
              have hcx := (hb1.cell (p := ⟨go, off + i, none⟩) (World.block_lt_of_cell? w1 _ HCX.out)).trans HCX.out
              have ea : (ni : Int) + (k : Int) = ((ni + k : Nat) : Int) := by omega
              have HEA : Hid ((ni : Int) + (k : Int) = ((ni + k : Nat) : Int)) := ea
              clear ea
              have wnk := wnk7 hle (show k ≤ 16 by omega)
              go_wp2_with fail
              rw [HEA.out]
              refine (mark_ij i (ni + k) HI6.out.1 HI6.out.2).mono ?_
              rintro e w' ⟨rfl, hw⟩
              obtain rfl := hw.symm
              clear hw wnk hcx
              obtain ⟨y, hy⟩ : ∃ y, y = mkN i (ni + k) := ⟨_, rfl⟩
              rw [← hy]
              have HY : Hid (y = mkN i (ni + k)) := hy
              clear hy
              have hbA : Below wr.heap.size wr (wr.alloc (.cells #[U y] 23)) := below1 wr _
              have hbwA := Below.on hbw hbA
              have HSZ : Hid (wi.heap.size ≤ (wr.alloc (.cells #[U y] 23)).heap.size) := hbwA.size
              rcases hgv with ⟨hk0, hgv⟩ | ⟨hk1, hgv⟩
              · subst hk0 hgv
                have hb1A := Below.on hb1 hbA
                have HAT : Hid (pi = none → ni = 0) := fun h => by rw [HNI.out.1]; exact LM.out.1.pn i (by omega) (by rw [← HNI.out.2]; exact h)
                have HOL : Hid (∀ b, pi = some b → ∀ j u, (cellsU (mks i ni))[j]? = some u → (wr.alloc (.cells #[U y] 23)).cell? (b.add j) = some u) := full_cells LM.out.1 (LM.out.2.1 i (by omega)) (by omega) HNI.out.1 HNI.out.2 hb1A
                clear hb1A hbA hb1
                go_wp2_with (at_builtin; go_loud (refine wpList_append_full _ rfl _ _ 24 rfl 23 i0 (.int .u64 0) 1 8 Try.underlying24 hi hz0 hz1 hz2 rfl (by decide) pi ni (cellsU (mks i ni)) rfl HAT.out (by rw [cellsU_length, mks_len]; omega) HOL.out ⟨wr.heap.size, 0, none⟩ 1 1 [U y] rfl rfl (cell_new1 _ _ _) (by intro u hu; simp at hu; subst hu; rfl) (by decide) HBD.out.1 HBD.out.2 ?_); intro v6 w6 hown6 hgr6)
                go_roundg gk
                case measure => omega
                case rel =>
                  refine ⟨0 + 1, by omega, by go_num, .inr ⟨by omega, ?_⟩, hbwA.grown hgr6 HSZ.out (fun b hb => by cases hb)⟩
                  have e0 : cellsU (mks i (ni + (0 + 1))) = cellsU (mks i ni) ++ [U y] := by rw [HY.out, Nat.zero_add, mks_succ]; unfold cellsU; rw [List.map_append]; rfl
                  rw [e0]
                  exact own_mono hown6 HSZ.out
              · have OWA : Hid ((wr.alloc (.cells #[U y] 23)).ownsRow wi.heap.size 23 1 u7 (ni + k) (cellsU (mks i (ni + k)))) := ownAny7 hgv hbA
                clear hbA hb1 hgv
                go_wp2_with (at_builtin; refine wpList_append_own_wide _ rfl _ _ 24 rfl wi.heap.size 23 i0 (.int .u64 0) 1 8 Try.underlying24 hi hz0 hz1 hz2 rfl (by decide) u7 (ni + k) (cellsU (mks i (ni + k))) rfl OWA.out ⟨wr.heap.size, 0, none⟩ 1 1 [U y] rfl rfl (cell_new1 _ _ _) (by intro u hu; simp at hu; subst hu; rfl) HBD.out.1 HBD.out.2 HSZ.out ?_; intro v6 w6 hown6 hgr6 hnil6)
                go_roundg gk
                case measure => omega
                case rel =>
                  refine ⟨k + 1, by omega, by go_num, .inr ⟨by omega, ?_⟩, hbwA.grown hgr6 HSZ.out (fun b hb => (own_ob7 OWA.out hb).1)⟩
                  have e0 : cellsU (mks i (ni + (k + 1))) = cellsU (mks i (ni + k)) ++ [U y] := by rw [HY.out, ← Nat.add_assoc, mks_succ]; unfold cellsU; rw [List.map_append]; rfl
                  rw [e0, ← Nat.add_assoc]
                  exact hown6
            | zero =>
              obtain rfl : k = 16 := by omega
              obtain ⟨-, hgv⟩ := hgv.resolve_left (by rintro ⟨h, _⟩; omega)
              have HLE : Hid (i ≤ 1000000 ∧ i < N ∧ ni + 16 ≤ 17592186044596) := ⟨by omega, by omega, by omega⟩
              have hsl : ∃ g7 c7, u7 = .slice (some ⟨g7, 0, none⟩) (ni + 16) c7 ∧ wi.heap.size ≤ g7 ∧ g7 < wr.heap.size ∧ At wr (some ⟨g7, 0, none⟩) (ni + 16) c7 (mks i (ni + 16)) := own_sl7 (k := ni + 15) hgv HLE.out.1 (show ni + 16 < 1000000000000000000 from lt7 hle (Nat.le_refl 16))
              obtain ⟨g7, c7, rfl, hg1, hg2, hat⟩ := hsl
              have hbA : Below wr.heap.size wr (wr.alloc (.cells #[.slice (some ⟨g7, 0, none⟩) (ni + 16) c7] 24)) := below1 wr _
              have hbwA := Below.on hbw hbA
              have OGA : Hid ((wr.alloc (.cells #[.slice (some ⟨g7, 0, none⟩) (ni + 16) c7] 24)).ownsRow w1.heap.size 24 1 u5 i (Gs.map itv)) := ownAny7 OG.out.1 hbwA
              have HSZ : Hid (w1.heap.size ≤ (wr.alloc (.cells #[.slice (some ⟨g7, 0, none⟩) (ni + 16) c7] 24)).heap.size) := Nat.le_trans hbi.size hbwA.size
              have HBD : Hid (i + 1 ≤ maxLen ∧ (i + 1) * 24 ≤ 140737488355328) := bd8 HLE.out.1
              have GGA : Hid (GQ (wr.alloc (.cells #[.slice (some ⟨g7, 0, none⟩) (ni + 16) c7] 24)) u5.ownBlock N Gs) := GG.out.below hbwA
              have HAT : Hid (At (wr.alloc (.cells #[.slice (some ⟨g7, 0, none⟩) (ni + 16) c7] 24)) (some ⟨g7, 0, none⟩) (ni + 16) c7 (mks i (ni + 16))) := hat.below hbA
              have HG7 : Hid (some g7 ≠ u5.ownBlock ∧ g7 < (wr.alloc (.cells #[.slice (some ⟨g7, 0, none⟩) (ni + 16) c7] 24)).heap.size) := ⟨fun e => by have := (own_ob7 OG.out.1 e.symm).2; omega, Nat.lt_of_lt_of_le hg2 hbA.size⟩
              have HBL : Hid (Below w1.heap.size w1 (wr.alloc (.cells #[.slice (some ⟨g7, 0, none⟩) (ni + 16) c7] 24))) := Below.on hbi hbwA
              clear hgv hat hbA hbwA hbw hg1 hg2 hbi
              go_wp2_with (at_builtin; refine wpList_append_own_at _ rfl _ _ 25 rfl w1.heap.size 24 s0 (.slice none 0 0) 1 24 Try.underlying25 hs hy0 hy1 hy2 rfl (by decide) u5 i (Gs.map itv) rfl OGA.out ⟨wr.heap.size, 0, none⟩ 1 1 [.slice (some ⟨g7, 0, none⟩) (ni + 16) c7] rfl rfl (cell_new1 _ _ _) (by intro u hu; simp at hu; subst hu; rfl) HBD.out.1 HBD.out.2 HSZ.out ?_; intro v8 w8 hown8 hgr8 hnil8 hob8)
              go_roundg gi
              case measure => omega
              case rel =>
                refine ⟨i + 1, Gs ++ [⟨some ⟨g7, 0, none⟩, ni + 16, c7, mks i (ni + 16), 0⟩], by omega, by go_num, by rw [List.length_append, OG.out.2]; rfl, by rw [List.map_append]; exact hown8, ?_, HBL.out.grown hgr8 HSZ.out (fun b hb => (own_ob7 OGA.out hb).1)⟩
                refine (GGA.out.grow hgr8 hob8).snoc _ (b := g7) rfl ?_ (Nat.lt_of_lt_of_le HG7.out.2 hgr8.size) (HAT.out.grow hgr8 HG7.out.1) ?_ HLE.out.2.2
                · rcases hob8 with e | e <;> rw [e]
                  · exact HG7.out.1
                  · intro e2; exact absurd (Option.some.inj e2) (Nat.ne_of_lt HG7.out.2)
                · intro m hm; rw [OG.out.2, Nat.mod_eq_of_lt HLE.out.2.1]; exact mks_get hm
        | zero =>
          obtain rfl : N = i := by omega
          have hnk : ¬ (N : Int) < (N : Int) := by omega
          go_wp2_with fail
          clear hnk hig
          go_loopg [5, 9] N (fun gk gv iv wr => ∃ (i : Nat) (Gs : List It), i + gk = N ∧ iv = .int .i64 i ∧ Gs.length = N + i ∧ wr.ownsRow w1.heap.size 24 1 gv (N + i) (Gs.map itv) ∧ GQ wr gv.ownBlock N Gs ∧ Below w1.heap.size w1 wr)
          case atStart => exact ⟨0, Gs, by omega, rfl, OG.out.2, OG.out.1, GG.out, hbw⟩
          case round =>
            clear OG GG hbw
            obtain ⟨i, Gs, hig, rfl, hgl, xo, xg, hbw⟩ := hrel
            have OG : Hid (wr.ownsRow w1.heap.size 24 1 u5 (N + i) (Gs.map itv) ∧ Gs.length = N + i) := ⟨xo, hgl⟩
            have GG : Hid (GQ wr u5.ownBlock N Gs) := xg
            clear xo xg hgl
            cases gk with
            | succ gi =>
              have hil : (i : Int) < (N : Int) := by omega
              have hi0 : (0 : Int) ≤ (i : Int) ∧ (i : Int) < (N : Int) := by omega
              have HCX : Hid (w1.cell? ⟨go, off + i, none⟩ = some (.slice (p i) (n i) (n i))) := LM.out.1.cells i (by omega)
              have hle := LM.out.1.le i (by omega)
              obtain ⟨ni, hni⟩ : ∃ x, x = n i := ⟨_, rfl⟩
              obtain ⟨pi, hpi⟩ : ∃ x, x = p i := ⟨_, rfl⟩
              rw [← hni, ← hpi] at HCX
              rw [← hni] at hle
              have HNI : Hid (ni = n i ∧ pi = p i) := ⟨hni, hpi⟩
              clear hni hpi
              generalize wr = wi at *
              have hbi : Below w1.heap.size w1 wi := hbw
              clear hbw
              go_wp2_with (at_make; refine wpList_make_full _ rfl _ _ 24 rfl wi.heap.size 23 i0 (.int .u64 0) 1 Try.underlying24 hi hz0 hz1 _ _ _ _ 80 rfl rfl (by omega) (by omega) (by rw [hz2]; omega) (by unfold maxLen; omega) (Nat.le_refl _) ?_; intro w2 hown hgrow; have hb := made_blk hown hgrow; clear hown hgrow)
              have hm2 : Row w2 wi.heap.size 0 80 (List.replicate 80 0) := by have := hb.1.row (Dig.replicate B64 80 B64_pos); rw [List.length_replicate] at this; exact this
              have HM2 : Hid (Row w2 wi.heap.size 0 80 (List.replicate 80 0) ∧ Below wi.heap.size wi w2) := ⟨hm2, hb.2⟩
              clear hm2 hb
              go_loopg [11] 80 (fun gk kv wr => ∃ (k : Nat) (ys : List Nat), k + gk = 80 ∧ kv = .int .i64 k ∧ Row wr wi.heap.size 0 80 ys ∧ (∀ m, m < k → ys.getD m 0 = mkN i (ni + m)) ∧ Below wi.heap.size wi wr)
              case atStart => exact ⟨0, _, by omega, rfl, HM2.out.1, fun m hm => absurd hm (Nat.not_lt_zero _), HM2.out.2⟩
              case round =>
                clear HM2
                obtain ⟨k, ys, hkg, rfl, x1, x2, hbw⟩ := hrel
                have HYS : Hid (Row wr wi.heap.size 0 80 ys ∧ ∀ m, m < k → ys.getD m 0 = mkN i (ni + m)) := ⟨x1, x2⟩
                clear x1 x2
                cases gk with
                | succ gk =>
                  have hk80 : (k : Int) < 80 := by omega
                  have hk0 : (0 : Int) ≤ (k : Int) ∧ (k : Int) < 80 := by omega
                  have HI6 : Hid (i ≤ 1000000 ∧ ni + k < 1000000000000000000 ∧ k < 80) := ⟨by omega, by omega, by omega⟩
                  have hb1 := Below.on hbi hbw
                  have hcx := (hb1.cell (p := ⟨go, off + i, none⟩) (World.block_lt_of_cell? w1 _ HCX.out)).trans HCX.out
                  have HEA : Hid ((ni : Int) + (k : Int) = ((ni + k : Nat) : Int)) := by show (_ : Int) = _; omega
                  have wnk := wnk80 hle HI6.out.2.2
                  have hcl := HYS.out.1.cell k HI6.out.2.2
                  have hfr := HYS.out.1.frozen k HI6.out.2.2
                  rw [Nat.zero_add] at hcl hfr
                  clear hb1
                  go_wp2_with fail
                  rw [HEA.out]
                  refine (mark_ij i (ni + k) HI6.out.1 HI6.out.2.1).mono ?_
                  rintro e w' ⟨rfl, hw⟩
                  obtain rfl := hw.symm
                  clear hw wnk
                  obtain ⟨y, hy⟩ : ∃ y, Hid (y = mkN i (ni + k)) := ⟨_, rfl⟩
                  rw [← hy.out]
                  have HR5 : Hid (Row (wr.setCell ⟨wi.heap.size, k, none⟩ (U y)) wi.heap.size 0 80 (ys.set k y)) := by have h9 := HYS.out.1.set k y HI6.out.2.2 (by rw [hy.out]; exact mkN_lt HI6.out.1 HI6.out.2.1); rw [Nat.zero_add] at h9; exact h9
                  have HB5 : Hid (Below wi.heap.size wi (wr.setCell ⟨wi.heap.size, k, none⟩ (U y))) := bSet hbw wi.heap.size k (U y) (Nat.le_refl _)
                  go_wp2_with fail
                  go_roundg gk
                  case measure => omega
                  case rel =>
                    refine ⟨k + 1, ys.set k y, by omega, by go_num, HR5.out, fun m hm => ?_, HB5.out⟩
                    rw [getD_set _ _ _ _ (by rw [HYS.out.1.len]; exact HI6.out.2.2)]
                    by_cases e : m = k
                    · rw [if_pos e, e, hy.out]
                    · rw [if_neg e]; exact HYS.out.2 m (by omega)
                | zero =>
                  obtain rfl : k = 80 := by omega
                  have HNW : Hid ((cellsU ys).length = 80 * 1 ∧ (∀ j u, (cellsU ys)[j]? = some u → wr.cell? ((⟨wi.heap.size, 0, none⟩ : Addr).add j) = some u) ∧ ∀ u ∈ cellsU ys, u.oneCell' = true) := row_src7 HYS.out.1
                  have HAP : Hid (mks i ni ++ ys = mks i (ni + 80)) := mks_app HYS.out.1.len HYS.out.2
                  have hb1 := Below.on hbi hbw
                  have hcx := (hb1.cell (p := ⟨go, off + i, none⟩) (World.block_lt_of_cell? w1 _ HCX.out)).trans HCX.out
                  have HAT : Hid (pi = none → ni = 0) := fun h => by rw [HNI.out.1]; exact LM.out.1.pn i (by omega) (by rw [← HNI.out.2]; exact h)
                  have HOL : Hid (∀ b, pi = some b → ∀ j u, (cellsU (mks i ni))[j]? = some u → wr.cell? (b.add j) = some u) := full_cells LM.out.1 (LM.out.2.1 i (by omega)) (by omega) HNI.out.1 HNI.out.2 hb1
                  have HBD : Hid (ni + 80 ≤ maxLen ∧ ((ni + 80) + (ni + 80) / 4 + 192) * 8 ≤ 281474976710656) := bd80 hle
                  clear hb1
                  have HLE : Hid (i ≤ 1000000 ∧ i < N ∧ ni + 80 ≤ 17592186044596 ∧ N ≤ 1000000) := ⟨by omega, by omega, by omega, by omega⟩
                  have HDG : Hid (ni + 80 < 1000000000000000000) := by show _ < _; omega
                  go_wp2_with (at_builtin; first | (refine wpList_append_full _ rfl _ _ 24 rfl 23 i0 (.int .u64 0) 1 8 Try.underlying24 hi hz0 hz1 hz2 rfl (by decide) pi ni (cellsU (mks i ni)) rfl HAT.out (by rw [cellsU_length, mks_len]; omega) HOL.out ⟨wi.heap.size, 0, none⟩ 80 80 (cellsU ys) rfl HNW.out.1 HNW.out.2.1 HNW.out.2.2 (by decide) HBD.out.1 HBD.out.2 ?_; intro v6 w6 hown6 hgr6; have hbw6 : Below wi.heap.size wi w6 := hbw.grown hgr6 (hbw.size) (fun b hb => by cases hb); have hgv : w6.ownsRow wr.heap.size 23 1 v6 (ni + 79 + 1) (cellsU (mks i (ni + 79 + 1))) := (by rw [show ni + 79 + 1 = ni + 80 from rfl, ← HAP.out, show cellsU (mks i ni ++ ys) = cellsU (mks i ni) ++ cellsU ys from (by unfold cellsU; rw [List.map_append])]; exact hown6); have hsl : ∃ g7 c7, v6 = .slice (some ⟨g7, 0, none⟩) (ni + 80) c7 ∧ wr.heap.size ≤ g7 ∧ g7 < w6.heap.size ∧ At w6 (some ⟨g7, 0, none⟩) (ni + 80) c7 (mks i (ni + 80)) := own_sl7 (k := ni + 79) hgv HLE.out.1 HDG.out; obtain ⟨g7, c7, rfl, hg1, hg2, hat⟩ := hsl; have hbA : Below w6.heap.size w6 (w6.alloc (.cells #[.slice (some ⟨g7, 0, none⟩) (ni + 80) c7] 24)) := below1 w6 _; have hbwA := Below.on hbw6 hbA; have OGA : Hid ((w6.alloc (.cells #[.slice (some ⟨g7, 0, none⟩) (ni + 80) c7] 24)).ownsRow w1.heap.size 24 1 u5 (N + i) (Gs.map itv)) := ownAny7 OG.out.1 hbwA; have HSZ : Hid (w1.heap.size ≤ (w6.alloc (.cells #[.slice (some ⟨g7, 0, none⟩) (ni + 80) c7] 24)).heap.size) := Nat.le_trans hbi.size hbwA.size; have HBE : Hid (N + i + 1 ≤ maxLen ∧ (N + i + 1) * 24 ≤ 140737488355328) := bd88 HLE.out.2.2.2 HLE.out.1; have GGA : Hid (GQ (w6.alloc (.cells #[.slice (some ⟨g7, 0, none⟩) (ni + 80) c7] 24)) u5.ownBlock N Gs) := GG.out.below hbwA; have HA7 : Hid (At (w6.alloc (.cells #[.slice (some ⟨g7, 0, none⟩) (ni + 80) c7] 24)) (some ⟨g7, 0, none⟩) (ni + 80) c7 (mks i (ni + 80))) := hat.below hbA; have HG7 : Hid (some g7 ≠ u5.ownBlock ∧ g7 < (w6.alloc (.cells #[.slice (some ⟨g7, 0, none⟩) (ni + 80) c7] 24)).heap.size) := ⟨fun e => (by have := (own_ob7 OG.out.1 e.symm).2; have := hbw.size; omega), Nat.lt_of_lt_of_le hg2 hbA.size⟩; have HBL : Hid (Below w1.heap.size w1 (w6.alloc (.cells #[.slice (some ⟨g7, 0, none⟩) (ni + 80) c7] 24))) := Below.on hbi hbwA; clear hgv hat hbA hbwA hbw6 hbw hg1 hg2 hcx hown6 hgr6) | (refine wpList_append_own_at _ rfl _ _ 25 rfl w1.heap.size 24 s0 (.slice none 0 0) 1 24 Try.underlying25 hs hy0 hy1 hy2 rfl (by decide) u5 (N + i) (Gs.map itv) rfl OGA.out ⟨w6.heap.size, 0, none⟩ 1 1 [.slice (some ⟨g7, 0, none⟩) (ni + 80) c7] rfl rfl (cell_new1 _ _ _) (by intro u hu; simp at hu; subst hu; rfl) HBE.out.1 HBE.out.2 HSZ.out ?_; intro v8 w8 hown8 hgr8 hnil8 hob8))
                  go_roundg gi
                  case measure => omega
                  case rel =>
                    refine ⟨i + 1, Gs ++ [⟨some ⟨g7, 0, none⟩, ni + 80, c7, mks i (ni + 80), 0⟩], by omega, by go_num, by rw [List.length_append, OG.out.2]; rfl, by rw [List.map_append]; exact hown8, ?_, HBL.out.grown hgr8 HSZ.out (fun b hb => (own_ob7 OGA.out hb).1)⟩
                    refine (GGA.out.grow hgr8 hob8).snoc _ (b := g7) rfl ?_ (Nat.lt_of_lt_of_le HG7.out.2 hgr8.size) (HA7.out.grow hgr8 HG7.out.1) ?_ HLE.out.2.2.1
                    · rcases hob8 with e | e <;> rw [e]
                      · exact HG7.out.1
                      · intro e2; exact absurd (Option.some.inj e2) (Nat.ne_of_lt HG7.out.2)
                    · intro m hm; rw [OG.out.2, Nat.add_mod_left, Nat.mod_eq_of_lt HLE.out.2.1]; exact mks_get hm
            | zero =>
              obtain rfl : N = i := by omega
              have hnk : ¬ (N : Int) < (N : Int) := by omega
              go_wp2_with fail
              clear hnk hig
              generalize wr = wl at *
              obtain ⟨gg, cg, hu5, hcg⟩ := own_cells7 OG.out.1 (by omega)
              subst hu5
              have HBZ : Hid (Below B w wl) := HBW.out.trans (hbw.mono LM.out.2.2)
              have LN : Hid (LQ wl B go off N p n b X) := LM.out.1.below hbw
              have HTT : Hid (∀ q, q < N + N → ∃ bi ni ci, wl.cell? ⟨gg, q, none⟩ = some (.slice (some ⟨bi, 0, none⟩) ni ci) ∧ ni ≤ 17592186044596 ∧ ∀ m, m < ni → wl.cell? ⟨bi, m, none⟩ = some (U (mkN (q % N) m))) := fun q hq => got7 GG.out OG.out.2 hq (hcg q hq)
              have HNN : Hid (N ≤ 1000000 ∧ 0 < N) := ⟨hN, hN0⟩
              clear OG GG hbw hcg
              have hbw : Below wl.heap.size wl wl := Below.refl _ _
              obtain ⟨NN, hNN⟩ : ∃ x, x = N + N := ⟨_, rfl⟩
              rw [← hNN] at HTT
              have HN2 : Hid (NN = N + N) := hNN
              try rw [← hNN]
              clear hNN
              go_loopg [12] NN (fun gk iv wr => ∃ (i : Nat), i + gk = NN ∧ iv = .int .i64 i ∧ Below wl.heap.size wl wr)
              case atStart => exact ⟨0, by omega, rfl, hbw⟩
              case round =>
                clear hbw
                obtain ⟨i, hig, rfl, hbw⟩ := hrel
                cases gk with
                | succ gi =>
                  have hil : (i : Int) < (NN : Int) := by omega
                  have hi0 : (0 : Int) ≤ (i : Int) ∧ (i : Int) < (NN : Int) := by omega
                  obtain ⟨bi, ni, ci, t1, t2, t3⟩ := HTT.out i (by omega)
                  have HCX : Hid (wl.cell? ⟨gg, i, none⟩ = some (.slice (some ⟨bi, 0, none⟩) ni ci)) := t1
                  have HTI : Hid (ni ≤ 17592186044596 ∧ ∀ m, m < ni → wl.cell? ⟨bi, m, none⟩ = some (U (mkN (i % N) m))) := ⟨t2, t3⟩
                  have HIM : Hid (i % N ≤ 1000000) := by have := Nat.mod_lt i HNN.out.2; have := HNN.out.1; show _ ≤ _; omega
                  have HIB : Hid (i < 17592186044596) := by have := HN2.out; have := HNN.out.1; show _ < _; omega
                  clear t1 t2 t3
                  go_wp2_with fail
                  go_loopg [13] ni (fun gk jv wr => ∃ (j : Nat), j + gk = ni ∧ jv = .int .i64 j ∧ Below wl.heap.size wl wr)
                  case atStart => exact ⟨0, by omega, rfl, hbw⟩
                  case round =>
                    clear hbw
                    obtain ⟨j, hjg, rfl, hbw⟩ := hrel
                    have hcx := (hbw.cell (p := ⟨gg, i, none⟩) (World.block_lt_of_cell? wl _ HCX.out)).trans HCX.out
                    cases gk with
                    | zero =>
                      obtain rfl : j = ni := by omega
                      have hnk : ¬ (j : Int) < (j : Int) := by omega
                      have wi1 : wrap64 ((i : Int) + 1) = ((i + 1 : Nat) : Int) := wj7 HIB.out
                      go_wp2_with fail
                      go_roundg gi
                      case measure => omega
                      case rel => exact ⟨i + 1, by omega, by go_num, hbw⟩
                    | succ gg2 =>
                      have hjl : (j : Int) < (ni : Int) := by omega
                      have hj0 : (0 : Int) ≤ (j : Int) ∧ (j : Int) < (ni : Int) := by omega
                      have HCF : Hid (wl.cell? ⟨bi, j, none⟩ = some (U (mkN (i % N) j))) := HTI.out.2 j (by omega)
                      have HJB : Hid (j < 17592186044596) := by have := HTI.out.1; show _ < _; omega
                      obtain ⟨x, hx⟩ : ∃ x, Hid (x = mkN (i % N) j) := ⟨_, rfl⟩
                      rw [← hx.out] at HCF
                      have hz8 : ((N : Int) == 0) = false := by have := HNN.out.2; simp; omega
                      have hz9 : ¬ (N : Int) = 0 := by have := HNN.out.2; omega
                      have hz7 : ¬ N = 0 := by have := HNN.out.2; omega
                      go_wp2_with fail
                      clear hcx
                      obtain ⟨W1, hW1⟩ : ∃ W1, W1 = wr.drew := ⟨_, rfl⟩
                      have hbd : Below wr.heap.size wr W1 := by rw [hW1]; exact bDrew1 (Below.refl _ _)
                      replace hbw := Below.on hbw hbd
                      clear hbd
                      have HJ : Hid ((fun W' : World => W'.cell? ⟨gg, i, none⟩ = some (.slice (some ⟨bi, 0, none⟩) ni ci) ∧ W'.cell? ⟨bi, j, none⟩ = some (U x)) W1) := ⟨((hbw.cell (p := ⟨gg, i, none⟩) (World.block_lt_of_cell? wl _ HCX.out)).trans HCX.out), ((hbw.cell (p := ⟨bi, j, none⟩) (World.block_lt_of_cell? wl _ HCF.out)).trans HCF.out)⟩
                      refine wp_region_J (fun W' => W'.cell? ⟨gg, i, none⟩ = some (.slice (some ⟨bi, 0, none⟩) ni ci) ∧ W'.cell? ⟨bi, j, none⟩ = some (U x)) (by kernel_rfl) ?_
                      rw [← hW1]
                      clear hW1
                      refine wpJ_tq 0 rfl HJ.out ?_
                      refine wpJ_tq 1 rfl HJ.out ?_
                      refine wpJ_tq 2 rfl HJ.out ?_
                      refine wpJ_tq 3 rfl HJ.out ?_
                      refine wpJ_tq 4 rfl HJ.out ?_
                      go_simp
                      refine wpJ_tq 5 rfl HJ.out ?_
                      refine wpJ_tq 6 rfl HJ.out ?_
                      refine wpJ_tq 7 rfl HJ.out ?_
                      refine wpJ_tq 8 rfl HJ.out ?_
                      refine wpJ_tq 9 rfl HJ.out ?_
                      go_simp
                      refine wpJ_tq 10 rfl HJ.out ?_
                      refine wpJ_tq 11 rfl HJ.out ?_
                      refine wpJ_on 12 rfl fun KJ hK => ?_
                      go_simp
                      rw [show (i : Int).tmod (N : Int) = ((i % N : Nat) : Int) from rfl]
                      refine (mark_ij (i % N) j HIM.out (Nat.lt_trans HJB.out (by decide))).mono ?_
                      rintro e w' ⟨rfl, hw⟩
                      obtain rfl := hw.symm
                      clear hw
                      rw [← hx.out]
                      clear HJ
                      have HJ : Hid ((fun W' : World => W'.cell? ⟨gg, i, none⟩ = some (.slice (some ⟨bi, 0, none⟩) ni ci) ∧ W'.cell? ⟨bi, j, none⟩ = some (U x)) W1) := ⟨((hbw.cell (p := ⟨gg, i, none⟩) (World.block_lt_of_cell? wl _ HCX.out)).trans HCX.out), ((hbw.cell (p := ⟨bi, j, none⟩) (World.block_lt_of_cell? wl _ HCF.out)).trans HCF.out)⟩
                      refine hK _ _ HJ.out ?_
                      clear hK
                      refine wpJ_tq 13 rfl HJ.out ?_
                      refine wpJ_done (by kernel_rfl) ?_ _
                      clear HJ
                      have wj : wrap64 ((j : Int) + 1) = ((j + 1 : Nat) : Int) := wj7 HJB.out
                      clear hz8 hz9 hz7
                      go_wp2_with fail
                      have hjb := HJB.out
                      go_roundg gg2
                      case measure => omega
                      case rel => exact ⟨j + 1, by omega, by go_num, hbw⟩
                | zero =>
                  obtain rfl : NN = i := by omega
                  have hnk : ¬ (NN : Int) < (NN : Int) := by omega
                  go_wp2_with fail
                  clear hnk hig
                  have HB2 : Hid (Below wl.heap.size wl wr) := hbw
                  go_loopg [14] N (fun gk iv wr => ∃ (i : Nat), i + gk = N ∧ iv = .int .i64 i ∧ Below wl.heap.size wl wr)
                  case atStart => exact ⟨0, by omega, rfl, HB2.out⟩
                  case round =>
                    clear hbw HB2
                    obtain ⟨i, hig, rfl, hbw⟩ := hrel
                    cases gk with
                    | succ gi =>
                      have hiN : i < N := by omega
                      have hil : (i : Int) < (N : Int) := by omega
                      have hi0 : (0 : Int) ≤ (i : Int) ∧ (i : Int) < (N : Int) := by omega
                      have HCX : Hid (wl.cell? ⟨go, off + i, none⟩ = some (.slice (p i) (n i) (n i))) := LN.out.cells i hiN
                      have HTI : Hid (n i ≤ 17592186044496 ∧ (∀ m, m < n i → wl.cell? ⟨b i, m, none⟩ = some (U (mkN i m))) ∧ (n i ≠ 0 → p i = some ⟨b i, 0, none⟩)) := ⟨LN.out.le i hiN, fun m hm => by have h9 := (LN.out.row i hiN).cell m hm; rw [Nat.zero_add, LM.out.2.1 i hiN m hm] at h9; exact h9, fun h => (LN.out.addr i hiN).resolve_left h⟩
                      have HIM : Hid (i ≤ 1000000) := by have := HNN.out.1; show _ ≤ _; omega
                      clear hiN
                      generalize n i = ni at *
                      generalize p i = pi at *
                      generalize b i = bi at *
                      go_wp2_with fail
                      go_loopg [15] ni (fun gk jv wr => ∃ (j : Nat), j + gk = ni ∧ jv = .int .i64 j ∧ Below wl.heap.size wl wr)
                      case atStart => exact ⟨0, by omega, rfl, hbw⟩
                      case round =>
                        clear hbw
                        obtain ⟨j, hjg, rfl, hbw⟩ := hrel
                        have hcx := (hbw.cell (p := ⟨go, off + i, none⟩) (World.block_lt_of_cell? wl _ HCX.out)).trans HCX.out
                        cases gk with
                        | zero =>
                          obtain rfl : j = ni := by omega
                          have hnk : ¬ (j : Int) < (j : Int) := by omega
                          go_wp2_with fail
                          go_roundg gi
                          case measure => omega
                          case rel => exact ⟨i + 1, by omega, by go_num, hbw⟩
                        | succ gg2 =>
                          obtain rfl := HTI.out.2.2 (by omega)
                          have hjl : (j : Int) < (ni : Int) := by omega
                          have hj0 : (0 : Int) ≤ (j : Int) ∧ (j : Int) < (ni : Int) := by omega
                          have HCF : Hid (wl.cell? ⟨bi, j, none⟩ = some (U (mkN i j))) := HTI.out.2.1 j (by omega)
                          have HJB : Hid (j < 17592186044596) := by have := HTI.out.1; show _ < _; omega
                          obtain ⟨x, hx⟩ : ∃ x, Hid (x = mkN i j) := ⟨_, rfl⟩
                          rw [← hx.out] at HCF
                          go_wp2_with fail
                          clear hcx
                          obtain ⟨W1, hW1⟩ : ∃ W1, W1 = wr.drew := ⟨_, rfl⟩
                          have hbd : Below wr.heap.size wr W1 := by rw [hW1]; exact bDrew1 (Below.refl _ _)
                          replace hbw := Below.on hbw hbd
                          clear hbd
                          have HJ : Hid ((fun W' : World => W'.cell? ⟨go, off + i, none⟩ = some (.slice (some ⟨bi, 0, none⟩) ni ni) ∧ W'.cell? ⟨bi, j, none⟩ = some (U x)) W1) := ⟨((hbw.cell (p := ⟨go, off + i, none⟩) (World.block_lt_of_cell? wl _ HCX.out)).trans HCX.out), ((hbw.cell (p := ⟨bi, j, none⟩) (World.block_lt_of_cell? wl _ HCF.out)).trans HCF.out)⟩
                          refine wp_region_J (fun W' => W'.cell? ⟨go, off + i, none⟩ = some (.slice (some ⟨bi, 0, none⟩) ni ni) ∧ W'.cell? ⟨bi, j, none⟩ = some (U x)) (by kernel_rfl) ?_
                          rw [← hW1]
                          clear hW1
                          refine wpJ_tq 0 rfl HJ.out ?_
                          refine wpJ_tq 1 rfl HJ.out ?_
                          refine wpJ_tq 2 rfl HJ.out ?_
                          refine wpJ_tq 3 rfl HJ.out ?_
                          refine wpJ_tq 4 rfl HJ.out ?_
                          go_simp
                          refine wpJ_tq 5 rfl HJ.out ?_
                          refine wpJ_tq 6 rfl HJ.out ?_
                          refine wpJ_tq 7 rfl HJ.out ?_
                          refine wpJ_tq 8 rfl HJ.out ?_
                          refine wpJ_on 9 rfl fun KJ hK => ?_
                          go_simp
                          refine (mark_ij i j HIM.out (Nat.lt_trans HJB.out (by decide))).mono ?_
                          rintro e w' ⟨rfl, hw⟩
                          obtain rfl := hw.symm
                          clear hw
                          rw [← hx.out]
                          clear HJ
                          have HJ : Hid ((fun W' : World => W'.cell? ⟨go, off + i, none⟩ = some (.slice (some ⟨bi, 0, none⟩) ni ni) ∧ W'.cell? ⟨bi, j, none⟩ = some (U x)) W1) := ⟨((hbw.cell (p := ⟨go, off + i, none⟩) (World.block_lt_of_cell? wl _ HCX.out)).trans HCX.out), ((hbw.cell (p := ⟨bi, j, none⟩) (World.block_lt_of_cell? wl _ HCF.out)).trans HCF.out)⟩
                          refine hK _ _ HJ.out ?_
                          clear hK
                          refine wpJ_tq 10 rfl HJ.out ?_
                          refine wpJ_done (by kernel_rfl) ?_ _
                          clear HJ
                          have wj : wrap64 ((j : Int) + 1) = ((j + 1 : Nat) : Int) := wj7 HJB.out
                          go_wp2_with fail
                          have hjb := HJB.out
                          go_roundg gg2
                          case measure => omega
                          case rel => exact ⟨j + 1, by omega, by go_num, hbw⟩
                    | zero =>
                      obtain rfl : N = i := by omega
                      have hnk : ¬ (N : Int) < (N : Int) := by omega
                      go_wp2_with fail
                      go_ret
                      exact ⟨rfl, HBZ.out.trans (hbw.mono (by have := HBZ.out.size; have := HB.out; omega))⟩
structure OpM (w : World) (pa : Option Addr) (na ca : Nat) (xa : List Nat) (pb : Option Addr) (nb cb : Nat) (xb : List Nat) (nn : Int) : Prop where
  a : At w pa na ca xa
  b : At w pb nb cb xb
  na_ : na ≤ 17592186044416
  nb_ : nb ≤ 17592186044416
  n1 : -9223372036854775808 ≤ nn
  n2 : nn ≤ 9223372036854775807
theorem OpM.below {w w' : World} {pa : Option Addr} {na ca : Nat} {xa : List Nat} {pb : Option Addr} {nb cb : Nat} {xb : List Nat} {nn : Int} (h : OpM w pa na ca xa pb nb cb xb nn) (hb : Below w.heap.size w w') : OpM w' pa na ca xa pb nb cb xb nn := ⟨h.a.below hb, h.b.below hb, h.na_, h.nb_, h.n1, h.n2⟩
def enV (e : EN7) : Value := .slice e.p e.n e.n
def gd7 : Nat × List EN7 := (0, [])
def flatE (gs : List (Nat × List EN7)) (i : Nat) : List EN7 := (gs.take i).flatMap Prod.snd
theorem flatE_succ {gs : List (Nat × List EN7)} {i : Nat} (h : i < gs.length) : flatE gs (i + 1) = flatE gs i ++ (gs.getD i gd7).2 := by
  unfold flatE
  rw [List.take_succ_eq_append_getElem h, List.flatMap_append, List.getD_eq_getElem?_getD, List.getElem?_eq_getElem h]
  simp
def OC7 (w : World) (go : Nat) (gs : List (Nat × List EN7)) : Prop := ∀ j, j < gs.length → w.cell? ⟨go, j, none⟩ = some (.slice (some ⟨(gs.getD j gd7).1, 0, none⟩) (gs.getD j gd7).2.length (gs.getD j gd7).2.length)
theorem gp_get {gs : List (Nat × List EN7)} {i : Nat} (h : i < gs.length) : gs.getD i gd7 ∈ gs := by
  rw [List.getD_eq_getElem?_getD, List.getElem?_eq_getElem h]; exact List.getElem_mem h
theorem gl_src {w : World} {B G : Nat} {es : List EN7} (h : GL w B G es) : (es.map enV).length = es.length * 1 ∧ (∀ j u, (es.map enV)[j]? = some u → w.cell? ((⟨G, 0, none⟩ : Addr).add j) = some u) ∧ ∀ u ∈ es.map enV, u.oneCell' = true := by
  refine ⟨by rw [List.length_map]; omega, fun j u hu => ?_, fun u hu => ?_⟩
  · have hj : j < es.length := by
      rcases Nat.lt_or_ge j es.length with h6 | h6
      · exact h6
      · rw [List.getElem?_eq_none (by rw [List.length_map]; exact h6)] at hu; cases hu
    have hadd : (⟨G, 0, none⟩ : Addr).add j = ⟨G, j, none⟩ := by unfold Addr.add; split <;> simp_all
    rw [hadd, h.cells j hj, ← hu, List.getElem?_map, List.getElem?_eq_getElem hj, List.getD_eq_getElem?_getD, List.getElem?_eq_getElem hj]
    rfl
  · obtain ⟨x, _, rfl⟩ := List.mem_map.1 hu
    rfl
theorem own_cells9 {w : World} {B k : Nat} {v : Value} {xs : List Value} {e : TypeId} (h : w.ownsRow B e 1 v k xs) (hk : 0 < k) : ∃ g cap, v = .slice (some ⟨g, 0, none⟩) k cap ∧ k ≤ cap ∧ cap ≤ maxLen ∧ B ≤ g ∧ ∀ q, q < k → w.cell? ⟨g, q, none⟩ = xs[q]? := by
  rcases h.2 with ⟨_, h2⟩ | ⟨g, cap, cur, h2, h3, h4, h5, h6, h7, h8⟩
  · omega
  · refine ⟨g, cap, h2, h5, h6, h3, fun q hq => ?_⟩
    rw [cell_of_row w g q _ _ _ h4, ← h8, Nat.mul_one, List.getElem?_take, if_pos hq, Array.getElem?_toList]
def IV7 (l : List EN7) (a b : Nat) : Prop := ∀ e ∈ l, e.n ≠ 0 → a ≤ e.b ∧ e.b < b
theorem pw_app {l1 l2 : List EN7} {a b c d : Nat} (h1 : l1.Pairwise (fun a b => a.n ≠ 0 → b.n ≠ 0 → a.b ≠ b.b)) (h2 : l2.Pairwise (fun a b => a.n ≠ 0 → b.n ≠ 0 → a.b ≠ b.b)) (i1 : IV7 l1 a b) (i2 : IV7 l2 c d) (h : b ≤ c) : (l1 ++ l2).Pairwise (fun a b => a.n ≠ 0 → b.n ≠ 0 → a.b ≠ b.b) :=
  List.pairwise_append.2 ⟨h1, h2, fun x hx y hy nx ny => by have := i1 x hx nx; have := i2 y hy ny; omega⟩
theorem iv_app {l1 l2 : List EN7} {a b c d : Nat} (i1 : IV7 l1 a b) (i2 : IV7 l2 c d) (h : a ≤ c) (k : b ≤ d) : IV7 (l1 ++ l2) a d := fun e he h0 => by
  rcases List.mem_append.1 he with h9 | h9
  · have := i1 e h9 h0; omega
  · have := i2 e h9 h0; omega
theorem flat5 (h1 h2 h3 h4 h5 : Nat) (e1 e2 e3 e4 e5 : List EN7) : flatE [(h1, e1), (h2, e2), (h3, e3), (h4, e4), (h5, e5)] 5 = e1 ++ (e2 ++ (e3 ++ (e4 ++ e5))) := by
  simp [flatE]
def KM (k : Int) : Prop := 1 ≤ k ∧ k ≤ 5
theorem half_lt {y : Nat} (d : Nat) (hd : 2 ≤ d) (h : y < B64) : y / d + 1 < B64 := by
  have h1 : y / d ≤ y / 2 := Nat.div_le_div_left hd (by decide)
  rw [B64_eq] at h ⊢
  omega
theorem wrh {y d : Nat} (hd : 2 ≤ d) (h : y < B64) : IntKind.u64.wrap (IntKind.u64.wrap ((y : Int) / (d : Int)) + 1) = ((y / d + 1 : Nat) : Int) := by
  have h2 := half_lt d hd h
  rw [B64_eq] at h2
  rw [IntKind.wrap_u64, IntKind.wrap_u64, show (y : Int) / (d : Int) = ((y / d : Nat) : Int) from rfl]
  generalize y / d = z at *
  omega
theorem GL.mono {w : World} {B B' G : Nat} {es : List EN7} (h : GL w B G es) (hB : B' ≤ B) : GL w B' G es := ⟨h.cells, fun e he => (h.own e he).mono hB, h.pos, h.le⟩
theorem gl_iv {w : World} {B G : Nat} {es : List EN7} (h : GL w B G es) : ∀ e ∈ es, e.n ≠ 0 → B ≤ e.b ∧ e.b < w.heap.size := fun e he h0 => ⟨(h.own e he).ge, (h.own e he).lt h0⟩
theorem keepsM {pa pb pc pd pl pm : Option Addr} {na nb ca cb nc nd cc cd nl cl nm cm : Nat} {xa xb xc xd : List Nat} {nn np : Int} {kd kp : Int} {w : World} (ho : OpM w pa na ca xa pb nb cb xb nn) (hp : OpM w pc nc cc xc pd nd cd xd np) (hk : KM kd) (hkp : KM kp) :
    Calls Try.prog 5 #[.agg #[.int .i64 kd, .slice pa na ca, .slice pb nb cb, .int .i64 nn, .slice pl nl cl], .agg #[.int .i64 kp, .slice pc nc cc, .slice pd nd cd, .int .i64 np, .slice pm nm cm]] w fun en w' => en = .returned (.bool true) ∧ Below w.heap.size w w' := by
  obtain ⟨i0, hi, hz0, hz1, hz2⟩ := info_parts Try.infoU64
  obtain ⟨s0, hs, hy0, hy1, hy2⟩ := info_parts Try.infoSl
  have HIS : Hid (Try.prog.info? 24 = some s0 ∧ s0.zero = some (.slice none 0 0) ∧ s0.size = 1 ∧ s0.bytes = 24) := ⟨hs, hy0, hy1, hy2⟩
  have AO : Hid (OpM w pa na ca xa pb nb cb xb nn ∧ KM kd) := ⟨ho, hk⟩
  have AP : Hid (OpM w pc nc cc xc pd nd cd xd np ∧ KM kp) := ⟨hp, hkp⟩
  clear ho hp hk hkp hi hz0 hz1 hz2 hs hy0 hy1 hy2
  go_enter Try.func5, Try.ntmps5
  go_wp2_with fail
  obtain ⟨W0, hW0⟩ : ∃ W0, W0 = ((w.alloc (.cells #[.int .i64 kd, .slice pa na ca, .slice pb nb cb, .int .i64 nn, .slice pl nl cl] 27)).alloc (.cells #[.int .i64 kp, .slice pc nc cc, .slice pd nd cd, .int .i64 np, .slice pm nm cm] 27)) := ⟨_, rfl⟩
  have Xo : Hid (B5q W0 (w.heap.size) (.int .i64 kd) (.slice pa na ca) (.slice pb nb cb) (.int .i64 nn) (.slice pl nl cl)) := by rw [hW0]; exact ⟨by go_simp, by go_simp, by go_simp, by go_simp, by go_simp, by go_simp, by go_simp, by go_simp, by go_simp, by go_simp⟩
  have Xp : Hid (B5q W0 (w.heap.size + 1) (.int .i64 kp) (.slice pc nc cc) (.slice pd nd cd) (.int .i64 np) (.slice pm nm cm)) := by rw [hW0]; exact ⟨by go_simp, by go_simp, by go_simp, by go_simp, by go_simp, by go_simp, by go_simp, by go_simp, by go_simp, by go_simp⟩
  have hb0 : Below w.heap.size w W0 := by rw [hW0]; exact below2 w _ _
  rw [← hW0]
  clear hW0
  have hbw : Below w.heap.size w w := Below.refl _ _
  obtain ⟨gp, hgp⟩ : ∃ g, g = w.heap.size + 1 := ⟨_, rfl⟩
  have HGp : Hid (w.heap.size ≤ gp) := by rw [hgp]; show _ ≤ _; omega
  rw [← hgp] at Xp
  try rw [← hgp]
  obtain ⟨go, hgo⟩ : ∃ g, g = w.heap.size := ⟨_, rfl⟩
  have HGo : Hid (w.heap.size ≤ go) := by rw [hgo]; show _ ≤ _; omega
  rw [← hgo] at Xo
  try rw [← hgo]
  have HGD : Hid (go ≠ gp ∧ gp ≠ go) := by rw [hgo, hgp]; exact ⟨by omega, by omega⟩
  clear hgo hgp
  replace hbw := Below.on hbw hb0
  clear hb0
  obtain ⟨co0, co1, co2, co3, co4, fo0, fo1, fo2, fo3, fo4⟩ := Xo.out
  have hneo : go < W0.heap.size := World.block_lt_of_cell? W0 _ co0
  go_wp2_with fail
  clear co0 co1 co2 co3 co4 fo0 fo1 fo2 fo3 fo4 hneo
  refine (twinM (AO.out.1.a.below hbw) (AO.out.1.b.below hbw) AO.out.1.na_ AO.out.1.nb_ kd nn pl nl cl).mono ?_
  rintro e v1 ⟨pT1, pT2, rfl, hT1, hT2, hb⟩
  have T1 : Hid (At v1 pT1 na na xa) := hT1
  have T2 : Hid (At v1 pT2 nb nb xb) := hT2
  clear hT1 hT2
  have Sv1 : Hid (W0.heap.size ≤ v1.heap.size) := hb.size
  replace Xo : Hid _ := Xo.out.below hb
  replace Xp : Hid _ := Xp.out.below hb
  replace hbw := Below.on hbw hb
  clear hb
  go_wp2_with fail
  refine (docM T1.out T2.out AO.out.1.na_ AO.out.1.nb_ nn AO.out.1.n1 AO.out.1.n2 AO.out.2).mono ?_
  rintro e v2 ⟨G1, ds1, f1, rfl, hD, hG, hI, hR, hb⟩
  have R1 : Hid (AIs kd xa xb nn (ds1.map ED7.X) f1) := hR
  have J1 : Hid ((∀ d ∈ ds1, d.n ≠ 0 → v1.heap.size ≤ d.b ∧ d.b < v2.heap.size) ∧ v1.heap.size ≤ G1 ∧ G1 < v2.heap.size ∧ v1.heap.size ≤ v2.heap.size) := ⟨hI, hG, hD.lt, hb.size⟩
  have D1 : Hid (DL v2 G1 ds1) := hD
  clear hD hG hI hR
  replace Xo : Hid _ := Xo.out.below hb
  replace Xp : Hid _ := Xp.out.below hb
  replace T1 : Hid _ := T1.out.below hb
  replace T2 : Hid _ := T2.out.below hb
  replace hbw := Below.on hbw hb
  clear hb
  clear T1
  clear T2
  obtain ⟨cp0, cp1, cp2, cp3, cp4, fp0, fp1, fp2, fp3, fp4⟩ := Xp.out
  have hnep : gp < v2.heap.size := World.block_lt_of_cell? v2 _ cp0
  go_wp2_with fail
  clear cp0 cp1 cp2 cp3 cp4 fp0 fp1 fp2 fp3 fp4 hnep
  refine (twinM (AP.out.1.a.below hbw) (AP.out.1.b.below hbw) AP.out.1.na_ AP.out.1.nb_ kp np pm nm cm).mono ?_
  rintro e v3 ⟨pT1, pT2, rfl, hT1, hT2, hb⟩
  have T1 : Hid (At v3 pT1 nc nc xc) := hT1
  have T2 : Hid (At v3 pT2 nd nd xd) := hT2
  clear hT1 hT2
  have Sv3 : Hid (v2.heap.size ≤ v3.heap.size) := hb.size
  replace Xo : Hid _ := Xo.out.below hb
  replace Xp : Hid _ := Xp.out.below hb
  replace D1 : Hid (DL v3 G1 ds1) := D1.out.below hb
  replace hbw := Below.on hbw hb
  clear hb
  go_wp2_with fail
  refine (docM T1.out T2.out AP.out.1.na_ AP.out.1.nb_ np AP.out.1.n1 AP.out.1.n2 AP.out.2).mono ?_
  rintro e v4 ⟨G2, ds2, f2, rfl, hD, hG, hI, hR, hb⟩
  have R2 : Hid (AIs kp xc xd np (ds2.map ED7.X) f2) := hR
  have J2 : Hid ((∀ d ∈ ds2, d.n ≠ 0 → v3.heap.size ≤ d.b ∧ d.b < v4.heap.size) ∧ v3.heap.size ≤ G2 ∧ G2 < v4.heap.size ∧ v3.heap.size ≤ v4.heap.size) := ⟨hI, hG, hD.lt, hb.size⟩
  have D2 : Hid (DL v4 G2 ds2) := hD
  clear hD hG hI hR
  replace Xo : Hid _ := Xo.out.below hb
  replace Xp : Hid _ := Xp.out.below hb
  replace D1 : Hid (DL v4 G1 ds1) := D1.out.below hb
  replace T1 : Hid _ := T1.out.below hb
  replace T2 : Hid _ := T2.out.below hb
  replace hbw := Below.on hbw hb
  clear hb
  clear T1
  clear T2
  obtain ⟨co0, co1, co2, co3, co4, fo0, fo1, fo2, fo3, fo4⟩ := Xo.out
  have hneo : go < v4.heap.size := World.block_lt_of_cell? v4 _ co0
  go_wp2_with fail
  clear co0 co1 co2 co3 co4 fo0 fo1 fo2 fo3 fo4 hneo
  refine (spare_sr (AO.out.1.a.below hbw) AO.out.1.na_).mono ?_
  rintro e v5 ⟨gA, rfl, h1, h2, hS, hb⟩
  have UA : Hid (v4.heap.size ≤ gA ∧ gA < v5.heap.size ∧ v4.heap.size ≤ v5.heap.size) := ⟨h1, h2, hb.size⟩
  have hS2 := hS.mono (hbw.size)
  have SA : Hid (SR v5 w.heap.size gA na xa) := hS2
  clear h1 h2 hS hS2
  replace Xo : Hid _ := Xo.out.below hb
  replace Xp : Hid _ := Xp.out.below hb
  replace D1 : Hid (DL v5 G1 ds1) := D1.out.below hb
  replace D2 : Hid (DL v5 G2 ds2) := D2.out.below hb
  replace hbw := Below.on hbw hb
  clear hb
  obtain ⟨co0, co1, co2, co3, co4, fo0, fo1, fo2, fo3, fo4⟩ := Xo.out
  have hneo : go < v5.heap.size := World.block_lt_of_cell? v5 _ co0
  go_wp2_with fail
  clear co0 co1 co2 co3 co4 fo0 fo1 fo2 fo3 fo4 hneo
  refine (spare_sr (AO.out.1.b.below hbw) AO.out.1.nb_).mono ?_
  rintro e v6 ⟨gB, rfl, h1, h2, hS, hb⟩
  have UB : Hid (v5.heap.size ≤ gB ∧ gB < v6.heap.size ∧ v5.heap.size ≤ v6.heap.size) := ⟨h1, h2, hb.size⟩
  have hS2 := hS.mono (hbw.size)
  have SB : Hid (SR v6 w.heap.size gB nb xb) := hS2
  clear h1 h2 hS hS2
  replace Xo : Hid _ := Xo.out.below hb
  replace Xp : Hid _ := Xp.out.below hb
  replace D1 : Hid (DL v6 G1 ds1) := D1.out.below hb
  replace D2 : Hid (DL v6 G2 ds2) := D2.out.below hb
  replace SA : Hid (SR v6 w.heap.size gA na xa) := SA.out.below hb
  replace hbw := Below.on hbw hb
  clear hb
  obtain ⟨co0, co1, co2, co3, co4, fo0, fo1, fo2, fo3, fo4⟩ := Xo.out
  have hneo : go < v6.heap.size := World.block_lt_of_cell? v6 _ co0
  go_wp2_with fail
  clear co0 co1 co2 co3 co4 fo0 fo1 fo2 fo3 fo4 hneo
  have Xq0 : Hid (B5q (v6.alloc (.cells #[.int .i64 kd, .slice (some ⟨gA, 0, none⟩) na (na + 80), .slice (some ⟨gB, 0, none⟩) nb (nb + 80), .int .i64 nn, .slice none 0 0] 27)) v6.heap.size (.int .i64 kd) (.slice (some ⟨gA, 0, none⟩) na (na + 80)) (.slice (some ⟨gB, 0, none⟩) nb (nb + 80)) (.int .i64 nn) (.slice none 0 0)) := B5q.new v6 _ _ _ _ _ _
  have hbn : Below v6.heap.size v6 (v6.alloc (.cells #[.int .i64 kd, .slice (some ⟨gA, 0, none⟩) na (na + 80), .slice (some ⟨gB, 0, none⟩) nb (nb + 80), .int .i64 nn, .slice none 0 0] 27)) := below1 v6 _
  generalize v6.alloc (.cells #[.int .i64 kd, .slice (some ⟨gA, 0, none⟩) na (na + 80), .slice (some ⟨gB, 0, none⟩) nb (nb + 80), .int .i64 nn, .slice none 0 0] 27) = Wq at *
  have HGq : Hid (w.heap.size ≤ v6.heap.size) := hbw.size
  replace Xo : Hid _ := Xo.out.below hbn
  replace Xp : Hid _ := Xp.out.below hbn
  replace D1 : Hid (DL Wq G1 ds1) := D1.out.below hbn
  replace D2 : Hid (DL Wq G2 ds2) := D2.out.below hbn
  replace SA : Hid (SR Wq w.heap.size gA na xa) := SA.out.below hbn
  replace SB : Hid (SR Wq w.heap.size gB nb xb) := SB.out.below hbn
  replace hbw := Below.on hbw hbn
  clear hbn
  generalize v6.heap.size = gq at *
  have Xq := Xq0
  clear Xq0
  have Sq : Hid (gq < Wq.heap.size) := Xq.out.lt
  obtain ⟨cq0, cq1, cq2, cq3, cq4, fq0, fq1, fq2, fq3, fq4⟩ := Xq.out
  have hneq : gq < Wq.heap.size := World.block_lt_of_cell? Wq _ cq0
  go_wp2_with fail
  clear cq0 cq1 cq2 cq3 cq4 fq0 fq1 fq2 fq3 fq4 hneq
  refine (answersM (SA.out.at_ AO.out.1.na_) (SB.out.at_ AO.out.1.nb_) AO.out.1.na_ AO.out.1.nb_ nn AO.out.1.n1 AO.out.1.n2 AO.out.2).mono ?_
  rintro e v7 ⟨H1, es1, f9, rfl, hE, hG, hP, hR, hb⟩
  obtain ⟨eu, ef⟩ := R1.out.uniq hR
  subst ef
  have M1 : Hid (es1.map EN7.X = ds1.map ED7.X) := eu.symm
  have Q1 : Hid (es1.Pairwise (fun a b => a.n ≠ 0 → b.n ≠ 0 → a.b ≠ b.b)) := hP
  have K1 : Hid ((∀ e ∈ es1, e.n ≠ 0 → Wq.heap.size ≤ e.b ∧ e.b < v7.heap.size) ∧ Wq.heap.size ≤ H1 ∧ H1 < v7.heap.size ∧ Wq.heap.size ≤ v7.heap.size) := ⟨gl_iv hE, hG, hE.lt, hb.size⟩
  have E1 : Hid (GL v7 w.heap.size H1 es1) := hE.mono hbw.size
  clear hE hG hP hR eu
  replace Xo : Hid _ := Xo.out.below hb
  replace Xp : Hid _ := Xp.out.below hb
  replace Xq : Hid _ := Xq.out.below hb
  replace D1 : Hid (DL v7 G1 ds1) := D1.out.below hb
  replace D2 : Hid (DL v7 G2 ds2) := D2.out.below hb
  replace SA : Hid (SR v7 w.heap.size gA na xa) := SA.out.below hb
  replace SB : Hid (SR v7 w.heap.size gB nb xb) := SB.out.below hb
  replace hbw := Below.on hbw hb
  clear hb
  have he1 : (f1 == f1) = true := by simp
  go_wp2_with fail
  refine (like_ok E1.out D1.out M1.out).mono ?_
  rintro e v8 ⟨rfl, hb⟩
  have Sv8 : Hid (v7.heap.size ≤ v8.heap.size) := hb.size
  replace Xo : Hid _ := Xo.out.below hb
  replace Xp : Hid _ := Xp.out.below hb
  replace Xq : Hid _ := Xq.out.below hb
  replace D1 : Hid (DL v8 G1 ds1) := D1.out.below hb
  replace D2 : Hid (DL v8 G2 ds2) := D2.out.below hb
  replace SA : Hid (SR v8 w.heap.size gA na xa) := SA.out.below hb
  replace SB : Hid (SR v8 w.heap.size gB nb xb) := SB.out.below hb
  replace E1 : Hid (GL v8 w.heap.size H1 es1) := E1.out.below hb
  replace hbw := Below.on hbw hb
  clear hb
  obtain ⟨co0, co1, co2, co3, co4, fo0, fo1, fo2, fo3, fo4⟩ := Xo.out
  have hneo : go < v8.heap.size := World.block_lt_of_cell? v8 _ co0
  go_wp2_with fail
  clear co0 co1 co2 co3 co4 fo0 fo1 fo2 fo3 fo4 hneo
  refine (kept_ok (AO.out.1.a.below hbw) (SA.out.full AO.out.1.na_) AO.out.1.na_).mono ?_
  rintro e v9 ⟨rfl, hb⟩
  have Sv9 : Hid (v8.heap.size ≤ v9.heap.size) := hb.size
  replace Xo : Hid _ := Xo.out.below hb
  replace Xp : Hid _ := Xp.out.below hb
  replace Xq : Hid _ := Xq.out.below hb
  replace D1 : Hid (DL v9 G1 ds1) := D1.out.below hb
  replace D2 : Hid (DL v9 G2 ds2) := D2.out.below hb
  replace SA : Hid (SR v9 w.heap.size gA na xa) := SA.out.below hb
  replace SB : Hid (SR v9 w.heap.size gB nb xb) := SB.out.below hb
  replace E1 : Hid (GL v9 w.heap.size H1 es1) := E1.out.below hb
  replace hbw := Below.on hbw hb
  clear hb
  obtain ⟨co0, co1, co2, co3, co4, fo0, fo1, fo2, fo3, fo4⟩ := Xo.out
  have hneo : go < v9.heap.size := World.block_lt_of_cell? v9 _ co0
  go_wp2_with fail
  clear co0 co1 co2 co3 co4 fo0 fo1 fo2 fo3 fo4 hneo
  refine (kept_ok (AO.out.1.b.below hbw) (SB.out.full AO.out.1.nb_) AO.out.1.nb_).mono ?_
  rintro e v10 ⟨rfl, hb⟩
  have Sv10 : Hid (v9.heap.size ≤ v10.heap.size) := hb.size
  replace Xo : Hid _ := Xo.out.below hb
  replace Xp : Hid _ := Xp.out.below hb
  replace Xq : Hid _ := Xq.out.below hb
  replace D1 : Hid (DL v10 G1 ds1) := D1.out.below hb
  replace D2 : Hid (DL v10 G2 ds2) := D2.out.below hb
  replace SA : Hid (SR v10 w.heap.size gA na xa) := SA.out.below hb
  replace SB : Hid (SR v10 w.heap.size gB nb xb) := SB.out.below hb
  replace E1 : Hid (GL v10 w.heap.size H1 es1) := E1.out.below hb
  replace hbw := Below.on hbw hb
  clear hb
  obtain ⟨cq0, cq1, cq2, cq3, cq4, fq0, fq1, fq2, fq3, fq4⟩ := Xq.out
  have hneq : gq < v10.heap.size := World.block_lt_of_cell? v10 _ cq0
  go_wp2_with fail
  clear cq0 cq1 cq2 cq3 cq4 fq0 fq1 fq2 fq3 fq4 hneq
  refine (answersM (SA.out.at_ AO.out.1.na_) (SB.out.at_ AO.out.1.nb_) AO.out.1.na_ AO.out.1.nb_ nn AO.out.1.n1 AO.out.1.n2 AO.out.2).mono ?_
  rintro e v11 ⟨H2, es2, f9, rfl, hE, hG, hP, hR, hb⟩
  obtain ⟨eu, ef⟩ := R1.out.uniq hR
  subst ef
  have M2 : Hid (es2.map EN7.X = ds1.map ED7.X) := eu.symm
  have Q2 : Hid (es2.Pairwise (fun a b => a.n ≠ 0 → b.n ≠ 0 → a.b ≠ b.b)) := hP
  have K2 : Hid ((∀ e ∈ es2, e.n ≠ 0 → v10.heap.size ≤ e.b ∧ e.b < v11.heap.size) ∧ v10.heap.size ≤ H2 ∧ H2 < v11.heap.size ∧ v10.heap.size ≤ v11.heap.size) := ⟨gl_iv hE, hG, hE.lt, hb.size⟩
  have E2 : Hid (GL v11 w.heap.size H2 es2) := hE.mono hbw.size
  clear hE hG hP hR eu
  replace Xo : Hid _ := Xo.out.below hb
  replace Xp : Hid _ := Xp.out.below hb
  replace Xq : Hid _ := Xq.out.below hb
  replace D1 : Hid (DL v11 G1 ds1) := D1.out.below hb
  replace D2 : Hid (DL v11 G2 ds2) := D2.out.below hb
  replace SA : Hid (SR v11 w.heap.size gA na xa) := SA.out.below hb
  replace SB : Hid (SR v11 w.heap.size gB nb xb) := SB.out.below hb
  replace E1 : Hid (GL v11 w.heap.size H1 es1) := E1.out.below hb
  replace hbw := Below.on hbw hb
  clear hb
  obtain ⟨cp0, cp1, cp2, cp3, cp4, fp0, fp1, fp2, fp3, fp4⟩ := Xp.out
  have hnep : gp < v11.heap.size := World.block_lt_of_cell? v11 _ cp0
  go_wp2_with fail
  clear cp0 cp1 cp2 cp3 cp4 fp0 fp1 fp2 fp3 fp4 hnep
  refine (twinM (AP.out.1.a.below hbw) (AP.out.1.b.below hbw) AP.out.1.na_ AP.out.1.nb_ kp np pm nm cm).mono ?_
  rintro e v12 ⟨pT1, pT2, rfl, hT1, hT2, hb⟩
  have T1 : Hid (At v12 pT1 nc nc xc) := hT1
  have T2 : Hid (At v12 pT2 nd nd xd) := hT2
  clear hT1 hT2
  have Sv12 : Hid (v11.heap.size ≤ v12.heap.size) := hb.size
  replace Xo : Hid _ := Xo.out.below hb
  replace Xp : Hid _ := Xp.out.below hb
  replace Xq : Hid _ := Xq.out.below hb
  replace D1 : Hid (DL v12 G1 ds1) := D1.out.below hb
  replace D2 : Hid (DL v12 G2 ds2) := D2.out.below hb
  replace SA : Hid (SR v12 w.heap.size gA na xa) := SA.out.below hb
  replace SB : Hid (SR v12 w.heap.size gB nb xb) := SB.out.below hb
  replace E1 : Hid (GL v12 w.heap.size H1 es1) := E1.out.below hb
  replace E2 : Hid (GL v12 w.heap.size H2 es2) := E2.out.below hb
  replace hbw := Below.on hbw hb
  clear hb
  go_wp2_with fail
  refine (answersM T1.out T2.out AP.out.1.na_ AP.out.1.nb_ np AP.out.1.n1 AP.out.1.n2 AP.out.2).mono ?_
  rintro e v13 ⟨H3, es3, f9, rfl, hE, hG, hP, hR, hb⟩
  obtain ⟨eu, ef⟩ := R2.out.uniq hR
  subst ef
  have M3 : Hid (es3.map EN7.X = ds2.map ED7.X) := eu.symm
  have Q3 : Hid (es3.Pairwise (fun a b => a.n ≠ 0 → b.n ≠ 0 → a.b ≠ b.b)) := hP
  have K3 : Hid ((∀ e ∈ es3, e.n ≠ 0 → v12.heap.size ≤ e.b ∧ e.b < v13.heap.size) ∧ v12.heap.size ≤ H3 ∧ H3 < v13.heap.size ∧ v12.heap.size ≤ v13.heap.size) := ⟨gl_iv hE, hG, hE.lt, hb.size⟩
  have E3 : Hid (GL v13 w.heap.size H3 es3) := hE.mono hbw.size
  clear hE hG hP hR eu
  replace Xo : Hid _ := Xo.out.below hb
  replace Xp : Hid _ := Xp.out.below hb
  replace Xq : Hid _ := Xq.out.below hb
  replace D1 : Hid (DL v13 G1 ds1) := D1.out.below hb
  replace D2 : Hid (DL v13 G2 ds2) := D2.out.below hb
  replace SA : Hid (SR v13 w.heap.size gA na xa) := SA.out.below hb
  replace SB : Hid (SR v13 w.heap.size gB nb xb) := SB.out.below hb
  replace E1 : Hid (GL v13 w.heap.size H1 es1) := E1.out.below hb
  replace E2 : Hid (GL v13 w.heap.size H2 es2) := E2.out.below hb
  replace T1 : Hid _ := T1.out.below hb
  replace T2 : Hid _ := T2.out.below hb
  replace hbw := Below.on hbw hb
  clear hb
  clear T1
  clear T2
  obtain ⟨cq0, cq1, cq2, cq3, cq4, fq0, fq1, fq2, fq3, fq4⟩ := Xq.out
  have hneq : gq < v13.heap.size := World.block_lt_of_cell? v13 _ cq0
  go_wp2_with fail
  clear cq0 cq1 cq2 cq3 cq4 fq0 fq1 fq2 fq3 fq4 hneq
  refine (answersM (SA.out.at_ AO.out.1.na_) (SB.out.at_ AO.out.1.nb_) AO.out.1.na_ AO.out.1.nb_ nn AO.out.1.n1 AO.out.1.n2 AO.out.2).mono ?_
  rintro e v14 ⟨H4, es4, f9, rfl, hE, hG, hP, hR, hb⟩
  obtain ⟨eu, ef⟩ := R1.out.uniq hR
  subst ef
  have M4 : Hid (es4.map EN7.X = ds1.map ED7.X) := eu.symm
  have Q4 : Hid (es4.Pairwise (fun a b => a.n ≠ 0 → b.n ≠ 0 → a.b ≠ b.b)) := hP
  have K4 : Hid ((∀ e ∈ es4, e.n ≠ 0 → v13.heap.size ≤ e.b ∧ e.b < v14.heap.size) ∧ v13.heap.size ≤ H4 ∧ H4 < v14.heap.size ∧ v13.heap.size ≤ v14.heap.size) := ⟨gl_iv hE, hG, hE.lt, hb.size⟩
  have E4 : Hid (GL v14 w.heap.size H4 es4) := hE.mono hbw.size
  clear hE hG hP hR eu
  replace Xo : Hid _ := Xo.out.below hb
  replace Xp : Hid _ := Xp.out.below hb
  replace Xq : Hid _ := Xq.out.below hb
  replace D1 : Hid (DL v14 G1 ds1) := D1.out.below hb
  replace D2 : Hid (DL v14 G2 ds2) := D2.out.below hb
  replace SA : Hid (SR v14 w.heap.size gA na xa) := SA.out.below hb
  replace SB : Hid (SR v14 w.heap.size gB nb xb) := SB.out.below hb
  replace E1 : Hid (GL v14 w.heap.size H1 es1) := E1.out.below hb
  replace E2 : Hid (GL v14 w.heap.size H2 es2) := E2.out.below hb
  replace E3 : Hid (GL v14 w.heap.size H3 es3) := E3.out.below hb
  replace hbw := Below.on hbw hb
  clear hb
  go_wp2_with fail
  refine (like_ok E1.out D1.out M1.out).mono ?_
  rintro e v15 ⟨rfl, hb⟩
  have Sv15 : Hid (v14.heap.size ≤ v15.heap.size) := hb.size
  replace Xo : Hid _ := Xo.out.below hb
  replace Xp : Hid _ := Xp.out.below hb
  replace Xq : Hid _ := Xq.out.below hb
  replace D1 : Hid (DL v15 G1 ds1) := D1.out.below hb
  replace D2 : Hid (DL v15 G2 ds2) := D2.out.below hb
  replace SA : Hid (SR v15 w.heap.size gA na xa) := SA.out.below hb
  replace SB : Hid (SR v15 w.heap.size gB nb xb) := SB.out.below hb
  replace E1 : Hid (GL v15 w.heap.size H1 es1) := E1.out.below hb
  replace E2 : Hid (GL v15 w.heap.size H2 es2) := E2.out.below hb
  replace E3 : Hid (GL v15 w.heap.size H3 es3) := E3.out.below hb
  replace E4 : Hid (GL v15 w.heap.size H4 es4) := E4.out.below hb
  replace hbw := Below.on hbw hb
  clear hb
  go_wp2_with fail
  refine (like_ok E2.out D1.out M2.out).mono ?_
  rintro e v16 ⟨rfl, hb⟩
  have Sv16 : Hid (v15.heap.size ≤ v16.heap.size) := hb.size
  replace Xo : Hid _ := Xo.out.below hb
  replace Xp : Hid _ := Xp.out.below hb
  replace Xq : Hid _ := Xq.out.below hb
  replace D1 : Hid (DL v16 G1 ds1) := D1.out.below hb
  replace D2 : Hid (DL v16 G2 ds2) := D2.out.below hb
  replace SA : Hid (SR v16 w.heap.size gA na xa) := SA.out.below hb
  replace SB : Hid (SR v16 w.heap.size gB nb xb) := SB.out.below hb
  replace E1 : Hid (GL v16 w.heap.size H1 es1) := E1.out.below hb
  replace E2 : Hid (GL v16 w.heap.size H2 es2) := E2.out.below hb
  replace E3 : Hid (GL v16 w.heap.size H3 es3) := E3.out.below hb
  replace E4 : Hid (GL v16 w.heap.size H4 es4) := E4.out.below hb
  replace hbw := Below.on hbw hb
  clear hb
  go_wp2_with fail
  refine (like_ok E3.out D2.out M3.out).mono ?_
  rintro e v17 ⟨rfl, hb⟩
  have Sv17 : Hid (v16.heap.size ≤ v17.heap.size) := hb.size
  replace Xo : Hid _ := Xo.out.below hb
  replace Xp : Hid _ := Xp.out.below hb
  replace Xq : Hid _ := Xq.out.below hb
  replace D1 : Hid (DL v17 G1 ds1) := D1.out.below hb
  replace D2 : Hid (DL v17 G2 ds2) := D2.out.below hb
  replace SA : Hid (SR v17 w.heap.size gA na xa) := SA.out.below hb
  replace SB : Hid (SR v17 w.heap.size gB nb xb) := SB.out.below hb
  replace E1 : Hid (GL v17 w.heap.size H1 es1) := E1.out.below hb
  replace E2 : Hid (GL v17 w.heap.size H2 es2) := E2.out.below hb
  replace E3 : Hid (GL v17 w.heap.size H3 es3) := E3.out.below hb
  replace E4 : Hid (GL v17 w.heap.size H4 es4) := E4.out.below hb
  replace hbw := Below.on hbw hb
  clear hb
  go_wp2_with fail
  refine (like_ok E4.out D1.out M4.out).mono ?_
  rintro e v18 ⟨rfl, hb⟩
  have Sv18 : Hid (v17.heap.size ≤ v18.heap.size) := hb.size
  replace Xo : Hid _ := Xo.out.below hb
  replace Xp : Hid _ := Xp.out.below hb
  replace Xq : Hid _ := Xq.out.below hb
  replace D1 : Hid (DL v18 G1 ds1) := D1.out.below hb
  replace D2 : Hid (DL v18 G2 ds2) := D2.out.below hb
  replace SA : Hid (SR v18 w.heap.size gA na xa) := SA.out.below hb
  replace SB : Hid (SR v18 w.heap.size gB nb xb) := SB.out.below hb
  replace E1 : Hid (GL v18 w.heap.size H1 es1) := E1.out.below hb
  replace E2 : Hid (GL v18 w.heap.size H2 es2) := E2.out.below hb
  replace E3 : Hid (GL v18 w.heap.size H3 es3) := E3.out.below hb
  replace E4 : Hid (GL v18 w.heap.size H4 es4) := E4.out.below hb
  replace hbw := Below.on hbw hb
  clear hb
  obtain ⟨co0, co1, co2, co3, co4, fo0, fo1, fo2, fo3, fo4⟩ := Xo.out
  have hneo : go < v18.heap.size := World.block_lt_of_cell? v18 _ co0
  go_wp2_with fail
  clear co0 co1 co2 co3 co4 fo0 fo1 fo2 fo3 fo4 hneo
  refine (kept_ok (AO.out.1.a.below hbw) (SA.out.full AO.out.1.na_) AO.out.1.na_).mono ?_
  rintro e v19 ⟨rfl, hb⟩
  have Sv19 : Hid (v18.heap.size ≤ v19.heap.size) := hb.size
  replace Xo : Hid _ := Xo.out.below hb
  replace Xp : Hid _ := Xp.out.below hb
  replace Xq : Hid _ := Xq.out.below hb
  replace D1 : Hid (DL v19 G1 ds1) := D1.out.below hb
  replace D2 : Hid (DL v19 G2 ds2) := D2.out.below hb
  replace SA : Hid (SR v19 w.heap.size gA na xa) := SA.out.below hb
  replace SB : Hid (SR v19 w.heap.size gB nb xb) := SB.out.below hb
  replace E1 : Hid (GL v19 w.heap.size H1 es1) := E1.out.below hb
  replace E2 : Hid (GL v19 w.heap.size H2 es2) := E2.out.below hb
  replace E3 : Hid (GL v19 w.heap.size H3 es3) := E3.out.below hb
  replace E4 : Hid (GL v19 w.heap.size H4 es4) := E4.out.below hb
  replace hbw := Below.on hbw hb
  clear hb
  obtain ⟨co0, co1, co2, co3, co4, fo0, fo1, fo2, fo3, fo4⟩ := Xo.out
  have hneo : go < v19.heap.size := World.block_lt_of_cell? v19 _ co0
  go_wp2_with fail
  clear co0 co1 co2 co3 co4 fo0 fo1 fo2 fo3 fo4 hneo
  refine (kept_ok (AO.out.1.b.below hbw) (SB.out.full AO.out.1.nb_) AO.out.1.nb_).mono ?_
  rintro e v20 ⟨rfl, hb⟩
  have Sv20 : Hid (v19.heap.size ≤ v20.heap.size) := hb.size
  replace Xo : Hid _ := Xo.out.below hb
  replace Xp : Hid _ := Xp.out.below hb
  replace Xq : Hid _ := Xq.out.below hb
  replace D1 : Hid (DL v20 G1 ds1) := D1.out.below hb
  replace D2 : Hid (DL v20 G2 ds2) := D2.out.below hb
  replace SA : Hid (SR v20 w.heap.size gA na xa) := SA.out.below hb
  replace SB : Hid (SR v20 w.heap.size gB nb xb) := SB.out.below hb
  replace E1 : Hid (GL v20 w.heap.size H1 es1) := E1.out.below hb
  replace E2 : Hid (GL v20 w.heap.size H2 es2) := E2.out.below hb
  replace E3 : Hid (GL v20 w.heap.size H3 es3) := E3.out.below hb
  replace E4 : Hid (GL v20 w.heap.size H4 es4) := E4.out.below hb
  replace hbw := Below.on hbw hb
  clear hb
  go_wp2_with fail
  clear Xo
  clear Xp
  have CH : Hid (v2.heap.size ≤ v3.heap.size ∧ v3.heap.size ≤ v4.heap.size ∧ v4.heap.size ≤ v5.heap.size ∧ v5.heap.size ≤ gq ∧ gq < Wq.heap.size ∧ Wq.heap.size ≤ v7.heap.size ∧ v7.heap.size ≤ v10.heap.size ∧ v10.heap.size ≤ v11.heap.size ∧ v11.heap.size ≤ v12.heap.size ∧ v12.heap.size ≤ v13.heap.size ∧ v13.heap.size ≤ v14.heap.size ∧ v14.heap.size ≤ v20.heap.size) := ⟨Sv3.out, J2.out.2.2.2, UA.out.2.2, UB.out.2.2, Sq.out, K1.out.2.2.2, Nat.le_trans Sv8.out (Nat.le_trans Sv9.out Sv10.out), K2.out.2.2.2, Sv12.out, K3.out.2.2.2, K4.out.2.2.2, Nat.le_trans Sv15.out (Nat.le_trans Sv16.out (Nat.le_trans Sv17.out (Nat.le_trans Sv18.out (Nat.le_trans Sv19.out Sv20.out))))⟩
  have h00 : v20.heap.size ≤ v20.heap.size := Nat.le_refl _
  go_loopg [22] na (fun gk iv wr => ∃ (i : Nat) (zs : List Nat), i + gk = na ∧ iv = .int .i64 i ∧ SR wr w.heap.size gA na zs ∧ Below w.heap.size w wr ∧ v20.heap.size ≤ wr.heap.size ∧ ∀ k, k ≠ gA → wr.heap[k]? = v20.heap[k]?)
  case atStart => exact ⟨0, _, by omega, rfl, SA.out, hbw, h00, fun _ _ => rfl⟩
  case round =>
    clear SA h00 hbw
    obtain ⟨i, za, hig, rfl, x1, hb9, x2, x3⟩ := hrel
    have SA : Hid (SR wr w.heap.size gA na za) := x1
    have HKP : Hid (v20.heap.size ≤ wr.heap.size ∧ ∀ k, k ≠ gA → wr.heap[k]? = v20.heap[k]?) := ⟨x2, x3⟩
    clear x1 x2 x3
    cases gk with
    | succ gi =>
      have HIM : Hid (i < na ∧ i < 17592186044500) := ⟨by omega, by have := AO.out.1.na_; omega⟩
      have hil : (i : Int) < (na : Int) := by omega
      have hi0 : (0 : Int) ≤ (i : Int) ∧ (i : Int) < (na : Int) := by omega
      have wi := wj80 HIM.out.2
      have hcl := SA.out.row.cell i (by omega)
      have hfr := SA.out.row.frozen i (by omega)
      rw [Nat.zero_add] at hcl hfr
      rw [spl_lo (by rw [SA.out.len]; omega)] at hcl
      obtain ⟨c, hc⟩ : ∃ c, c = za.getD i 0 := ⟨_, rfl⟩
      have HCB : Hid (c < B64) := by rw [hc]; exact SA.out.dig.getD B64_pos _
      rw [← hc] at hcl
      have hw2 : IntKind.u64.wrap (IntKind.u64.wrap ((c : Int) / 2) + 1) = ((c / 2 + 1 : Nat) : Int) := wrh (d := 2) (by decide) HCB.out
      have HB9 : Hid (Below w.heap.size w wr) := hb9
      clear hb9 hc
      go_wp2_with fail
      go_roundg gi
      case measure => omega
      case rel => exact ⟨i + 1, _, by omega, by go_num, SA.out.set HIM.out.1 (half_lt 2 (by decide) HCB.out), bSet HB9.out gA i _ SA.out.ge, by rw [World.size_setCell]; exact HKP.out.1, fun k hk => (Below.heap_setCell wr _ _ k hk).trans (HKP.out.2 k hk)⟩
    | zero =>
      obtain rfl : na = i := by omega
      have hnk : ¬ ((na : Nat) : Int) < ((na : Nat) : Int) := by omega
      have SLA : Hid (v20.heap.size ≤ wr.heap.size) := HKP.out.1
      have D1' : Hid (DL wr G1 ds1) := D1.out.keep (HKP.out.2 G1 (by have := J1.out.2; have := UA.out; have := UB.out; have := CH.out; omega)) (fun d hd h0 => HKP.out.2 d.b (by have := J1.out.1 d hd h0; have := UA.out; have := UB.out; have := CH.out; omega))
      clear D1
      have D1 := D1'
      clear D1'
      have D2' : Hid (DL wr G2 ds2) := D2.out.keep (HKP.out.2 G2 (by have := J2.out.2; have := UA.out; have := UB.out; have := CH.out; omega)) (fun d hd h0 => HKP.out.2 d.b (by have := J2.out.1 d hd h0; have := UA.out; have := UB.out; have := CH.out; omega))
      clear D2
      have D2 := D2'
      clear D2'
      have E1' : Hid (GL wr w.heap.size H1 es1) := E1.out.keep (HKP.out.2 H1 (by have := K1.out.2; have := UA.out; have := UB.out; have := CH.out; omega)) (fun e he h0 => HKP.out.2 e.b (by have := K1.out.1 e he h0; have := UA.out; have := UB.out; have := CH.out; omega))
      clear E1
      have E1 := E1'
      clear E1'
      have E2' : Hid (GL wr w.heap.size H2 es2) := E2.out.keep (HKP.out.2 H2 (by have := K2.out.2; have := UA.out; have := UB.out; have := CH.out; omega)) (fun e he h0 => HKP.out.2 e.b (by have := K2.out.1 e he h0; have := UA.out; have := UB.out; have := CH.out; omega))
      clear E2
      have E2 := E2'
      clear E2'
      have E3' : Hid (GL wr w.heap.size H3 es3) := E3.out.keep (HKP.out.2 H3 (by have := K3.out.2; have := UA.out; have := UB.out; have := CH.out; omega)) (fun e he h0 => HKP.out.2 e.b (by have := K3.out.1 e he h0; have := UA.out; have := UB.out; have := CH.out; omega))
      clear E3
      have E3 := E3'
      clear E3'
      have E4' : Hid (GL wr w.heap.size H4 es4) := E4.out.keep (HKP.out.2 H4 (by have := K4.out.2; have := UA.out; have := UB.out; have := CH.out; omega)) (fun e he h0 => HKP.out.2 e.b (by have := K4.out.1 e he h0; have := UA.out; have := UB.out; have := CH.out; omega))
      clear E4
      have E4 := E4'
      clear E4'
      have SB' : Hid (SR wr w.heap.size gB nb xb) := SB.out.keep (HKP.out.2 gB (by have := UA.out; have := UB.out; have := CH.out; omega))
      clear SB
      have SB := SB'
      clear SB'
      have Xq' : Hid (B5q wr gq (.int .i64 kd) (.slice (some ⟨gA, 0, none⟩) na (na + 80)) (.slice (some ⟨gB, 0, none⟩) nb (nb + 80)) (.int .i64 nn) (.slice none 0 0)) := Xq.out.keep (HKP.out.2 gq (by have := UA.out; have := UB.out; have := CH.out; omega))
      clear Xq
      have Xq := Xq'
      clear Xq'
      have hbw := hb9
      clear hb9 HKP
      generalize wr = wLA at *
      go_wp2_with fail
      clear hnk hig
      have h00 : wLA.heap.size ≤ wLA.heap.size := Nat.le_refl _
      go_loopg [23] nb (fun gk iv wr => ∃ (i : Nat) (zs : List Nat), i + gk = nb ∧ iv = .int .i64 i ∧ SR wr w.heap.size gB nb zs ∧ Below w.heap.size w wr ∧ wLA.heap.size ≤ wr.heap.size ∧ ∀ k, k ≠ gB → wr.heap[k]? = wLA.heap[k]?)
      case atStart => exact ⟨0, _, by omega, rfl, SB.out, hbw, h00, fun _ _ => rfl⟩
      case round =>
        clear SB h00 hbw
        obtain ⟨i, zb, hig, rfl, x1, hb9, x2, x3⟩ := hrel
        have SB : Hid (SR wr w.heap.size gB nb zb) := x1
        have HKP : Hid (wLA.heap.size ≤ wr.heap.size ∧ ∀ k, k ≠ gB → wr.heap[k]? = wLA.heap[k]?) := ⟨x2, x3⟩
        clear x1 x2 x3
        cases gk with
        | succ gi =>
          have HIM : Hid (i < nb ∧ i < 17592186044500) := ⟨by omega, by have := AO.out.1.nb_; omega⟩
          have hil : (i : Int) < (nb : Int) := by omega
          have hi0 : (0 : Int) ≤ (i : Int) ∧ (i : Int) < (nb : Int) := by omega
          have wi := wj80 HIM.out.2
          have hcl := SB.out.row.cell i (by omega)
          have hfr := SB.out.row.frozen i (by omega)
          rw [Nat.zero_add] at hcl hfr
          rw [spl_lo (by rw [SB.out.len]; omega)] at hcl
          obtain ⟨c, hc⟩ : ∃ c, c = zb.getD i 0 := ⟨_, rfl⟩
          have HCB : Hid (c < B64) := by rw [hc]; exact SB.out.dig.getD B64_pos _
          rw [← hc] at hcl
          have hw2 : IntKind.u64.wrap (IntKind.u64.wrap ((c : Int) / 3) + 1) = ((c / 3 + 1 : Nat) : Int) := wrh (d := 3) (by decide) HCB.out
          have HB9 : Hid (Below w.heap.size w wr) := hb9
          clear hb9 hc
          go_wp2_with fail
          go_roundg gi
          case measure => omega
          case rel => exact ⟨i + 1, _, by omega, by go_num, SB.out.set HIM.out.1 (half_lt 3 (by decide) HCB.out), bSet HB9.out gB i _ SB.out.ge, by rw [World.size_setCell]; exact HKP.out.1, fun k hk => (Below.heap_setCell wr _ _ k hk).trans (HKP.out.2 k hk)⟩
        | zero =>
          obtain rfl : nb = i := by omega
          have hnk : ¬ ((nb : Nat) : Int) < ((nb : Nat) : Int) := by omega
          have SLB : Hid (wLA.heap.size ≤ wr.heap.size) := HKP.out.1
          have D1' : Hid (DL wr G1 ds1) := D1.out.keep (HKP.out.2 G1 (by have := J1.out.2; have := UA.out; have := UB.out; have := CH.out; omega)) (fun d hd h0 => HKP.out.2 d.b (by have := J1.out.1 d hd h0; have := UA.out; have := UB.out; have := CH.out; omega))
          clear D1
          have D1 := D1'
          clear D1'
          have D2' : Hid (DL wr G2 ds2) := D2.out.keep (HKP.out.2 G2 (by have := J2.out.2; have := UA.out; have := UB.out; have := CH.out; omega)) (fun d hd h0 => HKP.out.2 d.b (by have := J2.out.1 d hd h0; have := UA.out; have := UB.out; have := CH.out; omega))
          clear D2
          have D2 := D2'
          clear D2'
          have E1' : Hid (GL wr w.heap.size H1 es1) := E1.out.keep (HKP.out.2 H1 (by have := K1.out.2; have := UA.out; have := UB.out; have := CH.out; omega)) (fun e he h0 => HKP.out.2 e.b (by have := K1.out.1 e he h0; have := UA.out; have := UB.out; have := CH.out; omega))
          clear E1
          have E1 := E1'
          clear E1'
          have E2' : Hid (GL wr w.heap.size H2 es2) := E2.out.keep (HKP.out.2 H2 (by have := K2.out.2; have := UA.out; have := UB.out; have := CH.out; omega)) (fun e he h0 => HKP.out.2 e.b (by have := K2.out.1 e he h0; have := UA.out; have := UB.out; have := CH.out; omega))
          clear E2
          have E2 := E2'
          clear E2'
          have E3' : Hid (GL wr w.heap.size H3 es3) := E3.out.keep (HKP.out.2 H3 (by have := K3.out.2; have := UA.out; have := UB.out; have := CH.out; omega)) (fun e he h0 => HKP.out.2 e.b (by have := K3.out.1 e he h0; have := UA.out; have := UB.out; have := CH.out; omega))
          clear E3
          have E3 := E3'
          clear E3'
          have E4' : Hid (GL wr w.heap.size H4 es4) := E4.out.keep (HKP.out.2 H4 (by have := K4.out.2; have := UA.out; have := UB.out; have := CH.out; omega)) (fun e he h0 => HKP.out.2 e.b (by have := K4.out.1 e he h0; have := UA.out; have := UB.out; have := CH.out; omega))
          clear E4
          have E4 := E4'
          clear E4'
          have SA' : Hid (SR wr w.heap.size gA na za) := SA.out.keep (HKP.out.2 gA (by have := UA.out; have := UB.out; have := CH.out; omega))
          clear SA
          have SA := SA'
          clear SA'
          have Xq' : Hid (B5q wr gq (.int .i64 kd) (.slice (some ⟨gA, 0, none⟩) na (na + 80)) (.slice (some ⟨gB, 0, none⟩) nb (nb + 80)) (.int .i64 nn) (.slice none 0 0)) := Xq.out.keep (HKP.out.2 gq (by have := UA.out; have := UB.out; have := CH.out; omega))
          clear Xq
          have Xq := Xq'
          clear Xq'
          have hbw := hb9
          clear hb9 HKP
          generalize wr = wLB at *
          obtain ⟨cq0, cq1, cq2, cq3, cq4, fq0, fq1, fq2, fq3, fq4⟩ := Xq.out
          have hneq : gq < wLB.heap.size := World.block_lt_of_cell? wLB _ cq0
          go_wp2_with fail
          clear cq0 cq1 cq2 cq3 cq4 fq0 fq1 fq2 fq3 fq4 hneq
          clear hnk hig
          refine (twinM (SA.out.at_ AO.out.1.na_) (SB.out.at_ AO.out.1.nb_) AO.out.1.na_ AO.out.1.nb_ kd nn none 0 0).mono ?_
          rintro e v21 ⟨pM1, pM2, rfl, hT1, hT2, hb⟩
          have M1 : Hid (At v21 pM1 na na za) := hT1
          have M2 : Hid (At v21 pM2 nb nb zb) := hT2
          clear hT1 hT2
          have Sv21 : Hid (wLB.heap.size ≤ v21.heap.size) := hb.size
          replace Xq : Hid _ := Xq.out.below hb
          replace D1 : Hid (DL v21 G1 ds1) := D1.out.below hb
          replace D2 : Hid (DL v21 G2 ds2) := D2.out.below hb
          replace SA : Hid (SR v21 w.heap.size gA na za) := SA.out.below hb
          replace SB : Hid (SR v21 w.heap.size gB nb zb) := SB.out.below hb
          replace E1 : Hid (GL v21 w.heap.size H1 es1) := E1.out.below hb
          replace E2 : Hid (GL v21 w.heap.size H2 es2) := E2.out.below hb
          replace E3 : Hid (GL v21 w.heap.size H3 es3) := E3.out.below hb
          replace E4 : Hid (GL v21 w.heap.size H4 es4) := E4.out.below hb
          replace hbw := Below.on hbw hb
          clear hb
          go_wp2_with fail
          have Xn0 : Hid (B5q (v21.alloc (.cells #[.int .i64 kd, .slice pM1 na na, .slice pM2 nb nb, .int .i64 nn, .slice none 0 0] 27)) v21.heap.size (.int .i64 kd) (.slice pM1 na na) (.slice pM2 nb nb) (.int .i64 nn) (.slice none 0 0)) := B5q.new v21 _ _ _ _ _ _
          have hbn : Below v21.heap.size v21 (v21.alloc (.cells #[.int .i64 kd, .slice pM1 na na, .slice pM2 nb nb, .int .i64 nn, .slice none 0 0] 27)) := below1 v21 _
          generalize v21.alloc (.cells #[.int .i64 kd, .slice pM1 na na, .slice pM2 nb nb, .int .i64 nn, .slice none 0 0] 27) = Wn at *
          have HGn : Hid (w.heap.size ≤ v21.heap.size) := hbw.size
          replace Xq : Hid _ := Xq.out.below hbn
          replace D1 : Hid (DL Wn G1 ds1) := D1.out.below hbn
          replace D2 : Hid (DL Wn G2 ds2) := D2.out.below hbn
          replace SA : Hid (SR Wn w.heap.size gA na za) := SA.out.below hbn
          replace SB : Hid (SR Wn w.heap.size gB nb zb) := SB.out.below hbn
          replace E1 : Hid (GL Wn w.heap.size H1 es1) := E1.out.below hbn
          replace E2 : Hid (GL Wn w.heap.size H2 es2) := E2.out.below hbn
          replace E3 : Hid (GL Wn w.heap.size H3 es3) := E3.out.below hbn
          replace E4 : Hid (GL Wn w.heap.size H4 es4) := E4.out.below hbn
          replace M1 : Hid _ := M1.out.below hbn
          replace M2 : Hid _ := M2.out.below hbn
          replace hbw := Below.on hbw hbn
          clear hbn
          generalize v21.heap.size = gn at *
          have Xn := Xn0
          clear Xn0
          have Sn : Hid (gn < Wn.heap.size) := Xn.out.lt
          obtain ⟨cn0, cn1, cn2, cn3, cn4, fn0, fn1, fn2, fn3, fn4⟩ := Xn.out
          have hnen : gn < Wn.heap.size := World.block_lt_of_cell? Wn _ cn0
          go_wp2_with fail
          clear cn0 cn1 cn2 cn3 cn4 fn0 fn1 fn2 fn3 fn4 hnen
          refine (docM M1.out M2.out AO.out.1.na_ AO.out.1.nb_ nn AO.out.1.n1 AO.out.1.n2 AO.out.2).mono ?_
          rintro e v22 ⟨G3, ds3, f3, rfl, hD, hG, hI, hR, hb⟩
          have R3 : Hid (AIs kd za zb nn (ds3.map ED7.X) f3) := hR
          have J3 : Hid ((∀ d ∈ ds3, d.n ≠ 0 → Wn.heap.size ≤ d.b ∧ d.b < v22.heap.size) ∧ Wn.heap.size ≤ G3 ∧ G3 < v22.heap.size ∧ Wn.heap.size ≤ v22.heap.size) := ⟨hI, hG, hD.lt, hb.size⟩
          have D3 : Hid (DL v22 G3 ds3) := hD
          clear hD hG hI hR
          replace Xq : Hid _ := Xq.out.below hb
          replace Xn : Hid _ := Xn.out.below hb
          replace D1 : Hid (DL v22 G1 ds1) := D1.out.below hb
          replace D2 : Hid (DL v22 G2 ds2) := D2.out.below hb
          replace SA : Hid (SR v22 w.heap.size gA na za) := SA.out.below hb
          replace SB : Hid (SR v22 w.heap.size gB nb zb) := SB.out.below hb
          replace E1 : Hid (GL v22 w.heap.size H1 es1) := E1.out.below hb
          replace E2 : Hid (GL v22 w.heap.size H2 es2) := E2.out.below hb
          replace E3 : Hid (GL v22 w.heap.size H3 es3) := E3.out.below hb
          replace E4 : Hid (GL v22 w.heap.size H4 es4) := E4.out.below hb
          replace M1 : Hid _ := M1.out.below hb
          replace M2 : Hid _ := M2.out.below hb
          replace hbw := Below.on hbw hb
          clear hb
          obtain ⟨cq0, cq1, cq2, cq3, cq4, fq0, fq1, fq2, fq3, fq4⟩ := Xq.out
          have hneq : gq < v22.heap.size := World.block_lt_of_cell? v22 _ cq0
          go_wp2_with fail
          clear cq0 cq1 cq2 cq3 cq4 fq0 fq1 fq2 fq3 fq4 hneq
          refine (answersM (SA.out.at_ AO.out.1.na_) (SB.out.at_ AO.out.1.nb_) AO.out.1.na_ AO.out.1.nb_ nn AO.out.1.n1 AO.out.1.n2 AO.out.2).mono ?_
          rintro e v23 ⟨H5, es5, f9, rfl, hE, hG, hP, hR, hb⟩
          obtain ⟨eu, ef⟩ := R3.out.uniq hR
          subst ef
          have M5 : Hid (es5.map EN7.X = ds3.map ED7.X) := eu.symm
          have Q5 : Hid (es5.Pairwise (fun a b => a.n ≠ 0 → b.n ≠ 0 → a.b ≠ b.b)) := hP
          have K5 : Hid ((∀ e ∈ es5, e.n ≠ 0 → v22.heap.size ≤ e.b ∧ e.b < v23.heap.size) ∧ v22.heap.size ≤ H5 ∧ H5 < v23.heap.size ∧ v22.heap.size ≤ v23.heap.size) := ⟨gl_iv hE, hG, hE.lt, hb.size⟩
          have E5 : Hid (GL v23 w.heap.size H5 es5) := hE.mono hbw.size
          clear hE hG hP hR eu
          replace Xq : Hid _ := Xq.out.below hb
          replace Xn : Hid _ := Xn.out.below hb
          replace D1 : Hid (DL v23 G1 ds1) := D1.out.below hb
          replace D2 : Hid (DL v23 G2 ds2) := D2.out.below hb
          replace SA : Hid (SR v23 w.heap.size gA na za) := SA.out.below hb
          replace SB : Hid (SR v23 w.heap.size gB nb zb) := SB.out.below hb
          replace E1 : Hid (GL v23 w.heap.size H1 es1) := E1.out.below hb
          replace E2 : Hid (GL v23 w.heap.size H2 es2) := E2.out.below hb
          replace E3 : Hid (GL v23 w.heap.size H3 es3) := E3.out.below hb
          replace E4 : Hid (GL v23 w.heap.size H4 es4) := E4.out.below hb
          replace M1 : Hid _ := M1.out.below hb
          replace M2 : Hid _ := M2.out.below hb
          replace D3 : Hid (DL v23 G3 ds3) := D3.out.below hb
          replace hbw := Below.on hbw hb
          clear hb
          have he3 : (f3 == f3) = true := by simp
          go_wp2_with fail
          refine (like_ok E5.out D3.out M5.out).mono ?_
          rintro e v24 ⟨rfl, hb⟩
          have Sv24 : Hid (v23.heap.size ≤ v24.heap.size) := hb.size
          replace Xq : Hid _ := Xq.out.below hb
          replace Xn : Hid _ := Xn.out.below hb
          replace D1 : Hid (DL v24 G1 ds1) := D1.out.below hb
          replace D2 : Hid (DL v24 G2 ds2) := D2.out.below hb
          replace SA : Hid (SR v24 w.heap.size gA na za) := SA.out.below hb
          replace SB : Hid (SR v24 w.heap.size gB nb zb) := SB.out.below hb
          replace E1 : Hid (GL v24 w.heap.size H1 es1) := E1.out.below hb
          replace E2 : Hid (GL v24 w.heap.size H2 es2) := E2.out.below hb
          replace E3 : Hid (GL v24 w.heap.size H3 es3) := E3.out.below hb
          replace E4 : Hid (GL v24 w.heap.size H4 es4) := E4.out.below hb
          replace M1 : Hid _ := M1.out.below hb
          replace M2 : Hid _ := M2.out.below hb
          replace D3 : Hid (DL v24 G3 ds3) := D3.out.below hb
          replace E5 : Hid (GL v24 w.heap.size H5 es5) := E5.out.below hb
          replace hbw := Below.on hbw hb
          clear hb
          obtain ⟨cn0, cn1, cn2, cn3, cn4, fn0, fn1, fn2, fn3, fn4⟩ := Xn.out
          have hnen : gn < v24.heap.size := World.block_lt_of_cell? v24 _ cn0
          go_wp2_with fail
          clear cn0 cn1 cn2 cn3 cn4 fn0 fn1 fn2 fn3 fn4 hnen
          refine (same_t (SA.out.at_ AO.out.1.na_) M1.out).mono ?_
          rintro e v25 ⟨rfl, hb⟩
          have Sv25 : Hid (v24.heap.size ≤ v25.heap.size) := hb.size
          replace Xq : Hid _ := Xq.out.below hb
          replace Xn : Hid _ := Xn.out.below hb
          replace D1 : Hid (DL v25 G1 ds1) := D1.out.below hb
          replace D2 : Hid (DL v25 G2 ds2) := D2.out.below hb
          replace SA : Hid (SR v25 w.heap.size gA na za) := SA.out.below hb
          replace SB : Hid (SR v25 w.heap.size gB nb zb) := SB.out.below hb
          replace E1 : Hid (GL v25 w.heap.size H1 es1) := E1.out.below hb
          replace E2 : Hid (GL v25 w.heap.size H2 es2) := E2.out.below hb
          replace E3 : Hid (GL v25 w.heap.size H3 es3) := E3.out.below hb
          replace E4 : Hid (GL v25 w.heap.size H4 es4) := E4.out.below hb
          replace M1 : Hid _ := M1.out.below hb
          replace M2 : Hid _ := M2.out.below hb
          replace D3 : Hid (DL v25 G3 ds3) := D3.out.below hb
          replace E5 : Hid (GL v25 w.heap.size H5 es5) := E5.out.below hb
          replace hbw := Below.on hbw hb
          clear hb
          obtain ⟨cn0, cn1, cn2, cn3, cn4, fn0, fn1, fn2, fn3, fn4⟩ := Xn.out
          have hnen : gn < v25.heap.size := World.block_lt_of_cell? v25 _ cn0
          go_wp2_with fail
          clear cn0 cn1 cn2 cn3 cn4 fn0 fn1 fn2 fn3 fn4 hnen
          refine (same_t (SB.out.at_ AO.out.1.nb_) M2.out).mono ?_
          rintro e v26 ⟨rfl, hb⟩
          have Sv26 : Hid (v25.heap.size ≤ v26.heap.size) := hb.size
          replace Xq : Hid _ := Xq.out.below hb
          replace Xn : Hid _ := Xn.out.below hb
          replace D1 : Hid (DL v26 G1 ds1) := D1.out.below hb
          replace D2 : Hid (DL v26 G2 ds2) := D2.out.below hb
          replace SA : Hid (SR v26 w.heap.size gA na za) := SA.out.below hb
          replace SB : Hid (SR v26 w.heap.size gB nb zb) := SB.out.below hb
          replace E1 : Hid (GL v26 w.heap.size H1 es1) := E1.out.below hb
          replace E2 : Hid (GL v26 w.heap.size H2 es2) := E2.out.below hb
          replace E3 : Hid (GL v26 w.heap.size H3 es3) := E3.out.below hb
          replace E4 : Hid (GL v26 w.heap.size H4 es4) := E4.out.below hb
          replace M1 : Hid _ := M1.out.below hb
          replace M2 : Hid _ := M2.out.below hb
          replace D3 : Hid (DL v26 G3 ds3) := D3.out.below hb
          replace E5 : Hid (GL v26 w.heap.size H5 es5) := E5.out.below hb
          replace hbw := Below.on hbw hb
          clear hb
          clear M1
          clear M2
          clear Xn
          clear Xq
          go_wp2_with fail
          have C2 : Hid (v20.heap.size ≤ wLA.heap.size ∧ wLA.heap.size ≤ wLB.heap.size ∧ wLB.heap.size ≤ gn ∧ gn ≤ Wn.heap.size ∧ Wn.heap.size ≤ v22.heap.size ∧ v22.heap.size ≤ v23.heap.size) := ⟨SLA.out, SLB.out, Sv21.out, Nat.le_of_lt Sn.out, J3.out.2.2.2, K5.out.2.2.2⟩
          refine (over_ok SA.out.row (by have := AO.out.1.na_; omega)).mono ?_
          rintro e v27 ⟨rfl, ⟨yA, hRw⟩, hsz, hK, hbg⟩
          have HKP : Hid (True ∧ ∀ k, k ≠ gA → v27.heap[k]? = v26.heap[k]?) := ⟨trivial, hK⟩
          have FA : Hid (EQ7 v27 w.heap.size (some ⟨gA, 0, none⟩) (na + 80) gA yA) := ⟨.inr rfl, fun h => (by cases h), hRw, SA.out.ge, by have := AO.out.1.na_; omega⟩
          have hbw' := hbw.trans (hbg.mono SA.out.ge)
          clear hbw hRw hsz hK hbg
          have hbw := hbw'
          clear hbw'
          clear SA
          have D1' : Hid (DL v27 G1 ds1) := D1.out.keep (HKP.out.2 G1 (by have := J1.out.2; have := UA.out; have := UB.out; have := CH.out; have := C2.out; omega)) (fun d hd h0 => HKP.out.2 d.b (by have := J1.out.1 d hd h0; have := UA.out; have := UB.out; have := CH.out; have := C2.out; omega))
          clear D1
          have D1 := D1'
          clear D1'
          have D2' : Hid (DL v27 G2 ds2) := D2.out.keep (HKP.out.2 G2 (by have := J2.out.2; have := UA.out; have := UB.out; have := CH.out; have := C2.out; omega)) (fun d hd h0 => HKP.out.2 d.b (by have := J2.out.1 d hd h0; have := UA.out; have := UB.out; have := CH.out; have := C2.out; omega))
          clear D2
          have D2 := D2'
          clear D2'
          have D3' : Hid (DL v27 G3 ds3) := D3.out.keep (HKP.out.2 G3 (by have := J3.out.2; have := UA.out; have := UB.out; have := CH.out; have := C2.out; omega)) (fun d hd h0 => HKP.out.2 d.b (by have := J3.out.1 d hd h0; have := UA.out; have := UB.out; have := CH.out; have := C2.out; omega))
          clear D3
          have D3 := D3'
          clear D3'
          have E1' : Hid (GL v27 w.heap.size H1 es1) := E1.out.keep (HKP.out.2 H1 (by have := K1.out.2; have := UA.out; have := UB.out; have := CH.out; have := C2.out; omega)) (fun e he h0 => HKP.out.2 e.b (by have := K1.out.1 e he h0; have := UA.out; have := UB.out; have := CH.out; have := C2.out; omega))
          clear E1
          have E1 := E1'
          clear E1'
          have E2' : Hid (GL v27 w.heap.size H2 es2) := E2.out.keep (HKP.out.2 H2 (by have := K2.out.2; have := UA.out; have := UB.out; have := CH.out; have := C2.out; omega)) (fun e he h0 => HKP.out.2 e.b (by have := K2.out.1 e he h0; have := UA.out; have := UB.out; have := CH.out; have := C2.out; omega))
          clear E2
          have E2 := E2'
          clear E2'
          have E3' : Hid (GL v27 w.heap.size H3 es3) := E3.out.keep (HKP.out.2 H3 (by have := K3.out.2; have := UA.out; have := UB.out; have := CH.out; have := C2.out; omega)) (fun e he h0 => HKP.out.2 e.b (by have := K3.out.1 e he h0; have := UA.out; have := UB.out; have := CH.out; have := C2.out; omega))
          clear E3
          have E3 := E3'
          clear E3'
          have E4' : Hid (GL v27 w.heap.size H4 es4) := E4.out.keep (HKP.out.2 H4 (by have := K4.out.2; have := UA.out; have := UB.out; have := CH.out; have := C2.out; omega)) (fun e he h0 => HKP.out.2 e.b (by have := K4.out.1 e he h0; have := UA.out; have := UB.out; have := CH.out; have := C2.out; omega))
          clear E4
          have E4 := E4'
          clear E4'
          have E5' : Hid (GL v27 w.heap.size H5 es5) := E5.out.keep (HKP.out.2 H5 (by have := K5.out.2; have := UA.out; have := UB.out; have := CH.out; have := C2.out; omega)) (fun e he h0 => HKP.out.2 e.b (by have := K5.out.1 e he h0; have := UA.out; have := UB.out; have := CH.out; have := C2.out; omega))
          clear E5
          have E5 := E5'
          clear E5'
          have SB' : Hid (SR v27 w.heap.size gB nb zb) := SB.out.keep (HKP.out.2 gB (by have := UA.out; have := UB.out; omega))
          clear SB
          have SB := SB'
          clear SB'
          clear HKP
          go_wp2_with fail
          refine (over_ok SB.out.row (by have := AO.out.1.nb_; omega)).mono ?_
          rintro e v28 ⟨rfl, ⟨yB, hRw⟩, hsz, hK, hbg⟩
          have HKP : Hid (True ∧ ∀ k, k ≠ gB → v28.heap[k]? = v27.heap[k]?) := ⟨trivial, hK⟩
          have FB : Hid (EQ7 v28 w.heap.size (some ⟨gB, 0, none⟩) (nb + 80) gB yB) := ⟨.inr rfl, fun h => (by cases h), hRw, SB.out.ge, by have := AO.out.1.nb_; omega⟩
          have hbw' := hbw.trans (hbg.mono SB.out.ge)
          clear hbw hRw hsz hK hbg
          have hbw := hbw'
          clear hbw'
          clear SB
          have D1' : Hid (DL v28 G1 ds1) := D1.out.keep (HKP.out.2 G1 (by have := J1.out.2; have := UA.out; have := UB.out; have := CH.out; have := C2.out; omega)) (fun d hd h0 => HKP.out.2 d.b (by have := J1.out.1 d hd h0; have := UA.out; have := UB.out; have := CH.out; have := C2.out; omega))
          clear D1
          have D1 := D1'
          clear D1'
          have D2' : Hid (DL v28 G2 ds2) := D2.out.keep (HKP.out.2 G2 (by have := J2.out.2; have := UA.out; have := UB.out; have := CH.out; have := C2.out; omega)) (fun d hd h0 => HKP.out.2 d.b (by have := J2.out.1 d hd h0; have := UA.out; have := UB.out; have := CH.out; have := C2.out; omega))
          clear D2
          have D2 := D2'
          clear D2'
          have D3' : Hid (DL v28 G3 ds3) := D3.out.keep (HKP.out.2 G3 (by have := J3.out.2; have := UA.out; have := UB.out; have := CH.out; have := C2.out; omega)) (fun d hd h0 => HKP.out.2 d.b (by have := J3.out.1 d hd h0; have := UA.out; have := UB.out; have := CH.out; have := C2.out; omega))
          clear D3
          have D3 := D3'
          clear D3'
          have E1' : Hid (GL v28 w.heap.size H1 es1) := E1.out.keep (HKP.out.2 H1 (by have := K1.out.2; have := UA.out; have := UB.out; have := CH.out; have := C2.out; omega)) (fun e he h0 => HKP.out.2 e.b (by have := K1.out.1 e he h0; have := UA.out; have := UB.out; have := CH.out; have := C2.out; omega))
          clear E1
          have E1 := E1'
          clear E1'
          have E2' : Hid (GL v28 w.heap.size H2 es2) := E2.out.keep (HKP.out.2 H2 (by have := K2.out.2; have := UA.out; have := UB.out; have := CH.out; have := C2.out; omega)) (fun e he h0 => HKP.out.2 e.b (by have := K2.out.1 e he h0; have := UA.out; have := UB.out; have := CH.out; have := C2.out; omega))
          clear E2
          have E2 := E2'
          clear E2'
          have E3' : Hid (GL v28 w.heap.size H3 es3) := E3.out.keep (HKP.out.2 H3 (by have := K3.out.2; have := UA.out; have := UB.out; have := CH.out; have := C2.out; omega)) (fun e he h0 => HKP.out.2 e.b (by have := K3.out.1 e he h0; have := UA.out; have := UB.out; have := CH.out; have := C2.out; omega))
          clear E3
          have E3 := E3'
          clear E3'
          have E4' : Hid (GL v28 w.heap.size H4 es4) := E4.out.keep (HKP.out.2 H4 (by have := K4.out.2; have := UA.out; have := UB.out; have := CH.out; have := C2.out; omega)) (fun e he h0 => HKP.out.2 e.b (by have := K4.out.1 e he h0; have := UA.out; have := UB.out; have := CH.out; have := C2.out; omega))
          clear E4
          have E4 := E4'
          clear E4'
          have E5' : Hid (GL v28 w.heap.size H5 es5) := E5.out.keep (HKP.out.2 H5 (by have := K5.out.2; have := UA.out; have := UB.out; have := CH.out; have := C2.out; omega)) (fun e he h0 => HKP.out.2 e.b (by have := K5.out.1 e he h0; have := UA.out; have := UB.out; have := CH.out; have := C2.out; omega))
          clear E5
          have E5 := E5'
          clear E5'
          have FA' : Hid (EQ7 v28 w.heap.size (some ⟨gA, 0, none⟩) (na + 80) gA yA) := FA.out.keep (fun _ => HKP.out.2 gA (by have := UA.out; have := UB.out; omega))
          clear FA
          have FA := FA'
          clear FA'
          clear HKP
          go_wp2_with fail
          refine (like_ok E1.out D1.out M1.out).mono ?_
          rintro e v29 ⟨rfl, hb⟩
          have Sv29 : Hid (v28.heap.size ≤ v29.heap.size) := hb.size
          replace D1 : Hid (DL v29 G1 ds1) := D1.out.below hb
          replace D2 : Hid (DL v29 G2 ds2) := D2.out.below hb
          replace E1 : Hid (GL v29 w.heap.size H1 es1) := E1.out.below hb
          replace E2 : Hid (GL v29 w.heap.size H2 es2) := E2.out.below hb
          replace E3 : Hid (GL v29 w.heap.size H3 es3) := E3.out.below hb
          replace E4 : Hid (GL v29 w.heap.size H4 es4) := E4.out.below hb
          replace D3 : Hid (DL v29 G3 ds3) := D3.out.below hb
          replace E5 : Hid (GL v29 w.heap.size H5 es5) := E5.out.below hb
          replace FA : Hid (EQ7 v29 w.heap.size (some ⟨gA, 0, none⟩) (na + 80) gA yA) := FA.out.below hb
          replace FB : Hid (EQ7 v29 w.heap.size (some ⟨gB, 0, none⟩) (nb + 80) gB yB) := FB.out.below hb
          replace hbw := Below.on hbw hb
          clear hb
          go_wp2_with fail
          refine (like_ok E2.out D1.out M2.out).mono ?_
          rintro e v30 ⟨rfl, hb⟩
          have Sv30 : Hid (v29.heap.size ≤ v30.heap.size) := hb.size
          replace D1 : Hid (DL v30 G1 ds1) := D1.out.below hb
          replace D2 : Hid (DL v30 G2 ds2) := D2.out.below hb
          replace E1 : Hid (GL v30 w.heap.size H1 es1) := E1.out.below hb
          replace E2 : Hid (GL v30 w.heap.size H2 es2) := E2.out.below hb
          replace E3 : Hid (GL v30 w.heap.size H3 es3) := E3.out.below hb
          replace E4 : Hid (GL v30 w.heap.size H4 es4) := E4.out.below hb
          replace D3 : Hid (DL v30 G3 ds3) := D3.out.below hb
          replace E5 : Hid (GL v30 w.heap.size H5 es5) := E5.out.below hb
          replace FA : Hid (EQ7 v30 w.heap.size (some ⟨gA, 0, none⟩) (na + 80) gA yA) := FA.out.below hb
          replace FB : Hid (EQ7 v30 w.heap.size (some ⟨gB, 0, none⟩) (nb + 80) gB yB) := FB.out.below hb
          replace hbw := Below.on hbw hb
          clear hb
          go_wp2_with fail
          refine (like_ok E3.out D2.out M3.out).mono ?_
          rintro e v31 ⟨rfl, hb⟩
          have Sv31 : Hid (v30.heap.size ≤ v31.heap.size) := hb.size
          replace D1 : Hid (DL v31 G1 ds1) := D1.out.below hb
          replace D2 : Hid (DL v31 G2 ds2) := D2.out.below hb
          replace E1 : Hid (GL v31 w.heap.size H1 es1) := E1.out.below hb
          replace E2 : Hid (GL v31 w.heap.size H2 es2) := E2.out.below hb
          replace E3 : Hid (GL v31 w.heap.size H3 es3) := E3.out.below hb
          replace E4 : Hid (GL v31 w.heap.size H4 es4) := E4.out.below hb
          replace D3 : Hid (DL v31 G3 ds3) := D3.out.below hb
          replace E5 : Hid (GL v31 w.heap.size H5 es5) := E5.out.below hb
          replace FA : Hid (EQ7 v31 w.heap.size (some ⟨gA, 0, none⟩) (na + 80) gA yA) := FA.out.below hb
          replace FB : Hid (EQ7 v31 w.heap.size (some ⟨gB, 0, none⟩) (nb + 80) gB yB) := FB.out.below hb
          replace hbw := Below.on hbw hb
          clear hb
          go_wp2_with fail
          refine (like_ok E4.out D1.out M4.out).mono ?_
          rintro e v32 ⟨rfl, hb⟩
          have Sv32 : Hid (v31.heap.size ≤ v32.heap.size) := hb.size
          replace D1 : Hid (DL v32 G1 ds1) := D1.out.below hb
          replace D2 : Hid (DL v32 G2 ds2) := D2.out.below hb
          replace E1 : Hid (GL v32 w.heap.size H1 es1) := E1.out.below hb
          replace E2 : Hid (GL v32 w.heap.size H2 es2) := E2.out.below hb
          replace E3 : Hid (GL v32 w.heap.size H3 es3) := E3.out.below hb
          replace E4 : Hid (GL v32 w.heap.size H4 es4) := E4.out.below hb
          replace D3 : Hid (DL v32 G3 ds3) := D3.out.below hb
          replace E5 : Hid (GL v32 w.heap.size H5 es5) := E5.out.below hb
          replace FA : Hid (EQ7 v32 w.heap.size (some ⟨gA, 0, none⟩) (na + 80) gA yA) := FA.out.below hb
          replace FB : Hid (EQ7 v32 w.heap.size (some ⟨gB, 0, none⟩) (nb + 80) gB yB) := FB.out.below hb
          replace hbw := Below.on hbw hb
          clear hb
          go_wp2_with fail
          refine (like_ok E5.out D3.out M5.out).mono ?_
          rintro e v33 ⟨rfl, hb⟩
          have Sv33 : Hid (v32.heap.size ≤ v33.heap.size) := hb.size
          replace D1 : Hid (DL v33 G1 ds1) := D1.out.below hb
          replace D2 : Hid (DL v33 G2 ds2) := D2.out.below hb
          replace E1 : Hid (GL v33 w.heap.size H1 es1) := E1.out.below hb
          replace E2 : Hid (GL v33 w.heap.size H2 es2) := E2.out.below hb
          replace E3 : Hid (GL v33 w.heap.size H3 es3) := E3.out.below hb
          replace E4 : Hid (GL v33 w.heap.size H4 es4) := E4.out.below hb
          replace D3 : Hid (DL v33 G3 ds3) := D3.out.below hb
          replace E5 : Hid (GL v33 w.heap.size H5 es5) := E5.out.below hb
          replace FA : Hid (EQ7 v33 w.heap.size (some ⟨gA, 0, none⟩) (na + 80) gA yA) := FA.out.below hb
          replace FB : Hid (EQ7 v33 w.heap.size (some ⟨gB, 0, none⟩) (nb + 80) gB yB) := FB.out.below hb
          replace hbw := Below.on hbw hb
          clear hb
          go_wp2_with fail
          clear D1
          clear D2
          clear D3
          obtain ⟨gs, hgs⟩ : ∃ gs : List (Nat × List EN7), gs = [(H1, es1), (H2, es2), (H3, es3), (H4, es4), (H5, es5)] := ⟨_, rfl⟩
          obtain ⟨e0, he0⟩ : ∃ e0 : List EN7, e0 = [⟨some ⟨gA, 0, none⟩, na + 80, gA, yA⟩, ⟨some ⟨gB, 0, none⟩, nb + 80, gB, yB⟩] := ⟨_, rfl⟩
          obtain ⟨V2, hV2⟩ : ∃ V2, V2 = ((v33.alloc (.cells #[.slice (some ⟨gA, 0, none⟩) (na + 80) (na + 80), .slice (some ⟨gB, 0, none⟩) (nb + 80) (nb + 80)] 24)).alloc (.cells #[.slice (some ⟨H1, 0, none⟩) es1.length es1.length, .slice (some ⟨H2, 0, none⟩) es2.length es2.length, .slice (some ⟨H3, 0, none⟩) es3.length es3.length, .slice (some ⟨H4, 0, none⟩) es4.length es4.length, .slice (some ⟨H5, 0, none⟩) es5.length es5.length] 25)) := ⟨_, rfl⟩
          have HOC : Hid (OC7 V2 (v33.heap.size + 1) gs) := by
            show OC7 V2 (v33.heap.size + 1) gs
            rw [hV2, hgs]
            intro j hj
            have hj : j < 5 := hj
            have h5 : j = 0 ∨ j = 1 ∨ j = 2 ∨ j = 3 ∨ j = 4 := by omega
            clear hj
            rcases h5 with rfl | rfl | rfl | rfl | rfl <;> go_simp
          have HOW : Hid (V2.ownsRow v33.heap.size 24 1 (.slice (some ⟨v33.heap.size, 0, none⟩) 2 2) (e0 ++ flatE gs 0).length ((e0 ++ flatE gs 0).map enV)) := by
            show V2.ownsRow v33.heap.size 24 1 (.slice (some ⟨v33.heap.size, 0, none⟩) 2 2) (e0 ++ flatE gs 0).length ((e0 ++ flatE gs 0).map enV)
            rw [hV2, he0]
            exact ⟨rfl, .inr ⟨v33.heap.size, 2, _, rfl, Nat.le_refl _, ((below1 (v33.alloc (.cells #[.slice (some ⟨gA, 0, none⟩) (na + 80) (na + 80), .slice (some ⟨gB, 0, none⟩) (nb + 80) (nb + 80)] 24)) _).block v33.heap.size (by simp)).trans (heap_alloc_new v33 _), Nat.le_refl _, by decide, rfl, rfl⟩⟩
          have HGS : Hid (gs.length = 5 ∧ (∀ p ∈ gs, GL v33 w.heap.size p.1 p.2) ∧ e0.length = 2) := by
            refine ⟨by rw [hgs]; rfl, fun p hp => ?_, by rw [he0]; rfl⟩
            rw [hgs] at hp
            simp only [List.mem_cons, List.not_mem_nil, or_false] at hp
            rcases hp with rfl | rfl | rfl | rfl | rfl
            · exact E1.out
            · exact E2.out
            · exact E3.out
            · exact E4.out
            · exact E5.out
          have HBV : Hid (Below v33.heap.size v33 V2) := by rw [hV2]; exact below2 v33 _ _
          have HEG : Hid (gs = [(H1, es1), (H2, es2), (H3, es3), (H4, es4), (H5, es5)] ∧ e0 = [⟨some ⟨gA, 0, none⟩, na + 80, gA, yA⟩, ⟨some ⟨gB, 0, none⟩, nb + 80, gB, yB⟩]) := ⟨hgs, he0⟩
          obtain ⟨g2, hg2⟩ : ∃ g2, g2 = v33.heap.size + 1 := ⟨_, rfl⟩
          have HG2 : Hid (v33.heap.size < g2) := by rw [hg2]; show _ < _; omega
          rw [← hg2] at HOC
          try rw [← hg2]
          rw [← hV2]
          clear hV2 hg2 hgs he0
          go_loopg [29, 250] 5 (fun gk lv iv wr => ∃ (i : Nat), i + gk = 5 ∧ iv = .int .i64 i ∧ wr.ownsRow v33.heap.size 24 1 lv (e0 ++ flatE gs i).length ((e0 ++ flatE gs i).map enV) ∧ lv.ownBlock ≠ some g2 ∧ OC7 wr g2 gs ∧ (e0 ++ flatE gs i).length ≤ 2 + 3 * i ∧ Below v33.heap.size v33 wr)
          case atStart =>
            refine ⟨0, by omega, rfl, HOW.out, ?_, HOC.out, ?_, HBV.out⟩
            · intro e; have h9 : v33.heap.size = g2 := Option.some.inj e; have := HG2.out; omega
            · rw [List.length_append, HGS.out.2.2]; simp [flatE]
          case round =>
            clear HOW HOC HBV
            obtain ⟨i, hig, rfl, x1, x2, x3, x4, hbV⟩ := hrel
            have HOW : Hid (wr.ownsRow v33.heap.size 24 1 u29 (e0 ++ flatE gs i).length ((e0 ++ flatE gs i).map enV) ∧ u29.ownBlock ≠ some g2 ∧ OC7 wr g2 gs ∧ (e0 ++ flatE gs i).length ≤ 2 + 3 * i) := ⟨x1, x2, x3, x4⟩
            clear x1 x2 x3 x4
            cases gk with
            | succ gi =>
              have hil : (i : Int) < 5 := by omega
              have hi0 : (0 : Int) ≤ (i : Int) ∧ (i : Int) < 5 := by omega
              have HIN : Hid (i < gs.length ∧ i < 5) := ⟨by rw [HGS.out.1]; omega, by omega⟩
              have wi : wrap64 ((i : Int) + 1) = ((i + 1 : Nat) : Int) := wj80 (by omega)
              have hcx := HOW.out.2.2.1 i HIN.out.1
              have HSR : Hid (GL wr w.heap.size (gs.getD i gd7).1 (gs.getD i gd7).2) := (HGS.out.2.1 _ (gp_get HIN.out.1)).below hbV
              have HFS : Hid (flatE gs (i + 1) = flatE gs i ++ (gs.getD i gd7).2) := flatE_succ HIN.out.1
              generalize (gs.getD i gd7).1 = Hi at *
              generalize (gs.getD i gd7).2 = ei at *
              have HBD : Hid ((e0 ++ flatE gs i).length + ei.length ≤ maxLen ∧ ((e0 ++ flatE gs i).length + ei.length) * 24 ≤ 140737488355328 ∧ (e0 ++ flatE gs i).length + ei.length ≤ 2 + 3 * (i + 1)) := by have h1 := HOW.out.2.2.2; have h2 := HSR.out.le; have h3 := HIN.out.2; refine ⟨?_, ?_, ?_⟩ <;> (try unfold maxLen) <;> omega
              have HSZ : Hid (v33.heap.size ≤ wr.heap.size) := hbV.size
              have HBB : Hid (Below v33.heap.size v33 wr) := hbV
              clear hbV
              go_wp2_with (at_builtin; refine wpList_append_own_at _ rfl _ _ 25 rfl v33.heap.size 24 s0 (.slice none 0 0) 1 24 Try.underlying25 HIS.out.1 HIS.out.2.1 HIS.out.2.2.1 HIS.out.2.2.2 rfl (by decide) u29 (e0 ++ flatE gs i).length ((e0 ++ flatE gs i).map enV) rfl HOW.out.1 ⟨Hi, 0, none⟩ ei.length ei.length (ei.map enV) rfl (gl_src HSR.out).1 (gl_src HSR.out).2.1 (gl_src HSR.out).2.2 HBD.out.1 HBD.out.2.1 HSZ.out ?_; intro v8 w8 hown8 hgr8 hnil8 hob8)
              go_roundg gi
              case measure => omega
              case rel =>
                have hlt : g2 < wr.heap.size := World.block_lt_of_cell? wr _ hcx
                have hoc : OC7 w8 g2 gs := fun j hj => (World.cell?_of_block (w := wr) (hgr8.block g2 hlt (fun e => HOW.out.2.1 e.symm))).trans (HOW.out.2.2.1 j hj)
                refine ⟨i + 1, by omega, by go_num, ?_, ?_, hoc, ?_, HBB.out.grown hgr8 HSZ.out (fun b hb => (own_ob7 HOW.out.1 hb).1)⟩
                · rw [HFS.out, ← List.append_assoc, List.map_append, List.length_append]; exact hown8
                · rcases hob8 with e | e <;> rw [e]
                  · exact HOW.out.2.1
                  · intro e2; exact absurd (Option.some.inj e2) (Nat.ne_of_gt hlt)
                · rw [HFS.out, ← List.append_assoc, List.length_append]; exact HBD.out.2.2
            | zero =>
              obtain rfl : i = 5 := by omega
              have HFL : Hid (flatE gs 5 = es1 ++ (es2 ++ (es3 ++ (es4 ++ es5)))) := by rw [HEG.out.1]; exact flat5 _ _ _ _ _ _ _ _ _ _
              obtain ⟨gL, cL, hu9, hN9, hC9, hB9, hc9⟩ := own_cells9 HOW.out.1 (by rw [List.length_append, HGS.out.2.2]; omega)
              subst hu9
              have HLC : Hid ((e0 ++ flatE gs 5).length ≤ cL ∧ cL ≤ maxLen ∧ v33.heap.size ≤ gL ∧ ∀ q, q < (e0 ++ flatE gs 5).length → wr.cell? ⟨gL, q, none⟩ = ((e0 ++ flatE gs 5).map enV)[q]?) := ⟨hN9, hC9, hB9, hc9⟩
              clear hN9 hC9 hB9 hc9 hig
              have hbw' := Below.on hbw hbV
              have HBB : Hid (Below v33.heap.size v33 wr) := hbV
              clear hbw hbV
              have hbw := hbw'
              clear hbw'
              obtain ⟨es, hes⟩ : ∃ es, es = e0 ++ flatE gs 5 := ⟨_, rfl⟩
              rw [← hes] at HLC ⊢
              have HES : Hid (es = e0 ++ flatE gs 5) := hes
              clear hes
              obtain ⟨N, hN⟩ : ∃ N, N = es.length := ⟨_, rfl⟩
              have HNN : Hid (N = es.length) := hN
              rw [← hN]
              clear hN
              go_wp2_with fail
              rw [HNN.out]
              have HAE : Hid (∀ e ∈ es, EQ7 v33 w.heap.size e.p e.n e.b e.X) := by
                intro e he
                rw [HES.out, HFL.out, HEG.out.2] at he
                simp only [List.mem_append, List.mem_cons, List.not_mem_nil, or_false] at he
                rcases he with (rfl | rfl) | h | h | h | h | h
                · exact FA.out
                · exact FB.out
                · exact E1.out.own e h
                · exact E2.out.own e h
                · exact E3.out.own e h
                · exact E4.out.own e h
                · exact E5.out.own e h
              have HPW : Hid (es.Pairwise (fun a b => a.n ≠ 0 → b.n ≠ 0 → a.b ≠ b.b)) := by
                show es.Pairwise (fun a b => a.n ≠ 0 → b.n ≠ 0 → a.b ≠ b.b)
                rw [HES.out, HFL.out, HEG.out.2]
                have hch := CH.out
                have hc2 := C2.out
                have hua := UA.out
                have hub := UB.out
                have p45 := pw_app Q4.out Q5.out K4.out.1 K5.out.1 (by omega)
                have i45 := iv_app K4.out.1 K5.out.1 (by omega) (by omega)
                have p35 := pw_app Q3.out p45 K3.out.1 i45 (by omega)
                have i35 := iv_app K3.out.1 i45 (by omega) (by omega)
                have p25 := pw_app Q2.out p35 K2.out.1 i35 (by omega)
                have i25 := iv_app K2.out.1 i35 (by omega) (by omega)
                have p15 := pw_app Q1.out p25 K1.out.1 i25 (by omega)
                have i15 := iv_app K1.out.1 i25 (by omega) (by omega)
                refine pw_app (a := v4.heap.size) (b := gq) ?_ p15 ?_ i15 (by omega)
                · exact .cons (List.forall_mem_cons.2 ⟨fun _ _ => (by show gA ≠ gB; omega), fun _ h => absurd h (List.not_mem_nil)⟩) (.cons (fun _ h => absurd h (List.not_mem_nil)) .nil)
                · intro e he _
                  simp only [List.mem_cons, List.not_mem_nil, or_false] at he
                  rcases he with rfl | rfl
                  · exact ⟨hua.1, by show gA < gq; omega⟩
                  · exact ⟨by show v4.heap.size ≤ gB; omega, hub.2.1⟩
              have HLQ := lq_list (w := wr) (B := w.heap.size) (go := gL) es (fun e he => (HAE.out e he).below HBB.out) (fun i hi => by rw [HLC.out.2.2.2 i hi, List.getElem?_map, List.getElem?_eq_getElem hi, List.getD_eq_getElem?_getD, List.getElem?_eq_getElem hi]; rfl) (fun e he h0 => by have := (HAE.out e he).lt h0; have := HLC.out.2.2.1; omega) HPW.out
              refine (apart_ok (N := es.length) (C := cL) HLQ (by have := HOW.out.2.2.2; rw [HES.out]; omega) (by rw [HES.out, List.length_append, HGS.out.2.2]; omega) HLC.out.1 HLC.out.2.1 hbw.size).mono ?_
              rintro e v50 ⟨rfl, hb50⟩
              have hbz := hbw.trans hb50
              clear HLQ hb50 HPW
              go_wp2_with fail
              go_ret
              exact ⟨rfl, hbz⟩
end Go.Proofs.Ytilceolgfahhoaa
