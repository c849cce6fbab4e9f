import Derived.Test.YteooedpaeddkcaaDoorJ10
namespace Go.Proofs.YteooedpaeddkcaaDoor
open Go.RowKit Go.Shelf
set_option maxRecDepth 20000
set_option maxHeartbeats 0
theorem mk3_succ {n : Nat → Nat} {X : Nat → List Nat} {i : Nat} (h : ∀ k, k < i → Mk3 n X k) (h2 : ∀ m, m < n i → (X i).getD m 0 = mkR i m) : ∀ k, k < i + 1 → Mk3 n X k := by
  intro k hk
  rcases Nat.lt_or_ge k i with h1 | h1
  · exact h k h1
  · obtain rfl : k = i := by omega
    exact h2
theorem bd3 {n k : Nat} (h : n ≤ 17592186044422) (hk : k ≤ 16) : n + k + 1 ≤ maxLen ∧ ((n + k + 1) + (n + k + 1) / 4 + 192) * 8 ≤ 281474976710656 := by
  unfold maxLen; omega
theorem wn3 {n L : Nat} (h : n ≤ 17592186044422) (hL : L ≤ 1000) : wrap64 ((n : Int) + (L : Int)) = ((n + L : Nat) : Int) := by
  simp only [wrap64]; omega
theorem w13 {j L M : Nat} (h : j < 17592186044422 + L) (hL : L ≤ 1000) (hM : M ≤ 1000000) : wrap64 ((M : Int) + (j : Int)) = (M : Int) + (j : Int) := by
  simp only [wrap64]; omega
theorem w23 {j L M n y : Nat} (hy : y = M + j - n) (hn : n ≤ j) (h : j < 17592186044422 + L) (hL : L ≤ 1000) (hM : M ≤ 1000000) : wrap64 ((M : Int) + (j : Int) - (n : Int)) = (y : Int) := by
  simp only [wrap64]; omega
theorem wj3 {j : Nat} (h : j < 64) : wrap64 (200000 + (j : Int)) = ((200000 + j : Nat) : Int) := by
  simp only [wrap64]; omega
theorem bd4 {n : Nat} (h : n ≤ 17592186044422) : n + 64 ≤ maxLen ∧ ((n + 64) + (n + 64) / 4 + 192) * 8 ≤ 281474976710656 := by
  unfold maxLen; omega
theorem mq_eq {ys : List Nat} {Mb i L : Nat} (hl : ys.length = L) (h : ∀ m, m < L → ys.getD m 0 = mkR i (Mb + m)) : ys = mq Mb i L := by
  refine List.ext_getElem (by rw [hl, mq_len]) fun j h1 h2 => ?_
  have e : ys.getD j 0 = (mq Mb i L).getD j 0 := by
    rw [h j (by omega)]
    have := mq_hi (Mb := Mb) (k := i) (L := L) (xs := []) (j := j) (by simp) (by simp; omega)
    simp only [List.nil_append, List.length_nil, Nat.sub_zero] at this
    exact this.symm
  rw [List.getD_eq_getElem?_getD, List.getD_eq_getElem?_getD, List.getElem?_eq_getElem h1, List.getElem?_eq_getElem h2] at e
  exact e
theorem row_src {w : World} {g L : Nat} {xs : List Nat} (h : Row w g 0 L xs) : (cellsU xs).length = L * 1 ∧ (∀ j u, (cellsU xs)[j]? = some u → w.cell? ((⟨g, 0, none⟩ : Addr).add j) = some u) ∧ ∀ u ∈ cellsU xs, u.oneCell' = true := by
  refine ⟨by rw [cellsU_length, h.len]; omega, fun j u hu => ?_, fun u hu => ?_⟩
  · have hj : j < L := by
      rcases Nat.lt_or_ge j L with h6 | h6
      · exact h6
      · rw [List.getElem?_eq_none (by rw [cellsU_length, h.len]; exact h6)] at hu; cases hu
    have hadd : (⟨g, 0, none⟩ : Addr).add j = ⟨g, j, none⟩ := by unfold Addr.add; split <;> simp_all
    have hcl := h.cell j hj
    rw [Nat.zero_add] at hcl
    rw [hadd, hcl, ← hu, cellsU_get _ _ (by rw [h.len]; exact hj)]
  · obtain ⟨x, _, rfl⟩ := List.mem_map.1 hu
    rfl
theorem lc_src {w : World} {B go N : Nat} {p : Nat → Option Addr} {n c b : Nat → Nat} {X : Nat → List Nat} (h : LC w B go N p n c b X) {i : Nat} (hi : i < N) : (cellsU (X i)).length = n i * 1 ∧ ∀ a, p i = some a → ∀ j u, (cellsU (X i))[j]? = some u → w.cell? (a.add j) = some u := by
  have hr := row_src (h.row i hi)
  refine ⟨hr.1, fun a ha j u hu => ?_⟩
  have hj : j < n i := by
    rcases Nat.lt_or_ge j (n i) with h6 | h6
    · exact h6
    · rw [List.getElem?_eq_none (by rw [cellsU_length, (h.row i hi).len]; exact h6)] at hu; cases hu
  have hp := (h.addr i hi).resolve_left (by have := h.cap i hi; omega)
  rw [hp] at ha
  cases ha
  exact hr.2.1 j u hu
theorem wjj {j L : Nat} (h : j < 17592186044422 + L) (hL : L ≤ 1000) : wrap64 ((j : Int) + 1) = ((j + 1 : Nat) : Int) := by
  simp only [wrap64]; omega
theorem lt3 {k : Nat} (hk : k ≤ 16) : 100000 + k < 100000000000000 := by omega
theorem wk3 {k : Nat} (hk : k ≤ 16) : wrap64 (100000 + (k : Int)) = ((100000 + k : Nat) : Int) := by
  simp only [wrap64]; omega
theorem own_ge5 {w : World} {B k : Nat} {e : TypeId} {v : Value} {xs : List Value} (h : w.ownsRow B e 1 v k xs) {q : Nat} (hb : v.ownBlock = some q) : B ≤ q := by
  rcases h.2 with ⟨h2, _⟩ | ⟨g', cap, cur, h2, h3, h4, h5⟩
  · rw [h2] at hb; cases hb
  · rw [h2] at hb; cases hb; exact h3
theorem apart3_ok {go N C B : Nat} {p : Nat → Option Addr} {n c b : Nat → Nat} {X : Nat → List Nat} {w : World} (h : LC w B go N p n c b X) (hN : N ≤ 1000) (hN0 : 0 < N) (_hC : N ≤ C) (_hC2 : C ≤ maxLen) (hB : B ≤ w.heap.size) :
    Calls Tryd.prog 10 #[.slice (some ⟨go, 0, none⟩) N C] w fun en w' => en = .returned (.bool true) ∧ Below B w w' := by
  obtain ⟨i0, hi, hz0, hz1, hz2⟩ := info_parts Tryd.infoU64
  obtain ⟨s0, hs, hy0, hy1, hy2⟩ := info_parts Tryd.infoSl3
  have H : Hid (LC w B go N p n c b X) := h
  have HB : Hid (B ≤ w.heap.size) := hB
  clear h hB
  go_enter Tryd.func10, Tryd.ntmps10
  go_wp2_with fail
  go_loopg [3] N (fun gk iv wr => ∃ (i : Nat) (X : Nat → List Nat), i + gk = N ∧ iv = .int .i64 i ∧ LC wr B go N p n c b X ∧ (∀ k, k < i → Mk3 n X k) ∧ Below B w wr)
  case atStart => exact ⟨0, X, by omega, rfl, H.out, fun k hk => by omega, Below.refl _ _⟩
  case round =>
    obtain ⟨i, X, hig, rfl, xl, xm, hbw⟩ := hrel
    clear H
    have LL : Hid (LC wr B go N p n c b X ∧ ∀ k, k < i → Mk3 n X k) := ⟨xl, xm⟩
    clear xl xm
    cases gk with
    | succ gi =>
      have hil : (i : Int) < (N : Int) := by omega
      have hi0 : (0 : Int) ≤ (i : Int) ∧ (i : Int) < (N : Int) := by omega
      go_wp2_with fail
      have hbw1 := hbw
      clear hbw
      go_loopg [4] (n i) (fun gj jv wr => ∃ (j : Nat) (X : Nat → List Nat), j + gj = n i ∧ jv = .int .i64 j ∧ LC wr B go N p n c b X ∧ (∀ k, k < i → Mk3 n X k) ∧ (∀ m, m < j → (X i).getD m 0 = mkR i m) ∧ Below B w wr)
      case atStart => exact ⟨0, X, by omega, rfl, LL.out.1, LL.out.2, fun m hm => by omega, hbw1⟩
      case round =>
        obtain ⟨j, X, hjg, rfl, xl, xm, xj, hbw⟩ := hrel
        clear LL hbw1
        have LL : Hid (LC wr B go N p n c b X) := xl
        have HM : Hid ((∀ k, k < i → Mk3 n X k) ∧ ∀ m, m < j → (X i).getD m 0 = mkR i m) := ⟨xm, xj⟩
        clear xl xm xj
        have hcx := LL.out.cells i (by omega)
        have hle := LL.out.le i (by omega)
        have hcp := LL.out.cap i (by omega)
        cases gk with
        | succ gj =>
          have hp := (LL.out.addr i (by omega)).resolve_left (by omega)
          rw [hp] at hcx
          have hcl := (LL.out.row i (by omega)).cell j (by omega)
          have hfr := (LL.out.row i (by omega)).frozen j (by omega)
          rw [Nat.zero_add] at hcl hfr
          have HNE : Hid (b i ≠ go) := LL.out.ne i (by omega) (by omega)
          obtain ⟨ni, hni⟩ : ∃ x, x = n i := ⟨_, rfl⟩
          obtain ⟨ci, hci⟩ : ∃ x, x = c i := ⟨_, rfl⟩
          obtain ⟨bi, hbi⟩ : ∃ x, x = b i := ⟨_, rfl⟩
          rw [← hni, ← hbi, ← hci] at hcx
          rw [← hni] at hle hjg
          rw [← hbi] at hcl hfr HNE
          have HNI : Hid (ni = n i ∧ bi = b i ∧ p i = some ⟨b i, 0, none⟩) := ⟨hni, hbi, hp⟩
          clear hni hbi hp hci hcp
          have hjl : (j : Int) < (ni : Int) := by omega
          have hj0 : (0 : Int) ≤ (j : Int) ∧ (j : Int) < (ni : Int) := by omega
          go_wp2_with fail
          have HCX : Hid (wr.cell? ⟨go, i, none⟩ = some (.slice (some ⟨bi, 0, none⟩) ni ci)) := hcx
          have HCL : Hid (wr.cell? ⟨bi, j, none⟩ = some (U ((X i).getD j 0)) ∧ wr.frozen? ⟨bi, j, none⟩ = false) := ⟨hcl, hfr⟩
          have hbr : Below wr.heap.size wr wr := Below.refl _ _
          have hbB := hbw
          clear hcx hcl hfr hbw
          have hbw := hbr
          clear hbr
          obtain ⟨W1, hW1⟩ : ∃ W1, W1 = wr.drew := ⟨_, rfl⟩
          have hbd : Below wr.heap.size wr W1 := by rw [hW1]; exact bDrew1 (Below.refl _ _)
          replace hbw := Below.on hbw hbd
          clear hbd
          have HJ : Hid ((fun W' : World => W'.cell? ⟨go, i, none⟩ = some (.slice (some ⟨bi, 0, none⟩) ni ci)) W1) := ((hbw.cell (p := ⟨go, i, none⟩) (World.block_lt_of_cell? wr _ HCX.out)).trans HCX.out)
          refine wp_region_J (fun W' => W'.cell? ⟨go, i, none⟩ = some (.slice (some ⟨bi, 0, none⟩) ni ci)) (by kernel_rfl) ?_
          rw [← hW1]
          clear hW1
          refine wpJ_tk 0 (v := ?v1x0) rfl ?hy1x0 HJ.out ?_
          case hy1x0 => (intro W' hJ; have j0 := hJ; go_simp; first | done | with_reducible rfl)
          refine wpJ_tk 1 (v := ?v2x1) rfl ?hy2x1 HJ.out ?_
          case hy2x1 => (intro W' hJ; have j0 := hJ; go_simp; first | done | with_reducible rfl)
          refine wpJ_tk 2 (v := ?v3x2) rfl ?hy3x2 HJ.out ?_
          case hy3x2 => (intro W' hJ; have j0 := hJ; go_simp; first | done | with_reducible rfl)
          refine wpJ_tk 3 (v := ?v4x3) rfl ?hy4x3 HJ.out ?_
          case hy4x3 => (intro W' hJ; have j0 := hJ; go_simp; first | done | with_reducible rfl)
          refine wpJ_tk 4 (v := ?v5x4) rfl ?hy5x4 HJ.out ?_
          case hy5x4 => (intro W' hJ; have j0 := hJ; go_simp; first | done | with_reducible rfl)
          go_simp
          refine wpJ_tk 5 (v := ?v6x5) rfl ?hy6x5 HJ.out ?_
          case hy6x5 => (intro W' hJ; have j0 := hJ; go_simp; first | done | with_reducible rfl)
          refine wpJ_tk 6 (v := ?v7x6) rfl ?hy7x6 HJ.out ?_
          case hy7x6 => (intro W' hJ; have j0 := hJ; go_simp; first | done | with_reducible rfl)
          refine wpJ_on 7 rfl fun KJ hK => ?_
          go_simp
          refine (mark3_ok i j (by omega) (by omega)).mono ?_
          rintro e w' ⟨rfl, hw⟩
          obtain rfl := hw.symm
          clear hw
          clear HJ
          have HJ : Hid ((fun W' : World => W'.cell? ⟨go, i, none⟩ = some (.slice (some ⟨bi, 0, none⟩) ni ci)) W1) := ((hbw.cell (p := ⟨go, i, none⟩) (World.block_lt_of_cell? wr _ HCX.out)).trans HCX.out)
          refine hK _ _ HJ.out ?_
          clear hK
          refine wpJ_tk 8 (v := ?v8x8) rfl ?hy8x8 HJ.out ?_
          case hy8x8 => (intro W' hJ; have j0 := hJ; go_simp; first | done | with_reducible rfl)
          have hcl := (hbw.cell (p := ⟨bi, j, none⟩) (World.block_lt_of_cell? wr _ HCL.out.1)).trans HCL.out.1
          have hfr := (hbw.frozen (p := ⟨bi, j, none⟩) (World.block_lt_of_cell? wr _ HCL.out.1)).trans HCL.out.2
          refine wpJ_on 9 rfl fun KJ hK => ?_
          go_simp
          have HJ2 : Hid ((fun W' : World => W'.cell? ⟨go, i, none⟩ = some (.slice (some ⟨bi, 0, none⟩) ni ci)) (W1.setCell ⟨bi, j, none⟩ (U (mkR i j)))) := (World.cell?_setCell_other _ _ _ _ (by intro e; exact HNE.out (congrArg Addr.block e))).trans HJ.out
          refine hK _ _ HJ2.out ?_
          clear hK HJ
          have HJ := HJ2
          clear HJ2
          refine wpJ_done (by kernel_rfl) ?_ _
          clear HJ
          have LL2 := (LL.out.below hbw).set (i := i) (j := j) (y := mkR i j) (by omega) (by rw [← HNI.out.1]; omega) (mkR_lt (by omega) (by omega))
          have HBG : Hid (B ≤ b i) := LL.out.ge i (by omega)
          rw [← HNI.out.2.1] at LL2
          have hbw2 := bSet (hbB.trans (hbw.mono (by have := hbB.size; have := HB.out; omega))) bi j (U (mkR i j)) (by rw [HNI.out.2.1]; exact HBG.out)
          generalize W1.setCell ⟨bi, j, none⟩ (U (mkR i j)) = W2 at *
          clear hcl hfr hbw hbB
          go_wp2_with fail
          go_roundg gj
          case measure => omega
          case rel =>
            refine ⟨j + 1, _, by rw [← HNI.out.1]; omega, by go_num, LL2, fun k hk => ?_, fun m hm => ?_, hbw2⟩
            · intro m hm; show (if k = i then (X i).set j (mkR i j) else X k).getD m 0 = _; rw [if_neg (by omega)]; exact HM.out.1 k hk m hm
            · show (if i = i then (X i).set j (mkR i j) else X i).getD m 0 = _; rw [if_pos rfl, getD_set _ _ _ _ (by rw [(LL.out.row i (by omega)).len, ← HNI.out.1]; omega)]
              by_cases e : m = j
              · rw [if_pos e, e]
              · rw [if_neg e]; exact HM.out.2 m (by omega)
        | zero =>
          obtain rfl : j = n i := by omega
          have hnj : ¬ ((n i : Nat) : Int) < ((n i : Nat) : Int) := by omega
          have HM2 : Hid (∀ k, k < i + 1 → Mk3 n X k) := mk3_succ HM.out.1 HM.out.2
          clear hcp hle
          generalize n i = ni at *
          go_wp2_with fail
          go_roundg gi
          case measure => omega
          case rel => exact ⟨i + 1, X, by omega, by go_num, LL.out, HM2.out, hbw⟩
    | zero =>
      obtain rfl : N = i := by omega
      have hnk : ¬ (N : Int) < (N : Int) := by omega
      go_wp2_with (at_make; refine wpList_make_full _ rfl _ _ 35 rfl wr.heap.size 22 s0 (.slice none 0 0) 1 Tryd.underlying35 hs hy0 hy1 _ _ _ _ N rfl rfl (by omega) (by omega) (by rw [hy2]; omega) (by unfold maxLen; omega) (Nat.le_refl _) ?_; intro w1 hown hgrow)
      obtain ⟨hvb, hbm⟩ := made_vb hown hgrow
      have hsz1 := own_blt hown
      have HSG : Hid (SG w w1 B go N p n c b X wr.heap.size wr.heap.size 16 100000 0 (fun _ => .slice none 0 0) (fun _ => 0) (fun _ => 0)) := ⟨LL.out.1.below hbm, hvb, fun k hk => absurd hk (Nat.not_lt_zero _), fun k hk => absurd hk (Nat.not_lt_zero _), fun k hk => absurd hk (Nat.not_lt_zero _), hbw.trans (hbm.mono (by have := hbw.size; have := HB.out; omega)), hsz1, ⟨by have := hbw.size; have := HB.out; omega, Nat.le_refl _, World.block_lt_of_cell? wr _ (LL.out.1.cells 0 hN0), by decide⟩, fun k hk hc => LL.out.1.lt hk hc⟩
      have HMK : Hid (∀ k, k < N → Mk3 n X k) := LL.out.2
      clear LL hvb hbm hsz1 hown hgrow hbw hnk hig
      generalize wr.heap.size = h0 at *
      go_loopg [6] N (fun gk iv wr => ∃ (i : Nat) (F : Nat → Value) (f cc : Nat → Nat), i + gk = N ∧ iv = .int .i64 i ∧ SG w wr B go N p n c b X h0 h0 16 100000 i F f cc)
      case atStart => exact ⟨0, _, _, _, by omega, rfl, HSG.out⟩
      case round =>
        obtain ⟨i, F, f, cc, hig, rfl, xs⟩ := hrel
        clear HSG
        have HSG : Hid (SG w wr B go N p n c b X h0 h0 16 100000 i F f cc) := xs
        clear xs
        cases gk with
        | succ gi =>
          have hiN : i < N := by omega
          have hil : (i : Int) < (N : Int) := by omega
          have hi0 : (0 : Int) ≤ (i : Int) ∧ (i : Int) < (N : Int) := by omega
          have hcx := HSG.out.lc.cells i hiN
          have hle := HSG.out.lc.le i hiN
          obtain ⟨ni, hni⟩ : ∃ x, x = n i := ⟨_, rfl⟩
          obtain ⟨pi, hpi⟩ : ∃ x, x = p i := ⟨_, rfl⟩
          obtain ⟨ci, hci⟩ : ∃ x, x = c i := ⟨_, rfl⟩
          rw [← hni, ← hpi, ← hci] at hcx
          rw [← hni] at hle
          have HNI : Hid (ni = n i ∧ pi = p i ∧ ci = c i) := ⟨hni, hpi, hci⟩
          have HIN : Hid (i < N ∧ i ≤ 1000) := ⟨hiN, by omega⟩
          clear hni hpi hci hiN
          go_wp2_with fail
          clear hcx
          have HS0 : Hid (S2 w wr B go N p n c b X h0 h0 16 100000 i F f cc wr.heap.size 0 (.slice pi ni ci)) := by rw [HNI.out.1, HNI.out.2.1, HNI.out.2.2]; exact S2.start HSG.out HIN.out.1
          generalize wr.heap.size = h1 at *
          clear HSG
          go_loopg [7, 8] 16 (fun gk gv kv wr => ∃ (k : Nat), k + gk = 16 ∧ kv = .int .i64 k ∧ S2 w wr B go N p n c b X h0 h0 16 100000 i F f cc h1 k gv)
          case atStart => exact ⟨0, by omega, rfl, HS0.out⟩
          case round =>
            obtain ⟨k, hkg, rfl, xs⟩ := hrel
            clear HS0
            have HS : Hid (S2 w wr B go N p n c b X h0 h0 16 100000 i F f cc h1 k u7) := xs
            clear xs
            cases gk with
            | succ gk =>
              have hk16 : (k : Int) < 16 := by omega
              have HKK : Hid (k < 16 ∧ k ≤ 16) := ⟨by omega, by omega⟩
              have HBD : Hid (n i + k + 1 ≤ maxLen ∧ ((n i + k + 1) + (n i + k + 1) / 4 + 192) * 8 ≤ 281474976710656) := by rw [← HNI.out.1]; exact bd3 hle HKK.out.2
              have wk1 := wk3 HKK.out.2
              go_wp2_with fail
              refine (mark3_ok i (100000 + k) HIN.out.2 (lt3 HKK.out.2)).mono ?_
              rintro e w' ⟨rfl, hw⟩
              obtain rfl := hw.symm
              clear hw wk1
              obtain ⟨y, hy⟩ : ∃ y, y = mkR i (100000 + k) := ⟨_, rfl⟩
              rw [← hy]
              have HY : Hid (y = mkR i (100000 + k)) := hy
              clear hy
              have HA : Hid (S2 w (wr.alloc (.cells #[U y] 27)) B go N p n c b X h0 h0 16 100000 i F f cc h1 k u7) := HS.out.below (below1 wr _)
              clear HS
              rcases HA.out.way HIN.out.1 with ⟨e1, e2, e3⟩ | ⟨e1, e2, e3, e4, e5⟩ | e3
              · obtain ⟨m, hm⟩ : ∃ x, x = n i + k := ⟨_, rfl⟩
                obtain ⟨bi, hbi⟩ : ∃ x, x = b i := ⟨_, rfl⟩
                obtain ⟨cj, hcj⟩ : ∃ x, x = c i := ⟨_, rfl⟩
                have HOW : Hid ((wr.alloc (.cells #[U y] 27)).ownsRow B 27 1 (.slice (some ⟨bi, 0, none⟩) m cj) m (cellsU (X i ++ mq 100000 i k))) := by rw [hm, hbi, hcj]; exact e3
                rw [← hm, ← hbi, ← hcj] at e1
                rw [← hm, ← hcj] at e2
                have HCC : Hid (m + 1 ≤ cj) := e2
                have HM : Hid (m = n i + k ∧ bi = b i ∧ cj = c i) := ⟨hm, hbi, hcj⟩
                subst e1
                clear hm hbi hcj e2 e3
                go_wp2_with (at_builtin; go_loud (refine wpList_append_fits _ rfl _ _ 22 rfl B 27 i0 1 Tryd.underlying22 hi hz1 bi m cj (cellsU (X i ++ mq 100000 i k)) rfl HOW.out ⟨wr.heap.size, 0, none⟩ 1 1 [U y] rfl rfl (cell_new5 _ _ _) (by intro u hu; simp at hu; subst hu; rfl) HCC.out ?_); intro w6 hown6 hgr6)
                go_roundg gk
                case measure => omega
                case rel =>
                  have hcc := HCC.out
                  rw [HY.out] at hown6
                  rw [HM.out.1, HM.out.2.1, HM.out.2.2] at hown6 ⊢
                  rw [HM.out.2.1] at hgr6
                  rw [HM.out.1, HM.out.2.2] at hcc
                  exact ⟨k + 1, by omega, by go_num, HA.out.fits HIN.out.1 HIN.out.2 (by have := HKK.out.1; omega) hcc hgr6 hown6⟩
              · obtain ⟨m, hm⟩ : ∃ x, x = n i + k := ⟨_, rfl⟩
                obtain ⟨cj, hcj⟩ : ∃ x, x = c i := ⟨_, rfl⟩
                obtain ⟨pj, hpj⟩ : ∃ x, x = p i := ⟨_, rfl⟩
                rw [← hm, ← hpj, ← hcj] at e1
                have HM : Hid (m = n i + k ∧ cj = c i ∧ pj = p i) := ⟨hm, hcj, hpj⟩
                have HE : Hid (cj < m + 1 ∧ (pj = none → m = 0 ∧ cj = 0) ∧ (cellsU (X i ++ mq 100000 i k)).length = m * 1 ∧ (∀ a, pj = some a → ∀ j u, (cellsU (X i ++ mq 100000 i k))[j]? = some u → (wr.alloc (.cells #[U y] 27)).cell? (a.add j) = some u)) := by rw [hm, hcj, hpj]; exact ⟨e2, e3, e4, e5⟩
                rw [← hm] at HBD
                subst e1
                clear hm hcj hpj e2 e3 e4 e5
                go_wp2_with (at_builtin; go_loud (refine wpList_append_moves _ rfl _ _ 22 rfl 27 i0 (.int .u64 0) 1 8 Tryd.underlying22 hi hz0 hz1 hz2 rfl (by decide) pj m cj (cellsU (X i ++ mq 100000 i k)) rfl HE.out.2.1 HE.out.2.2.1 HE.out.2.2.2 ⟨wr.heap.size, 0, none⟩ 1 1 [U y] rfl rfl (cell_new5 _ _ _) (by intro u hu; simp at hu; subst hu; rfl) HE.out.1 HBD.out.1 HBD.out.2 ?_); intro v6 w6 hown6 hgr6)
                go_roundg gk
                case measure => omega
                case rel =>
                  rw [HY.out] at hown6 hgr6
                  rw [HM.out.1] at hown6
                  refine ⟨k + 1, by omega, by go_num, S2.newm (w := wr.alloc (.cells #[U (mkR i (100000 + k))] 27)) (gv := .slice pj m cj) (by rw [← HY.out]; exact HA.out) (row := none) (fun q hq => by cases hq) hgr6 (own_mono5 hown6 (by rw [← HY.out]; exact HA.out.hw))⟩
              · obtain ⟨m, hm⟩ : ∃ x, x = n i + k := ⟨_, rfl⟩
                have HOW : Hid ((wr.alloc (.cells #[U y] 27)).ownsRow h1 27 1 u7 m (cellsU (X i ++ mq 100000 i k))) := by rw [hm]; exact e3
                rw [← hm] at HBD
                have HM : Hid (m = n i + k) := hm
                have HSZ : Hid (h1 ≤ (wr.alloc (.cells #[U y] 27)).heap.size) := HA.out.hw
                clear hm e3
                go_wp2_with (at_builtin; refine wpList_append_own_wide _ rfl _ _ 22 rfl h1 27 i0 (.int .u64 0) 1 8 Tryd.underlying22 hi hz0 hz1 hz2 rfl (by decide) u7 m (cellsU (X i ++ mq 100000 i k)) rfl HOW.out ⟨wr.heap.size, 0, none⟩ 1 1 [U y] rfl rfl (cell_new5 _ _ _) (by intro u hu; simp at hu; subst hu; rfl) HBD.out.1 HBD.out.2 HSZ.out ?_; intro v6 w6 hown6 hgr6 hnil6)
                go_roundg gk
                case measure => omega
                case rel =>
                  have ho : h1 ≤ h1 ∧ ∀ q, u7.ownBlock = some q → h1 ≤ q := ⟨Nat.le_refl _, fun q hq => own_ge5 HOW.out hq⟩
                  rw [HY.out] at hown6 hgr6
                  rw [HM.out] at hown6
                  refine ⟨k + 1, by omega, by go_num, S2.newm (w := wr.alloc (.cells #[U (mkR i (100000 + k))] 27)) (gv := u7) (by rw [← HY.out]; exact HA.out) (row := u7.ownBlock) ho.2 hgr6 hown6⟩
            | zero =>
              obtain rfl : k = 16 := by omega
              obtain ⟨g7, c7, e7, hg7, hr7⟩ := HS.out.stop HIN.out.1 HIN.out.2 (by decide) (by decide)
              subst e7
              have HST : Hid _ := HS.out.sg.store (cap := c7) hg7 hr7
              have hfz := HS.out.sg.vb.frz i HIN.out.1
              have hcz := HS.out.sg.vb.cell i HIN.out.1
              clear hg7 hr7
              rw [← HNI.out.1] at HST ⊢
              go_wp2_with fail
              go_roundg gi
              case measure => omega
              case rel => exact ⟨i + 1, _, _, _, by omega, by go_num, HST.out⟩
        | zero =>
          obtain rfl : N = i := by omega
          have hnk : ¬ (N : Int) < (N : Int) := by omega
          go_wp2_with fail
          clear hnk hig
          generalize wr = wl at *
          have hbw : Below wl.heap.size wl wl := Below.refl _ _
          go_loopg [9] N (fun gk iv wr => ∃ (i : Nat), i + gk = N ∧ iv = .int .i64 i ∧ Below wl.heap.size wl wr)
          case atStart => exact ⟨0, by omega, rfl, hbw⟩
          case round =>
            clear hbw
            obtain ⟨i, hig, rfl, hbw⟩ := hrel
            cases gk with
            | succ gi =>
              have hiN : i < N := by omega
              have hil : (i : Int) < (N : Int) := by omega
              have hi0 : (0 : Int) ≤ (i : Int) ∧ (i : Int) < (N : Int) := by omega
              have HCX : Hid (wl.cell? ⟨go, i, none⟩ = some (.slice (p i) (n i) (c i))) := HSG.out.lc.cells i hiN
              have HGX : Hid (wl.cell? ⟨h0, i, none⟩ = some (.slice (some ⟨f i, 0, none⟩) (n i + 16) (cc i))) := by rw [← HSG.out.val i hiN]; exact HSG.out.vb.cell i hiN
              have HR1 : Hid (Row wl (b i) 0 (n i) (X i) ∧ Row wl (f i) 0 (n i + 16) (X i ++ mq 100000 i 16) ∧ Mk3 n X i ∧ n i ≤ 17592186044422 ∧ (n i ≠ 0 → p i = some ⟨b i, 0, none⟩)) := ⟨HSG.out.lc.row i hiN, HSG.out.row i hiN, HMK.out i hiN, HSG.out.lc.le i hiN, fun h => (HSG.out.lc.addr i hiN).resolve_left (by have := HSG.out.lc.cap i hiN; omega)⟩
              have HMI : Hid (∀ m, m < n i → (X i).getD m 0 = mkR i m) := HR1.out.2.2.1
              have HIN : Hid (i ≤ 1000) := by show _ ≤ _; omega
              obtain ⟨Xi, hXi⟩ : ∃ x, x = X i := ⟨_, rfl⟩
              rw [← hXi] at HMI
              have HR : Hid (Row wl (b i) 0 (n i) Xi ∧ Row wl (f i) 0 (n i + 16) (Xi ++ mq 100000 i 16) ∧ n i ≤ 17592186044422 ∧ (n i ≠ 0 → p i = some ⟨b i, 0, none⟩)) := by rw [hXi]; exact ⟨HR1.out.1, HR1.out.2.1, HR1.out.2.2.2.1, HR1.out.2.2.2.2⟩
              clear HR1 hiN hXi
              generalize n i = ni at *
              generalize p i = pi at *
              generalize c i = ci at *
              generalize b i = bi at *
              generalize f i = fi at *
              generalize cc i = cci at *
              have hcx := (hbw.cell (p := ⟨go, i, none⟩) (World.block_lt_of_cell? wl _ HCX.out)).trans HCX.out
              go_wp2_with fail
              clear hcx
              go_loopg [11] (ni + 16) (fun gk jv wr => ∃ (j : Nat), j + gk = ni + 16 ∧ jv = .int .i64 j ∧ Below wl.heap.size wl wr)
              case atStart => exact ⟨0, by omega, rfl, hbw⟩
              case round =>
                clear hbw
                obtain ⟨j, hjg, rfl, hbw⟩ := hrel
                have wn : wrap64 ((ni : Int) + 16) = ((ni + 16 : Nat) : Int) := wn3 HR.out.2.2.1 (by decide)
                cases gk with
                | zero =>
                  obtain rfl : j = ni + 16 := by omega
                  have hnk : ¬ ((ni + 16 : Nat) : Int) < ((ni + 16 : Nat) : Int) := by omega
                  go_wp2_with fail
                  go_roundg gi
                  case measure => omega
                  case rel => exact ⟨i + 1, by omega, by go_num, hbw⟩
                | succ gg =>
                  have HJB : Hid (j < 17592186044422 + 16) := by have := HR.out.2.2.1; show _ < _; omega
                  have hjl : (j : Int) < ((ni + 16 : Nat) : Int) := by omega
                  have hj2 : (0 : Int) ≤ (j : Int) ∧ (j : Int) < ((ni + 16 : Nat) : Int) := by omega
                  have hj3 : (0 : Int) ≤ (j : Int) ∧ (j : Int) < (ni : Int) + 16 := by omega
                  have HJN : Hid (j < ni + 16) := by show _ < _; omega
                  by_cases hjn : j < ni
                  · obtain rfl := HR.out.2.2.2 (by omega)
                    have HCA : Hid (wl.cell? ⟨bi, j, none⟩ = some (U (mkR i j))) := by rw [← HMI.out j hjn]; have := HR.out.1.cell j hjn; rw [Nat.zero_add] at this; exact this
                    have HCF : Hid (wl.cell? ⟨fi, j, none⟩ = some (U (mkR i j))) := by have := HR.out.2.1.cell j HJN.out; rw [Nat.zero_add, mq_lo (by rw [HR.out.1.len]; exact hjn), HMI.out j hjn] at this; exact this
                    obtain ⟨x, hx⟩ : ∃ x, Hid (x = mkR i j) := ⟨_, rfl⟩
                    rw [← hx.out] at HCA HCF
                    have hj5 : (j : Int) < (ni : Int) := by omega
                    have hj6 : (0 : Int) ≤ (j : Int) ∧ (j : Int) < (ni : Int) := by omega
                    have dd1 : decide ((j : Int) < (ni : Int)) = true := decide_eq_true hj5
                    have dd2 : decide ((ni : Int) ≤ (j : Int)) = false := decide_eq_false (by omega)
                    have dd3 : decide (j < ni) = true := decide_eq_true hjn
                    have dd4 : decide (ni ≤ j) = false := decide_eq_false (by omega)
                    go_wp2_with fail
                    clear wn
                    obtain ⟨W1, hW1⟩ : ∃ W1, W1 = wr.drew := ⟨_, rfl⟩
                    have hbd : Below wr.heap.size wr W1 := by rw [hW1]; exact bDrew1 (Below.refl _ _)
                    replace hbw := Below.on hbw hbd
                    clear hbd
                    have HJ : Hid ((fun W' : World => W'.cell? ⟨go, i, none⟩ = some (.slice (some ⟨bi, 0, none⟩) ni ci) ∧ W'.cell? ⟨bi, j, none⟩ = some (U x) ∧ W'.cell? ⟨h0, i, none⟩ = some (.slice (some ⟨fi, 0, none⟩) (ni + 16) cci) ∧ W'.cell? ⟨fi, j, none⟩ = some (U x)) W1) := ⟨((hbw.cell (p := ⟨go, i, none⟩) (World.block_lt_of_cell? wl _ HCX.out)).trans HCX.out), ((hbw.cell (p := ⟨bi, j, none⟩) (World.block_lt_of_cell? wl _ HCA.out)).trans HCA.out), ((hbw.cell (p := ⟨h0, i, none⟩) (World.block_lt_of_cell? wl _ HGX.out)).trans HGX.out), ((hbw.cell (p := ⟨fi, j, none⟩) (World.block_lt_of_cell? wl _ HCF.out)).trans HCF.out)⟩
                    refine wp_region_J (fun W' => W'.cell? ⟨go, i, none⟩ = some (.slice (some ⟨bi, 0, none⟩) ni ci) ∧ W'.cell? ⟨bi, j, none⟩ = some (U x) ∧ W'.cell? ⟨h0, i, none⟩ = some (.slice (some ⟨fi, 0, none⟩) (ni + 16) cci) ∧ W'.cell? ⟨fi, j, none⟩ = some (U x)) (by kernel_rfl) ?_
                    rw [← hW1]
                    clear hW1
                    refine wpJ_tq 0 rfl HJ.out ?_
                    refine wpJ_tq 1 rfl HJ.out ?_
                    refine wpJ_tq 2 rfl HJ.out ?_
                    refine wpJ_tq 3 rfl HJ.out ?_
                    refine wpJ_tq 4 rfl HJ.out ?_
                    go_simp
                    refine wpJ_tq 5 rfl HJ.out ?_
                    refine wpJ_tq 6 rfl HJ.out ?_
                    refine wpJ_tq 7 rfl HJ.out ?_
                    refine wpJ_tq 8 rfl HJ.out ?_
                    refine wpJ_tq 9 rfl HJ.out ?_
                    go_simp
                    refine wpJ_tq 10 rfl HJ.out ?_
                    refine wpJ_tq 11 rfl HJ.out ?_
                    refine wpJ_tq 12 rfl HJ.out ?_
                    refine wpJ_on 13 rfl fun KJ hK => ?_
                    go_simp
                    refine (mark3_ok i j HIN.out (Nat.lt_trans HJB.out (by decide))).mono ?_
                    rintro e w' ⟨rfl, hw⟩
                    obtain rfl := hw.symm
                    clear hw
                    rw [← hx.out]
                    clear HJ
                    have HJ : Hid ((fun W' : World => W'.cell? ⟨go, i, none⟩ = some (.slice (some ⟨bi, 0, none⟩) ni ci) ∧ W'.cell? ⟨bi, j, none⟩ = some (U x) ∧ W'.cell? ⟨h0, i, none⟩ = some (.slice (some ⟨fi, 0, none⟩) (ni + 16) cci) ∧ W'.cell? ⟨fi, j, none⟩ = some (U x)) W1) := ⟨((hbw.cell (p := ⟨go, i, none⟩) (World.block_lt_of_cell? wl _ HCX.out)).trans HCX.out), ((hbw.cell (p := ⟨bi, j, none⟩) (World.block_lt_of_cell? wl _ HCA.out)).trans HCA.out), ((hbw.cell (p := ⟨h0, i, none⟩) (World.block_lt_of_cell? wl _ HGX.out)).trans HGX.out), ((hbw.cell (p := ⟨fi, j, none⟩) (World.block_lt_of_cell? wl _ HCF.out)).trans HCF.out)⟩
                    refine hK _ _ HJ.out ?_
                    clear hK
                    refine wpJ_tq 14 rfl HJ.out ?_
                    refine wpJ_tq 15 rfl HJ.out ?_
                    refine wpJ_tq 16 rfl HJ.out ?_
                    refine wpJ_tq 17 rfl HJ.out ?_
                    refine wpJ_tq 18 rfl HJ.out ?_
                    go_simp
                    refine wpJ_tq 19 rfl HJ.out ?_
                    refine wpJ_tq 20 rfl HJ.out ?_
                    refine wpJ_tq 21 rfl HJ.out ?_
                    refine wpJ_tq 22 rfl HJ.out ?_
                    refine wpJ_tq 23 rfl HJ.out ?_
                    go_simp
                    refine wpJ_tq 24 rfl HJ.out ?_
                    refine wpJ_on 25 rfl fun KJ hK => ?_
                    go_simp
                    refine (mark3_ok i j HIN.out (Nat.lt_trans HJB.out (by decide))).mono ?_
                    rintro e w' ⟨rfl, hw⟩
                    obtain rfl := hw.symm
                    clear hw
                    rw [← hx.out]
                    clear HJ
                    have HJ : Hid ((fun W' : World => W'.cell? ⟨go, i, none⟩ = some (.slice (some ⟨bi, 0, none⟩) ni ci) ∧ W'.cell? ⟨bi, j, none⟩ = some (U x) ∧ W'.cell? ⟨h0, i, none⟩ = some (.slice (some ⟨fi, 0, none⟩) (ni + 16) cci) ∧ W'.cell? ⟨fi, j, none⟩ = some (U x)) W1) := ⟨((hbw.cell (p := ⟨go, i, none⟩) (World.block_lt_of_cell? wl _ HCX.out)).trans HCX.out), ((hbw.cell (p := ⟨bi, j, none⟩) (World.block_lt_of_cell? wl _ HCA.out)).trans HCA.out), ((hbw.cell (p := ⟨h0, i, none⟩) (World.block_lt_of_cell? wl _ HGX.out)).trans HGX.out), ((hbw.cell (p := ⟨fi, j, none⟩) (World.block_lt_of_cell? wl _ HCF.out)).trans HCF.out)⟩
                    refine hK _ _ HJ.out ?_
                    clear hK
                    refine wpJ_tq 26 rfl HJ.out ?_
                    refine wpJ_tq 27 rfl HJ.out ?_
                    refine wpJ_tq 28 rfl HJ.out ?_
                    refine wpJ_tq 29 rfl HJ.out ?_
                    refine wpJ_tq 30 rfl HJ.out ?_
                    go_simp
                    refine wpJ_tq 31 rfl HJ.out ?_
                    refine wpJ_tq 32 rfl HJ.out ?_
                    refine wpJ_tq 33 rfl HJ.out ?_
                    refine wpJ_sk 34 rfl HJ.out ?_
                    refine wpJ_sk 35 rfl HJ.out ?_
                    go_simp
                    refine wpJ_sk 36 rfl HJ.out ?_
                    refine wpJ_sk 37 rfl HJ.out ?_
                    refine wpJ_sk 38 rfl HJ.out ?_
                    refine wpJ_sk 39 rfl HJ.out ?_
                    refine wpJ_sk 40 rfl HJ.out ?_
                    go_simp
                    refine wpJ_sk 41 rfl HJ.out ?_
                    refine wpJ_sk 42 rfl HJ.out ?_
                    refine wpJ_sk 43 rfl HJ.out ?_
                    refine wpJ_sk 44 rfl HJ.out ?_
                    refine wpJ_sk 45 rfl HJ.out ?_
                    go_simp
                    refine wpJ_sk 46 rfl HJ.out ?_
                    refine wpJ_sk 47 rfl HJ.out ?_
                    refine wpJ_tq 48 rfl HJ.out ?_
                    refine wpJ_tq 49 rfl HJ.out ?_
                    refine wpJ_done (by kernel_rfl) ?_ _
                    clear HJ
                    have wj : wrap64 ((j : Int) + 1) = ((j + 1 : Nat) : Int) := wjj HJB.out (by decide)
                    clear dd1 dd2 dd3 dd4
                    go_wp2_with fail
                    have hjb := HJB.out
                    go_roundg gg
                    case measure => omega
                    case rel => exact ⟨j + 1, by omega, by go_num, hbw⟩
                  · have HCF : Hid (wl.cell? ⟨fi, j, none⟩ = some (U (mkR i (100000 + j - ni)))) := by have := HR.out.2.1.cell j HJN.out; rw [Nat.zero_add, mq_hi (by rw [HR.out.1.len]; omega) (by rw [HR.out.1.len]; exact HJN.out), HR.out.1.len] at this; exact this
                    obtain ⟨y, hy⟩ : ∃ y : Nat, y = 100000 + j - ni := ⟨_, rfl⟩
                    obtain ⟨x, hx⟩ : ∃ x, Hid (x = mkR i y) := ⟨_, rfl⟩
                    rw [← hy, ← hx.out] at HCF
                    have w1 : wrap64 (100000 + (j : Int)) = 100000 + (j : Int) := w13 HJB.out (by decide) (by decide)
                    have w2 : wrap64 (100000 + (j : Int) - (ni : Int)) = (y : Int) := w23 hy (by omega) HJB.out (by decide) (by decide)
                    have HY : Hid (y < 100000000000000) := by rw [hy]; have := HJB.out; show _ < _; omega
                    clear hy
                    have dd1 : decide ((j : Int) < (ni : Int)) = false := decide_eq_false (by omega)
                    have dd2 : decide ((ni : Int) ≤ (j : Int)) = true := decide_eq_true (by omega)
                    have dd3 : decide (j < ni) = false := decide_eq_false (by omega)
                    have dd4 : decide (ni ≤ j) = true := decide_eq_true (by omega)
                    go_wp2_with fail
                    clear wn
                    obtain ⟨W1, hW1⟩ : ∃ W1, W1 = wr.drew := ⟨_, rfl⟩
                    have hbd : Below wr.heap.size wr W1 := by rw [hW1]; exact bDrew1 (Below.refl _ _)
                    replace hbw := Below.on hbw hbd
                    clear hbd
                    have HJ : Hid ((fun W' : World => W'.cell? ⟨h0, i, none⟩ = some (.slice (some ⟨fi, 0, none⟩) (ni + 16) cci) ∧ W'.cell? ⟨fi, j, none⟩ = some (U x)) W1) := ⟨((hbw.cell (p := ⟨h0, i, none⟩) (World.block_lt_of_cell? wl _ HGX.out)).trans HGX.out), ((hbw.cell (p := ⟨fi, j, none⟩) (World.block_lt_of_cell? wl _ HCF.out)).trans HCF.out)⟩
                    refine wp_region_J (fun W' => W'.cell? ⟨h0, i, none⟩ = some (.slice (some ⟨fi, 0, none⟩) (ni + 16) cci) ∧ W'.cell? ⟨fi, j, none⟩ = some (U x)) (by kernel_rfl) ?_
                    rw [← hW1]
                    clear hW1
                    refine wpJ_tq 0 rfl HJ.out ?_
                    refine wpJ_tq 1 rfl HJ.out ?_
                    refine wpJ_tq 2 rfl HJ.out ?_
                    refine wpJ_tq 3 rfl HJ.out ?_
                    refine wpJ_sk 4 rfl HJ.out ?_
                    go_simp
                    refine wpJ_sk 5 rfl HJ.out ?_
                    refine wpJ_sk 6 rfl HJ.out ?_
                    refine wpJ_sk 7 rfl HJ.out ?_
                    refine wpJ_sk 8 rfl HJ.out ?_
                    refine wpJ_sk 9 rfl HJ.out ?_
                    go_simp
                    refine wpJ_sk 10 rfl HJ.out ?_
                    refine wpJ_sk 11 rfl HJ.out ?_
                    refine wpJ_sk 12 rfl HJ.out ?_
                    refine wpJ_sk 13 rfl HJ.out ?_
                    refine wpJ_sk 14 rfl HJ.out ?_
                    go_simp
                    refine wpJ_sk 15 rfl HJ.out ?_
                    refine wpJ_sk 16 rfl HJ.out ?_
                    refine wpJ_sk 17 rfl HJ.out ?_
                    refine wpJ_sk 18 rfl HJ.out ?_
                    refine wpJ_sk 19 rfl HJ.out ?_
                    go_simp
                    refine wpJ_sk 20 rfl HJ.out ?_
                    refine wpJ_sk 21 rfl HJ.out ?_
                    refine wpJ_sk 22 rfl HJ.out ?_
                    refine wpJ_sk 23 rfl HJ.out ?_
                    refine wpJ_sk 24 rfl HJ.out ?_
                    go_simp
                    refine wpJ_sk 25 rfl HJ.out ?_
                    refine wpJ_sk 26 rfl HJ.out ?_
                    refine wpJ_sk 27 rfl HJ.out ?_
                    refine wpJ_tq 28 rfl HJ.out ?_
                    refine wpJ_tq 29 rfl HJ.out ?_
                    go_simp
                    refine wpJ_tq 30 rfl HJ.out ?_
                    refine wpJ_tq 31 rfl HJ.out ?_
                    refine wpJ_tq 32 rfl HJ.out ?_
                    refine wpJ_tq 33 rfl HJ.out ?_
                    refine wpJ_tq 34 rfl HJ.out ?_
                    go_simp
                    refine wpJ_tq 35 rfl HJ.out ?_
                    refine wpJ_tq 36 rfl HJ.out ?_
                    refine wpJ_tq 37 rfl HJ.out ?_
                    refine wpJ_tq 38 rfl HJ.out ?_
                    refine wpJ_tq 39 rfl HJ.out ?_
                    go_simp
                    refine wpJ_tq 40 rfl HJ.out ?_
                    refine wpJ_tq 41 rfl HJ.out ?_
                    refine wpJ_tq 42 rfl HJ.out ?_
                    refine wpJ_tq 43 rfl HJ.out ?_
                    refine wpJ_tq 44 rfl HJ.out ?_
                    go_simp
                    refine wpJ_tq 45 rfl HJ.out ?_
                    refine wpJ_on 46 rfl fun KJ hK => ?_
                    go_simp
                    rw [show IntKind.i64.wrap (IntKind.i64.wrap (100000 + (j : Int)) - (ni : Int)) = (y : Int) from (by rw [show ∀ z : Int, IntKind.i64.wrap z = wrap64 z from fun z => by simp [IntKind.wrap_i64, wrap64], show ∀ z : Int, IntKind.i64.wrap z = wrap64 z from fun z => by simp [IntKind.wrap_i64, wrap64], w1, w2])]
                    refine (mark3_ok i y HIN.out HY.out).mono ?_
                    rintro e w' ⟨rfl, hw⟩
                    obtain rfl := hw.symm
                    clear hw
                    rw [← hx.out]
                    clear HJ
                    have HJ : Hid ((fun W' : World => W'.cell? ⟨h0, i, none⟩ = some (.slice (some ⟨fi, 0, none⟩) (ni + 16) cci) ∧ W'.cell? ⟨fi, j, none⟩ = some (U x)) W1) := ⟨((hbw.cell (p := ⟨h0, i, none⟩) (World.block_lt_of_cell? wl _ HGX.out)).trans HGX.out), ((hbw.cell (p := ⟨fi, j, none⟩) (World.block_lt_of_cell? wl _ HCF.out)).trans HCF.out)⟩
                    refine hK _ _ HJ.out ?_
                    clear hK
                    refine wpJ_tq 47 rfl HJ.out ?_
                    refine wpJ_tq 48 rfl HJ.out ?_
                    refine wpJ_tq 49 rfl HJ.out ?_
                    refine wpJ_done (by kernel_rfl) ?_ _
                    clear HJ
                    have wj : wrap64 ((j : Int) + 1) = ((j + 1 : Nat) : Int) := wjj HJB.out (by decide)
                    clear dd1 dd2 dd3 dd4 w1 w2
                    go_wp2_with fail
                    have hjb := HJB.out
                    go_roundg gg
                    case measure => omega
                    case rel => exact ⟨j + 1, by omega, by go_num, hbw⟩
            | zero =>
              obtain rfl : N = i := by omega
              have hnk : ¬ (N : Int) < (N : Int) := by omega
              go_wp2_with (at_make; refine wpList_make_full _ rfl _ _ 22 rfl wr.heap.size 27 i0 (.int .u64 0) 1 Tryd.underlying22 hi hz0 hz1 _ _ _ _ 64 rfl rfl (by omega) (by omega) (by rw [hz2]; omega) (by unfold maxLen; omega) (Nat.le_refl _) ?_; intro w2 hown hgrow; have hb := made_blk hown hgrow; clear hown hgrow)
              clear hnk hig
              have hm2 : Row w2 wr.heap.size 0 64 (List.replicate 64 0) := by have := hb.1.row (Dig.replicate B64 64 B64_pos); rw [List.length_replicate] at this; exact this
              have sgb := (HSG.out.below hbw).below hb.2
              have hs2 : wr.heap.size < w2.heap.size := World.block_lt_of_cell? w2 _ (hm2.cell 0 (by decide))
              have hs3 : h0 < wr.heap.size := Nat.lt_of_lt_of_le HSG.out.sz hbw.size
              have HS4 : Hid (SG w w2 B go N p n c b X h0 wr.heap.size 64 200000 0 F f cc ∧ Row w2 wr.heap.size 0 64 (List.replicate 64 0)) := ⟨⟨sgb.lc, sgb.vb, fun k hk => absurd hk (Nat.not_lt_zero _), fun k hk => absurd hk (Nat.not_lt_zero _), fun k hk => absurd hk (Nat.not_lt_zero _), sgb.bb, hs2, ⟨sgb.bh.1, Nat.le_of_lt hs3, sgb.bh.2.2.1, by decide⟩, sgb.lo⟩, hm2⟩
              have HHM : Hid (h0 < wr.heap.size ∧ B ≤ wr.heap.size) := ⟨hs3, Nat.le_of_lt (Nat.lt_of_le_of_lt sgb.bh.1 hs3)⟩
              clear hm2 sgb hs2 hs3 hb hbw HSG
              generalize wr.heap.size = hm at *
              go_loopg [13] N (fun gk iv wr => ∃ (i : Nat) (F : Nat → Value) (f cc : Nat → Nat) (ys : List Nat), i + gk = N ∧ iv = .int .i64 i ∧ SG w wr B go N p n c b X h0 hm 64 200000 i F f cc ∧ Row wr hm 0 64 ys)
              case atStart => exact ⟨0, F, f, cc, _, by omega, rfl, HS4.out⟩
              case round =>
                clear HS4
                obtain ⟨i, F, f, cc, ys, hig, rfl, xs⟩ := hrel
                have HS4 : Hid (SG w wr B go N p n c b X h0 hm 64 200000 i F f cc ∧ Row wr hm 0 64 ys) := xs
                clear xs
                cases gk with
                | succ gi =>
                  have hil : (i : Int) < (N : Int) := by omega
                  have hi0 : (0 : Int) ≤ (i : Int) ∧ (i : Int) < (N : Int) := by omega
                  have HIN : Hid (i < N ∧ i ≤ 1000) := ⟨by omega, by omega⟩
                  go_wp2_with fail
                  go_loopg [14] 64 (fun gk jv wr => ∃ (j : Nat) (ys : List Nat), j + gk = 64 ∧ jv = .int .i64 j ∧ SG w wr B go N p n c b X h0 hm 64 200000 i F f cc ∧ Row wr hm 0 64 ys ∧ ∀ m, m < j → ys.getD m 0 = mkR i (200000 + m))
                  case atStart => exact ⟨0, ys, by omega, rfl, HS4.out.1, HS4.out.2, fun m hm => absurd hm (Nat.not_lt_zero _)⟩
                  case round =>
                    clear HS4
                    obtain ⟨j, ys, hjg, rfl, x1, x2, x3⟩ := hrel
                    have HS4 : Hid (SG w wr B go N p n c b X h0 hm 64 200000 i F f cc ∧ Row wr hm 0 64 ys ∧ ∀ m, m < j → ys.getD m 0 = mkR i (200000 + m)) := ⟨x1, x2, x3⟩
                    clear x1 x2 x3
                    cases gk with
                    | succ gj =>
                      have hjl : (j : Int) < 64 := by omega
                      have hj0 : (0 : Int) ≤ (j : Int) ∧ (j : Int) < 64 := by omega
                      have HJ6 : Hid (j < 64) := by show _ < _; omega
                      have HWJ : Hid (wrap64 (200000 + (j : Int)) = ((200000 + j : Nat) : Int)) := wj3 HJ6.out
                      have hcl := HS4.out.2.1.cell j HJ6.out
                      have hfr := HS4.out.2.1.frozen j HJ6.out
                      rw [Nat.zero_add] at hcl hfr
                      have HCL : Hid (wr.cell? ⟨hm, j, none⟩ = some (U (ys.getD j 0)) ∧ wr.frozen? ⟨hm, j, none⟩ = false) := ⟨hcl, hfr⟩
                      clear hcl hfr
                      go_wp2_with fail
                      refine (mark3_ok i (200000 + j) HIN.out.2 (by have := HJ6.out; omega)).mono ?_
                      rintro e w' ⟨rfl, hw⟩
                      obtain rfl := hw.symm
                      clear hw
                      obtain ⟨y, hy⟩ : ∃ y, Hid (y = mkR i (200000 + j)) := ⟨_, rfl⟩
                      rw [← hy.out]
                      have hcl := HCL.out.1
                      have hfr := HCL.out.2
                      have HS5 : Hid (SG w (wr.setCell ⟨hm, j, none⟩ (U y)) B go N p n c b X h0 hm 64 200000 i F f cc) := HS4.out.1.away (bSet (Below.refl _ _) hm j (U y) HHM.out.2) hm ⟨Nat.le_refl _, HHM.out.1⟩ (fun k hk => Nat.ne_of_gt (HS4.out.1.gt k hk)) (fun k hk hne => Below.heap_setCell wr _ _ k hne)
                      have HR5 : Hid (Row (wr.setCell ⟨hm, j, none⟩ (U y)) hm 0 64 (ys.set j y)) := by have h9 := HS4.out.2.1.set j y HJ6.out (by rw [hy.out]; exact mkR_lt HIN.out.2 (by have := HJ6.out; omega)); rw [Nat.zero_add] at h9; exact h9
                      go_wp2_with fail
                      go_roundg gj
                      case measure => omega
                      case rel =>
                        refine ⟨j + 1, ys.set j y, by omega, by go_num, HS5.out, HR5.out, fun m hm => ?_⟩
                        rw [getD_set _ _ _ _ (by rw [HS4.out.2.1.len]; exact HJ6.out)]
                        by_cases e : m = j
                        · rw [if_pos e, e, hy.out]
                        · rw [if_neg e]; exact HS4.out.2.2 m (by omega)
                    | zero =>
                      obtain rfl : j = 64 := by omega
                      have HQ : Hid (ys = mq 200000 i 64) := mq_eq HS4.out.2.1.len HS4.out.2.2
                      have hle := HS4.out.1.lc.le i HIN.out.1
                      have hsix := HS4.out.1.lc.six i HIN.out.1
                      have hpn := HS4.out.1.lc.pn i HIN.out.1
                      have hcx := HS4.out.1.lc.cells i HIN.out.1
                      have HOL : Hid ((cellsU (X i)).length = n i * 1 ∧ ∀ a, p i = some a → ∀ j u, (cellsU (X i))[j]? = some u → wr.cell? (a.add j) = some u) := lc_src HS4.out.1.lc HIN.out.1
                      have HNW : Hid ((cellsU (mq 200000 i 64)).length = 64 * 1 ∧ (∀ j u, (cellsU (mq 200000 i 64))[j]? = some u → wr.cell? ((⟨hm, 0, none⟩ : Addr).add j) = some u) ∧ ∀ u ∈ cellsU (mq 200000 i 64), u.oneCell' = true) := row_src (by rw [← HQ.out]; exact HS4.out.2.1)
                      obtain ⟨ni, hni⟩ : ∃ x, x = n i := ⟨_, rfl⟩
                      obtain ⟨pi, hpi⟩ : ∃ x, x = p i := ⟨_, rfl⟩
                      obtain ⟨ci, hci⟩ : ∃ x, x = c i := ⟨_, rfl⟩
                      rw [← hni, ← hpi, ← hci] at hcx
                      rw [← hni, ← hpi] at HOL
                      rw [← hni, ← hci] at hsix
                      rw [← hni, ← hci, ← hpi] at hpn
                      rw [← hni] at hle
                      have HNI : Hid (ni = n i ∧ pi = p i ∧ ci = c i) := ⟨hni, hpi, hci⟩
                      have HBD : Hid (ci < ni + 64 ∧ ni + 64 ≤ maxLen ∧ ((ni + 64) + (ni + 64) / 4 + 192) * 8 ≤ 281474976710656 ∧ (pi = none → ni = 0 ∧ ci = 0)) := ⟨by omega, (bd4 hle).1, (bd4 hle).2, hpn⟩
                      clear hni hpi hci hle hsix hpn
                      have hfz := HS4.out.1.vb.frz i HIN.out.1
                      have hcz := HS4.out.1.vb.cell i HIN.out.1
                      go_wp2_with (at_builtin; go_loud (refine wpList_append_moves _ rfl _ _ 22 rfl 27 i0 (.int .u64 0) 1 8 Tryd.underlying22 hi hz0 hz1 hz2 rfl (by decide) pi ni ci (cellsU (X i)) rfl HBD.out.2.2.2 HOL.out.1 HOL.out.2 ⟨hm, 0, none⟩ 64 64 (cellsU (mq 200000 i 64)) rfl HNW.out.1 HNW.out.2.1 HNW.out.2.2 HBD.out.1 HBD.out.2.1 HBD.out.2.2.1 ?_); intro v6 w6 hown6 hgr6; obtain ⟨g6, c6, rfl, hg6, hl6⟩ := own_cut5 (k := ni + 63) hown6; have hb6 : Below wr.heap.size wr w6 := (Below.refl _ _).grown hgr6 (Nat.le_refl _) (fun k hk => by cases hk); have hfz6 := (hb6.frozen (p := ⟨h0, i, none⟩) (World.block_lt_of_cell? wr _ hcz)).trans hfz; have hcz6 := (hb6.cell (p := ⟨h0, i, none⟩) (World.block_lt_of_cell? wr _ hcz)).trans hcz; clear hfz hcz hcx)
                      have hr6 : Row w6 g6 0 (n i + 64) (X i ++ mq 200000 i 64) := by
                        rw [← HNI.out.1]
                        refine own_row3 (c := c6) (B := wr.heap.size) ?_ (dig_app5 (HS4.out.1.lc.row i HIN.out.1).dig (mq_dig HIN.out.2 (by decide)))
                        rw [show cellsU (X i ++ mq 200000 i 64) = cellsU (X i) ++ cellsU (mq 200000 i 64) from by unfold cellsU; rw [List.map_append]]
                        exact hown6
                      have HST : Hid _ := (HS4.out.1.below hb6).store (cap := c6) (Nat.lt_of_lt_of_le HS4.out.1.sz hg6) hr6
                      have HR5 : Hid (Row (w6.setCell ⟨h0, i, none⟩ (.slice (some ⟨g6, 0, none⟩) (n i + 64) c6)) hm 0 64 ys) := ((HS4.out.2.1.below hb6 HS4.out.1.sz).keepB (fun _ => Below.heap_setCell _ _ _ _ (Nat.ne_of_gt HHM.out.1)))
                      go_roundg gi
                      case measure => omega
                      case rel => rw [← HNI.out.1] at HST HR5; exact ⟨i + 1, _, _, _, ys, by omega, by go_num, HST.out, HR5.out⟩
                | zero =>
                  obtain rfl : N = i := by omega
                  have hnk : ¬ (N : Int) < (N : Int) := by omega
                  go_wp2_with fail
                  clear hnk hig
                  have HSG : Hid (SG w wr B go N p n c b X h0 hm 64 200000 N F f cc) := HS4.out.1
                  clear HS4
                  generalize wr = wl at *
                  have hbw : Below wl.heap.size wl wl := Below.refl _ _
                  go_loopg [15] N (fun gk iv wr => ∃ (i : Nat), i + gk = N ∧ iv = .int .i64 i ∧ Below wl.heap.size wl wr)
                  case atStart => exact ⟨0, by omega, rfl, hbw⟩
                  case round =>
                    clear hbw
                    obtain ⟨i, hig, rfl, hbw⟩ := hrel
                    cases gk with
                    | succ gi =>
                      have hiN : i < N := by omega
                      have hil : (i : Int) < (N : Int) := by omega
                      have hi0 : (0 : Int) ≤ (i : Int) ∧ (i : Int) < (N : Int) := by omega
                      have HCX : Hid (wl.cell? ⟨go, i, none⟩ = some (.slice (p i) (n i) (c i))) := HSG.out.lc.cells i hiN
                      have HGX : Hid (wl.cell? ⟨h0, i, none⟩ = some (.slice (some ⟨f i, 0, none⟩) (n i + 64) (cc i))) := by rw [← HSG.out.val i hiN]; exact HSG.out.vb.cell i hiN
                      have HR1 : Hid (Row wl (b i) 0 (n i) (X i) ∧ Row wl (f i) 0 (n i + 64) (X i ++ mq 200000 i 64) ∧ Mk3 n X i ∧ n i ≤ 17592186044422 ∧ (n i ≠ 0 → p i = some ⟨b i, 0, none⟩)) := ⟨HSG.out.lc.row i hiN, HSG.out.row i hiN, HMK.out i hiN, HSG.out.lc.le i hiN, fun h => (HSG.out.lc.addr i hiN).resolve_left (by have := HSG.out.lc.cap i hiN; omega)⟩
                      have HMI : Hid (∀ m, m < n i → (X i).getD m 0 = mkR i m) := HR1.out.2.2.1
                      have HIN : Hid (i ≤ 1000) := by show _ ≤ _; omega
                      obtain ⟨Xi, hXi⟩ : ∃ x, x = X i := ⟨_, rfl⟩
                      rw [← hXi] at HMI
                      have HR : Hid (Row wl (b i) 0 (n i) Xi ∧ Row wl (f i) 0 (n i + 64) (Xi ++ mq 200000 i 64) ∧ n i ≤ 17592186044422 ∧ (n i ≠ 0 → p i = some ⟨b i, 0, none⟩)) := by rw [hXi]; exact ⟨HR1.out.1, HR1.out.2.1, HR1.out.2.2.2.1, HR1.out.2.2.2.2⟩
                      clear HR1 hiN hXi
                      generalize n i = ni at *
                      generalize p i = pi at *
                      generalize c i = ci at *
                      generalize b i = bi at *
                      generalize f i = fi at *
                      generalize cc i = cci at *
                      have hcx := (hbw.cell (p := ⟨go, i, none⟩) (World.block_lt_of_cell? wl _ HCX.out)).trans HCX.out
                      go_wp2_with fail
                      clear hcx
                      go_loopg [17] (ni + 64) (fun gk jv wr => ∃ (j : Nat), j + gk = ni + 64 ∧ jv = .int .i64 j ∧ Below wl.heap.size wl wr)
                      case atStart => exact ⟨0, by omega, rfl, hbw⟩
                      case round =>
                        clear hbw
                        obtain ⟨j, hjg, rfl, hbw⟩ := hrel
                        have wn : wrap64 ((ni : Int) + 64) = ((ni + 64 : Nat) : Int) := wn3 HR.out.2.2.1 (by decide)
                        cases gk with
                        | zero =>
                          obtain rfl : j = ni + 64 := by omega
                          have hnk : ¬ ((ni + 64 : Nat) : Int) < ((ni + 64 : Nat) : Int) := by omega
                          go_wp2_with fail
                          go_roundg gi
                          case measure => omega
                          case rel => exact ⟨i + 1, by omega, by go_num, hbw⟩
                        | succ gg =>
                          have HJB : Hid (j < 17592186044422 + 64) := by have := HR.out.2.2.1; show _ < _; omega
                          have hjl : (j : Int) < ((ni + 64 : Nat) : Int) := by omega
                          have hj2 : (0 : Int) ≤ (j : Int) ∧ (j : Int) < ((ni + 64 : Nat) : Int) := by omega
                          have hj3 : (0 : Int) ≤ (j : Int) ∧ (j : Int) < (ni : Int) + 64 := by omega
                          have HJN : Hid (j < ni + 64) := by show _ < _; omega
                          by_cases hjn : j < ni
                          · obtain rfl := HR.out.2.2.2 (by omega)
                            have HCA : Hid (wl.cell? ⟨bi, j, none⟩ = some (U (mkR i j))) := by rw [← HMI.out j hjn]; have := HR.out.1.cell j hjn; rw [Nat.zero_add] at this; exact this
                            have HCF : Hid (wl.cell? ⟨fi, j, none⟩ = some (U (mkR i j))) := by have := HR.out.2.1.cell j HJN.out; rw [Nat.zero_add, mq_lo (by rw [HR.out.1.len]; exact hjn), HMI.out j hjn] at this; exact this
                            obtain ⟨x, hx⟩ : ∃ x, Hid (x = mkR i j) := ⟨_, rfl⟩
                            rw [← hx.out] at HCA HCF
                            have hj5 : (j : Int) < (ni : Int) := by omega
                            have hj6 : (0 : Int) ≤ (j : Int) ∧ (j : Int) < (ni : Int) := by omega
                            have dd1 : decide ((j : Int) < (ni : Int)) = true := decide_eq_true hj5
                            have dd2 : decide ((ni : Int) ≤ (j : Int)) = false := decide_eq_false (by omega)
                            have dd3 : decide (j < ni) = true := decide_eq_true hjn
                            have dd4 : decide (ni ≤ j) = false := decide_eq_false (by omega)
                            go_wp2_with fail
                            clear wn
                            obtain ⟨W1, hW1⟩ : ∃ W1, W1 = wr.drew := ⟨_, rfl⟩
                            have hbd : Below wr.heap.size wr W1 := by rw [hW1]; exact bDrew1 (Below.refl _ _)
                            replace hbw := Below.on hbw hbd
                            clear hbd
                            have HJ : Hid ((fun W' : World => W'.cell? ⟨go, i, none⟩ = some (.slice (some ⟨bi, 0, none⟩) ni ci) ∧ W'.cell? ⟨bi, j, none⟩ = some (U x)) W1) := ⟨((hbw.cell (p := ⟨go, i, none⟩) (World.block_lt_of_cell? wl _ HCX.out)).trans HCX.out), ((hbw.cell (p := ⟨bi, j, none⟩) (World.block_lt_of_cell? wl _ HCA.out)).trans HCA.out)⟩
                            refine wp_region_J (fun W' => W'.cell? ⟨go, i, none⟩ = some (.slice (some ⟨bi, 0, none⟩) ni ci) ∧ W'.cell? ⟨bi, j, none⟩ = some (U x)) (by kernel_rfl) ?_
                            rw [← hW1]
                            clear hW1
                            refine wpJ_tq 0 rfl HJ.out ?_
                            refine wpJ_tq 1 rfl HJ.out ?_
                            refine wpJ_tq 2 rfl HJ.out ?_
                            refine wpJ_tq 3 rfl HJ.out ?_
                            refine wpJ_tq 4 rfl HJ.out ?_
                            go_simp
                            refine wpJ_tq 5 rfl HJ.out ?_
                            refine wpJ_tq 6 rfl HJ.out ?_
                            refine wpJ_tq 7 rfl HJ.out ?_
                            refine wpJ_tq 8 rfl HJ.out ?_
                            refine wpJ_tq 9 rfl HJ.out ?_
                            go_simp
                            refine wpJ_tq 10 rfl HJ.out ?_
                            refine wpJ_tq 11 rfl HJ.out ?_
                            refine wpJ_tq 12 rfl HJ.out ?_
                            refine wpJ_on 13 rfl fun KJ hK => ?_
                            go_simp
                            refine (mark3_ok i j HIN.out (Nat.lt_trans HJB.out (by decide))).mono ?_
                            rintro e w' ⟨rfl, hw⟩
                            obtain rfl := hw.symm
                            clear hw
                            rw [← hx.out]
                            clear HJ
                            have HJ : Hid ((fun W' : World => W'.cell? ⟨go, i, none⟩ = some (.slice (some ⟨bi, 0, none⟩) ni ci) ∧ W'.cell? ⟨bi, j, none⟩ = some (U x)) W1) := ⟨((hbw.cell (p := ⟨go, i, none⟩) (World.block_lt_of_cell? wl _ HCX.out)).trans HCX.out), ((hbw.cell (p := ⟨bi, j, none⟩) (World.block_lt_of_cell? wl _ HCA.out)).trans HCA.out)⟩
                            refine hK _ _ HJ.out ?_
                            clear hK
                            refine wpJ_tq 14 rfl HJ.out ?_
                            refine wpJ_tq 15 rfl HJ.out ?_
                            refine wpJ_tq 16 rfl HJ.out ?_
                            refine wpJ_tq 17 rfl HJ.out ?_
                            refine wpJ_tq 18 rfl HJ.out ?_
                            go_simp
                            refine wpJ_tq 19 rfl HJ.out ?_
                            refine wpJ_tq 20 rfl HJ.out ?_
                            refine wpJ_sk 21 rfl HJ.out ?_
                            refine wpJ_sk 22 rfl HJ.out ?_
                            refine wpJ_sk 23 rfl HJ.out ?_
                            go_simp
                            refine wpJ_sk 24 rfl HJ.out ?_
                            refine wpJ_sk 25 rfl HJ.out ?_
                            refine wpJ_sk 26 rfl HJ.out ?_
                            refine wpJ_sk 27 rfl HJ.out ?_
                            refine wpJ_sk 28 rfl HJ.out ?_
                            go_simp
                            refine wpJ_sk 29 rfl HJ.out ?_
                            refine wpJ_sk 30 rfl HJ.out ?_
                            refine wpJ_sk 31 rfl HJ.out ?_
                            refine wpJ_sk 32 rfl HJ.out ?_
                            refine wpJ_sk 33 rfl HJ.out ?_
                            go_simp
                            refine wpJ_sk 34 rfl HJ.out ?_
                            refine wpJ_tq 35 rfl HJ.out ?_
                            refine wpJ_tq 36 rfl HJ.out ?_
                            refine wpJ_done (by kernel_rfl) ?_ _
                            clear HJ
                            have wj : wrap64 ((j : Int) + 1) = ((j + 1 : Nat) : Int) := wjj HJB.out (by decide)
                            clear dd1 dd2 dd3 dd4
                            go_wp2_with fail
                            have hjb := HJB.out
                            go_roundg gg
                            case measure => omega
                            case rel => exact ⟨j + 1, by omega, by go_num, hbw⟩
                          · have HCF : Hid (wl.cell? ⟨fi, j, none⟩ = some (U (mkR i (200000 + j - ni)))) := by have := HR.out.2.1.cell j HJN.out; rw [Nat.zero_add, mq_hi (by rw [HR.out.1.len]; omega) (by rw [HR.out.1.len]; exact HJN.out), HR.out.1.len] at this; exact this
                            obtain ⟨y, hy⟩ : ∃ y : Nat, y = 200000 + j - ni := ⟨_, rfl⟩
                            obtain ⟨x, hx⟩ : ∃ x, Hid (x = mkR i y) := ⟨_, rfl⟩
                            rw [← hy, ← hx.out] at HCF
                            have w1 : wrap64 (200000 + (j : Int)) = 200000 + (j : Int) := w13 HJB.out (by decide) (by decide)
                            have w2 : wrap64 (200000 + (j : Int) - (ni : Int)) = (y : Int) := w23 hy (by omega) HJB.out (by decide) (by decide)
                            have HY : Hid (y < 100000000000000) := by rw [hy]; have := HJB.out; show _ < _; omega
                            clear hy
                            have dd1 : decide ((j : Int) < (ni : Int)) = false := decide_eq_false (by omega)
                            have dd2 : decide ((ni : Int) ≤ (j : Int)) = true := decide_eq_true (by omega)
                            have dd3 : decide (j < ni) = false := decide_eq_false (by omega)
                            have dd4 : decide (ni ≤ j) = true := decide_eq_true (by omega)
                            go_wp2_with fail
                            clear wn
                            obtain ⟨W1, hW1⟩ : ∃ W1, W1 = wr.drew := ⟨_, rfl⟩
                            have hbd : Below wr.heap.size wr W1 := by rw [hW1]; exact bDrew1 (Below.refl _ _)
                            replace hbw := Below.on hbw hbd
                            clear hbd
                            have HJ : Hid ((fun W' : World => W'.cell? ⟨h0, i, none⟩ = some (.slice (some ⟨fi, 0, none⟩) (ni + 64) cci) ∧ W'.cell? ⟨fi, j, none⟩ = some (U x)) W1) := ⟨((hbw.cell (p := ⟨h0, i, none⟩) (World.block_lt_of_cell? wl _ HGX.out)).trans HGX.out), ((hbw.cell (p := ⟨fi, j, none⟩) (World.block_lt_of_cell? wl _ HCF.out)).trans HCF.out)⟩
                            refine wp_region_J (fun W' => W'.cell? ⟨h0, i, none⟩ = some (.slice (some ⟨fi, 0, none⟩) (ni + 64) cci) ∧ W'.cell? ⟨fi, j, none⟩ = some (U x)) (by kernel_rfl) ?_
                            rw [← hW1]
                            clear hW1
                            refine wpJ_tq 0 rfl HJ.out ?_
                            refine wpJ_tq 1 rfl HJ.out ?_
                            refine wpJ_tq 2 rfl HJ.out ?_
                            refine wpJ_tq 3 rfl HJ.out ?_
                            refine wpJ_sk 4 rfl HJ.out ?_
                            go_simp
                            refine wpJ_sk 5 rfl HJ.out ?_
                            refine wpJ_sk 6 rfl HJ.out ?_
                            refine wpJ_sk 7 rfl HJ.out ?_
                            refine wpJ_sk 8 rfl HJ.out ?_
                            refine wpJ_sk 9 rfl HJ.out ?_
                            go_simp
                            refine wpJ_sk 10 rfl HJ.out ?_
                            refine wpJ_sk 11 rfl HJ.out ?_
                            refine wpJ_sk 12 rfl HJ.out ?_
                            refine wpJ_sk 13 rfl HJ.out ?_
                            refine wpJ_sk 14 rfl HJ.out ?_
                            go_simp
                            refine wpJ_tq 15 rfl HJ.out ?_
                            refine wpJ_tq 16 rfl HJ.out ?_
                            refine wpJ_tq 17 rfl HJ.out ?_
                            refine wpJ_tq 18 rfl HJ.out ?_
                            refine wpJ_tq 19 rfl HJ.out ?_
                            go_simp
                            refine wpJ_tq 20 rfl HJ.out ?_
                            refine wpJ_tq 21 rfl HJ.out ?_
                            refine wpJ_tq 22 rfl HJ.out ?_
                            refine wpJ_tq 23 rfl HJ.out ?_
                            refine wpJ_tq 24 rfl HJ.out ?_
                            go_simp
                            refine wpJ_tq 25 rfl HJ.out ?_
                            refine wpJ_tq 26 rfl HJ.out ?_
                            refine wpJ_tq 27 rfl HJ.out ?_
                            refine wpJ_tq 28 rfl HJ.out ?_
                            refine wpJ_tq 29 rfl HJ.out ?_
                            go_simp
                            refine wpJ_tq 30 rfl HJ.out ?_
                            refine wpJ_tq 31 rfl HJ.out ?_
                            refine wpJ_tq 32 rfl HJ.out ?_
                            refine wpJ_on 33 rfl fun KJ hK => ?_
                            go_simp
                            rw [show IntKind.i64.wrap (IntKind.i64.wrap (200000 + (j : Int)) - (ni : Int)) = (y : Int) from (by rw [show ∀ z : Int, IntKind.i64.wrap z = wrap64 z from fun z => by simp [IntKind.wrap_i64, wrap64], show ∀ z : Int, IntKind.i64.wrap z = wrap64 z from fun z => by simp [IntKind.wrap_i64, wrap64], w1, w2])]
                            refine (mark3_ok i y HIN.out HY.out).mono ?_
                            rintro e w' ⟨rfl, hw⟩
                            obtain rfl := hw.symm
                            clear hw
                            rw [← hx.out]
                            clear HJ
                            have HJ : Hid ((fun W' : World => W'.cell? ⟨h0, i, none⟩ = some (.slice (some ⟨fi, 0, none⟩) (ni + 64) cci) ∧ W'.cell? ⟨fi, j, none⟩ = some (U x)) W1) := ⟨((hbw.cell (p := ⟨h0, i, none⟩) (World.block_lt_of_cell? wl _ HGX.out)).trans HGX.out), ((hbw.cell (p := ⟨fi, j, none⟩) (World.block_lt_of_cell? wl _ HCF.out)).trans HCF.out)⟩
                            refine hK _ _ HJ.out ?_
                            clear hK
                            refine wpJ_tq 34 rfl HJ.out ?_
                            refine wpJ_tq 35 rfl HJ.out ?_
                            refine wpJ_tq 36 rfl HJ.out ?_
                            refine wpJ_done (by kernel_rfl) ?_ _
                            clear HJ
                            have wj : wrap64 ((j : Int) + 1) = ((j + 1 : Nat) : Int) := wjj HJB.out (by decide)
                            clear dd1 dd2 dd3 dd4 w1 w2
                            go_wp2_with fail
                            have hjb := HJB.out
                            go_roundg gg
                            case measure => omega
                            case rel => exact ⟨j + 1, by omega, by go_num, hbw⟩
                    | zero =>
                      obtain rfl : N = i := by omega
                      have hnk : ¬ (N : Int) < (N : Int) := by omega
                      go_wp2_with fail
                      go_ret
                      exact ⟨rfl, (HSG.out.below hbw).bb⟩
theorem lt92 {j : Nat} (h : j < 17592186044416) : j < 100000000000000 := by omega
theorem wj92 {j : Nat} (h : j < 17592186044416) : wrap64 ((j : Int) + 1) = ((j + 1 : Nat) : Int) := by
  simp only [wrap64]; omega
theorem rmy_dig {k : Nat} {xs : List Nat} (hk : k ≤ 1000) (h : Dig B64 xs) : Dig B64 (rmy k xs) := by
  intro x hx
  unfold rmy at hx
  rcases List.mem_append.1 hx with h1 | h1
  · exact h x h1
  · obtain ⟨j, hj, rfl⟩ := List.mem_map.1 h1
    have := List.mem_range.1 hj
    exact mkR_lt hk (by omega)
theorem cut7 {w : World} {g n : Nat} {xs : List Nat} (h : Row w g 0 n xs) (k : Nat) (hk : k ≤ n) (hb : n ≤ maxLen) : At w (some ⟨g, 0, none⟩) k n (xs.take k) := by
  refine ⟨by rw [List.length_take, h.len]; omega, hk, hb, fun x hx => h.dig x (List.mem_of_mem_take hx), .inr ⟨g, 0, rfl, fun j hj => ?_⟩⟩
  rw [h.cell j (by omega), List.getD_eq_getElem?_getD, List.getD_eq_getElem?_getD, List.getElem?_take, if_pos hj]
theorem own_at7 {w : World} {B m g : Nat} {zs : List Nat} (h : w.ownsRow B 27 1 (.slice (some ⟨g, 0, none⟩) (m + 6) (m + 6)) (m + 6) (cellsU zs)) (hd : Dig B64 zs) (hm : m ≤ 17592186044416) : At w (some ⟨g, 0, none⟩) m (m + 6) (zs.take m) :=
  cut7 (own_row3 h hd) m (by omega) (by unfold maxLen; omega)
structure X7 (w : World) (B m g j : Nat) (zs : List Nat) : Prop where
  own : w.ownsRow B 27 1 (.slice (some ⟨g, 0, none⟩) (m + 6) (m + 6)) (m + 6) (cellsU zs)
  dig : Dig B64 zs
  mrk : ∀ k, k < j → zs.getD k 0 = mkR 92 k
theorem X7.len {w : World} {B m g j : Nat} {zs : List Nat} (h : X7 w B m g j zs) : zs.length = m + 6 := by have := h.own.1; rw [cellsU_length, Nat.mul_one] at this; exact this
theorem X7.below {w w' : World} {B m g j : Nat} {zs : List Nat} (h : X7 w B m g j zs) (hb : Below w.heap.size w w') : X7 w' B m g j zs := ⟨ownAny3 h.own hb, h.dig, h.mrk⟩
theorem X7.set {w : World} {B m g j : Nat} {zs : List Nat} (h : X7 w B m g j zs) (hj : j < m) (hm : m ≤ 17592186044416) : X7 (w.setCell ⟨g, j, none⟩ (U (mkR 92 j))) B m g (j + 1) (zs.set j (mkR 92 j)) := by
  have hl := h.len
  refine ⟨by rw [cellsU_set]; exact own_set h.own j _, fun x hx => ?_, fun k hk => ?_⟩
  · rcases List.mem_or_eq_of_mem_set hx with h1 | h1
    · exact h.dig x h1
    · rw [h1]; exact mkR_lt (by omega) (by omega)
  · rw [getD_set _ _ _ _ (by omega)]
    by_cases e : k = j
    · rw [if_pos e, e]
    · rw [if_neg e]; exact h.mrk k (by omega)
theorem X7.top {w : World} {B m g : Nat} {zs : List Nat} (h : X7 w B m g m zs) (hm : m ≤ 200) : formB (zs.take m) = true ∧ valB B64 (zs.take m) < TXL := by
  have hl := h.len
  refine mark_top (m := m) (by rw [List.length_take]; omega) (fun k hk => ?_) hm
  rw [List.getD_eq_getElem?_getD, List.getElem?_take, if_pos hk, ← List.getD_eq_getElem?_getD]
  exact h.mrk k hk
theorem EK.keepB {w w' : World} {B : Nat} {p : Option Addr} {n c b : Nat} {X : List Nat} (h : EK w B p n c b X) (hb : c ≠ 0 → w'.heap[b]? = w.heap[b]?) : EK w' B p n c b X :=
  ⟨h.cap, h.six, h.addr, h.pn, h.row.keepB (fun h0 => hb (by have := h.cap; omega)), fun hr => own_keepB (h.room hr) (hb (by omega)), h.ge, h.le⟩
theorem EK.lt {w : World} {B : Nat} {p : Option Addr} {n c b : Nat} {X : List Nat} (h : EK w B p n c b X) (hc : c ≠ 0) : b < w.heap.size := by
  rcases Nat.lt_or_ge n c with h1 | h1
  · exact own_blt (h.room h1)
  · exact row_lt3 h.row (by omega)
theorem natdivReadMemory_w {p : Option Addr} {m c : Nat} {xs : List Nat} (s : ByteArray) {w : World} (h : At w p m c xs) (hz : p = none → m = 0 ∧ c = 0) (hn : m ≤ 17592186044416) (ht : TbP w) :
    Calls Tryd.prog 3 #[.string s, .slice p m c] w fun en w' => en = .returned (.bool true) ∧ Below w.heap.size w w' := by
  have AT : Hid (At w p m c xs ∧ TbP w ∧ m ≤ 17592186044416 ∧ (p = none → m = 0 ∧ c = 0)) := ⟨h, ht, hn, hz⟩
  clear h ht hn hz
  go_enter Tryd.func3, Tryd.ntmps3
  go_wp2_with fail
  rw [show (⟨#[48, 48, 52, 48]⟩ : ByteArray) = lit40 from rfl]
  refine (read_ok lit40).mono ?_
  rintro e v2 ⟨⟨-, p1, m1, rfl, hG⟩ | ⟨hn, -⟩, hbw⟩
  rotate_left
  · exact absurd lit40_ok hn
  obtain ⟨⟨zs, hz1, hz2⟩, -⟩ := hG.gn
  rw [lit40_v] at hz2
  obtain rfl := hz2.inj B64_one lit40_nf
  have AT1 : Hid (At v2 p1 m1 m1 [40]) := hz1
  clear hz1 hz2 hG
  go_wp2_with fail
  have AT2 : Hid (At (v2.alloc (.cells #[.int .u64 40] 27)) (some ⟨v2.heap.size, 0, none⟩) 1 1 [40]) := lit_at v2 _ [40] 1 rfl rfl (dig1 (by decide)) (by decide)
  refine (same_t (AT1.out.alloc _) AT2.out).mono ?_
  rintro e v3 ⟨rfl, hb3⟩
  have hbw2 := Below.on (Below.on hbw (below1 v2 _)) hb3
  clear hb3 AT1 AT2 hbw
  have hbw := hbw2
  clear hbw2
  go_wp2_with fail
  refine (read_u s).mono ?_
  rintro e v4 ⟨q1, l1, er1, z1, rfl, hR, hO, hL, hb⟩
  obtain ⟨b1, hE, hI⟩ := ek_own hO (Nat.le_trans hbw.size (Nat.le_refl _) : w.heap.size ≤ v3.heap.size) hL
  have R1 : Hid (RdR s z1 er1) := hR
  have I1 : Hid ((l1 ≠ 0 → v3.heap.size ≤ b1 ∧ b1 < v4.heap.size) ∧ v3.heap.size ≤ v4.heap.size ∧ l1 ≤ 8192) := ⟨hI, hb.size, hL⟩
  have E1 : Hid (EK v4 w.heap.size q1 l1 l1 b1 z1) := hE
  have O1 : Hid (At v4 q1 l1 l1 z1) := hO.at_ hL
  clear hR hO hL hE hI
  replace hbw := Below.on hbw hb
  clear hb
  go_wp2_with fail
  refine (read_u s).mono ?_
  rintro e v5 ⟨q2, l2, er2, z2, rfl, hR, hO, hL, hb⟩
  obtain ⟨b2, hE, hI⟩ := ek_own hO (Nat.le_trans hbw.size (Nat.le_refl _) : w.heap.size ≤ v4.heap.size) hL
  have R2 : Hid (RdR s z2 er2) := hR
  have I2 : Hid ((l2 ≠ 0 → v4.heap.size ≤ b2 ∧ b2 < v5.heap.size) ∧ v4.heap.size ≤ v5.heap.size ∧ l2 ≤ 8192) := ⟨hI, hb.size, hL⟩
  have E2 : Hid (EK v5 w.heap.size q2 l2 l2 b2 z2) := hE
  have O2 : Hid (At v5 q2 l2 l2 z2) := hO.at_ hL
  clear hR hO hL hE hI
  replace E1 : Hid (EK v5 w.heap.size q1 l1 l1 b1 z1) := E1.out.below hb
  replace O1 : Hid _ := O1.out.below hb
  replace hbw := Below.on hbw hb
  clear hb
  obtain ⟨e12, e13⟩ := R1.out.uniq R2.out
  subst e12 e13
  clear R2
  go_wp2_with fail
  refine (same_t O1.out O2.out).mono ?_
  rintro e v6 ⟨rfl, hb⟩
  have I56 : Hid (v5.heap.size ≤ v6.heap.size) := hb.size
  clear O1
  clear O2
  replace E1 : Hid (EK v6 w.heap.size q1 l1 l1 b1 z1) := E1.out.below hb
  replace E2 : Hid (EK v6 w.heap.size q2 l2 l2 b2 z1) := E2.out.below hb
  replace hbw := Below.on hbw hb
  clear hb
  go_wp2_with fail
  refine (roomy3_ok (k := 90) (AT.out.1.below hbw) AT.out.2.2.2 AT.out.2.2.1 (by decide)).mono ?_
  rintro e v7 ⟨g, rfl, hg1, hO, hb⟩
  have IX : Hid (v6.heap.size ≤ g ∧ g < v7.heap.size ∧ v6.heap.size ≤ v7.heap.size) := ⟨hg1, own_blt hO, hb.size⟩
  have EX : Hid (X7 v7 w.heap.size m g 0 (rmy 90 xs)) := ⟨own_mono5 hO hbw.size, rmy_dig (by decide) AT.out.1.dig, fun k hk => absurd hk (Nat.not_lt_zero _)⟩
  clear hg1 hO
  replace E1 : Hid (EK v7 w.heap.size q1 l1 l1 b1 z1) := E1.out.below hb
  replace E2 : Hid (EK v7 w.heap.size q2 l2 l2 b2 z1) := E2.out.below hb
  replace hbw := Below.on hbw hb
  clear hb
  go_wp2_with fail
  refine (text_ok (by have h9 := own_at7 EX.out.own EX.out.dig AT.out.2.2.1; rw [show (rmy 90 xs).take m = xs from by rw [← AT.out.1.len]; exact rmy_take 90 xs] at h9; exact h9) (AT.out.2.1.below hbw)).mono ?_
  rintro e v8 ⟨t1, et1, rfl, hT, hb⟩
  have T1 : Hid (TxA xs t1 et1) := hT
  clear hT
  replace E1 : Hid (EK v8 w.heap.size q1 l1 l1 b1 z1) := E1.out.below hb
  replace E2 : Hid (EK v8 w.heap.size q2 l2 l2 b2 z1) := E2.out.below hb
  replace EX : Hid (X7 v8 w.heap.size m g 0 (rmy 90 xs)) := EX.out.below hb
  replace hbw := Below.on hbw hb
  clear hb
  go_wp2_with fail
  refine (text_ok (by have h9 := own_at7 EX.out.own EX.out.dig AT.out.2.2.1; rw [show (rmy 90 xs).take m = xs from by rw [← AT.out.1.len]; exact rmy_take 90 xs] at h9; exact h9) (AT.out.2.1.below hbw)).mono ?_
  rintro e v9 ⟨t2, et2, rfl, hT, hb⟩
  have T2 : Hid (TxA xs t2 et2) := hT
  clear hT
  replace E1 : Hid (EK v9 w.heap.size q1 l1 l1 b1 z1) := E1.out.below hb
  replace E2 : Hid (EK v9 w.heap.size q2 l2 l2 b2 z1) := E2.out.below hb
  replace EX : Hid (X7 v9 w.heap.size m g 0 (rmy 90 xs)) := EX.out.below hb
  replace hbw := Below.on hbw hb
  clear hb
  obtain ⟨f12, f13⟩ := T1.out.uniq T2.out
  subst f12 f13
  clear T1 T2
  go_wp2_with fail
  refine (kept3_ok (k := 90) (AT.out.1.below hbw) (by have h9 := own_row3 EX.out.own EX.out.dig; exact h9.at_ (Nat.le_refl _) (by have := AT.out.2.2.1; unfold maxLen; omega)) (by have := AT.out.2.2.1; omega) (by decide)).mono ?_
  rintro e v10 ⟨rfl, hb⟩
  replace E1 : Hid (EK v10 w.heap.size q1 l1 l1 b1 z1) := E1.out.below hb
  replace E2 : Hid (EK v10 w.heap.size q2 l2 l2 b2 z1) := E2.out.below hb
  replace EX : Hid (X7 v10 w.heap.size m g 0 (rmy 90 xs)) := EX.out.below hb
  replace hbw := Below.on hbw hb
  clear hb
  go_wp2_with fail
  have h00 : v10.heap.size ≤ v10.heap.size := Nat.le_refl _
  go_loopg [17] m (fun gk jv wr => ∃ (j : Nat) (zs : List Nat), j + gk = m ∧ jv = .int .i64 j ∧ X7 wr w.heap.size m g j zs ∧ Below w.heap.size w wr ∧ v10.heap.size ≤ wr.heap.size ∧ (∀ k, k < v10.heap.size → k ≠ g → wr.heap[k]? = v10.heap[k]?))
  case atStart => exact ⟨0, _, by omega, rfl, EX.out, hbw, h00, fun _ _ _ => rfl⟩
  case round =>
    clear EX h00
    obtain ⟨j, zs, hjg, rfl, x1, hb9, x2, x3⟩ := hrel
    have EX : Hid (X7 wr w.heap.size m g j zs) := x1
    have HKP : Hid (v10.heap.size ≤ wr.heap.size ∧ ∀ k, k < v10.heap.size → k ≠ g → wr.heap[k]? = v10.heap[k]?) := ⟨x2, x3⟩
    clear x1 x2 x3
    cases gk with
    | succ gj =>
      have HJM : Hid (j < m ∧ j < 17592186044416) := ⟨by omega, by have := AT.out.2.2.1; omega⟩
      have hjl : (j : Int) < (m : Int) := by omega
      have hj0 : (0 : Int) ≤ (j : Int) ∧ (j : Int) < (m : Int) := by omega
      have wj := wj92 HJM.out.2
      have hrow := own_row3 EX.out.own EX.out.dig
      have hcl := hrow.cell j (by omega)
      have hfr := hrow.frozen j (by omega)
      rw [Nat.zero_add] at hcl hfr
      have HB9 : Hid (Below w.heap.size w wr) := hb9
      clear hrow hb9
      go_wp2_with fail
      refine (mark3_ok 92 j (by decide) (lt92 HJM.out.2)).mono ?_
      rintro e w' ⟨rfl, hw⟩
      obtain rfl := hw.symm
      clear hw
      have HX2 : Hid (X7 (wr.setCell ⟨g, j, none⟩ (U (mkR 92 j))) w.heap.size m g (j + 1) (zs.set j (mkR 92 j))) := EX.out.set HJM.out.1 AT.out.2.2.1
      have HB2 : Hid (Below w.heap.size w (wr.setCell ⟨g, j, none⟩ (U (mkR 92 j)))) := bSet HB9.out g j _ (ek_room EX.out.own EX.out.dig AT.out.2.2.1).ge
      have HK2 : Hid (v10.heap.size ≤ (wr.setCell ⟨g, j, none⟩ (U (mkR 92 j))).heap.size ∧ ∀ k, k < v10.heap.size → k ≠ g → (wr.setCell ⟨g, j, none⟩ (U (mkR 92 j))).heap[k]? = v10.heap[k]?) := ⟨by rw [World.size_setCell]; exact HKP.out.1, fun k hk hne => (Below.heap_setCell wr _ _ k hne).trans (HKP.out.2 k hk hne)⟩
      go_wp2_with fail
      go_roundg gj
      case measure => omega
      case rel => exact ⟨j + 1, _, by omega, by go_num, HX2.out, HB2.out, HK2.out.1, HK2.out.2⟩
    | zero =>
      obtain rfl : m = j := by omega
      have hnk : ¬ ((m : Nat) : Int) < ((m : Nat) : Int) := by omega
      have E1' : Hid (EK wr w.heap.size q1 l1 l1 b1 z1) := E1.out.keepB (fun hc => HKP.out.2 b1 (E1.out.lt hc) (by have := I1.out.1 hc; have := I56.out; have := IX.out.1; have := I2.out.2.1; omega))
      clear E1
      have E1 := E1'
      clear E1'
      have E2' : Hid (EK wr w.heap.size q2 l2 l2 b2 z1) := E2.out.keepB (fun hc => HKP.out.2 b2 (E2.out.lt hc) (by have := I2.out.1 hc; have := I56.out; have := IX.out.1; have := I2.out.2.1; omega))
      clear E2
      have E2 := E2'
      clear E2'
      clear hbw
      have hbw := hb9
      clear hb9 HKP
      go_wp2_with fail
      clear hnk hjg
      refine (text_ok (own_at7 EX.out.own EX.out.dig AT.out.2.2.1) (AT.out.2.1.below hbw)).mono ?_
      rintro e v11 ⟨t3, et3, rfl, hT, hb⟩
      have T3 : Hid (TxA (zs.take m) t3 et3) := hT
      clear hT
      replace E1 : Hid (EK v11 w.heap.size q1 l1 l1 b1 z1) := E1.out.below hb
      replace E2 : Hid (EK v11 w.heap.size q2 l2 l2 b2 z1) := E2.out.below hb
      replace EX : Hid (X7 v11 w.heap.size m g m zs) := EX.out.below hb
      replace hbw := Below.on hbw hb
      clear hb
      go_wp2_with fail
      have HL3 : Hid ((l1 ≠ 0 → b1 < v11.heap.size) ∧ (l2 ≠ 0 → b2 < v11.heap.size) ∧ g < v11.heap.size) := ⟨fun hc => E1.out.lt hc, fun hc => E2.out.lt hc, own_blt EX.out.own⟩
      refine (read_u t3).mono ?_
      rintro e v12 ⟨q3, l3, er3, z3, rfl, hR, hO, hL, hb⟩
      obtain ⟨b3, hE, hI⟩ := ek_own hO (Nat.le_trans hbw.size (Nat.le_refl _) : w.heap.size ≤ v11.heap.size) hL
      have R3 : Hid (RdR t3 z3 er3) := hR
      have I3 : Hid ((l3 ≠ 0 → v11.heap.size ≤ b3 ∧ b3 < v12.heap.size) ∧ v11.heap.size ≤ v12.heap.size ∧ l3 ≤ 8192) := ⟨hI, hb.size, hL⟩
      have E3 : Hid (EK v12 w.heap.size q3 l3 l3 b3 z3) := hE
      have O3 : Hid (At v12 q3 l3 l3 z3) := hO.at_ hL
      clear hR hO hL hE hI
      replace E1 : Hid (EK v12 w.heap.size q1 l1 l1 b1 z1) := E1.out.below hb
      replace E2 : Hid (EK v12 w.heap.size q2 l2 l2 b2 z1) := E2.out.below hb
      replace EX : Hid (X7 v12 w.heap.size m g m zs) := EX.out.below hb
      replace hbw := Below.on hbw hb
      clear hb
      by_cases h0 : m = 0
      · have d0 : decide ((0 : Int) < (m : Int)) = false := decide_eq_false (by omega)
        have d1 : decide (0 < m) = false := decide_eq_false (by omega)
        have hm0 : (m : Int) = 0 := by omega
        have hm9 : ¬ (0 : Int) < (m : Int) := by omega
        clear h0
        go_wp2_with fail
        clear d0 d1 hm0 hm9
        have hbl := below1 v12 (.cells #[.slice q1 l1 l1, .slice q2 l2 l2, .slice q3 l3 l3, .slice (some ⟨g, 0, none⟩) m (m + 6)] 22)
        have HLC := lc4 (go := v12.heap.size) (E1.out.below hbl) (E2.out.below hbl) (E3.out.below hbl) ((ek_room EX.out.own EX.out.dig AT.out.2.2.1).below hbl) (by go_simp) (by go_simp) (by go_simp) (by go_simp) (fun hc => Nat.ne_of_lt (E1.out.lt hc)) (fun hc => Nat.ne_of_lt (E2.out.lt hc)) (fun hc => Nat.ne_of_lt (E3.out.lt hc)) (fun _ => Nat.ne_of_lt (own_blt EX.out.own)) (fun h1 h2 => by have := I1.out.1 h1; have := I2.out.1 h2; omega) (fun h1 h2 => by have := HL3.out.1 h1; have := I3.out.1 h2; omega) (fun h1 _ => by have := I1.out.1 h1; have := I56.out; have := IX.out.1; have := I2.out.2.1; omega) (fun h1 h2 => by have := HL3.out.2.1 h1; have := I3.out.1 h2; omega) (fun h1 _ => by have := I2.out.1 h1; have := I56.out; have := IX.out.1; omega) (fun h1 _ => by have := I3.out.1 h1; have := HL3.out.2.2; omega)
        refine (apart3_ok HLC (C := 4) (by decide) (by decide) (by decide) (by decide) (Nat.le_trans hbw.size hbl.size)).mono ?_
        rintro e v20 ⟨rfl, hb20⟩
        have hbz := (Below.on hbw hbl).trans hb20
        clear HLC hbl hb20
        go_wp2_with fail
        go_ret
        exact ⟨rfl, hbz⟩
      · by_cases h2 : 200 < m
        · have d0 : decide ((0 : Int) < (m : Int)) = true := decide_eq_true (by omega)
          have d1 : decide (0 < m) = true := decide_eq_true (by omega)
          have hm9 : (0 : Int) < (m : Int) := by omega
          have d2 : decide ((m : Int) ≤ 200) = false := decide_eq_false (by omega)
          have d3 : decide (m ≤ 200) = false := decide_eq_false (by omega)
          have hm8 : ¬ (m : Int) ≤ 200 := by omega
          clear h0 h2
          go_wp2_with fail
          clear d0 d1 d2 d3 hm8 hm9
          have hbl := below1 v12 (.cells #[.slice q1 l1 l1, .slice q2 l2 l2, .slice q3 l3 l3, .slice (some ⟨g, 0, none⟩) m (m + 6)] 22)
          have HLC := lc4 (go := v12.heap.size) (E1.out.below hbl) (E2.out.below hbl) (E3.out.below hbl) ((ek_room EX.out.own EX.out.dig AT.out.2.2.1).below hbl) (by go_simp) (by go_simp) (by go_simp) (by go_simp) (fun hc => Nat.ne_of_lt (E1.out.lt hc)) (fun hc => Nat.ne_of_lt (E2.out.lt hc)) (fun hc => Nat.ne_of_lt (E3.out.lt hc)) (fun _ => Nat.ne_of_lt (own_blt EX.out.own)) (fun h1 h2 => by have := I1.out.1 h1; have := I2.out.1 h2; omega) (fun h1 h2 => by have := HL3.out.1 h1; have := I3.out.1 h2; omega) (fun h1 _ => by have := I1.out.1 h1; have := I56.out; have := IX.out.1; have := I2.out.2.1; omega) (fun h1 h2 => by have := HL3.out.2.1 h1; have := I3.out.1 h2; omega) (fun h1 _ => by have := I2.out.1 h1; have := I56.out; have := IX.out.1; omega) (fun h1 _ => by have := I3.out.1 h1; have := HL3.out.2.2; omega)
          refine (apart3_ok HLC (C := 4) (by decide) (by decide) (by decide) (by decide) (Nat.le_trans hbw.size hbl.size)).mono ?_
          rintro e v20 ⟨rfl, hb20⟩
          have hbz := (Below.on hbw hbl).trans hb20
          clear HLC hbl hb20
          go_wp2_with fail
          go_ret
          exact ⟨rfl, hbz⟩
        · have htp := EX.out.top (by omega)
          have hT := T3.out.uniq (.inl ⟨htp.1, htp.2, rfl, rfl⟩)
          have hrd := rdok_dec htp.2
          have hR3 := R3.out.uniq (.inl ⟨by rw [hT.1]; exact hrd.1, by rw [show dN t3 t3.size = valB B64 (zs.take m) from by rw [hT.1]; exact hrd.2]; exact (formB_nf htp.1 (fun x hx => EX.out.dig x (List.mem_of_mem_take hx))).1, rfl⟩)
          have HO3 : Hid (At v12 q3 l3 l3 (zs.take m)) := by rw [← hR3.1]; exact O3.out
          obtain rfl := hT.2
          obtain rfl := hR3.2
          clear htp hT hrd hR3 R3 T3 O3
          have d0 : decide ((0 : Int) < (m : Int)) = true := decide_eq_true (by omega)
          have d1 : decide (0 < m) = true := decide_eq_true (by omega)
          have hm9 : (0 : Int) < (m : Int) := by omega
          have d2 : decide ((m : Int) ≤ 200) = true := decide_eq_true (by omega)
          have d3 : decide (m ≤ 200) = true := decide_eq_true (by omega)
          have hm8 : (m : Int) ≤ 200 := by omega
          clear h0 h2
          go_wp2_with fail
          refine (same_t HO3.out (own_at7 EX.out.own EX.out.dig AT.out.2.2.1)).mono ?_
          rintro e v13 ⟨rfl, hb⟩
          clear HO3
          replace E1 : Hid (EK v13 w.heap.size q1 l1 l1 b1 z1) := E1.out.below hb
          replace E2 : Hid (EK v13 w.heap.size q2 l2 l2 b2 z1) := E2.out.below hb
          replace EX : Hid (X7 v13 w.heap.size m g m zs) := EX.out.below hb
          replace E3 : Hid (EK v13 w.heap.size q3 l3 l3 b3 z3) := E3.out.below hb
          replace hbw := Below.on hbw hb
          clear hb
          go_wp2_with fail
          clear d0 d1 d2 d3 hm8 hm9
          have hbl := below1 v13 (.cells #[.slice q1 l1 l1, .slice q2 l2 l2, .slice q3 l3 l3, .slice (some ⟨g, 0, none⟩) m (m + 6)] 22)
          have HLC := lc4 (go := v13.heap.size) (E1.out.below hbl) (E2.out.below hbl) (E3.out.below hbl) ((ek_room EX.out.own EX.out.dig AT.out.2.2.1).below hbl) (by go_simp) (by go_simp) (by go_simp) (by go_simp) (fun hc => Nat.ne_of_lt (E1.out.lt hc)) (fun hc => Nat.ne_of_lt (E2.out.lt hc)) (fun hc => Nat.ne_of_lt (E3.out.lt hc)) (fun _ => Nat.ne_of_lt (own_blt EX.out.own)) (fun h1 h2 => by have := I1.out.1 h1; have := I2.out.1 h2; omega) (fun h1 h2 => by have := HL3.out.1 h1; have := I3.out.1 h2; omega) (fun h1 _ => by have := I1.out.1 h1; have := I56.out; have := IX.out.1; have := I2.out.2.1; omega) (fun h1 h2 => by have := HL3.out.2.1 h1; have := I3.out.1 h2; omega) (fun h1 _ => by have := I2.out.1 h1; have := I56.out; have := IX.out.1; omega) (fun h1 _ => by have := I3.out.1 h1; have := HL3.out.2.2; omega)
          refine (apart3_ok HLC (C := 4) (by decide) (by decide) (by decide) (by decide) (Nat.le_trans hbw.size hbl.size)).mono ?_
          rintro e v20 ⟨rfl, hb20⟩
          have hbz := (Below.on hbw hbl).trans hb20
          clear HLC hbl hb20
          go_wp2_with fail
          go_ret
          exact ⟨rfl, hbz⟩
end Go.Proofs.YteooedpaeddkcaaDoor
