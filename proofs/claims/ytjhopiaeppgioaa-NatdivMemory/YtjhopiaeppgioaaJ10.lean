import Derived.Test.YtjhopiaeppgioaaJ8
import Derived.Test.YtjhopiaeppgioaaJ9
namespace Go.Proofs.Ytjhopiaeppgioaa
open Go.RowKit Go.Shelf
set_option maxRecDepth 20000
set_option maxHeartbeats 0
theorem mk3_succ {n : Nat → Nat} {X : Nat → List Nat} {i : Nat} (h : ∀ k, k < i → Mk3 n X k) (h2 : ∀ m, m < n i → (X i).getD m 0 = mkR i m) : ∀ k, k < i + 1 → Mk3 n X k := by
  intro k hk
  rcases Nat.lt_or_ge k i with h1 | h1
  · exact h k h1
  · obtain rfl : k = i := by omega
    exact h2
theorem bd3 {n k : Nat} (h : n ≤ 17592186044422) (hk : k ≤ 16) : n + k + 1 ≤ maxLen ∧ ((n + k + 1) + (n + k + 1) / 4 + 192) * 8 ≤ 281474976710656 := by
  unfold maxLen; omega
theorem wn3 {n L : Nat} (h : n ≤ 17592186044422) (hL : L ≤ 1000) : wrap64 ((n : Int) + (L : Int)) = ((n + L : Nat) : Int) := by
  simp only [wrap64]; omega
theorem w13 {j L M : Nat} (h : j < 17592186044422 + L) (hL : L ≤ 1000) (hM : M ≤ 1000000) : wrap64 ((M : Int) + (j : Int)) = (M : Int) + (j : Int) := by
  simp only [wrap64]; omega
theorem w23 {j L M n y : Nat} (hy : y = M + j - n) (hn : n ≤ j) (h : j < 17592186044422 + L) (hL : L ≤ 1000) (hM : M ≤ 1000000) : wrap64 ((M : Int) + (j : Int) - (n : Int)) = (y : Int) := by
  simp only [wrap64]; omega
theorem wj3 {j : Nat} (h : j < 64) : wrap64 (200000 + (j : Int)) = ((200000 + j : Nat) : Int) := by
  simp only [wrap64]; omega
theorem bd4 {n : Nat} (h : n ≤ 17592186044422) : n + 64 ≤ maxLen ∧ ((n + 64) + (n + 64) / 4 + 192) * 8 ≤ 281474976710656 := by
  unfold maxLen; omega
theorem mq_eq {ys : List Nat} {Mb i L : Nat} (hl : ys.length = L) (h : ∀ m, m < L → ys.getD m 0 = mkR i (Mb + m)) : ys = mq Mb i L := by
  refine List.ext_getElem (by rw [hl, mq_len]) fun j h1 h2 => ?_
  have e : ys.getD j 0 = (mq Mb i L).getD j 0 := by
    rw [h j (by omega)]
    have := mq_hi (Mb := Mb) (k := i) (L := L) (xs := []) (j := j) (by simp) (by simp; omega)
    simp only [List.nil_append, List.length_nil, Nat.sub_zero] at this
    exact this.symm
  rw [List.getD_eq_getElem?_getD, List.getD_eq_getElem?_getD, List.getElem?_eq_getElem h1, List.getElem?_eq_getElem h2] at e
  exact e
theorem row_src {w : World} {g L : Nat} {xs : List Nat} (h : Row w g 0 L xs) : (cellsU xs).length = L * 1 ∧ (∀ j u, (cellsU xs)[j]? = some u → w.cell? ((⟨g, 0, none⟩ : Addr).add j) = some u) ∧ ∀ u ∈ cellsU xs, u.oneCell' = true := by
  refine ⟨by rw [cellsU_length, h.len]; omega, fun j u hu => ?_, fun u hu => ?_⟩
  · have hj : j < L := by
      rcases Nat.lt_or_ge j L with h6 | h6
      · exact h6
      · rw [List.getElem?_eq_none (by rw [cellsU_length, h.len]; exact h6)] at hu; cases hu
    have hadd : (⟨g, 0, none⟩ : Addr).add j = ⟨g, j, none⟩ := by unfold Addr.add; split <;> simp_all
    have hcl := h.cell j hj
    rw [Nat.zero_add] at hcl
    rw [hadd, hcl, ← hu, cellsU_get _ _ (by rw [h.len]; exact hj)]
  · obtain ⟨x, _, rfl⟩ := List.mem_map.1 hu
    rfl
theorem lc_src {w : World} {B go N : Nat} {p : Nat → Option Addr} {n c b : Nat → Nat} {X : Nat → List Nat} (h : LC w B go N p n c b X) {i : Nat} (hi : i < N) : (cellsU (X i)).length = n i * 1 ∧ ∀ a, p i = some a → ∀ j u, (cellsU (X i))[j]? = some u → w.cell? (a.add j) = some u := by
  have hr := row_src (h.row i hi)
  refine ⟨hr.1, fun a ha j u hu => ?_⟩
  have hj : j < n i := by
    rcases Nat.lt_or_ge j (n i) with h6 | h6
    · exact h6
    · rw [List.getElem?_eq_none (by rw [cellsU_length, (h.row i hi).len]; exact h6)] at hu; cases hu
  have hp := (h.addr i hi).resolve_left (by have := h.cap i hi; omega)
  rw [hp] at ha
  cases ha
  exact hr.2.1 j u hu
theorem wjj {j L : Nat} (h : j < 17592186044422 + L) (hL : L ≤ 1000) : wrap64 ((j : Int) + 1) = ((j + 1 : Nat) : Int) := by
  simp only [wrap64]; omega
theorem lt3 {k : Nat} (hk : k ≤ 16) : 100000 + k < 100000000000000 := by omega
theorem wk3 {k : Nat} (hk : k ≤ 16) : wrap64 (100000 + (k : Int)) = ((100000 + k : Nat) : Int) := by
  simp only [wrap64]; omega
theorem own_ge5 {w : World} {B k : Nat} {e : TypeId} {v : Value} {xs : List Value} (h : w.ownsRow B e 1 v k xs) {q : Nat} (hb : v.ownBlock = some q) : B ≤ q := by
  rcases h.2 with ⟨h2, _⟩ | ⟨g', cap, cur, h2, h3, h4, h5⟩
  · rw [h2] at hb; cases hb
  · rw [h2] at hb; cases hb; exact h3
theorem apart3_ok {go N C B : Nat} {p : Nat → Option Addr} {n c b : Nat → Nat} {X : Nat → List Nat} {w : World} (h : LC w B go N p n c b X) (hN : N ≤ 1000) (hN0 : 0 < N) (_hC : N ≤ C) (_hC2 : C ≤ maxLen) (hB : B ≤ w.heap.size) :
    Calls Try.prog 17 #[.slice (some ⟨go, 0, none⟩) N C] w fun en w' => en = .returned (.bool true) ∧ Below B w w' := by
  obtain ⟨i0, hi, hz0, hz1, hz2⟩ := info_parts Try.infoU64
  obtain ⟨s0, hs, hy0, hy1, hy2⟩ := info_parts Try.infoSl3
  have H : Hid (LC w B go N p n c b X) := h
  have HB : Hid (B ≤ w.heap.size) := hB
  clear h hB
  go_enter Try.func17, Try.ntmps17
  go_wp2_with fail
  go_loopg [3] N (fun gk iv wr => ∃ (i : Nat) (X : Nat → List Nat), i + gk = N ∧ iv = .int .i64 i ∧ LC wr B go N p n c b X ∧ (∀ k, k < i → Mk3 n X k) ∧ Below B w wr)
  case atStart => exact ⟨0, X, by omega, rfl, H.out, fun k hk => by omega, Below.refl _ _⟩
  case round =>
    obtain ⟨i, X, hig, rfl, xl, xm, hbw⟩ := hrel
    clear H
    have LL : Hid (LC wr B go N p n c b X ∧ ∀ k, k < i → Mk3 n X k) := ⟨xl, xm⟩
    clear xl xm
    cases gk with
    | succ gi =>
      have hil : (i : Int) < (N : Int) := by omega
      have hi0 : (0 : Int) ≤ (i : Int) ∧ (i : Int) < (N : Int) := by omega
      go_wp2_with fail
      have hbw1 := hbw
      clear hbw
      go_loopg [4] (n i) (fun gj jv wr => ∃ (j : Nat) (X : Nat → List Nat), j + gj = n i ∧ jv = .int .i64 j ∧ LC wr B go N p n c b X ∧ (∀ k, k < i → Mk3 n X k) ∧ (∀ m, m < j → (X i).getD m 0 = mkR i m) ∧ Below B w wr)
      case atStart => exact ⟨0, X, by omega, rfl, LL.out.1, LL.out.2, fun m hm => by omega, hbw1⟩
      case round =>
        obtain ⟨j, X, hjg, rfl, xl, xm, xj, hbw⟩ := hrel
        clear LL hbw1
        have LL : Hid (LC wr B go N p n c b X) := xl
        have HM : Hid ((∀ k, k < i → Mk3 n X k) ∧ ∀ m, m < j → (X i).getD m 0 = mkR i m) := ⟨xm, xj⟩
        clear xl xm xj
        have hcx := LL.out.cells i (by omega)
        have hle := LL.out.le i (by omega)
        have hcp := LL.out.cap i (by omega)
        cases gk with
        | succ gj =>
          have hp := (LL.out.addr i (by omega)).resolve_left (by omega)
          rw [hp] at hcx
          have hcl := (LL.out.row i (by omega)).cell j (by omega)
          have hfr := (LL.out.row i (by omega)).frozen j (by omega)
          rw [Nat.zero_add] at hcl hfr
          have HNE : Hid (b i ≠ go) := LL.out.ne i (by omega) (by omega)
          obtain ⟨ni, hni⟩ : ∃ x, x = n i := ⟨_, rfl⟩
          obtain ⟨ci, hci⟩ : ∃ x, x = c i := ⟨_, rfl⟩
          obtain ⟨bi, hbi⟩ : ∃ x, x = b i := ⟨_, rfl⟩
          rw [← hni, ← hbi, ← hci] at hcx
          rw [← hni] at hle hjg
          rw [← hbi] at hcl hfr HNE
          have HNI : Hid (ni = n i ∧ bi = b i ∧ p i = some ⟨b i, 0, none⟩) := ⟨hni, hbi, hp⟩
          clear hni hbi hp hci hcp
          have hjl : (j : Int) < (ni : Int) := by omega
          have hj0 : (0 : Int) ≤ (j : Int) ∧ (j : Int) < (ni : Int) := by omega
          go_wp2_with fail
          have HCX : Hid (wr.cell? ⟨go, i, none⟩ = some (.slice (some ⟨bi, 0, none⟩) ni ci)) := hcx
          have HCL : Hid (wr.cell? ⟨bi, j, none⟩ = some (U ((X i).getD j 0)) ∧ wr.frozen? ⟨bi, j, none⟩ = false) := ⟨hcl, hfr⟩
          have hbr : Below wr.heap.size wr wr := Below.refl _ _
          have hbB := hbw
          clear hcx hcl hfr hbw
          have hbw := hbr
          clear hbr
          obtain ⟨W1, hW1⟩ : ∃ W1, W1 = wr.drew := ⟨_, rfl⟩
          have hbd : Below wr.heap.size wr W1 := by rw [hW1]; exact bDrew1 (Below.refl _ _)
          replace hbw := Below.on hbw hbd
          clear hbd
          have HJ : Hid ((fun W' : World => W'.cell? ⟨go, i, none⟩ = some (.slice (some ⟨bi, 0, none⟩) ni ci)) W1) := ((hbw.cell (p := ⟨go, i, none⟩) (World.block_lt_of_cell? wr _ HCX.out)).trans HCX.out)
          refine wp_region_J (fun W' => W'.cell? ⟨go, i, none⟩ = some (.slice (some ⟨bi, 0, none⟩) ni ci)) (by kernel_rfl) ?_
          rw [← hW1]
          clear hW1
          refine wpJ_tk 0 (v := ?v1x0) rfl ?hy1x0 HJ.out ?_
          case hy1x0 => (intro W' hJ; have j0 := hJ; go_simp; first | done | with_reducible rfl)
          refine wpJ_tk 1 (v := ?v2x1) rfl ?hy2x1 HJ.out ?_
          case hy2x1 => (intro W' hJ; have j0 := hJ; go_simp; first | done | with_reducible rfl)
          refine wpJ_tk 2 (v := ?v3x2) rfl ?hy3x2 HJ.out ?_
          case hy3x2 => (intro W' hJ; have j0 := hJ; go_simp; first | done | with_reducible rfl)
          refine wpJ_tk 3 (v := ?v4x3) rfl ?hy4x3 HJ.out ?_
          case hy4x3 => (intro W' hJ; have j0 := hJ; go_simp; first | done | with_reducible rfl)
          refine wpJ_tk 4 (v := ?v5x4) rfl ?hy5x4 HJ.out ?_
          case hy5x4 => (intro W' hJ; have j0 := hJ; go_simp; first | done | with_reducible rfl)
          go_simp
          refine wpJ_tk 5 (v := ?v6x5) rfl ?hy6x5 HJ.out ?_
          case hy6x5 => (intro W' hJ; have j0 := hJ; go_simp; first | done | with_reducible rfl)
          refine wpJ_tk 6 (v := ?v7x6) rfl ?hy7x6 HJ.out ?_
          case hy7x6 => (intro W' hJ; have j0 := hJ; go_simp; first | done | with_reducible rfl)
          refine wpJ_on 7 rfl fun KJ hK => ?_
          go_simp
          refine (mark3_ok i j (by omega) (by omega)).mono ?_
          rintro e w' ⟨rfl, hw⟩
          obtain rfl := hw.symm
          clear hw
          clear HJ
          have HJ : Hid ((fun W' : World => W'.cell? ⟨go, i, none⟩ = some (.slice (some ⟨bi, 0, none⟩) ni ci)) W1) := ((hbw.cell (p := ⟨go, i, none⟩) (World.block_lt_of_cell? wr _ HCX.out)).trans HCX.out)
          refine hK _ _ HJ.out ?_
          clear hK
          refine wpJ_tk 8 (v := ?v8x8) rfl ?hy8x8 HJ.out ?_
          case hy8x8 => (intro W' hJ; have j0 := hJ; go_simp; first | done | with_reducible rfl)
          have hcl := (hbw.cell (p := ⟨bi, j, none⟩) (World.block_lt_of_cell? wr _ HCL.out.1)).trans HCL.out.1
          have hfr := (hbw.frozen (p := ⟨bi, j, none⟩) (World.block_lt_of_cell? wr _ HCL.out.1)).trans HCL.out.2
          refine wpJ_on 9 rfl fun KJ hK => ?_
          go_simp
          have HJ2 : Hid ((fun W' : World => W'.cell? ⟨go, i, none⟩ = some (.slice (some ⟨bi, 0, none⟩) ni ci)) (W1.setCell ⟨bi, j, none⟩ (U (mkR i j)))) := (World.cell?_setCell_other _ _ _ _ (by intro e; exact HNE.out (congrArg Addr.block e))).trans HJ.out
          refine hK _ _ HJ2.out ?_
          clear hK HJ
          have HJ := HJ2
          clear HJ2
          refine wpJ_done (by kernel_rfl) ?_ _
          clear HJ
          have LL2 := (LL.out.below hbw).set (i := i) (j := j) (y := mkR i j) (by omega) (by rw [← HNI.out.1]; omega) (mkR_lt (by omega) (by omega))
          have HBG : Hid (B ≤ b i) := LL.out.ge i (by omega)
          rw [← HNI.out.2.1] at LL2
          have hbw2 := bSet (hbB.trans (hbw.mono (by have := hbB.size; have := HB.out; omega))) bi j (U (mkR i j)) (by rw [HNI.out.2.1]; exact HBG.out)
          generalize W1.setCell ⟨bi, j, none⟩ (U (mkR i j)) = W2 at *
          clear hcl hfr hbw hbB
          go_wp2_with fail
          go_roundg gj
          case measure => omega
          case rel =>
            refine ⟨j + 1, _, by rw [← HNI.out.1]; omega, by go_num, LL2, fun k hk => ?_, fun m hm => ?_, hbw2⟩
            · intro m hm; show (if k = i then (X i).set j (mkR i j) else X k).getD m 0 = _; rw [if_neg (by omega)]; exact HM.out.1 k hk m hm
            · show (if i = i then (X i).set j (mkR i j) else X i).getD m 0 = _; rw [if_pos rfl, getD_set _ _ _ _ (by rw [(LL.out.row i (by omega)).len, ← HNI.out.1]; omega)]
              by_cases e : m = j
              · rw [if_pos e, e]
              · rw [if_neg e]; exact HM.out.2 m (by omega)
        | zero =>
          obtain rfl : j = n i := by omega
          have hnj : ¬ ((n i : Nat) : Int) < ((n i : Nat) : Int) := by omega
          have HM2 : Hid (∀ k, k < i + 1 → Mk3 n X k) := mk3_succ HM.out.1 HM.out.2
          clear hcp hle
          generalize n i = ni at *
          go_wp2_with fail
          go_roundg gi
          case measure => omega
          case rel => exact ⟨i + 1, X, by omega, by go_num, LL.out, HM2.out, hbw⟩
    | zero =>
      obtain rfl : N = i := by omega
      have hnk : ¬ (N : Int) < (N : Int) := by omega
      go_wp2_with (at_make; refine wpList_make_full _ rfl _ _ 41 rfl wr.heap.size 22 s0 (.slice none 0 0) 1 Try.underlying41 hs hy0 hy1 _ _ _ _ N rfl rfl (by omega) (by omega) (by rw [hy2]; omega) (by unfold maxLen; omega) (Nat.le_refl _) ?_; intro w1 hown hgrow)
      obtain ⟨hvb, hbm⟩ := made_vb hown hgrow
      have hsz1 := own_blt hown
      have HSG : Hid (SG w w1 B go N p n c b X wr.heap.size wr.heap.size 16 100000 0 (fun _ => .slice none 0 0) (fun _ => 0) (fun _ => 0)) := ⟨LL.out.1.below hbm, hvb, fun k hk => absurd hk (Nat.not_lt_zero _), fun k hk => absurd hk (Nat.not_lt_zero _), fun k hk => absurd hk (Nat.not_lt_zero _), hbw.trans (hbm.mono (by have := hbw.size; have := HB.out; omega)), hsz1, ⟨by have := hbw.size; have := HB.out; omega, Nat.le_refl _, World.block_lt_of_cell? wr _ (LL.out.1.cells 0 hN0), by decide⟩, fun k hk hc => LL.out.1.lt hk hc⟩
      have HMK : Hid (∀ k, k < N → Mk3 n X k) := LL.out.2
      clear LL hvb hbm hsz1 hown hgrow hbw hnk hig
      generalize wr.heap.size = h0 at *
      go_loopg [6] N (fun gk iv wr => ∃ (i : Nat) (F : Nat → Value) (f cc : Nat → Nat), i + gk = N ∧ iv = .int .i64 i ∧ SG w wr B go N p n c b X h0 h0 16 100000 i F f cc)
      case atStart => exact ⟨0, _, _, _, by omega, rfl, HSG.out⟩
      case round =>
        obtain ⟨i, F, f, cc, hig, rfl, xs⟩ := hrel
        clear HSG
        have HSG : Hid (SG w wr B go N p n c b X h0 h0 16 100000 i F f cc) := xs
        clear xs
        cases gk with
        | succ gi =>
          have hiN : i < N := by omega
          have hil : (i : Int) < (N : Int) := by omega
          have hi0 : (0 : Int) ≤ (i : Int) ∧ (i : Int) < (N : Int) := by omega
          have hcx := HSG.out.lc.cells i hiN
          have hle := HSG.out.lc.le i hiN
          obtain ⟨ni, hni⟩ : ∃ x, x = n i := ⟨_, rfl⟩
          obtain ⟨pi, hpi⟩ : ∃ x, x = p i := ⟨_, rfl⟩
          obtain ⟨ci, hci⟩ : ∃ x, x = c i := ⟨_, rfl⟩
          rw [← hni, ← hpi, ← hci] at hcx
          rw [← hni] at hle
          have HNI : Hid (ni = n i ∧ pi = p i ∧ ci = c i) := ⟨hni, hpi, hci⟩
          have HIN : Hid (i < N ∧ i ≤ 1000) := ⟨hiN, by omega⟩
          clear hni hpi hci hiN
          go_wp2_with fail
          clear hcx
          have HS0 : Hid (S2 w wr B go N p n c b X h0 h0 16 100000 i F f cc wr.heap.size 0 (.slice pi ni ci)) := by rw [HNI.out.1, HNI.out.2.1, HNI.out.2.2]; exact S2.start HSG.out HIN.out.1
          generalize wr.heap.size = h1 at *
          clear HSG
          go_loopg [7, 8] 16 (fun gk gv kv wr => ∃ (k : Nat), k + gk = 16 ∧ kv = .int .i64 k ∧ S2 w wr B go N p n c b X h0 h0 16 100000 i F f cc h1 k gv)
          case atStart => exact ⟨0, by omega, rfl, HS0.out⟩
          case round =>
            obtain ⟨k, hkg, rfl, xs⟩ := hrel
            clear HS0
            have HS : Hid (S2 w wr B go N p n c b X h0 h0 16 100000 i F f cc h1 k u7) := xs
            clear xs
            cases gk with
            | succ gk =>
              have hk16 : (k : Int) < 16 := by omega
              have HKK : Hid (k < 16 ∧ k ≤ 16) := ⟨by omega, by omega⟩
              have HBD : Hid (n i + k + 1 ≤ maxLen ∧ ((n i + k + 1) + (n i + k + 1) / 4 + 192) * 8 ≤ 281474976710656) := by rw [← HNI.out.1]; exact bd3 hle HKK.out.2
              have wk1 := wk3 HKK.out.2
              go_wp2_with fail
              refine (mark3_ok i (100000 + k) HIN.out.2 (lt3 HKK.out.2)).mono ?_
              rintro e w' ⟨rfl, hw⟩
              obtain rfl := hw.symm
              clear hw wk1
              obtain ⟨y, hy⟩ : ∃ y, y = mkR i (100000 + k) := ⟨_, rfl⟩
              rw [← hy]
              have HY : Hid (y = mkR i (100000 + k)) := hy
              clear hy
              have HA : Hid (S2 w (wr.alloc (.cells #[U y] 34)) B go N p n c b X h0 h0 16 100000 i F f cc h1 k u7) := HS.out.below (below1 wr _)
              clear HS
              rcases HA.out.way HIN.out.1 with ⟨e1, e2, e3⟩ | ⟨e1, e2, e3, e4, e5⟩ | e3
              · obtain ⟨m, hm⟩ : ∃ x, x = n i + k := ⟨_, rfl⟩
                obtain ⟨bi, hbi⟩ : ∃ x, x = b i := ⟨_, rfl⟩
                obtain ⟨cj, hcj⟩ : ∃ x, x = c i := ⟨_, rfl⟩
                have HOW : Hid ((wr.alloc (.cells #[U y] 34)).ownsRow B 34 1 (.slice (some ⟨bi, 0, none⟩) m cj) m (cellsU (X i ++ mq 100000 i k))) := by rw [hm, hbi, hcj]; exact e3
                rw [← hm, ← hbi, ← hcj] at e1
                rw [← hm, ← hcj] at e2
                have HCC : Hid (m + 1 ≤ cj) := e2
                have HM : Hid (m = n i + k ∧ bi = b i ∧ cj = c i) := ⟨hm, hbi, hcj⟩
                subst e1
                clear hm hbi hcj e2 e3
                go_wp2_with (at_builtin; go_loud (refine wpList_append_fits _ rfl _ _ 22 rfl B 34 i0 1 Try.underlying22 hi hz1 bi m cj (cellsU (X i ++ mq 100000 i k)) rfl HOW.out ⟨wr.heap.size, 0, none⟩ 1 1 [U y] rfl rfl (cell_new5 _ _ _) (by intro u hu; simp at hu; subst hu; rfl) HCC.out ?_); intro w6 hown6 hgr6)
                go_roundg gk
                case measure => omega
                case rel =>
                  have hcc := HCC.out
                  rw [HY.out] at hown6
                  rw [HM.out.1, HM.out.2.1, HM.out.2.2] at hown6 ⊢
                  rw [HM.out.2.1] at hgr6
                  rw [HM.out.1, HM.out.2.2] at hcc
                  exact ⟨k + 1, by omega, by go_num, HA.out.fits HIN.out.1 HIN.out.2 (by have := HKK.out.1; omega) hcc hgr6 hown6⟩
              · obtain ⟨m, hm⟩ : ∃ x, x = n i + k := ⟨_, rfl⟩
                obtain ⟨cj, hcj⟩ : ∃ x, x = c i := ⟨_, rfl⟩
                obtain ⟨pj, hpj⟩ : ∃ x, x = p i := ⟨_, rfl⟩
                rw [← hm, ← hpj, ← hcj] at e1
                have HM : Hid (m = n i + k ∧ cj = c i ∧ pj = p i) := ⟨hm, hcj, hpj⟩
                have HE : Hid (cj < m + 1 ∧ (pj = none → m = 0 ∧ cj = 0) ∧ (cellsU (X i ++ mq 100000 i k)).length = m * 1 ∧ (∀ a, pj = some a → ∀ j u, (cellsU (X i ++ mq 100000 i k))[j]? = some u → (wr.alloc (.cells #[U y] 34)).cell? (a.add j) = some u)) := by rw [hm, hcj, hpj]; exact ⟨e2, e3, e4, e5⟩
                rw [← hm] at HBD
                subst e1
                clear hm hcj hpj e2 e3 e4 e5
                go_wp2_with (at_builtin; go_loud (refine wpList_append_moves _ rfl _ _ 22 rfl 34 i0 (.int .u64 0) 1 8 Try.underlying22 hi hz0 hz1 hz2 rfl (by decide) pj m cj (cellsU (X i ++ mq 100000 i k)) rfl HE.out.2.1 HE.out.2.2.1 HE.out.2.2.2 ⟨wr.heap.size, 0, none⟩ 1 1 [U y] rfl rfl (cell_new5 _ _ _) (by intro u hu; simp at hu; subst hu; rfl) HE.out.1 HBD.out.1 HBD.out.2 ?_); intro v6 w6 hown6 hgr6)
                go_roundg gk
                case measure => omega
                case rel =>
                  rw [HY.out] at hown6 hgr6
                  rw [HM.out.1] at hown6
                  refine ⟨k + 1, by omega, by go_num, S2.newm (w := wr.alloc (.cells #[U (mkR i (100000 + k))] 34)) (gv := .slice pj m cj) (by rw [← HY.out]; exact HA.out) (row := none) (fun q hq => by cases hq) hgr6 (own_mono5 hown6 (by rw [← HY.out]; exact HA.out.hw))⟩
              · obtain ⟨m, hm⟩ : ∃ x, x = n i + k := ⟨_, rfl⟩
                have HOW : Hid ((wr.alloc (.cells #[U y] 34)).ownsRow h1 34 1 u7 m (cellsU (X i ++ mq 100000 i k))) := by rw [hm]; exact e3
                rw [← hm] at HBD
                have HM : Hid (m = n i + k) := hm
                have HSZ : Hid (h1 ≤ (wr.alloc (.cells #[U y] 34)).heap.size) := HA.out.hw
                clear hm e3
                go_wp2_with (at_builtin; refine wpList_append_own_wide _ rfl _ _ 22 rfl h1 34 i0 (.int .u64 0) 1 8 Try.underlying22 hi hz0 hz1 hz2 rfl (by decide) u7 m (cellsU (X i ++ mq 100000 i k)) rfl HOW.out ⟨wr.heap.size, 0, none⟩ 1 1 [U y] rfl rfl (cell_new5 _ _ _) (by intro u hu; simp at hu; subst hu; rfl) HBD.out.1 HBD.out.2 HSZ.out ?_; intro v6 w6 hown6 hgr6 hnil6)
                go_roundg gk
                case measure => omega
                case rel =>
                  have ho : h1 ≤ h1 ∧ ∀ q, u7.ownBlock = some q → h1 ≤ q := ⟨Nat.le_refl _, fun q hq => own_ge5 HOW.out hq⟩
                  rw [HY.out] at hown6 hgr6
                  rw [HM.out] at hown6
                  refine ⟨k + 1, by omega, by go_num, S2.newm (w := wr.alloc (.cells #[U (mkR i (100000 + k))] 34)) (gv := u7) (by rw [← HY.out]; exact HA.out) (row := u7.ownBlock) ho.2 hgr6 hown6⟩
            | zero =>
              obtain rfl : k = 16 := by omega
              obtain ⟨g7, c7, e7, hg7, hr7⟩ := HS.out.stop HIN.out.1 HIN.out.2 (by decide) (by decide)
              subst e7
              have HST : Hid _ := HS.out.sg.store (cap := c7) hg7 hr7
              have hfz := HS.out.sg.vb.frz i HIN.out.1
              have hcz := HS.out.sg.vb.cell i HIN.out.1
              clear hg7 hr7
              rw [← HNI.out.1] at HST ⊢
              go_wp2_with fail
              go_roundg gi
              case measure => omega
              case rel => exact ⟨i + 1, _, _, _, by omega, by go_num, HST.out⟩
        | zero =>
          obtain rfl : N = i := by omega
          have hnk : ¬ (N : Int) < (N : Int) := by omega
          go_wp2_with fail
          clear hnk hig
          generalize wr = wl at *
          have hbw : Below wl.heap.size wl wl := Below.refl _ _
          go_loopg [9] N (fun gk iv wr => ∃ (i : Nat), i + gk = N ∧ iv = .int .i64 i ∧ Below wl.heap.size wl wr)
          case atStart => exact ⟨0, by omega, rfl, hbw⟩
          case round =>
            clear hbw
            obtain ⟨i, hig, rfl, hbw⟩ := hrel
            cases gk with
            | succ gi =>
              have hiN : i < N := by omega
              have hil : (i : Int) < (N : Int) := by omega
              have hi0 : (0 : Int) ≤ (i : Int) ∧ (i : Int) < (N : Int) := by omega
              have HCX : Hid (wl.cell? ⟨go, i, none⟩ = some (.slice (p i) (n i) (c i))) := HSG.out.lc.cells i hiN
              have HGX : Hid (wl.cell? ⟨h0, i, none⟩ = some (.slice (some ⟨f i, 0, none⟩) (n i + 16) (cc i))) := by rw [← HSG.out.val i hiN]; exact HSG.out.vb.cell i hiN
              have HR1 : Hid (Row wl (b i) 0 (n i) (X i) ∧ Row wl (f i) 0 (n i + 16) (X i ++ mq 100000 i 16) ∧ Mk3 n X i ∧ n i ≤ 17592186044422 ∧ (n i ≠ 0 → p i = some ⟨b i, 0, none⟩)) := ⟨HSG.out.lc.row i hiN, HSG.out.row i hiN, HMK.out i hiN, HSG.out.lc.le i hiN, fun h => (HSG.out.lc.addr i hiN).resolve_left (by have := HSG.out.lc.cap i hiN; omega)⟩
              have HMI : Hid (∀ m, m < n i → (X i).getD m 0 = mkR i m) := HR1.out.2.2.1
              have HIN : Hid (i ≤ 1000) := by show _ ≤ _; omega
              obtain ⟨Xi, hXi⟩ : ∃ x, x = X i := ⟨_, rfl⟩
              rw [← hXi] at HMI
              have HR : Hid (Row wl (b i) 0 (n i) Xi ∧ Row wl (f i) 0 (n i + 16) (Xi ++ mq 100000 i 16) ∧ n i ≤ 17592186044422 ∧ (n i ≠ 0 → p i = some ⟨b i, 0, none⟩)) := by rw [hXi]; exact ⟨HR1.out.1, HR1.out.2.1, HR1.out.2.2.2.1, HR1.out.2.2.2.2⟩
              clear HR1 hiN hXi
              generalize n i = ni at *
              generalize p i = pi at *
              generalize c i = ci at *
              generalize b i = bi at *
              generalize f i = fi at *
              generalize cc i = cci at *
              have hcx := (hbw.cell (p := ⟨go, i, none⟩) (World.block_lt_of_cell? wl _ HCX.out)).trans HCX.out
              go_wp2_with fail
              clear hcx
              go_loopg [11] (ni + 16) (fun gk jv wr => ∃ (j : Nat), j + gk = ni + 16 ∧ jv = .int .i64 j ∧ Below wl.heap.size wl wr)
              case atStart => exact ⟨0, by omega, rfl, hbw⟩
              case round =>
                clear hbw
                obtain ⟨j, hjg, rfl, hbw⟩ := hrel
                have wn : wrap64 ((ni : Int) + 16) = ((ni + 16 : Nat) : Int) := wn3 HR.out.2.2.1 (by decide)
                cases gk with
                | zero =>
                  obtain rfl : j = ni + 16 := by omega
                  have hnk : ¬ ((ni + 16 : Nat) : Int) < ((ni + 16 : Nat) : Int) := by omega
                  go_wp2_with fail
                  go_roundg gi
                  case measure => omega
                  case rel => exact ⟨i + 1, by omega, by go_num, hbw⟩
                | succ gg =>
                  have HJB : Hid (j < 17592186044422 + 16) := by have := HR.out.2.2.1; show _ < _; omega
                  have hjl : (j : Int) < ((ni + 16 : Nat) : Int) := by omega
                  have hj2 : (0 : Int) ≤ (j : Int) ∧ (j : Int) < ((ni + 16 : Nat) : Int) := by omega
                  have hj3 : (0 : Int) ≤ (j : Int) ∧ (j : Int) < (ni : Int) + 16 := by omega
                  have HJN : Hid (j < ni + 16) := by show _ < _; omega
                  by_cases hjn : j < ni
                  · obtain rfl := HR.out.2.2.2 (by omega)
                    have HCA : Hid (wl.cell? ⟨bi, j, none⟩ = some (U (mkR i j))) := by rw [← HMI.out j hjn]; have := HR.out.1.cell j hjn; rw [Nat.zero_add] at this; exact this
                    have HCF : Hid (wl.cell? ⟨fi, j, none⟩ = some (U (mkR i j))) := by have := HR.out.2.1.cell j HJN.out; rw [Nat.zero_add, mq_lo (by rw [HR.out.1.len]; exact hjn), HMI.out j hjn] at this; exact this
                    obtain ⟨x, hx⟩ : ∃ x, Hid (x = mkR i j) := ⟨_, rfl⟩
                    rw [← hx.out] at HCA HCF
                    have hj5 : (j : Int) < (ni : Int) := by omega
                    have hj6 : (0 : Int) ≤ (j : Int) ∧ (j : Int) < (ni : Int) := by omega
                    have dd1 : decide ((j : Int) < (ni : Int)) = true := decide_eq_true hj5
                    have dd2 : decide ((ni : Int) ≤ (j : Int)) = false := decide_eq_false (by omega)
                    have dd3 : decide (j < ni) = true := decide_eq_true hjn
                    have dd4 : decide (ni ≤ j) = false := decide_eq_false (by omega)
                    go_wp2_with fail
                    clear wn
                    obtain ⟨W1, hW1⟩ : ∃ W1, W1 = wr.drew := ⟨_, rfl⟩
                    have hbd : Below wr.heap.size wr W1 := by rw [hW1]; exact bDrew1 (Below.refl _ _)
                    replace hbw := Below.on hbw hbd
                    clear hbd
                    have HJ : Hid ((fun W' : World => W'.cell? ⟨go, i, none⟩ = some (.slice (some ⟨bi, 0, none⟩) ni ci) ∧ W'.cell? ⟨bi, j, none⟩ = some (U x) ∧ W'.cell? ⟨h0, i, none⟩ = some (.slice (some ⟨fi, 0, none⟩) (ni + 16) cci) ∧ W'.cell? ⟨fi, j, none⟩ = some (U x)) W1) := ⟨((hbw.cell (p := ⟨go, i, none⟩) (World.block_lt_of_cell? wl _ HCX.out)).trans HCX.out), ((hbw.cell (p := ⟨bi, j, none⟩) (World.block_lt_of_cell? wl _ HCA.out)).trans HCA.out), ((hbw.cell (p := ⟨h0, i, none⟩) (World.block_lt_of_cell? wl _ HGX.out)).trans HGX.out), ((hbw.cell (p := ⟨fi, j, none⟩) (World.block_lt_of_cell? wl _ HCF.out)).trans HCF.out)⟩
                    refine wp_region_J (fun W' => W'.cell? ⟨go, i, none⟩ = some (.slice (some ⟨bi, 0, none⟩) ni ci) ∧ W'.cell? ⟨bi, j, none⟩ = some (U x) ∧ W'.cell? ⟨h0, i, none⟩ = some (.slice (some ⟨fi, 0, none⟩) (ni + 16) cci) ∧ W'.cell? ⟨fi, j, none⟩ = some (U x)) (by kernel_rfl) ?_
                    rw [← hW1]
                    clear hW1
                    refine wpJ_tq 0 rfl HJ.out ?_
                    refine wpJ_tq 1 rfl HJ.out ?_
                    refine wpJ_tq 2 rfl HJ.out ?_
                    refine wpJ_tq 3 rfl HJ.out ?_
                    refine wpJ_tq 4 rfl HJ.out ?_
                    go_simp
                    refine wpJ_tq 5 rfl HJ.out ?_
                    refine wpJ_tq 6 rfl HJ.out ?_
                    refine wpJ_tq 7 rfl HJ.out ?_
                    refine wpJ_tq 8 rfl HJ.out ?_
                    refine wpJ_tq 9 rfl HJ.out ?_
                    go_simp
                    refine wpJ_tq 10 rfl HJ.out ?_
                    refine wpJ_tq 11 rfl HJ.out ?_
                    refine wpJ_tq 12 rfl HJ.out ?_
                    refine wpJ_on 13 rfl fun KJ hK => ?_
                    go_simp
                    refine (mark3_ok i j HIN.out (Nat.lt_trans HJB.out (by decide))).mono ?_
                    rintro e w' ⟨rfl, hw⟩
                    obtain rfl := hw.symm
                    clear hw
                    rw [← hx.out]
                    clear HJ
                    have HJ : Hid ((fun W' : World => W'.cell? ⟨go, i, none⟩ = some (.slice (some ⟨bi, 0, none⟩) ni ci) ∧ W'.cell? ⟨bi, j, none⟩ = some (U x) ∧ W'.cell? ⟨h0, i, none⟩ = some (.slice (some ⟨fi, 0, none⟩) (ni + 16) cci) ∧ W'.cell? ⟨fi, j, none⟩ = some (U x)) W1) := ⟨((hbw.cell (p := ⟨go, i, none⟩) (World.block_lt_of_cell? wl _ HCX.out)).trans HCX.out), ((hbw.cell (p := ⟨bi, j, none⟩) (World.block_lt_of_cell? wl _ HCA.out)).trans HCA.out), ((hbw.cell (p := ⟨h0, i, none⟩) (World.block_lt_of_cell? wl _ HGX.out)).trans HGX.out), ((hbw.cell (p := ⟨fi, j, none⟩) (World.block_lt_of_cell? wl _ HCF.out)).trans HCF.out)⟩
                    refine hK _ _ HJ.out ?_
                    clear hK
                    refine wpJ_tq 14 rfl HJ.out ?_
                    refine wpJ_tq 15 rfl HJ.out ?_
                    refine wpJ_tq 16 rfl HJ.out ?_
                    refine wpJ_tq 17 rfl HJ.out ?_
                    refine wpJ_tq 18 rfl HJ.out ?_
                    go_simp
                    refine wpJ_tq 19 rfl HJ.out ?_
                    refine wpJ_tq 20 rfl HJ.out ?_
                    refine wpJ_tq 21 rfl HJ.out ?_
                    refine wpJ_tq 22 rfl HJ.out ?_
                    refine wpJ_tq 23 rfl HJ.out ?_
                    go_simp
                    refine wpJ_tq 24 rfl HJ.out ?_
                    refine wpJ_on 25 rfl fun KJ hK => ?_
                    go_simp
                    refine (mark3_ok i j HIN.out (Nat.lt_trans HJB.out (by decide))).mono ?_
                    rintro e w' ⟨rfl, hw⟩
                    obtain rfl := hw.symm
                    clear hw
                    rw [← hx.out]
                    clear HJ
                    have HJ : Hid ((fun W' : World => W'.cell? ⟨go, i, none⟩ = some (.slice (some ⟨bi, 0, none⟩) ni ci) ∧ W'.cell? ⟨bi, j, none⟩ = some (U x) ∧ W'.cell? ⟨h0, i, none⟩ = some (.slice (some ⟨fi, 0, none⟩) (ni + 16) cci) ∧ W'.cell? ⟨fi, j, none⟩ = some (U x)) W1) := ⟨((hbw.cell (p := ⟨go, i, none⟩) (World.block_lt_of_cell? wl _ HCX.out)).trans HCX.out), ((hbw.cell (p := ⟨bi, j, none⟩) (World.block_lt_of_cell? wl _ HCA.out)).trans HCA.out), ((hbw.cell (p := ⟨h0, i, none⟩) (World.block_lt_of_cell? wl _ HGX.out)).trans HGX.out), ((hbw.cell (p := ⟨fi, j, none⟩) (World.block_lt_of_cell? wl _ HCF.out)).trans HCF.out)⟩
                    refine hK _ _ HJ.out ?_
                    clear hK
                    refine wpJ_tq 26 rfl HJ.out ?_
                    refine wpJ_tq 27 rfl HJ.out ?_
                    refine wpJ_tq 28 rfl HJ.out ?_
                    refine wpJ_tq 29 rfl HJ.out ?_
                    refine wpJ_tq 30 rfl HJ.out ?_
                    go_simp
                    refine wpJ_tq 31 rfl HJ.out ?_
                    refine wpJ_tq 32 rfl HJ.out ?_
                    refine wpJ_tq 33 rfl HJ.out ?_
                    refine wpJ_sk 34 rfl HJ.out ?_
                    refine wpJ_sk 35 rfl HJ.out ?_
                    go_simp
                    refine wpJ_sk 36 rfl HJ.out ?_
                    refine wpJ_sk 37 rfl HJ.out ?_
                    refine wpJ_sk 38 rfl HJ.out ?_
                    refine wpJ_sk 39 rfl HJ.out ?_
                    refine wpJ_sk 40 rfl HJ.out ?_
                    go_simp
                    refine wpJ_sk 41 rfl HJ.out ?_
                    refine wpJ_sk 42 rfl HJ.out ?_
                    refine wpJ_sk 43 rfl HJ.out ?_
                    refine wpJ_sk 44 rfl HJ.out ?_
                    refine wpJ_sk 45 rfl HJ.out ?_
                    go_simp
                    refine wpJ_sk 46 rfl HJ.out ?_
                    refine wpJ_sk 47 rfl HJ.out ?_
                    refine wpJ_tq 48 rfl HJ.out ?_
                    refine wpJ_tq 49 rfl HJ.out ?_
                    refine wpJ_done (by kernel_rfl) ?_ _
                    clear HJ
                    have wj : wrap64 ((j : Int) + 1) = ((j + 1 : Nat) : Int) := wjj HJB.out (by decide)
                    clear dd1 dd2 dd3 dd4
                    go_wp2_with fail
                    have hjb := HJB.out
                    go_roundg gg
                    case measure => omega
                    case rel => exact ⟨j + 1, by omega, by go_num, hbw⟩
                  · have HCF : Hid (wl.cell? ⟨fi, j, none⟩ = some (U (mkR i (100000 + j - ni)))) := by have := HR.out.2.1.cell j HJN.out; rw [Nat.zero_add, mq_hi (by rw [HR.out.1.len]; omega) (by rw [HR.out.1.len]; exact HJN.out), HR.out.1.len] at this; exact this
                    obtain ⟨y, hy⟩ : ∃ y : Nat, y = 100000 + j - ni := ⟨_, rfl⟩
                    obtain ⟨x, hx⟩ : ∃ x, Hid (x = mkR i y) := ⟨_, rfl⟩
                    rw [← hy, ← hx.out] at HCF
                    have w1 : wrap64 (100000 + (j : Int)) = 100000 + (j : Int) := w13 HJB.out (by decide) (by decide)
                    have w2 : wrap64 (100000 + (j : Int) - (ni : Int)) = (y : Int) := w23 hy (by omega) HJB.out (by decide) (by decide)
                    have HY : Hid (y < 100000000000000) := by rw [hy]; have := HJB.out; show _ < _; omega
                    clear hy
                    have dd1 : decide ((j : Int) < (ni : Int)) = false := decide_eq_false (by omega)
                    have dd2 : decide ((ni : Int) ≤ (j : Int)) = true := decide_eq_true (by omega)
                    have dd3 : decide (j < ni) = false := decide_eq_false (by omega)
                    have dd4 : decide (ni ≤ j) = true := decide_eq_true (by omega)
                    go_wp2_with fail
                    clear wn
                    obtain ⟨W1, hW1⟩ : ∃ W1, W1 = wr.drew := ⟨_, rfl⟩
                    have hbd : Below wr.heap.size wr W1 := by rw [hW1]; exact bDrew1 (Below.refl _ _)
                    replace hbw := Below.on hbw hbd
                    clear hbd
                    have HJ : Hid ((fun W' : World => W'.cell? ⟨h0, i, none⟩ = some (.slice (some ⟨fi, 0, none⟩) (ni + 16) cci) ∧ W'.cell? ⟨fi, j, none⟩ = some (U x)) W1) := ⟨((hbw.cell (p := ⟨h0, i, none⟩) (World.block_lt_of_cell? wl _ HGX.out)).trans HGX.out), ((hbw.cell (p := ⟨fi, j, none⟩) (World.block_lt_of_cell? wl _ HCF.out)).trans HCF.out)⟩
                    refine wp_region_J (fun W' => W'.cell? ⟨h0, i, none⟩ = some (.slice (some ⟨fi, 0, none⟩) (ni + 16) cci) ∧ W'.cell? ⟨fi, j, none⟩ = some (U x)) (by kernel_rfl) ?_
                    rw [← hW1]
                    clear hW1
                    refine wpJ_tq 0 rfl HJ.out ?_
                    refine wpJ_tq 1 rfl HJ.out ?_
                    refine wpJ_tq 2 rfl HJ.out ?_
                    refine wpJ_tq 3 rfl HJ.out ?_
                    refine wpJ_sk 4 rfl HJ.out ?_
                    go_simp
                    refine wpJ_sk 5 rfl HJ.out ?_
                    refine wpJ_sk 6 rfl HJ.out ?_
                    refine wpJ_sk 7 rfl HJ.out ?_
                    refine wpJ_sk 8 rfl HJ.out ?_
                    refine wpJ_sk 9 rfl HJ.out ?_
                    go_simp
                    refine wpJ_sk 10 rfl HJ.out ?_
                    refine wpJ_sk 11 rfl HJ.out ?_
                    refine wpJ_sk 12 rfl HJ.out ?_
                    refine wpJ_sk 13 rfl HJ.out ?_
                    refine wpJ_sk 14 rfl HJ.out ?_
                    go_simp
                    refine wpJ_sk 15 rfl HJ.out ?_
                    refine wpJ_sk 16 rfl HJ.out ?_
                    refine wpJ_sk 17 rfl HJ.out ?_
                    refine wpJ_sk 18 rfl HJ.out ?_
                    refine wpJ_sk 19 rfl HJ.out ?_
                    go_simp
                    refine wpJ_sk 20 rfl HJ.out ?_
                    refine wpJ_sk 21 rfl HJ.out ?_
                    refine wpJ_sk 22 rfl HJ.out ?_
                    refine wpJ_sk 23 rfl HJ.out ?_
                    refine wpJ_sk 24 rfl HJ.out ?_
                    go_simp
                    refine wpJ_sk 25 rfl HJ.out ?_
                    refine wpJ_sk 26 rfl HJ.out ?_
                    refine wpJ_sk 27 rfl HJ.out ?_
                    refine wpJ_tq 28 rfl HJ.out ?_
                    refine wpJ_tq 29 rfl HJ.out ?_
                    go_simp
                    refine wpJ_tq 30 rfl HJ.out ?_
                    refine wpJ_tq 31 rfl HJ.out ?_
                    refine wpJ_tq 32 rfl HJ.out ?_
                    refine wpJ_tq 33 rfl HJ.out ?_
                    refine wpJ_tq 34 rfl HJ.out ?_
                    go_simp
                    refine wpJ_tq 35 rfl HJ.out ?_
                    refine wpJ_tq 36 rfl HJ.out ?_
                    refine wpJ_tq 37 rfl HJ.out ?_
                    refine wpJ_tq 38 rfl HJ.out ?_
                    refine wpJ_tq 39 rfl HJ.out ?_
                    go_simp
                    refine wpJ_tq 40 rfl HJ.out ?_
                    refine wpJ_tq 41 rfl HJ.out ?_
                    refine wpJ_tq 42 rfl HJ.out ?_
                    refine wpJ_tq 43 rfl HJ.out ?_
                    refine wpJ_tq 44 rfl HJ.out ?_
                    go_simp
                    refine wpJ_tq 45 rfl HJ.out ?_
                    refine wpJ_on 46 rfl fun KJ hK => ?_
                    go_simp
                    rw [show IntKind.i64.wrap (IntKind.i64.wrap (100000 + (j : Int)) - (ni : Int)) = (y : Int) from (by rw [show ∀ z : Int, IntKind.i64.wrap z = wrap64 z from fun z => by simp [IntKind.wrap_i64, wrap64], show ∀ z : Int, IntKind.i64.wrap z = wrap64 z from fun z => by simp [IntKind.wrap_i64, wrap64], w1, w2])]
                    refine (mark3_ok i y HIN.out HY.out).mono ?_
                    rintro e w' ⟨rfl, hw⟩
                    obtain rfl := hw.symm
                    clear hw
                    rw [← hx.out]
                    clear HJ
                    have HJ : Hid ((fun W' : World => W'.cell? ⟨h0, i, none⟩ = some (.slice (some ⟨fi, 0, none⟩) (ni + 16) cci) ∧ W'.cell? ⟨fi, j, none⟩ = some (U x)) W1) := ⟨((hbw.cell (p := ⟨h0, i, none⟩) (World.block_lt_of_cell? wl _ HGX.out)).trans HGX.out), ((hbw.cell (p := ⟨fi, j, none⟩) (World.block_lt_of_cell? wl _ HCF.out)).trans HCF.out)⟩
                    refine hK _ _ HJ.out ?_
                    clear hK
                    refine wpJ_tq 47 rfl HJ.out ?_
                    refine wpJ_tq 48 rfl HJ.out ?_
                    refine wpJ_tq 49 rfl HJ.out ?_
                    refine wpJ_done (by kernel_rfl) ?_ _
                    clear HJ
                    have wj : wrap64 ((j : Int) + 1) = ((j + 1 : Nat) : Int) := wjj HJB.out (by decide)
                    clear dd1 dd2 dd3 dd4 w1 w2
                    go_wp2_with fail
                    have hjb := HJB.out
                    go_roundg gg
                    case measure => omega
                    case rel => exact ⟨j + 1, by omega, by go_num, hbw⟩
            | zero =>
              obtain rfl : N = i := by omega
              have hnk : ¬ (N : Int) < (N : Int) := by omega
              go_wp2_with (at_make; refine wpList_make_full _ rfl _ _ 22 rfl wr.heap.size 34 i0 (.int .u64 0) 1 Try.underlying22 hi hz0 hz1 _ _ _ _ 64 rfl rfl (by omega) (by omega) (by rw [hz2]; omega) (by unfold maxLen; omega) (Nat.le_refl _) ?_; intro w2 hown hgrow; have hb := made_blk hown hgrow; clear hown hgrow)
              clear hnk hig
              have hm2 : Row w2 wr.heap.size 0 64 (List.replicate 64 0) := by have := hb.1.row (Dig.replicate B64 64 B64_pos); rw [List.length_replicate] at this; exact this
              have sgb := (HSG.out.below hbw).below hb.2
              have hs2 : wr.heap.size < w2.heap.size := World.block_lt_of_cell? w2 _ (hm2.cell 0 (by decide))
              have hs3 : h0 < wr.heap.size := Nat.lt_of_lt_of_le HSG.out.sz hbw.size
              have HS4 : Hid (SG w w2 B go N p n c b X h0 wr.heap.size 64 200000 0 F f cc ∧ Row w2 wr.heap.size 0 64 (List.replicate 64 0)) := ⟨⟨sgb.lc, sgb.vb, fun k hk => absurd hk (Nat.not_lt_zero _), fun k hk => absurd hk (Nat.not_lt_zero _), fun k hk => absurd hk (Nat.not_lt_zero _), sgb.bb, hs2, ⟨sgb.bh.1, Nat.le_of_lt hs3, sgb.bh.2.2.1, by decide⟩, sgb.lo⟩, hm2⟩
              have HHM : Hid (h0 < wr.heap.size ∧ B ≤ wr.heap.size) := ⟨hs3, Nat.le_of_lt (Nat.lt_of_le_of_lt sgb.bh.1 hs3)⟩
              clear hm2 sgb hs2 hs3 hb hbw HSG
              generalize wr.heap.size = hm at *
              go_loopg [13] N (fun gk iv wr => ∃ (i : Nat) (F : Nat → Value) (f cc : Nat → Nat) (ys : List Nat), i + gk = N ∧ iv = .int .i64 i ∧ SG w wr B go N p n c b X h0 hm 64 200000 i F f cc ∧ Row wr hm 0 64 ys)
              case atStart => exact ⟨0, F, f, cc, _, by omega, rfl, HS4.out⟩
              case round =>
                clear HS4
                obtain ⟨i, F, f, cc, ys, hig, rfl, xs⟩ := hrel
                have HS4 : Hid (SG w wr B go N p n c b X h0 hm 64 200000 i F f cc ∧ Row wr hm 0 64 ys) := xs
                clear xs
                cases gk with
                | succ gi =>
                  have hil : (i : Int) < (N : Int) := by omega
                  have hi0 : (0 : Int) ≤ (i : Int) ∧ (i : Int) < (N : Int) := by omega
                  have HIN : Hid (i < N ∧ i ≤ 1000) := ⟨by omega, by omega⟩
                  go_wp2_with fail
                  go_loopg [14] 64 (fun gk jv wr => ∃ (j : Nat) (ys : List Nat), j + gk = 64 ∧ jv = .int .i64 j ∧ SG w wr B go N p n c b X h0 hm 64 200000 i F f cc ∧ Row wr hm 0 64 ys ∧ ∀ m, m < j → ys.getD m 0 = mkR i (200000 + m))
                  case atStart => exact ⟨0, ys, by omega, rfl, HS4.out.1, HS4.out.2, fun m hm => absurd hm (Nat.not_lt_zero _)⟩
                  case round =>
                    clear HS4
                    obtain ⟨j, ys, hjg, rfl, x1, x2, x3⟩ := hrel
                    have HS4 : Hid (SG w wr B go N p n c b X h0 hm 64 200000 i F f cc ∧ Row wr hm 0 64 ys ∧ ∀ m, m < j → ys.getD m 0 = mkR i (200000 + m)) := ⟨x1, x2, x3⟩
                    clear x1 x2 x3
                    cases gk with
                    | succ gj =>
                      have hjl : (j : Int) < 64 := by omega
                      have hj0 : (0 : Int) ≤ (j : Int) ∧ (j : Int) < 64 := by omega
                      have HJ6 : Hid (j < 64) := by show _ < _; omega
                      have HWJ : Hid (wrap64 (200000 + (j : Int)) = ((200000 + j : Nat) : Int)) := wj3 HJ6.out
                      have hcl := HS4.out.2.1.cell j HJ6.out
                      have hfr := HS4.out.2.1.frozen j HJ6.out
                      rw [Nat.zero_add] at hcl hfr
                      have HCL : Hid (wr.cell? ⟨hm, j, none⟩ = some (U (ys.getD j 0)) ∧ wr.frozen? ⟨hm, j, none⟩ = false) := ⟨hcl, hfr⟩
                      clear hcl hfr
                      go_wp2_with fail
                      refine (mark3_ok i (200000 + j) HIN.out.2 (by have := HJ6.out; omega)).mono ?_
                      rintro e w' ⟨rfl, hw⟩
                      obtain rfl := hw.symm
                      clear hw
                      obtain ⟨y, hy⟩ : ∃ y, Hid (y = mkR i (200000 + j)) := ⟨_, rfl⟩
                      rw [← hy.out]
                      have hcl := HCL.out.1
                      have hfr := HCL.out.2
                      have HS5 : Hid (SG w (wr.setCell ⟨hm, j, none⟩ (U y)) B go N p n c b X h0 hm 64 200000 i F f cc) := HS4.out.1.away (bSet (Below.refl _ _) hm j (U y) HHM.out.2) hm ⟨Nat.le_refl _, HHM.out.1⟩ (fun k hk => Nat.ne_of_gt (HS4.out.1.gt k hk)) (fun k hk hne => Below.heap_setCell wr _ _ k hne)
                      have HR5 : Hid (Row (wr.setCell ⟨hm, j, none⟩ (U y)) hm 0 64 (ys.set j y)) := by have h9 := HS4.out.2.1.set j y HJ6.out (by rw [hy.out]; exact mkR_lt HIN.out.2 (by have := HJ6.out; omega)); rw [Nat.zero_add] at h9; exact h9
                      go_wp2_with fail
                      go_roundg gj
                      case measure => omega
                      case rel =>
                        refine ⟨j + 1, ys.set j y, by omega, by go_num, HS5.out, HR5.out, fun m hm => ?_⟩
                        rw [getD_set _ _ _ _ (by rw [HS4.out.2.1.len]; exact HJ6.out)]
                        by_cases e : m = j
                        · rw [if_pos e, e, hy.out]
                        · rw [if_neg e]; exact HS4.out.2.2 m (by omega)
                    | zero =>
                      obtain rfl : j = 64 := by omega
                      have HQ : Hid (ys = mq 200000 i 64) := mq_eq HS4.out.2.1.len HS4.out.2.2
                      have hle := HS4.out.1.lc.le i HIN.out.1
                      have hsix := HS4.out.1.lc.six i HIN.out.1
                      have hpn := HS4.out.1.lc.pn i HIN.out.1
                      have hcx := HS4.out.1.lc.cells i HIN.out.1
                      have HOL : Hid ((cellsU (X i)).length = n i * 1 ∧ ∀ a, p i = some a → ∀ j u, (cellsU (X i))[j]? = some u → wr.cell? (a.add j) = some u) := lc_src HS4.out.1.lc HIN.out.1
                      have HNW : Hid ((cellsU (mq 200000 i 64)).length = 64 * 1 ∧ (∀ j u, (cellsU (mq 200000 i 64))[j]? = some u → wr.cell? ((⟨hm, 0, none⟩ : Addr).add j) = some u) ∧ ∀ u ∈ cellsU (mq 200000 i 64), u.oneCell' = true) := row_src (by rw [← HQ.out]; exact HS4.out.2.1)
                      obtain ⟨ni, hni⟩ : ∃ x, x = n i := ⟨_, rfl⟩
                      obtain ⟨pi, hpi⟩ : ∃ x, x = p i := ⟨_, rfl⟩
                      obtain ⟨ci, hci⟩ : ∃ x, x = c i := ⟨_, rfl⟩
                      rw [← hni, ← hpi, ← hci] at hcx
                      rw [← hni, ← hpi] at HOL
                      rw [← hni, ← hci] at hsix
                      rw [← hni, ← hci, ← hpi] at hpn
                      rw [← hni] at hle
                      have HNI : Hid (ni = n i ∧ pi = p i ∧ ci = c i) := ⟨hni, hpi, hci⟩
                      have HBD : Hid (ci < ni + 64 ∧ ni + 64 ≤ maxLen ∧ ((ni + 64) + (ni + 64) / 4 + 192) * 8 ≤ 281474976710656 ∧ (pi = none → ni = 0 ∧ ci = 0)) := ⟨by omega, (bd4 hle).1, (bd4 hle).2, hpn⟩
                      clear hni hpi hci hle hsix hpn
                      have hfz := HS4.out.1.vb.frz i HIN.out.1
                      have hcz := HS4.out.1.vb.cell i HIN.out.1
                      go_wp2_with (at_builtin; go_loud (refine wpList_append_moves _ rfl _ _ 22 rfl 34 i0 (.int .u64 0) 1 8 Try.underlying22 hi hz0 hz1 hz2 rfl (by decide) pi ni ci (cellsU (X i)) rfl HBD.out.2.2.2 HOL.out.1 HOL.out.2 ⟨hm, 0, none⟩ 64 64 (cellsU (mq 200000 i 64)) rfl HNW.out.1 HNW.out.2.1 HNW.out.2.2 HBD.out.1 HBD.out.2.1 HBD.out.2.2.1 ?_); intro v6 w6 hown6 hgr6; obtain ⟨g6, c6, rfl, hg6, hl6⟩ := own_cut5 (k := ni + 63) hown6; have hb6 : Below wr.heap.size wr w6 := (Below.refl _ _).grown hgr6 (Nat.le_refl _) (fun k hk => by cases hk); have hfz6 := (hb6.frozen (p := ⟨h0, i, none⟩) (World.block_lt_of_cell? wr _ hcz)).trans hfz; have hcz6 := (hb6.cell (p := ⟨h0, i, none⟩) (World.block_lt_of_cell? wr _ hcz)).trans hcz; clear hfz hcz hcx)
                      have hr6 : Row w6 g6 0 (n i + 64) (X i ++ mq 200000 i 64) := by
                        rw [← HNI.out.1]
                        refine own_row3 (c := c6) (B := wr.heap.size) ?_ (dig_app5 (HS4.out.1.lc.row i HIN.out.1).dig (mq_dig HIN.out.2 (by decide)))
                        rw [show cellsU (X i ++ mq 200000 i 64) = cellsU (X i) ++ cellsU (mq 200000 i 64) from by unfold cellsU; rw [List.map_append]]
                        exact hown6
                      have HST : Hid _ := (HS4.out.1.below hb6).store (cap := c6) (Nat.lt_of_lt_of_le HS4.out.1.sz hg6) hr6
                      have HR5 : Hid (Row (w6.setCell ⟨h0, i, none⟩ (.slice (some ⟨g6, 0, none⟩) (n i + 64) c6)) hm 0 64 ys) := ((HS4.out.2.1.below hb6 HS4.out.1.sz).keepB (fun _ => Below.heap_setCell _ _ _ _ (Nat.ne_of_gt HHM.out.1)))
                      go_roundg gi
                      case measure => omega
                      case rel => rw [← HNI.out.1] at HST HR5; exact ⟨i + 1, _, _, _, ys, by omega, by go_num, HST.out, HR5.out⟩
                | zero =>
                  obtain rfl : N = i := by omega
                  have hnk : ¬ (N : Int) < (N : Int) := by omega
                  go_wp2_with fail
                  clear hnk hig
                  have HSG : Hid (SG w wr B go N p n c b X h0 hm 64 200000 N F f cc) := HS4.out.1
                  clear HS4
                  generalize wr = wl at *
                  have hbw : Below wl.heap.size wl wl := Below.refl _ _
                  go_loopg [15] N (fun gk iv wr => ∃ (i : Nat), i + gk = N ∧ iv = .int .i64 i ∧ Below wl.heap.size wl wr)
                  case atStart => exact ⟨0, by omega, rfl, hbw⟩
                  case round =>
                    clear hbw
                    obtain ⟨i, hig, rfl, hbw⟩ := hrel
                    cases gk with
                    | succ gi =>
                      have hiN : i < N := by omega
                      have hil : (i : Int) < (N : Int) := by omega
                      have hi0 : (0 : Int) ≤ (i : Int) ∧ (i : Int) < (N : Int) := by omega
                      have HCX : Hid (wl.cell? ⟨go, i, none⟩ = some (.slice (p i) (n i) (c i))) := HSG.out.lc.cells i hiN
                      have HGX : Hid (wl.cell? ⟨h0, i, none⟩ = some (.slice (some ⟨f i, 0, none⟩) (n i + 64) (cc i))) := by rw [← HSG.out.val i hiN]; exact HSG.out.vb.cell i hiN
                      have HR1 : Hid (Row wl (b i) 0 (n i) (X i) ∧ Row wl (f i) 0 (n i + 64) (X i ++ mq 200000 i 64) ∧ Mk3 n X i ∧ n i ≤ 17592186044422 ∧ (n i ≠ 0 → p i = some ⟨b i, 0, none⟩)) := ⟨HSG.out.lc.row i hiN, HSG.out.row i hiN, HMK.out i hiN, HSG.out.lc.le i hiN, fun h => (HSG.out.lc.addr i hiN).resolve_left (by have := HSG.out.lc.cap i hiN; omega)⟩
                      have HMI : Hid (∀ m, m < n i → (X i).getD m 0 = mkR i m) := HR1.out.2.2.1
                      have HIN : Hid (i ≤ 1000) := by show _ ≤ _; omega
                      obtain ⟨Xi, hXi⟩ : ∃ x, x = X i := ⟨_, rfl⟩
                      rw [← hXi] at HMI
                      have HR : Hid (Row wl (b i) 0 (n i) Xi ∧ Row wl (f i) 0 (n i + 64) (Xi ++ mq 200000 i 64) ∧ n i ≤ 17592186044422 ∧ (n i ≠ 0 → p i = some ⟨b i, 0, none⟩)) := by rw [hXi]; exact ⟨HR1.out.1, HR1.out.2.1, HR1.out.2.2.2.1, HR1.out.2.2.2.2⟩
                      clear HR1 hiN hXi
                      generalize n i = ni at *
                      generalize p i = pi at *
                      generalize c i = ci at *
                      generalize b i = bi at *
                      generalize f i = fi at *
                      generalize cc i = cci at *
                      have hcx := (hbw.cell (p := ⟨go, i, none⟩) (World.block_lt_of_cell? wl _ HCX.out)).trans HCX.out
                      go_wp2_with fail
                      clear hcx
                      go_loopg [17] (ni + 64) (fun gk jv wr => ∃ (j : Nat), j + gk = ni + 64 ∧ jv = .int .i64 j ∧ Below wl.heap.size wl wr)
                      case atStart => exact ⟨0, by omega, rfl, hbw⟩
                      case round =>
                        clear hbw
                        obtain ⟨j, hjg, rfl, hbw⟩ := hrel
                        have wn : wrap64 ((ni : Int) + 64) = ((ni + 64 : Nat) : Int) := wn3 HR.out.2.2.1 (by decide)
                        cases gk with
                        | zero =>
                          obtain rfl : j = ni + 64 := by omega
                          have hnk : ¬ ((ni + 64 : Nat) : Int) < ((ni + 64 : Nat) : Int) := by omega
                          go_wp2_with fail
                          go_roundg gi
                          case measure => omega
                          case rel => exact ⟨i + 1, by omega, by go_num, hbw⟩
                        | succ gg =>
                          have HJB : Hid (j < 17592186044422 + 64) := by have := HR.out.2.2.1; show _ < _; omega
                          have hjl : (j : Int) < ((ni + 64 : Nat) : Int) := by omega
                          have hj2 : (0 : Int) ≤ (j : Int) ∧ (j : Int) < ((ni + 64 : Nat) : Int) := by omega
                          have hj3 : (0 : Int) ≤ (j : Int) ∧ (j : Int) < (ni : Int) + 64 := by omega
                          have HJN : Hid (j < ni + 64) := by show _ < _; omega
                          by_cases hjn : j < ni
                          · obtain rfl := HR.out.2.2.2 (by omega)
                            have HCA : Hid (wl.cell? ⟨bi, j, none⟩ = some (U (mkR i j))) := by rw [← HMI.out j hjn]; have := HR.out.1.cell j hjn; rw [Nat.zero_add] at this; exact this
                            have HCF : Hid (wl.cell? ⟨fi, j, none⟩ = some (U (mkR i j))) := by have := HR.out.2.1.cell j HJN.out; rw [Nat.zero_add, mq_lo (by rw [HR.out.1.len]; exact hjn), HMI.out j hjn] at this; exact this
                            obtain ⟨x, hx⟩ : ∃ x, Hid (x = mkR i j) := ⟨_, rfl⟩
                            rw [← hx.out] at HCA HCF
                            have hj5 : (j : Int) < (ni : Int) := by omega
                            have hj6 : (0 : Int) ≤ (j : Int) ∧ (j : Int) < (ni : Int) := by omega
                            have dd1 : decide ((j : Int) < (ni : Int)) = true := decide_eq_true hj5
                            have dd2 : decide ((ni : Int) ≤ (j : Int)) = false := decide_eq_false (by omega)
                            have dd3 : decide (j < ni) = true := decide_eq_true hjn
                            have dd4 : decide (ni ≤ j) = false := decide_eq_false (by omega)
                            go_wp2_with fail
                            clear wn
                            obtain ⟨W1, hW1⟩ : ∃ W1, W1 = wr.drew := ⟨_, rfl⟩
                            have hbd : Below wr.heap.size wr W1 := by rw [hW1]; exact bDrew1 (Below.refl _ _)
                            replace hbw := Below.on hbw hbd
                            clear hbd
                            have HJ : Hid ((fun W' : World => W'.cell? ⟨go, i, none⟩ = some (.slice (some ⟨bi, 0, none⟩) ni ci) ∧ W'.cell? ⟨bi, j, none⟩ = some (U x)) W1) := ⟨((hbw.cell (p := ⟨go, i, none⟩) (World.block_lt_of_cell? wl _ HCX.out)).trans HCX.out), ((hbw.cell (p := ⟨bi, j, none⟩) (World.block_lt_of_cell? wl _ HCA.out)).trans HCA.out)⟩
                            refine wp_region_J (fun W' => W'.cell? ⟨go, i, none⟩ = some (.slice (some ⟨bi, 0, none⟩) ni ci) ∧ W'.cell? ⟨bi, j, none⟩ = some (U x)) (by kernel_rfl) ?_
                            rw [← hW1]
                            clear hW1
                            refine wpJ_tq 0 rfl HJ.out ?_
                            refine wpJ_tq 1 rfl HJ.out ?_
                            refine wpJ_tq 2 rfl HJ.out ?_
                            refine wpJ_tq 3 rfl HJ.out ?_
                            refine wpJ_tq 4 rfl HJ.out ?_
                            go_simp
                            refine wpJ_tq 5 rfl HJ.out ?_
                            refine wpJ_tq 6 rfl HJ.out ?_
                            refine wpJ_tq 7 rfl HJ.out ?_
                            refine wpJ_tq 8 rfl HJ.out ?_
                            refine wpJ_tq 9 rfl HJ.out ?_
                            go_simp
                            refine wpJ_tq 10 rfl HJ.out ?_
                            refine wpJ_tq 11 rfl HJ.out ?_
                            refine wpJ_tq 12 rfl HJ.out ?_
                            refine wpJ_on 13 rfl fun KJ hK => ?_
                            go_simp
                            refine (mark3_ok i j HIN.out (Nat.lt_trans HJB.out (by decide))).mono ?_
                            rintro e w' ⟨rfl, hw⟩
                            obtain rfl := hw.symm
                            clear hw
                            rw [← hx.out]
                            clear HJ
                            have HJ : Hid ((fun W' : World => W'.cell? ⟨go, i, none⟩ = some (.slice (some ⟨bi, 0, none⟩) ni ci) ∧ W'.cell? ⟨bi, j, none⟩ = some (U x)) W1) := ⟨((hbw.cell (p := ⟨go, i, none⟩) (World.block_lt_of_cell? wl _ HCX.out)).trans HCX.out), ((hbw.cell (p := ⟨bi, j, none⟩) (World.block_lt_of_cell? wl _ HCA.out)).trans HCA.out)⟩
                            refine hK _ _ HJ.out ?_
                            clear hK
                            refine wpJ_tq 14 rfl HJ.out ?_
                            refine wpJ_tq 15 rfl HJ.out ?_
                            refine wpJ_tq 16 rfl HJ.out ?_
                            refine wpJ_tq 17 rfl HJ.out ?_
                            refine wpJ_tq 18 rfl HJ.out ?_
                            go_simp
                            refine wpJ_tq 19 rfl HJ.out ?_
                            refine wpJ_tq 20 rfl HJ.out ?_
                            refine wpJ_sk 21 rfl HJ.out ?_
                            refine wpJ_sk 22 rfl HJ.out ?_
                            refine wpJ_sk 23 rfl HJ.out ?_
                            go_simp
                            refine wpJ_sk 24 rfl HJ.out ?_
                            refine wpJ_sk 25 rfl HJ.out ?_
                            refine wpJ_sk 26 rfl HJ.out ?_
                            refine wpJ_sk 27 rfl HJ.out ?_
                            refine wpJ_sk 28 rfl HJ.out ?_
                            go_simp
                            refine wpJ_sk 29 rfl HJ.out ?_
                            refine wpJ_sk 30 rfl HJ.out ?_
                            refine wpJ_sk 31 rfl HJ.out ?_
                            refine wpJ_sk 32 rfl HJ.out ?_
                            refine wpJ_sk 33 rfl HJ.out ?_
                            go_simp
                            refine wpJ_sk 34 rfl HJ.out ?_
                            refine wpJ_tq 35 rfl HJ.out ?_
                            refine wpJ_tq 36 rfl HJ.out ?_
                            refine wpJ_done (by kernel_rfl) ?_ _
                            clear HJ
                            have wj : wrap64 ((j : Int) + 1) = ((j + 1 : Nat) : Int) := wjj HJB.out (by decide)
                            clear dd1 dd2 dd3 dd4
                            go_wp2_with fail
                            have hjb := HJB.out
                            go_roundg gg
                            case measure => omega
                            case rel => exact ⟨j + 1, by omega, by go_num, hbw⟩
                          · have HCF : Hid (wl.cell? ⟨fi, j, none⟩ = some (U (mkR i (200000 + j - ni)))) := by have := HR.out.2.1.cell j HJN.out; rw [Nat.zero_add, mq_hi (by rw [HR.out.1.len]; omega) (by rw [HR.out.1.len]; exact HJN.out), HR.out.1.len] at this; exact this
                            obtain ⟨y, hy⟩ : ∃ y : Nat, y = 200000 + j - ni := ⟨_, rfl⟩
                            obtain ⟨x, hx⟩ : ∃ x, Hid (x = mkR i y) := ⟨_, rfl⟩
                            rw [← hy, ← hx.out] at HCF
                            have w1 : wrap64 (200000 + (j : Int)) = 200000 + (j : Int) := w13 HJB.out (by decide) (by decide)
                            have w2 : wrap64 (200000 + (j : Int) - (ni : Int)) = (y : Int) := w23 hy (by omega) HJB.out (by decide) (by decide)
                            have HY : Hid (y < 100000000000000) := by rw [hy]; have := HJB.out; show _ < _; omega
                            clear hy
                            have dd1 : decide ((j : Int) < (ni : Int)) = false := decide_eq_false (by omega)
                            have dd2 : decide ((ni : Int) ≤ (j : Int)) = true := decide_eq_true (by omega)
                            have dd3 : decide (j < ni) = false := decide_eq_false (by omega)
                            have dd4 : decide (ni ≤ j) = true := decide_eq_true (by omega)
                            go_wp2_with fail
                            clear wn
                            obtain ⟨W1, hW1⟩ : ∃ W1, W1 = wr.drew := ⟨_, rfl⟩
                            have hbd : Below wr.heap.size wr W1 := by rw [hW1]; exact bDrew1 (Below.refl _ _)
                            replace hbw := Below.on hbw hbd
                            clear hbd
                            have HJ : Hid ((fun W' : World => W'.cell? ⟨h0, i, none⟩ = some (.slice (some ⟨fi, 0, none⟩) (ni + 64) cci) ∧ W'.cell? ⟨fi, j, none⟩ = some (U x)) W1) := ⟨((hbw.cell (p := ⟨h0, i, none⟩) (World.block_lt_of_cell? wl _ HGX.out)).trans HGX.out), ((hbw.cell (p := ⟨fi, j, none⟩) (World.block_lt_of_cell? wl _ HCF.out)).trans HCF.out)⟩
                            refine wp_region_J (fun W' => W'.cell? ⟨h0, i, none⟩ = some (.slice (some ⟨fi, 0, none⟩) (ni + 64) cci) ∧ W'.cell? ⟨fi, j, none⟩ = some (U x)) (by kernel_rfl) ?_
                            rw [← hW1]
                            clear hW1
                            refine wpJ_tq 0 rfl HJ.out ?_
                            refine wpJ_tq 1 rfl HJ.out ?_
                            refine wpJ_tq 2 rfl HJ.out ?_
                            refine wpJ_tq 3 rfl HJ.out ?_
                            refine wpJ_sk 4 rfl HJ.out ?_
                            go_simp
                            refine wpJ_sk 5 rfl HJ.out ?_
                            refine wpJ_sk 6 rfl HJ.out ?_
                            refine wpJ_sk 7 rfl HJ.out ?_
                            refine wpJ_sk 8 rfl HJ.out ?_
                            refine wpJ_sk 9 rfl HJ.out ?_
                            go_simp
                            refine wpJ_sk 10 rfl HJ.out ?_
                            refine wpJ_sk 11 rfl HJ.out ?_
                            refine wpJ_sk 12 rfl HJ.out ?_
                            refine wpJ_sk 13 rfl HJ.out ?_
                            refine wpJ_sk 14 rfl HJ.out ?_
                            go_simp
                            refine wpJ_tq 15 rfl HJ.out ?_
                            refine wpJ_tq 16 rfl HJ.out ?_
                            refine wpJ_tq 17 rfl HJ.out ?_
                            refine wpJ_tq 18 rfl HJ.out ?_
                            refine wpJ_tq 19 rfl HJ.out ?_
                            go_simp
                            refine wpJ_tq 20 rfl HJ.out ?_
                            refine wpJ_tq 21 rfl HJ.out ?_
                            refine wpJ_tq 22 rfl HJ.out ?_
                            refine wpJ_tq 23 rfl HJ.out ?_
                            refine wpJ_tq 24 rfl HJ.out ?_
                            go_simp
                            refine wpJ_tq 25 rfl HJ.out ?_
                            refine wpJ_tq 26 rfl HJ.out ?_
                            refine wpJ_tq 27 rfl HJ.out ?_
                            refine wpJ_tq 28 rfl HJ.out ?_
                            refine wpJ_tq 29 rfl HJ.out ?_
                            go_simp
                            refine wpJ_tq 30 rfl HJ.out ?_
                            refine wpJ_tq 31 rfl HJ.out ?_
                            refine wpJ_tq 32 rfl HJ.out ?_
                            refine wpJ_on 33 rfl fun KJ hK => ?_
                            go_simp
                            rw [show IntKind.i64.wrap (IntKind.i64.wrap (200000 + (j : Int)) - (ni : Int)) = (y : Int) from (by rw [show ∀ z : Int, IntKind.i64.wrap z = wrap64 z from fun z => by simp [IntKind.wrap_i64, wrap64], show ∀ z : Int, IntKind.i64.wrap z = wrap64 z from fun z => by simp [IntKind.wrap_i64, wrap64], w1, w2])]
                            refine (mark3_ok i y HIN.out HY.out).mono ?_
                            rintro e w' ⟨rfl, hw⟩
                            obtain rfl := hw.symm
                            clear hw
                            rw [← hx.out]
                            clear HJ
                            have HJ : Hid ((fun W' : World => W'.cell? ⟨h0, i, none⟩ = some (.slice (some ⟨fi, 0, none⟩) (ni + 64) cci) ∧ W'.cell? ⟨fi, j, none⟩ = some (U x)) W1) := ⟨((hbw.cell (p := ⟨h0, i, none⟩) (World.block_lt_of_cell? wl _ HGX.out)).trans HGX.out), ((hbw.cell (p := ⟨fi, j, none⟩) (World.block_lt_of_cell? wl _ HCF.out)).trans HCF.out)⟩
                            refine hK _ _ HJ.out ?_
                            clear hK
                            refine wpJ_tq 34 rfl HJ.out ?_
                            refine wpJ_tq 35 rfl HJ.out ?_
                            refine wpJ_tq 36 rfl HJ.out ?_
                            refine wpJ_done (by kernel_rfl) ?_ _
                            clear HJ
                            have wj : wrap64 ((j : Int) + 1) = ((j + 1 : Nat) : Int) := wjj HJB.out (by decide)
                            clear dd1 dd2 dd3 dd4 w1 w2
                            go_wp2_with fail
                            have hjb := HJB.out
                            go_roundg gg
                            case measure => omega
                            case rel => exact ⟨j + 1, by omega, by go_num, hbw⟩
                    | zero =>
                      obtain rfl : N = i := by omega
                      have hnk : ¬ (N : Int) < (N : Int) := by omega
                      go_wp2_with fail
                      go_ret
                      exact ⟨rfl, (HSG.out.below hbw).bb⟩
end Go.Proofs.Ytjhopiaeppgioaa
namespace Go.Proofs.Ytjhopiaeppgioaa
open Go.RowKit
set_option maxRecDepth 20000
set_option maxHeartbeats 0
structure DnRel (w : World) (g n : Nat) (zs : List Nat) (s k : Nat) (dk : List Nat) (wr : World) : Prop where
  wrs : Wr g 0 n w wr
  row : Row wr g 0 n dk
  hi : dk.drop k = zs.drop k
  sum : 2 ^ s * valB B64 (dk.take k) + cout zs s 0 = valB B64 (zs.take k) + B64 ^ k * cout zs s k

theorem DnRel.step {w : World} {g n : Nat} {zs : List Nat} {s k : Nat} {dk : List Nat} {wr wr' : World} (h : DnRel w g n zs s k dk wr) (hk : k < n) (hz : zs.length = n) (hs : s ≤ 64) {d : Nat}
    (hd : d = dk.getD k 0 / 2 ^ s + 2 ^ (64 - s) * cout zs s (k + 1)) (hw : Wr g 0 n w wr') (hr : Row wr' g 0 n (dk.set k d)) : DnRel w g n zs s (k + 1) (dk.set k d) wr' := by
  have hl := h.row.len
  refine ⟨hw, hr, ?_, ?_⟩
  · rw [drop_set_lt]; exact drop_succ_of_drop h.hi
  · rw [take_set_succ dk k d (by omega), valB_snoc, List.length_take, hl, Nat.min_eq_left (by omega)]
    exact down_step hs (by rw [hd, getD_of_drop h.hi]) h.sum (by omega)

theorem sdn_any (g n c s : Nat) (zs : List Nat) (w : World) (hz : Row w g 0 n zs) (hnc : n ≤ c) (hbig : c ≤ 9223372036854775807) (hs : s < 64) :
    Calls Try.prog 32 #[.slice (some ⟨g, 0, none⟩) n c, .int .i64 s] w fun e w' =>
      ∃ zs', e = .returned (.tuple #[]) ∧ Wr g 0 n w w' ∧ Row w' g 0 n zs' ∧ valB B64 zs' = valB B64 zs / 2 ^ s := by
  have hl := hz.len
  go_enter Try.func32, Try.ntmps32
  go_wp2
  go_loopw [4, 7] (fun _ i wr => ∃ (k : Nat) (dk : List Nat), k ≤ n ∧ i = .int .i64 k ∧ DnRel w g n zs s k dk wr) (fun _ i _ => n - (intOf i).toNat)
  case atStart => exact ⟨0, zs, Nat.zero_le _, rfl, Wr.refl _ _ _ _, hz, rfl, by simp [valB]⟩
  case round =>
    obtain ⟨k, dk, hk, rfl, hR⟩ := hrel
    by_cases hlt : k < n
    · obtain ⟨x, hx⟩ : ∃ x, x = dk.getD k 0 := ⟨_, rfl⟩
      have HR : Hid (DnRel w g n zs s k dk wr) := hR
      have HX : Hid (x = dk.getD k 0) := hx
      have hxb : x < B64 := by rw [hx]; exact hR.row.dig.getD B64_pos _
      have hcx : wr.cell? ⟨g, k, none⟩ = some (U x) := by
        have := hR.row.cell k hlt
        rw [← hx, Nat.zero_add] at this; exact this
      have hfx : wr.frozen? ⟨g, k, none⟩ = false := by
        have := hR.row.frozen k hlt
        rw [Nat.zero_add] at this; exact this
      by_cases hlast : n ≤ k + 1
      · clear hR hx
        go_wp2
        go_roundw
        case rel =>
          have hh := HR.out
          have hxx := HX.out
          rw [walk_shr]
          refine ⟨k + 1, dk.set k (x / 2 ^ s), by omega, by go_num, ?_⟩
          refine hh.step hlt hl (by omega) ?_ (hh.wrs.setCell k ⟨by omega, by omega⟩ _) ?_
          · rw [← hxx]; unfold cout
            rw [List.getD_eq_getElem?_getD, List.getElem?_eq_none (by omega)]; simp
          · have h1 := hh.row.set k (x / 2 ^ s) hlt (Nat.lt_of_le_of_lt (Nat.div_le_self _ _) hxb)
            rw [Nat.zero_add] at h1; exact h1
        case measure => simp [intOf]; omega
      · obtain ⟨z, hy⟩ : ∃ z, z = dk.getD (k + 1) 0 := ⟨_, rfl⟩
        have hcz : wr.cell? ⟨g, k + 1, none⟩ = some (U z) := by
          have := hR.row.cell (k + 1) (by omega)
          rw [← hy, Nat.zero_add] at this; exact this
        have HY : Hid (z = dk.getD (k + 1) 0) := hy
        clear hR hx hy
        go_wp2
        go_region
        go_wp2
        go_roundw
        case rel =>
          have hh := HR.out
          have hxx := HX.out
          have hyy := HY.out
          have hxd : x / 2 ^ s < B64 := Nat.lt_of_le_of_lt (Nat.div_le_self _ _) hxb
          rw [walk_down x z s (by omega) hxb, walk_shr]
          refine ⟨k + 1, dk.set k (x / 2 ^ s + 2 ^ (64 - s) * (z % 2 ^ s)), by omega, by go_num, ?_⟩
          refine hh.step hlt hl (by omega) ?_ (((hh.wrs.setCell k ⟨by omega, by omega⟩ _).setCell k ⟨by omega, by omega⟩ _).drew) ?_
          · rw [← hxx]; unfold cout
            rw [hyy, getD_of_drop (drop_succ_of_drop hh.hi)]
          · have h1 := (hh.row.set k (x / 2 ^ s) hlt hxd).set k _ hlt (down_lt x z s (by omega) hxb)
            rw [Nat.zero_add, List.set_set] at h1
            exact h1.drew
        case measure => simp [intOf]; omega
    · obtain rfl : k = n := by omega
      have HR : Hid (DnRel w g k zs s k dk wr) := hR
      clear hR
      go_wp2
      go_end0
      have hh := HR.out
      refine ⟨dk, rfl, hh.wrs, hh.row, ?_⟩
      have h1 := hh.sum
      have hlk := hh.row.len
      rw [List.take_of_length_le (by omega), List.take_of_length_le (by omega)] at h1
      have h2 : cout zs s k = 0 := by unfold cout; rw [List.getD_eq_getElem?_getD, List.getElem?_eq_none (by omega)]; simp
      have h3 : cout zs s 0 < 2 ^ s := Nat.mod_lt _ (Nat.two_pow_pos _)
      rw [h2, Nat.mul_zero, Nat.add_zero] at h1
      rw [← h1, Nat.mul_add_div (Nat.two_pow_pos _), Nat.div_eq_of_lt h3, Nat.add_zero]
end Go.Proofs.Ytjhopiaeppgioaa
namespace Go.Proofs.Ytjhopiaeppgioaa
open Go.RowKit Go.Shelf
set_option maxRecDepth 20000
set_option maxHeartbeats 0
theorem no_over {P X c Y : Nat} (h : X + P * c = Y) (hY : Y < P) : X = Y := by
  rcases Nat.eq_zero_or_pos c with e | e
  · subst e; omega
  · have : P * 1 ≤ P * c := Nat.mul_le_mul_left _ e
    omega
theorem moved_any {p : Option Addr} {m c : Nat} {xs : List Nat} {w : World} (h : At w p m c xs) (n s : Nat) (hmn : m ≤ n) (hn : n ≤ 10000) (hs : s < 64) (hfit : 2 ^ s * valB B64 xs < B64 ^ n) :
    Calls Try.prog 29 #[.slice p m c, .int .i64 n, .int .i64 s] w fun e w' =>
      ∃ g zs, e = .returned (.slice (some ⟨g, 0, none⟩) n n) ∧ w.heap.size ≤ g ∧ g < w'.heap.size ∧ Row w' g 0 n zs ∧ valB B64 zs = 2 ^ s * valB B64 xs ∧ Below w.heap.size w w' := by
  obtain ⟨i0, hi, hz0, hz1, hz2⟩ := info_parts Try.infoU64
  have hl := h.len
  have HF : Hid (2 ^ s * valB B64 xs < B64 ^ n) := hfit
  clear hfit
  go_enter Try.func29, Try.ntmps29
  go_wp2_with (first
    | (at_make; refine wpList_make_full _ rfl _ _ 22 rfl w.heap.size 34 i0 (.int .u64 0) 1 Try.underlying22 hi hz0 hz1 _ _ _ _ n rfl rfl (by omega) (by omega) (by rw [hz2]; omega) (by unfold maxLen; omega) (Nat.le_refl _) ?_; intro w1 hown hgrow; have hb := made_blk hown hgrow; clear hown hgrow)
    | (refine wpList_copy_splice rfl (.tmp 10) (.tmp 11) 22 22 rfl 34 Try.underlying22 Try.sizeU64 (some ⟨w.heap.size, 0, none⟩) p n n m c rfl rfl w.heap.size 0 (cellsU (List.replicate n 0)) 34 hb.1 (cellsU xs) (by rw [cellsU_length, hl]; exact (Nat.min_eq_left hmn).symm) (fun h0 => ⟨rfl, (h.below hb.2).src (by rw [cellsU_length] at h0; omega)⟩) (by simp [cellsU_length]; omega) (cellsU_one xs) w.heap.size w hb.2 (Nat.le_refl _) ?_; intro w2 hg2 hb2))
  have hg3 : Blk w2 w.heap.size (xs ++ List.replicate (n - m) 0) := by
    have := hg2
    rw [splice_cellsU, hl] at this; exact this
  clear hg2 hb
  have hdz : Dig B64 (xs ++ List.replicate (n - m) 0) := dig_pad h.dig _
  have hr := hg3.row hdz
  have hlz : (xs ++ List.replicate (n - m) 0).length = n := by simp; omega
  rw [hlz] at hr
  refine (sup_gen w.heap.size n n s _ _ hr (Nat.le_refl _) (by omega) hs).mono ?_
  rintro e w3 ⟨zs, rfl, hwr, hrow, hval⟩
  rw [valB_append_zeros] at hval
  have HV : Hid (valB B64 zs = 2 ^ s * valB B64 xs) := no_over hval HF.out
  have hb3 : Below w.heap.size w w3 := hb2.trans (hwr.below (Nat.le_refl _))
  have hlt3 : w.heap.size < w3.heap.size := by rw [hwr.size]; exact hg3.lt
  clear hval hg3 hdz hr hlz hb2 hwr
  go_wp2_with fail
  go_ret
  exact ⟨_, zs, rfl, Nat.le_refl _, hlt3, hrow, HV.out, hb3⟩

theorem top_ne {ys : List Nat} {b n : Nat} (hy : Nf B64 ys b) (hl : ys.length = n) (h0 : 0 < n) : ys.getD (n - 1) 0 ≠ 0 := by
  refine hy.top _ ?_
  rw [List.getLast?_eq_getElem?, hl, List.getD_eq_getElem?_getD, List.getElem?_eq_getElem (by omega)]; rfl
theorem div_fit {ys : List Nat} {b n s : Nat} (hy : Nf B64 ys b) (hl : ys.length = n) (h0 : 0 < n) (hs : s + bitsN (ys.getD (n - 1) 0) = 64) : 2 ^ s * b < B64 ^ n := by
  obtain ⟨k, rfl⟩ : ∃ k, n = k + 1 := ⟨n - 1, by omega⟩
  rw [Nat.add_sub_cancel] at hs
  have h1 := valB_top hl
  have h2 := take_len_lt hy.dig (n := k) (by omega)
  rw [hy.val] at h1
  have h3 := bitsN_lt (ys.getD k 0)
  have h4 : 2 ^ s * (ys.getD k 0 + 1) ≤ 2 ^ s * 2 ^ bitsN (ys.getD k 0) := Nat.mul_le_mul_left _ h3
  rw [← Nat.pow_add, hs, show (2:Nat) ^ 64 = B64 from rfl] at h4
  have h5 : b < B64 ^ k * (ys.getD k 0 + 1) := by rw [Nat.mul_add, Nat.mul_one]; omega
  have h6 : 2 ^ s * b < 2 ^ s * (B64 ^ k * (ys.getD k 0 + 1)) := Nat.mul_lt_mul_of_pos_left h5 (Nat.two_pow_pos s)
  have h7 : B64 ^ k * (2 ^ s * (ys.getD k 0 + 1)) ≤ B64 ^ k * B64 := Nat.mul_le_mul_left _ h4
  rw [Nat.pow_succ]
  rw [Nat.mul_left_comm] at h6
  omega
theorem div_room {xs : List Nat} {a m s : Nat} (hx : Nf B64 xs a) (hl : xs.length = m) (hs : s < 64) : 2 ^ s * a < B64 ^ (m + 1) := by
  have h1 := valB_lt B64_pos hx.dig
  rw [hx.val, hl] at h1
  have h2 : (2:Nat) ^ s ≤ B64 := by rw [show B64 = 2 ^ 64 from rfl]; exact Nat.pow_le_pow_right (by omega) (by omega)
  have h3 : 2 ^ s * a ≤ B64 * a := Nat.mul_le_mul_right _ h2
  have h4 : B64 * a < B64 * B64 ^ m := Nat.mul_lt_mul_of_pos_left h1 B64_pos
  rw [Nat.pow_succ, Nat.mul_comm (B64 ^ m)]
  omega
theorem div_start {xs ys rs : List Nat} {a b m n s L : Nat} (hx : Nf B64 xs a) (hy : Nf B64 ys b) (hl : xs.length = m) (hm : ys.length = n) (h0 : 0 < n) (hL : L + n = m + 1) (hr : rs.length = m + 1) (hv : valB B64 rs = 2 ^ s * a) : valB B64 (rs.drop L) < 2 ^ s * b := by
  have h1 := valB_lt B64_pos hx.dig
  rw [hx.val, hl] at h1
  have h2 := valB_pos B64_pos (show ys ≠ [] by intro e; subst e; simp at hm; omega) hy.top
  rw [hy.val, hm] at h2
  have h3 := valB_split B64 rs L (by omega)
  have h4 : B64 ^ L * B64 ^ (n - 1) ≤ B64 ^ L * b := Nat.mul_le_mul_left _ h2
  rw [← Nat.pow_add, show L + (n - 1) = m by omega] at h4
  have h5 : 2 ^ s * a < 2 ^ s * (B64 ^ L * b) := Nat.mul_lt_mul_of_pos_left (by omega) (Nat.two_pow_pos s)
  rw [Nat.mul_left_comm] at h5
  exact Nat.lt_of_mul_lt_mul_left (a := B64 ^ L) (by omega)
theorem div_end {a b s Q r : Nat} (h : r + Q * (2 ^ s * b) = 2 ^ s * a) (hr : r < 2 ^ s * b) : Q = a / b ∧ r / 2 ^ s = a % b := by
  have hp := Nat.two_pow_pos s
  have e1 : Q * (2 ^ s * b) = 2 ^ s * (Q * b) := by rw [Nat.mul_left_comm]
  rw [e1] at h
  obtain ⟨r', hr'⟩ : ∃ r', r = 2 ^ s * r' := by
    refine ⟨a - Q * b, ?_⟩
    rw [Nat.mul_sub]; omega
  subst hr'
  have h2 : r' + Q * b = a := by
    rw [← Nat.mul_add] at h
    exact Nat.eq_of_mul_eq_mul_left hp h
  have h3 : r' < b := Nat.lt_of_mul_lt_mul_left hr
  have h4 := quo_unique (n := a) (q := Q) (y := b) (r := r') (by omega) h3
  refine ⟨h4.1, ?_⟩
  rw [Nat.mul_div_cancel_left _ hp]; exact h4.2

structure DivTo (w : World) (a b : Nat) (v1 v2 : Value) (w' : World) : Prop where
  quo : ∃ p m zs, v1 = .slice p m m ∧ Own w.heap.size w' p m zs ∧ Nf B64 zs (a / b) ∧ m ≤ 8192
  rem : ∃ p m zs, v2 = .slice p m m ∧ Own w.heap.size w' p m zs ∧ Nf B64 zs (a % b) ∧ m ≤ 8192
  bel : Below w.heap.size w w'
  ap : Ap2 v1 v2

theorem divide_any {gp op gq oq : Nat} {m n c d : Nat} {xs ys : List Nat} {a b : Nat} {w : World} (h : At w (some ⟨gp, op, none⟩) m c xs) (k : At w (some ⟨gq, oq, none⟩) n d ys) (hx : Nf B64 xs a) (hy : Nf B64 ys b) (hm : m ≤ 8192) (hn : 2 ≤ n) (hnm : n ≤ m) :
    Calls Try.prog 22 #[.slice (some ⟨gp, op, none⟩) m c, .slice (some ⟨gq, oq, none⟩) n d] w fun e w' => ∃ v1 v2, e = .returned (.tuple #[v1, v2]) ∧ DivTo w a b v1 v2 w' := by
  obtain ⟨y, hyy⟩ : ∃ y, y = ys.getD (n - 1) 0 := ⟨_, rfl⟩
  have hyb : y < B64 := by rw [hyy]; exact hy.dig.getD B64_pos _
  have hy0 : y ≠ 0 := by rw [hyy]; exact top_ne hy k.len (by omega)
  have hb64 := bits64 hyb
  have hbp : 0 < bitsN y := by
    rcases Nat.eq_zero_or_pos (bitsN y) with e | e
    · exfalso
      have := bitsN_lt y
      rw [e] at this; simp at this; omega
    · exact e
  obtain ⟨s, hs⟩ : ∃ s, s + bitsN y = 64 := ⟨64 - bitsN y, by omega⟩
  have hs64 : s < 64 := by omega
  have cy : w.cell? ⟨gq, oq + (n - 1), none⟩ = some (U y) := by rw [hyy]; exact k.cellAt (n - 1) (by omega)
  have F1 : Hid (2 ^ s * valB B64 ys < B64 ^ n) := by
    have := div_fit hy k.len (by omega) (by rw [← hyy]; exact hs)
    rw [← hy.val] at this; exact this
  have F2 : Hid (2 ^ s * valB B64 xs < B64 ^ (m + 1)) := by
    have := div_room hx h.len hs64
    rw [← hx.val] at this; exact this
  have HX : Hid (Nf B64 xs a) := hx
  have HY : Hid (Nf B64 ys b) := hy
  have HS : Hid (s + bitsN y = 64) := hs
  have hlx := h.len; have hly := k.len
  have HLX : Hid (xs.length = m) := hlx
  have HLY : Hid (ys.length = n) := hly
  have kcap := k.cap; have kbig := k.big
  unfold maxLen at kbig
  have hwn : IntKind.i64.wrap ((n : Int) - 1) = (n : Int) - 1 := wrap_sub n 1 (by omega) (by omega)
  clear hx hy hyy hs hbp hb64 hlx hly
  go_enter Try.func22, Try.ntmps22
  go_wp2_with fail
  refine (lz_any y s w hyb HS.out).mono ?_
  rintro e w' ⟨rfl, hw⟩
  obtain rfl := hw.symm
  clear hw
  go_wp2_with fail
  refine (moved_any k n s (Nat.le_refl _) (by omega) hs64 F1.out).mono ?_
  rintro e w1 ⟨g1, zs1, rfl, hg1, hgl1, hrow1, hv1, hb1⟩
  have h1 := h.below hb1
  have HV1 : Hid (valB B64 zs1 = 2 ^ s * valB B64 ys) := hv1
  clear hv1 h k
  go_wp2_with fail
  rw [show ((m : Int) + 1) = ((m + 1 : Nat) : Int) by omega]
  refine (moved_any h1 (m + 1) s (by omega) (by omega) hs64 F2.out).mono ?_
  rintro e w2 ⟨g2, zs2, rfl, hg2, hgl2, hrow2, hv2, hb2⟩
  have hr1 := hrow1.below hb2 hgl1
  have HV2 : Hid (valB B64 zs2 = 2 ^ s * valB B64 xs) := hv2
  have hw2 := Below.on hb1 hb2
  clear hv2 h1 hrow1 hb1 hb2
  obtain ⟨i0, hi, hz0, hz1, hz2⟩ := info_parts Try.infoU64
  obtain ⟨L, hL⟩ : ∃ L, L = m - n + 1 := ⟨_, rfl⟩
  have HL : Hid (L = m - n + 1) := hL
  have hLi : (m : Int) - (n : Int) + 1 = (L : Int) := by omega
  have hLb : L ≤ 8192 := by omega
  clear hL
  go_wp2_with (at_make; refine wpList_make_full _ rfl _ _ 22 rfl w2.heap.size 34 i0 (.int .u64 0) 1 Try.underlying22 hi hz0 hz1 _ _ _ _ L rfl rfl (by omega) (by omega) (by rw [hz2]; omega) (by unfold maxLen; omega) (Nat.le_refl _) ?_; intro w3 hown hgrow; have hb := made_blk hown hgrow; clear hown hgrow)
  have hq3 : Row w3 w2.heap.size 0 L (List.replicate L 0) := by
    have := hb.1.row (Dig.replicate B64 L B64_pos)
    rw [List.length_replicate] at this; exact this
  have hlt12 : g1 < w2.heap.size := Nat.lt_of_lt_of_le hgl1 (by have := hw2.size; omega)
  have hr13 := hr1.below hb.2 hlt12
  have hr23 := hrow2.below hb.2 hgl2
  have hw3 := Below.on hw2 hb.2
  have hne12 : g1 ≠ g2 := by omega
  have hLn : L + n = m + 1 := by have := HL.out; omega
  rw [← hLn] at hr23
  have TD := takedig_any hq3 hr23 (hr13.at_ (Nat.le_refl _) (by unfold maxLen; omega)) (by omega) (by omega) hne12 hn (by omega) (by omega) (by
    rw [HV1.out, HY.out.val]
    exact div_start HX.out HY.out HLX.out HLY.out (by omega) hLn (by rw [hrow2.len]) (by rw [HV2.out, HX.out.val]))
  rw [hLn] at TD
  have HLN : Hid (L + n = m + 1) := hLn
  clear hLn hq3 hr13 hr23 hr1 hrow2 hLi
  refine TD.mono ?_
  rintro e w4 ⟨qs, rs, rfl, hbel, hrq, hrr, hlt, hsum⟩
  rw [HV1.out, HY.out.val] at hlt
  rw [HV1.out, HV2.out, HY.out.val, HX.out.val] at hsum
  have hend := div_end hsum hlt
  have hsp := valB_split B64 rs n (by rw [hrr.len]; omega)
  have hfit : valB B64 (rs.take n) = valB B64 rs := no_over hsp.symm (Nat.lt_trans hlt (by have := F1.out; rw [HY.out.val] at this; exact this))
  have HQ : Hid (valB B64 qs = a / b) := hend.1
  have HREM : Hid (valB B64 (rs.take n) / 2 ^ s = a % b) := by rw [hfit]; exact hend.2
  have hrt := hrr.take n (by omega)
  have hw4 : Below w.heap.size w w4 := hw3.trans (hbel w.heap.size (by have := hw2.size; omega) (by omega))
  have hgq4 : w2.heap.size ≠ g2 := by omega
  have hgqb : w.heap.size ≤ w2.heap.size := hw2.size
  generalize w2.heap.size = gz at *
  clear hsum hlt hend hsp hfit hrr hbel TD hw3 hw2 hb hlt12 hne12
  go_wp2_with fail
  refine (cut_row g2 0 (m + 1) (m + 1) n w4 (Nat.le_refl _) (by omega)).mono ?_
  rintro e w5 ⟨rfl, r5, hw5⟩
  have hrt5 : Row w5 g2 0 n (rs.take n) := by rw [hw5]; exact hrt.drewN r5
  have hrq5 : Row w5 gz 0 L qs := by rw [hw5]; exact hrq.drewN r5
  have hbw5 : Below w.heap.size w w5 := by rw [hw5]; exact bDrewN hw4 r5
  clear hw5 hrt hrq hw4
  go_wp2_with fail
  refine (sdn_any g2 n n s (rs.take n) w5 hrt5 (Nat.le_refl _) (by omega) hs64).mono ?_
  rintro e w6 ⟨us, rfl, hwr6, hrow6, hval6⟩
  rw [HREM.out] at hval6
  have hrq6 := hrq5.wr hwr6 hgq4
  have hbw6 : Below w.heap.size w w6 := hbw5.trans (hwr6.below (by omega))
  have AQ := hrq6.at_ (Nat.le_refl _) (by unfold maxLen; omega)
  have AR := hrow6.at_ (Nat.le_refl _) (by unfold maxLen; omega)
  have NQ : Hid (Nf B64 (trimL qs) (a / b)) := by have := Nf.trim hrq6.dig; rw [HQ.out] at this; exact this
  have NR : Hid (Nf B64 (trimL us) (a % b)) := by have := Nf.trim hrow6.dig; rw [hval6] at this; exact this
  clear hval6 hrt5 hrq5 hbw5 hwr6
  go_wp2_with fail
  refine (trim_any AQ).mono ?_
  rintro e w' ⟨p1, m1, rfl, hm1, hp1, hw⟩
  obtain rfl := hw.symm
  have HM1 : Hid (m1 = (trimL qs).length) := hm1
  clear hw hm1
  go_wp2_with fail
  refine (trim_any AR).mono ?_
  rintro e w' ⟨p2, m2, rfl, hm2, hp2, hw⟩
  obtain rfl := hw.symm
  have HM2 : Hid (m2 = (trimL us).length) := hm2
  clear hw hm2
  go_wp2_with fail
  go_ret2
  have hl1 := trimL_length_le qs; have hl2 := trimL_length_le us
  have e1 := HM1.out; have e2 := HM2.out; have e3 := hrq6.len; have e4 := hrow6.len
  exact ⟨_, _, rfl, ⟨p1, m1, _, rfl, hrq6.own hgqb e1 hp1, NQ.out, by omega⟩, ⟨p2, m2, _, rfl, hrow6.own (by omega) e2 hp2, NR.out, by omega⟩, hbw6, ap_ne hp1 hp2 hgq4⟩
end Go.Proofs.Ytjhopiaeppgioaa
namespace Go.Proofs.Ytjhopiaeppgioaa
open Go.RowKit
set_option maxRecDepth 20000
set_option maxHeartbeats 0
structure DivRel (w : World) (g n : Nat) (zs : List Nat) (v k re : Nat) (dk : List Nat) (wr : World) : Prop where
  wrs : ∀ B, B ≤ g → Below B w wr
  row : Row wr g 0 n dk
  lo : dk.take (n - k) = zs.take (n - k)
  rlt : re < v
  sum : valB B64 (zs.drop (n - k)) = valB B64 (dk.drop (n - k)) * v + re
theorem DivRel.step {w : World} {g n : Nat} {zs : List Nat} {v k re : Nat} {dk : List Nat} {wr wr' : World} (h : DivRel w g n zs v k re dk wr) (hk : k < n) (hz : zs.length = n) {x q r : Nat}
    (hx : x = dk.getD (n - 1 - k) 0) (hq : re * B64 + x = q * v + r) (hr : r < v) (hw : ∀ B, B ≤ g → Below B w wr') (hrow : Row wr' g 0 n (dk.set (n - 1 - k) q)) : DivRel w g n zs v (k + 1) r (dk.set (n - 1 - k) q) wr' := by
  have hl := h.row.len
  have e : n - (k + 1) = n - 1 - k := by omega
  have e2 : n - 1 - k + 1 = n - k := by omega
  have hxz : x = zs.getD (n - 1 - k) 0 := hx.trans (getD_of_take h.lo (by omega))
  refine ⟨hw, hrow, ?_, hr, ?_⟩
  · rw [e, take_set_at]; exact take_of_take h.lo (by omega)
  · rw [e, drop_set_at dk _ q (by omega), valB_drop _ zs (n - 1 - k) (by omega), ← hxz, valB_cons, e2, h.sum, Nat.add_mul, Nat.mul_add]
    have e3 : B64 * (valB B64 (dk.drop (n - k)) * v) = B64 * valB B64 (dk.drop (n - k)) * v := by rw [Nat.mul_assoc]
    rw [e3, Nat.mul_comm B64 re]
    omega

theorem divw_nf {p : Option Addr} {m c : Nat} {xs : List Nat} {a : Nat} {w : World} (h : At w p m c xs) (hx : Nf B64 xs a) (hm : m ≤ 8192) (v : Nat) (hv : v < B64) (hv0 : v ≠ 0) :
    Calls Try.prog 19 #[.slice p m c, U v] w fun e w' =>
      (∃ p' m' zs, e = .returned (.tuple #[.slice p' m' m', U (a % v), .int .i64 0]) ∧ Own w.heap.size w' p' m' zs ∧ Nf B64 zs (a / v) ∧ m' ≤ 8192) ∧ Below w.heap.size w w' := by
  have fx := hx.form (by rw [h.len]; exact hm)
  have hl := h.len
  have HX : Hid (Nf B64 xs a) := hx
  have hv0' : ((v : Int) == 0) = false := by simp; omega
  clear hx
  go_enter Try.func19, Try.ntmps19
  go_wp2_with fail
  refine (form_true h fx).mono ?_
  rintro e w' ⟨rfl, hw⟩
  obtain rfl := hw.symm
  clear hw fx
  go_wp2_with fail
  refine (copied_any h m (Nat.le_refl _) (by omega)).mono ?_
  rintro e w1 ⟨g, rfl, hg, hblk, hb⟩
  rw [Nat.sub_self, List.replicate_zero, List.append_nil] at hblk
  have hr := hblk.row HX.out.dig
  rw [hl] at hr
  go_wp2_with fail
  go_loopw [8, 9, 10, 22] (fun rv _ _ i wr => ∃ (k re : Nat) (dk : List Nat), k ≤ m ∧ i = .int .i64 k ∧ rv = U re ∧ DivRel w1 g m xs v k re dk wr) (fun _ _ _ i _ => m - (intOf i).toNat)
  case atStart => exact ⟨0, 0, xs, Nat.zero_le _, rfl, rfl, ⟨fun B _ => Below.refl _ _, hr, rfl, by omega, by rw [Nat.sub_zero, List.drop_of_length_le (by omega)]; simp [valB]⟩⟩
  case round =>
    obtain ⟨k, re, dk, hk, rfl, rfl, hR⟩ := hrel
    by_cases hlt : k < m
    · obtain ⟨x, hxx⟩ : ∃ x, x = dk.getD (m - 1 - k) 0 := ⟨_, rfl⟩
      have hcx : wr.cell? ⟨g, m - 1 - k, none⟩ = some (U x) := by
        have := hR.row.cell (m - 1 - k) (by omega)
        rw [← hxx, Nat.zero_add] at this; exact this
      have hfx : wr.frozen? ⟨g, m - 1 - k, none⟩ = false := by
        have := hR.row.frozen (m - 1 - k) (by omega)
        rw [Nat.zero_add] at this; exact this
      have hxb : x < B64 := by rw [hxx]; exact hR.row.dig.getD B64_pos _
      have hrv := hR.rlt
      have HR : Hid (DivRel w1 g m xs v k re dk wr) := hR
      have HXX : Hid (x = dk.getD (m - 1 - k) 0) := hxx
      clear hR hxx hr
      go_wp2_with fail
      refine (div64_any re x v _ hrv hv hxb).mono ?_
      rintro e w2 ⟨rfl, r, hw⟩
      obtain rfl := hw.symm
      clear hw
      obtain ⟨q, hq⟩ : ∃ q, q = (re * B64 + x) / v := ⟨_, rfl⟩
      obtain ⟨r2, hr2⟩ : ∃ r2, r2 = (re * B64 + x) % v := ⟨_, rfl⟩
      rw [← hq, ← hr2]
      have hqr : re * B64 + x = q * v + r2 := by rw [hq, hr2, Nat.mul_comm ((re * B64 + x) / v)]; exact (Nat.div_add_mod _ _).symm
      have hr2v : r2 < v := by rw [hr2]; exact Nat.mod_lt _ (by omega)
      have hqb : q < B64 := by
        rw [hq]
        refine (Nat.div_lt_iff_lt_mul (by omega)).2 ?_
        have : (re + 1) * B64 ≤ v * B64 := Nat.mul_le_mul_right _ hrv
        rw [Nat.add_mul, Nat.one_mul, Nat.mul_comm v] at this
        omega
      have HQR : Hid (re * B64 + x = q * v + r2) := hqr
      clear hq hr2 hqr
      go_wp2_with fail
      go_roundw
      case rel =>
        refine ⟨k + 1, r2, dk.set (m - 1 - k) q, by omega, by go_num, rfl, HR.out.step hlt hl HXX.out HQR.out hr2v (fun B hB => ?_) ?_⟩
        · exact bDrewN ((HR.out.wrs B hB).setCell hB _) r
        · have h1 := HR.out.row.set (m - 1 - k) q (by omega) hqb
          rw [Nat.zero_add] at h1
          exact h1.drewN r
      case measure => simp [intOf]; omega
    · obtain rfl : k = m := by omega
      have HR : Hid (DivRel w1 g k xs v k re dk wr) := hR
      clear hR hr
      have hh := HR.out
      have A3 := hh.row.at_ (Nat.le_refl _) (by unfold maxLen; omega)
      have hs := hh.sum
      rw [Nat.sub_self, List.drop_zero, List.drop_zero, HX.out.val] at hs
      obtain ⟨hq, hre⟩ := quo_unique hs hh.rlt
      have hN := Nf.trim hh.row.dig
      rw [hq] at hN
      have HV : Hid (Nf B64 (trimL dk) (a / v)) := hN
      have HRE : Hid (re = a % v) := hre
      have hb3 : Below w.heap.size w wr := hb.trans (hh.wrs _ hg)
      have hrow := hh.row
      clear hs hq hre hN hh
      go_wp2_with fail
      refine (trim_any A3).mono ?_
      rintro e w4 ⟨p', m', rfl, hm', hp', hw⟩
      obtain rfl := hw.symm
      have HM : Hid (m' = (trimL dk).length) := hm'
      clear hw hm'
      go_wp2_with fail
      go_ret3
      have e1 := HM.out
      have e2 := trimL_length_le dk
      have e3 := hrow.len
      exact ⟨⟨p', m', trimL dk, by rw [HRE.out]; rfl, hrow.own hg e1 hp', HV.out, by omega⟩, hb3⟩
end Go.Proofs.Ytjhopiaeppgioaa
namespace Go.Proofs.Ytjhopiaeppgioaa
open Go.RowKit Go.Shelf
set_option maxRecDepth 20000
set_option maxHeartbeats 0
theorem Nf.one {ys : List Nat} {b : Nat} (hy : Nf B64 ys b) (hl : ys.length = 1) : ys = [b] := by
  match ys, hl with
  | [y], _ => have := hy.val; simp [valB] at this; rw [this]
theorem Nf.lt_of_len {xs ys : List Nat} {a b n m : Nat} (hx : Nf B64 xs a) (hy : Nf B64 ys b) (hl : xs.length = n) (hm : ys.length = m) (h : n < m) : a < b := by
  have := val_lt_len hx.dig hy.top (by omega)
  rw [hx.val, hy.val] at this; exact this

theorem quorem_any {p q : Option Addr} {n m c d : Nat} {xs ys : List Nat} {a b : Nat} {w : World} (h : At w p n c xs) (k : At w q m d ys) (hx : Nf B64 xs a) (hy : Nf B64 ys b) (hlx : n ≤ 8192) (hly : m ≤ 8192) (hb : b ≠ 0) :
    Calls Try.prog 7 #[.slice p n c, .slice q m d] w fun e w' => ∃ v1 v2, e = .returned (.tuple #[v1, v2, .int .i64 0]) ∧ DivTo w a b v1 v2 w' := by
  have fx := hx.form (by rw [h.len]; exact hlx)
  have fy := hy.form (by rw [k.len]; exact hly)
  have hm0 : 0 < m := by
    rcases Nat.eq_zero_or_pos m with e | e
    · exact absurd ((hy.zero_iff B64_one).1 (List.eq_nil_of_length_eq_zero (by rw [k.len]; exact e))) hb
    · exact e
  have HX : Hid (Nf B64 xs a) := hx
  have HY : Hid (Nf B64 ys b) := hy
  clear hx hy
  have hlenx := h.len; have hleny := k.len
  have HLX : Hid (xs.length = n) := hlenx
  have HLY : Hid (ys.length = m) := hleny
  clear hlenx hleny
  go_enter Try.func7, Try.ntmps7
  go_wp2_with fail
  refine (form_true h fx).mono ?_
  rintro e w' ⟨rfl, hw⟩
  obtain rfl := hw.symm
  clear hw
  go_wp2_with fail
  refine (form_true k fy).mono ?_
  rintro e w' ⟨rfl, hw⟩
  obtain rfl := hw.symm
  clear hw fx fy
  have hm0' : ((m : Int) == 0) = false := by simp; omega
  by_cases h1 : m = 1
  · subst h1
    obtain ⟨gq, oq, rfl, hcq⟩ := k.cells.resolve_left (by omega)
    have hc0 : w.cell? ⟨gq, oq, none⟩ = some (U b) := by
      have := hcq 0 (by omega)
      rw [HY.out.one HLY.out] at this; exact this
    have hbb : b < B64 := by
      have := HY.out.dig b (by rw [HY.out.one HLY.out]; simp)
      exact this
    clear hcq
    go_wp2_with fail
    refine (divw_nf h HX.out hlx b hbb hb).mono ?_
    rintro e w1 ⟨⟨p1, m1, zs1, rfl, ho1, n1, hm1⟩, hb1⟩
    have N1 : Hid (Nf B64 zs1 (a / b)) := n1
    obtain ⟨r, hr⟩ : ∃ r, r = a % b := ⟨_, rfl⟩
    rw [← hr]
    have HR : Hid (r = a % b) := hr
    have hrb : r < B64 := by rw [hr]; exact Nat.lt_trans (Nat.mod_lt _ (by omega)) hbb
    clear n1 hr
    go_wp2_with fail
    refine (word_any r w1 hrb).mono ?_
    rintro e w2 ⟨p2, m2, zs2, rfl, ho2, n2, hm2, hb2⟩
    have N2 : Hid (Nf B64 zs2 r) := n2
    clear n2
    go_wp2_with fail
    go_ret3
    refine ⟨_, _, rfl, ⟨p1, m1, zs1, rfl, ho1.below hb2, N1.out, hm1⟩, ⟨p2, m2, zs2, rfl, ho2.mono hb1.size, ?_, by omega⟩, Below.on hb1 hb2, ap_own ho1 ho2⟩
    rw [← HR.out]; exact N2.out
  · have h1' : ((m : Int) == 1) = false := by simp; omega
    by_cases hlt : n < m
    · have hab := HX.out.lt_of_len HY.out HLX.out HLY.out hlt
      have HQ : Hid (a / b = 0 ∧ a % b = a) := ⟨Nat.div_eq_of_lt hab, Nat.mod_eq_of_lt hab⟩
      clear hab
      go_wp2_with fail
      refine (norm_any h).mono ?_
      rintro e w1 ⟨ha1, hb1⟩
      rw [HX.out.val] at ha1
      have hal : a < LIM := HX.out.lim.1 (by rw [HLX.out]; exact hlx)
      rcases ha1 with ⟨_, p1, m1, zs, rfl, ho, hn1, hm1⟩ | ⟨hge, _⟩
      · have N1 : Hid (Nf B64 zs a) := hn1
        clear hn1 hal
        go_wp2_with fail
        go_ret3
        refine ⟨_, _, rfl, ⟨none, 0, [], rfl, ⟨rfl, Dig.nil _, .inl rfl⟩, ?_, by omega⟩, ⟨p1, m1, zs, rfl, ho, ?_, hm1⟩, hb1, ap_nil⟩
        · rw [HQ.out.1]; exact Nf.nil _
        · rw [HQ.out.2]; exact N1.out
      · omega
    · obtain ⟨gp, op, rfl, _⟩ := h.cells.resolve_left (by omega)
      obtain ⟨gq, oq, rfl, _⟩ := k.cells.resolve_left (by omega)
      go_wp2_with fail
      refine (divide_any h k HX.out HY.out hlx (by omega) (by omega)).mono ?_
      rintro e w1 ⟨v1, v2, rfl, hD⟩
      have HD : Hid (DivTo w a b v1 v2 w1) := hD
      clear hD
      go_wp2_with fail
      go_ret3
      exact ⟨_, _, rfl, HD.out⟩
theorem newton_ge {x s r : Nat} (_hs : 0 < s) (hr : r * r ≤ x) : r ≤ (s + x / s) / 2 := by
  rw [Nat.le_div_iff_mul_le (by decide)]
  by_cases h : 2 * r ≤ s
  · have h3 : 0 ≤ x / s := Nat.zero_le _
    generalize x / s = e at *
    omega
  · have h1 : (2 * r - s) * s ≤ x := by
      refine Nat.le_trans ?_ hr
      obtain ⟨t, ht⟩ : ∃ t, 2 * r = s + t := ⟨2 * r - s, by omega⟩
      rw [ht, Nat.add_sub_cancel_left]
      rcases Nat.le_total s r with hsr | hsr
      · obtain ⟨u, hu⟩ : ∃ u, r = s + u := ⟨r - s, by omega⟩
        subst hu
        obtain rfl : t = s + 2 * u := by omega
        rw [Nat.add_mul, Nat.mul_add, Nat.add_mul, Nat.add_mul s u u]
        have : 2 * u * s = s * u + u * s := by rw [Nat.mul_comm s u, Nat.mul_assoc]; omega
        omega
      · obtain ⟨u, hu⟩ : ∃ u, s = r + u := ⟨s - r, by omega⟩
        subst hu
        obtain ⟨t', ht'⟩ : ∃ t', r = t' + u := ⟨r - u, by omega⟩
        subst ht'
        obtain rfl : t = t' := by omega
        have e : t * (t + u + u) + u * u = (t + u) * (t + u) := by rw [Nat.mul_add, Nat.mul_add, Nat.add_mul, Nat.mul_add, Nat.mul_add, Nat.mul_comm u t]; omega
        omega
    have h2 : 2 * r - s ≤ x / s := (Nat.le_div_iff_mul_le _hs).2 h1
    generalize x / s = e at *
    omega
structure NewR (x s : Nat) : Prop where
  pos : 0 < s
  le : s ≤ 4294967296
  lt : x < (s + 1) * (s + 1)
theorem NewR.step {x s : Nat} (h : NewR x s) (h0 : x ≠ 0) (hlt : (s + x / s) / 2 < s) : NewR x ((s + x / s) / 2) := by
  have h1 := h.le
  have hx : x < ((s + x / s) / 2 + 1) * ((s + x / s) / 2 + 1) := by
    rcases Nat.lt_or_ge x (((s + x / s) / 2 + 1) * ((s + x / s) / 2 + 1)) with e | e
    · exact e
    · have := newton_ge h.pos e; omega
  refine ⟨?_, by omega, hx⟩
  rcases Nat.eq_zero_or_pos ((s + x / s) / 2) with e | e
  · rw [e] at hx; omega
  · exact e
theorem NewR.done {x s : Nat} (h : NewR x s) (hge : s ≤ (s + x / s) / 2) : s * s ≤ x ∧ x ≤ s * s + 2 * s := by
  have h1 : s ≤ x / s := by omega
  have h2 := (Nat.le_div_iff_mul_le h.pos).1 h1
  have h3 := h.lt
  rw [Nat.add_mul, Nat.mul_add] at h3
  exact ⟨h2, by omega⟩
theorem NewR.start {x k L : Nat} (hL : L = bitsN x) (hk : k = (L + 1) / 2) (hb : L ≤ 64) : NewR x (2 ^ k) := by
  refine ⟨Nat.two_pow_pos k, ?_, ?_⟩
  · exact Nat.le_trans (Nat.pow_le_pow_right (by decide) (show k ≤ 32 by omega)) (by decide)
  · have h1 := bitsN_lt x
    rw [← hL] at h1
    have h2 : (2:Nat) ^ L ≤ 2 ^ (k + k) := Nat.pow_le_pow_right (by decide) (by omega)
    rw [Nat.pow_add] at h2
    rw [Nat.add_mul, Nat.mul_add]; omega

theorem newton_words {x s : Nat} (h : NewR x s) (hxb : x < B64) : ∃ q t n2 : Nat, IntKind.u64.wrap ((x : Int) / (s : Int)) = (q : Int) ∧ IntKind.u64.wrap ((s : Int) + (q : Int)) = (t : Int) ∧ (t : Int).tdiv 2 = (n2 : Int) ∧ IntKind.u64.wrap (n2 : Int) = (n2 : Int) ∧ n2 = (s + x / s) / 2 ∧ n2 < B64 := by
  have h1 := h.lt; have h2 := h.le; have h3 := h.pos
  have hq : x / s ≤ s + 2 := by
    refine Nat.lt_succ_iff.1 (Nat.div_lt_of_lt_mul ?_)
    rw [Nat.mul_succ, Nat.mul_add]
    rw [Nat.add_mul, Nat.mul_add] at h1
    omega
  rw [B64_eq] at *
  refine ⟨x / s, s + x / s, (s + x / s) / 2, u_quo x s (by rw [B64_eq]; exact hxb), ?_, ?_, ?_, rfl, ?_⟩ <;> generalize x / s = e at *
  · exact wrap_mod _ _ (by omega)
  · rw [Int.tdiv_eq_ediv_of_nonneg (by omega)]; omega
  · exact wrap_mod _ _ (by omega)
  · omega

structure RootTo (w : World) (a : Nat) (v1 v2 : Value) (w' : World) : Prop where
  val : ∃ s p m zs p' m' zs', s * s ≤ a ∧ a ≤ s * s + 2 * s ∧ v1 = .slice p m m ∧ Own w.heap.size w' p m zs ∧ Nf B64 zs s ∧ m ≤ 8192 ∧ v2 = .slice p' m' m' ∧ Own w.heap.size w' p' m' zs' ∧ Nf B64 zs' (a - s * s) ∧ m' ≤ 8192
  bel : Below w.heap.size w w'
  ap : Ap2 v1 v2

theorem wordroot_any {g off c x : Nat} {w : World} (h : At w (some ⟨g, off, none⟩) 1 c [x]) (h0 : x ≠ 0) :
    Calls Try.prog 33 #[.slice (some ⟨g, off, none⟩) 1 c] w fun e w' => ∃ v1 v2, e = .returned (.tuple #[v1, v2]) ∧ RootTo w x v1 v2 w' := by
  have hxb : x < B64 := h.dig.head
  have hcx : w.cell? ⟨g, off, none⟩ = some (U x) := h.cellAt 0 (by omega)
  have cap := h.cap
  obtain ⟨L, hL⟩ : ∃ L, L = bitsN x := ⟨_, rfl⟩
  have hLb : L ≤ 64 := by rw [hL]; exact bits64 hxb
  obtain ⟨k, hk⟩ : ∃ k, k = (L + 1) / 2 := ⟨_, rfl⟩
  have HN : Hid (NewR x (2 ^ k)) := NewR.start hL hk hLb
  have hkt : ((L : Int) + 1).tdiv 2 = (k : Int) := by rw [Int.tdiv_eq_ediv_of_nonneg (by omega)]; omega
  have hk32 : k ≤ 32 := by omega
  have HL : Hid (L = bitsN x) := hL
  clear hL hk
  obtain ⟨s0, hs0⟩ : ∃ s0, s0 = 2 ^ k := ⟨_, rfl⟩
  have HN0 : Hid (NewR x s0) := by rw [hs0]; exact HN.out
  have hw0 : IntKind.u64.wrap (2 ^ k) = (s0 : Int) := by
    rw [int_pow, ← hs0]
    have h1 := HN0.out.le
    exact wrap_mod _ _ (by omega)
  have hp0 : ¬ (s0 : Int) = 0 := by have := HN0.out.pos; omega
  obtain ⟨q0, t0, n0, e1, e2, e3, e4, e5, e6⟩ := newton_words HN0.out hxb
  have HE5 : Hid (n0 = (s0 + x / s0) / 2) := e5
  clear hs0 HN e5
  go_enter Try.func33, Try.ntmps33
  go_wp2_with fail
  refine (len_any x w hxb).mono ?_
  rintro e w' ⟨rfl, hw⟩
  obtain rfl := hw.symm
  clear hw
  rw [← HL.out]
  go_wp2_with fail
  clear hw0 hp0 e1 e2 e3 e4
  go_loopg [5, 6] s0 (fun gk sv nv wr => sv = U gk ∧ ∃ n2 : Nat, nv = U n2 ∧ Hid (n2 = (gk + x / gk) / 2) ∧ Hid (NewR x gk) ∧ wr = w)
  case atStart => exact ⟨rfl, n0, rfl, HE5, HN0, rfl⟩
  case round =>
    obtain ⟨rfl, n2, rfl, HE, HR, hwr⟩ := hrel
    obtain rfl := hwr.symm
    clear hwr
    by_cases hlt : n2 < gk
    · have HR2 : Hid (NewR x n2) := by rw [HE.out]; exact HR.out.step h0 (by rw [← HE.out]; exact hlt)
      obtain ⟨q2, t2, n3, f1, f2, f3, f4, f5, f6⟩ := newton_words HR2.out hxb
      have HF5 : Hid (n3 = (n2 + x / n2) / 2) := f5
      have hp2 : ¬ (n2 : Int) = 0 := by have := HR2.out.pos; omega
      have hlt' : (n2 : Int) < (gk : Int) := by omega
      clear f5
      go_wp2_with fail
      go_roundg n2
      case measure => omega
      case rel => exact ⟨rfl, n3, rfl, HF5, HR2, rfl⟩
    · have hlt' : ¬ (n2 : Int) < (gk : Int) := by omega
      have hd := HR.out.done (by rw [← HE.out]; omega)
      have HD : Hid (gk * gk ≤ x ∧ x ≤ gk * gk + 2 * gk) := hd
      have hgb := HR.out.le
      obtain ⟨sq, hsq⟩ : ∃ sq, sq = gk * gk := ⟨_, rfl⟩
      have g1 : IntKind.u64.wrap ((gk : Int) * (gk : Int)) = (sq : Int) := by
        have e : ((gk : Int) * (gk : Int)) = ((gk * gk : Nat) : Int) := by simp
        rw [e, ← hsq]
        refine wrap_mod _ _ ?_
        rw [B64_eq] at hxb
        omega
      obtain ⟨re, hre⟩ : ∃ re, re = x - sq := ⟨_, rfl⟩
      have g2 : IntKind.u64.wrap ((x : Int) - (sq : Int)) = (re : Int) := wrap_mod _ _ (by rw [B64_eq] at hxb; omega)
      have hreb : re < B64 := by omega
      have HRE : Hid (re = x - gk * gk) := by rw [← hsq]; exact hre
      have hgk : gk < B64 := by rw [B64_eq]; omega
      clear hd hsq hre hlt
      go_wp2_with fail
      refine (word_any gk w hgk).mono ?_
      rintro e w1 ⟨p1, m1, z1, rfl, ho1, hn1, hm1, hb1⟩
      have N1 : Hid (Nf B64 z1 gk) := hn1
      clear hn1
      go_wp2_with fail
      refine (word_any re w1 hreb).mono ?_
      rintro e w2 ⟨p2, m2, z2, rfl, ho2, hn2, hm2, hb2⟩
      have N2 : Hid (Nf B64 z2 re) := hn2
      clear hn2
      go_wp2_with fail
      go_ret2
      refine ⟨_, _, rfl, ⟨gk, p1, m1, z1, p2, m2, z2, HD.out.1, HD.out.2, rfl, ho1.below hb2, N1.out, by omega, rfl, ho2.mono hb1.size, ?_, by omega⟩, Below.on hb1 hb2, ap_own ho1 ho2⟩
      rw [← HRE.out]; exact N2.out
end Go.Proofs.Ytjhopiaeppgioaa
namespace Go.Proofs.Ytjhopiaeppgioaa
open Go.RowKit
set_option maxRecDepth 20000
set_option maxHeartbeats 0
theorem bitsN_pos {a : Nat} (h : a ≠ 0) : 0 < bitsN a := by unfold bitsN; rw [if_neg h]; omega
theorem lt_pow_bits (x K : Nat) : x < 2 ^ K ↔ bitsN x ≤ K := by
  constructor
  · intro h
    by_cases h0 : x = 0
    · subst h0; simp [bitsN]
    · have h1 := bitsN_le x h0
      have h2 : bitsN x - 1 < K := (Nat.pow_lt_pow_iff_right (by decide : 1 < 2)).1 (Nat.lt_of_le_of_lt h1 h)
      omega
  · intro h
    exact Nat.lt_of_lt_of_le (bitsN_lt x) (Nat.pow_le_pow_right (by decide) h)
theorem bitsN_shl (a n : Nat) (h : a ≠ 0) : bitsN (2 ^ n * a) = n + bitsN a := by
  have := bitsN_top (lo := 0) (k := n) (Nat.two_pow_pos n) (bitsN_lt a) (bitsN_le a h) (by have := bitsN_pos h; omega)
  rw [Nat.zero_add] at this; exact this
theorem LIM_two (k : Nat) (hk : k = 524288) : LIM = 2 ^ k := by
  obtain ⟨K, hK⟩ : ∃ K, K = 8192 := ⟨_, rfl⟩
  rw [LIM_eq K hK, B64_pow, show 64 * K = k by omega]
theorem lim_bits (x : Nat) : x < LIM ↔ bitsN x ≤ 524288 := by
  obtain ⟨K, hK⟩ : ∃ K, K = 524288 := ⟨_, rfl⟩
  rw [LIM_two K hK, lt_pow_bits, hK]
theorem lim_shl (a n : Nat) (h : a ≠ 0) : 2 ^ n * a < LIM ↔ n + bitsN a ≤ 524288 := by rw [lim_bits, bitsN_shl a n h]
theorem splice_mid (L o : Nat) (xs : List Nat) (h : o + xs.length ≤ L) : splice (cellsU (List.replicate L 0)) o (cellsU xs) = cellsU (List.replicate o 0 ++ xs ++ List.replicate (L - (o + xs.length)) 0) := by
  unfold splice cellsU
  simp only [List.map_append, List.map_replicate, List.take_replicate, List.drop_replicate, List.length_map, List.append_assoc]
  rw [Nat.min_eq_left (by omega)]
theorem valB_shifted (o r : Nat) (xs : List Nat) : valB B64 (List.replicate o 0 ++ xs ++ List.replicate r 0) = B64 ^ o * valB B64 xs := by
  rw [valB_append_zeros, valB_append, valB_replicate, List.length_replicate, Nat.zero_add]
theorem shl_split (n a : Nat) : 2 ^ (n % 64) * (B64 ^ (n / 64) * a) = 2 ^ n * a := by
  rw [B64_pow, ← Nat.mul_assoc, ← Nat.pow_add, Nat.mod_add_div]

theorem shl_nf {p : Option Addr} {m c : Nat} {xs : List Nat} {a : Nat} {w : World} (h : At w p m c xs) (hx : Nf B64 xs a) (hm : m ≤ 8192) (n : Nat) (hn : n ≤ 9223372036854775807) :
    Calls Try.prog 37 #[.slice p m c, .int .i64 n] w fun e w' => Ans w.heap.size w' e (2 ^ n * a) ∧ Below w.heap.size w w' := by
  have fx := hx.form (by rw [h.len]; exact hm)
  have hl := h.len
  have HX : Hid (Nf B64 xs a) := hx
  clear hx
  by_cases h0 : m = 0
  · subst h0
    have hxe : xs = [] := List.eq_nil_of_length_eq_zero hl
    have ha : a = 0 := (HX.out.zero_iff B64_one).1 hxe
    have HA : Hid (2 ^ n * a = 0) := by rw [ha]; exact Nat.mul_zero _
    clear ha hxe hl
    go_enter Try.func37, Try.ntmps37
    go_wp2_with fail
    refine (form_true h fx).mono ?_
    rintro e w' ⟨rfl, hw⟩
    obtain rfl := hw.symm
    clear hw fx
    go_wp2_with fail
    go_ret2
    refine ⟨.inl ⟨?_, none, 0, [], rfl, ⟨rfl, Dig.nil _, .inl rfl⟩, ?_, by omega⟩, Below.refl _ _⟩
    · rw [HA.out]; exact (Nf.nil B64).lim.1 (by simp)
    · rw [HA.out]; exact Nf.nil _
  · have ha : a ≠ 0 := by
      intro e
      have := (HX.out.zero_iff B64_one).2 e
      rw [this] at hl; simp at hl; omega
    have h0' : ((m : Int) == 0) = false := by simp; omega
    have hls := lim_shl a n ha
    have hbl : bitsN a ≤ 524288 := by rw [← lim_bits]; exact HX.out.lim.1 (by omega)
    have HL : Hid (2 ^ n * a < LIM ↔ n + bitsN a ≤ 524288) := hls
    clear hls ha
    go_enter Try.func37, Try.ntmps37
    go_wp2_with fail
    refine (form_true h fx).mono ?_
    rintro e w' ⟨rfl, hw⟩
    obtain rfl := hw.symm
    clear hw fx
    go_wp2_with fail
    refine (bits_any h (by omega)).mono ?_
    rintro e w' ⟨rfl, hw⟩
    obtain rfl := hw.symm
    clear hw
    rw [HX.out.val]
    by_cases hbig : n + bitsN a ≤ 524288
    · obtain ⟨i0, hi, hz0, hz1, hz2⟩ := info_parts Try.infoU64
      go_wp2_with (first
        | (at_make; refine wpList_make_full _ rfl _ _ 22 rfl w.heap.size 34 i0 (.int .u64 0) 1 Try.underlying22 hi hz0 hz1 _ _ _ _ (m + n / 64 + 1) rfl rfl (by omega) (by omega) (by rw [hz2]; omega) (by unfold maxLen; omega) (Nat.le_refl _) ?_; intro w1 hown hgrow; have hb := made_blk hown hgrow; clear hown hgrow)
        | (refine wpList_copy_splice rfl (.tmp 30) (.tmp 31) 22 22 rfl 34 Try.underlying22 Try.sizeU64 (some ⟨w.heap.size, n / 64, none⟩) p (m + n / 64 + 1 - n / 64) (m + n / 64 + 1 - n / 64) m c rfl rfl w.heap.size (n / 64) (cellsU (List.replicate (m + n / 64 + 1) 0)) 34 hb.1 (cellsU xs) (by rw [cellsU_length, hl]; exact (Nat.min_eq_left (by omega)).symm) (fun h0 => ⟨rfl, (h.below hb.2).src (by rw [cellsU_length] at h0; omega)⟩) (by simp [cellsU_length]; omega) (cellsU_one xs) w.heap.size w hb.2 (Nat.le_refl _) ?_; intro w2 hg2 hb2))
      have hg3 : Blk w2 w.heap.size (List.replicate (n / 64) 0 ++ xs ++ List.replicate (m + n / 64 + 1 - (n / 64 + xs.length)) 0) := by
        have := hg2.out
        rw [splice_mid _ _ _ (by omega)] at this; exact this
      clear hg2 hb
      have hdz : Dig B64 (List.replicate (n / 64) 0 ++ xs ++ List.replicate (m + n / 64 + 1 - (n / 64 + xs.length)) 0) := dig_pad ((Dig.replicate _ _ B64_pos).append HX.out.dig) _
      have hr := hg3.row hdz
      have hlz : (List.replicate (n / 64) 0 ++ xs ++ List.replicate (m + n / 64 + 1 - (n / 64 + xs.length)) 0).length = m + n / 64 + 1 := by simp; omega
      rw [hlz] at hr
      refine (sup_any w.heap.size (m + n / 64 + 1) (m + n / 64 + 1) (n % 64) _ _ hr (Nat.le_refl _) (by omega) (by omega) (.inr ?_)).mono ?_
      · rw [Nat.add_sub_cancel, List.getD_eq_getElem?_getD, List.getElem?_append_right (by simp; omega), List.getElem?_replicate]
        split <;> rfl
      rintro e w3 ⟨zs, rfl, hwr, hrow, hval⟩
      rw [valB_shifted, HX.out.val, shl_split] at hval
      have A3 := hrow.at_ (Nat.le_refl _) (by unfold maxLen; omega)
      have hN := Nf.trim hrow.dig
      rw [hval] at hN
      have HV : Hid (Nf B64 (trimL zs) (2 ^ n * a)) := hN
      have hb3 : Below w.heap.size w w3 := hb2.trans (hwr.below (Nat.le_refl _))
      clear hval hN hg3 hdz hr hlz hb2
      go_wp2_with fail
      refine (trim_any A3).mono ?_
      rintro e w4 ⟨p', m', rfl, hm', hp', hw⟩
      obtain rfl := hw.symm
      have HM : Hid (m' = (trimL zs).length) := hm'
      clear hw hm'
      go_wp2_with fail
      go_ret2
      have e1 := HM.out
      have e2 := HL.out.2 hbig
      exact ⟨.inl ⟨e2, p', m', trimL zs, rfl, hrow.own (Nat.le_refl _) e1 hp', HV.out, by have := HV.out.lim.2 e2; omega⟩, hb3⟩
    · go_wp2_with fail
      go_ret2
      refine ⟨.inr ⟨?_, rfl⟩, Below.refl _ _⟩
      have := mt HL.out.1 hbig
      omega
end Go.Proofs.Ytjhopiaeppgioaa
