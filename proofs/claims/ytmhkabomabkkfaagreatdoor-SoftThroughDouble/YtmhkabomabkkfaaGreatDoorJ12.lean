import Derived.Test.YtmhkabomabkkfaaGreatDoorJ11
import Derived.Deep.LoopGhost
import Derived.WalkMore
import Derived.Test.YtmhkabomabkkfaaGreatDoorJ10
import Derived.Test.YtmhkabomabkkfaaGreatDoorJ8
import Derived.Deep.DeepCutAuto
import Derived.BigQuiet
namespace Go.Proofs.YtmhkabomabkkfaaGreatDoor
open Go.RowKit Go.Shelf
set_option maxRecDepth 20000
set_option maxHeartbeats 0
theorem Row.win {w : World} {g m : Nat} {rs : List Nat} (h : Row w g 0 m rs) (a l : Nat) (ha : a + l ≤ m) : Row w g a l ((rs.drop a).take l) := by
  have hl := h.len
  refine ⟨by simp; omega, (h.dig.drop a).take l, fun j hj => ?_, fun j hj => ?_⟩
  · have e : ((rs.drop a).take l).getD j 0 = rs.getD (a + j) 0 := by
      rw [List.getD_eq_getElem?_getD, List.getD_eq_getElem?_getD, List.getElem?_take, if_pos hj, List.getElem?_drop]
    rw [e]
    have := h.cell (a + j) (by omega)
    rw [Nat.zero_add] at this; exact this
  · have := h.frozen (a + j) (by omega)
    rw [Nat.zero_add] at this; exact this
theorem Row.put {w w' : World} {g m a l : Nat} {rs ws : List Nat} (h : Row w g 0 m rs) (hwr : Wr g a l w w') (hr : Row w' g a l ws) (ha : a + l ≤ m) : Row w' g 0 m (winPut rs ws a) := by
  have hl := h.len; have hwl := hr.len
  have hle : a + ws.length ≤ rs.length := by omega
  refine ⟨by rw [winPut_len rs ws a hle]; exact hl, ?_, fun j hj => ?_, fun j hj => ?_⟩
  · unfold winPut; exact ((h.dig.take a).append hr.dig).append (h.dig.drop _)
  · rw [winPut_get rs ws a j hle, Nat.zero_add]
    by_cases hc : a ≤ j ∧ j < a + ws.length
    · rw [if_pos hc]
      have := hr.cell (j - a) (by omega)
      rw [show a + (j - a) = j by omega] at this; exact this
    · rw [if_neg hc, hwr.cell g j (by omega)]
      have := h.cell j hj
      rw [Nat.zero_add] at this; exact this
  · rw [hwr.frozen]; exact h.frozen j hj
theorem Row.other {w : World} {g off n : Nat} {xs : List Nat} (h : Row w g off n xs) (g2 o2 : Nat) (v : Value) (hne : g ≠ g2) : Row (w.setCell ⟨g2, o2, none⟩ v) g off n xs := by
  refine ⟨h.len, h.dig, fun j hj => ?_, fun j hj => by rw [World.frozen?_setCell]; exact h.frozen j hj⟩
  exact (World.cell?_setCell_other _ _ _ _ (by intro e; apply hne; have := congrArg Addr.block e; simp at this; omega)).trans (h.cell j hj)
theorem Row.wr {w w' : World} {g off n g2 o2 l2 : Nat} {xs : List Nat} (h : Row w g off n xs) (hwr : Wr g2 o2 l2 w w') (hne : g ≠ g2) : Row w' g off n xs :=
  ⟨h.len, h.dig, fun j hj => (hwr.cell g (off + j) (.inl hne)).trans (h.cell j hj), fun j hj => (hwr.frozen _).trans (h.frozen j hj)⟩
theorem At.wr {w w' : World} {g off n c g2 o2 l2 : Nat} {xs : List Nat} (h : At w (some ⟨g, off, none⟩) n c xs) (hwr : Wr g2 o2 l2 w w') (hne : g ≠ g2) : At w' (some ⟨g, off, none⟩) n c xs :=
  ⟨h.len, h.cap, h.big, h.dig, by
    rcases h.cells with h0 | ⟨g', o', he, hc⟩
    · exact .inl h0
    · refine .inr ⟨g', o', he, fun j hj => ?_⟩
      simp only [Option.some.injEq, Addr.mk.injEq, and_true] at he
      rw [← he.1, ← he.2] at hc ⊢
      exact (hwr.cell g (off + j) (.inl hne)).trans (hc j hj)⟩
theorem At.cells_of {w w' : World} {g off n c : Nat} {xs : List Nat} (h : At w (some ⟨g, off, none⟩) n c xs) (hc : ∀ o, w'.cell? ⟨g, o, none⟩ = w.cell? ⟨g, o, none⟩) : At w' (some ⟨g, off, none⟩) n c xs :=
  ⟨h.len, h.cap, h.big, h.dig, by
    rcases h.cells with h0 | ⟨g', o', he, hcl⟩
    · exact .inl h0
    · refine .inr ⟨g', o', he, fun j hj => ?_⟩
      simp only [Option.some.injEq, Addr.mk.injEq, and_true] at he
      rw [← he.1, ← he.2] at hcl ⊢
      exact (hc (off + j)).trans (hcl j hj)⟩

theorem dig_abs {P W q r D T Q A : Nat} (hW : q * D + r = W) (h : T + P * W + P * B64 * Q * D = A) : T + P * r + P * (q + B64 * Q) * D = A := by
  subst hW
  have e1 : P * (q + B64 * Q) * D = P * (q * D) + P * B64 * Q * D := by
    rw [Nat.mul_add, Nat.add_mul, Nat.mul_assoc P q D, ← Nat.mul_assoc P B64 Q]
  rw [e1]
  rw [Nat.mul_add] at h
  omega
theorem DigRel.window {w : World} {gq gr L n A D k : Nat} {qs rs : List Nat} {wr : World} (h : DigRel w gq gr L n A D k qs rs wr) (hk : k < L) (hDn : D < B64 ^ n) :
    ∃ a ws, a = L - 1 - k ∧ ws = (rs.drop a).take (n + 1) ∧ Row wr gr a (n + 1) ws ∧ valB B64 ws < B64 * D ∧ valB B64 rs = valB B64 (rs.take a) + B64 ^ a * valB B64 ws ∧ valB B64 (rs.drop (a + (n + 1))) = 0 := by
  have hl := h.rowr.len
  obtain ⟨a, ha⟩ : ∃ a, a = L - 1 - k := ⟨_, rfl⟩
  have hlt := h.lt
  rw [show L - k = a + 1 by omega] at hlt
  have hz : valB B64 (rs.drop (a + (n + 1))) = 0 := by
    have hs := valB_split B64 (rs.drop (a + 1)) n (by rw [List.length_drop]; omega)
    rw [List.drop_drop, show a + 1 + n = a + (n + 1) by omega] at hs
    rcases Nat.eq_zero_or_pos (valB B64 (rs.drop (a + (n + 1)))) with e | e
    · exact e
    · exfalso
      have : B64 ^ n * 1 ≤ B64 ^ n * valB B64 (rs.drop (a + (n + 1))) := Nat.mul_le_mul_left _ e
      omega
  have hw := win_take rs a (n + 1) (by omega)
  rw [hz, Nat.mul_zero, Nat.add_zero] at hw
  refine ⟨a, _, ha, rfl, h.rowr.win a (n + 1) (by omega), ?_, hw, hz⟩
  have hs := valB_split B64 (rs.drop a) (n + 1) (by rw [List.length_drop]; omega)
  rw [List.drop_drop, hz, Nat.mul_zero, Nat.add_zero] at hs
  rw [← hs, valB_drop B64 rs a (by omega)]
  have hb := h.rowr.dig.getD B64_pos a
  have : B64 * (valB B64 (rs.drop (a + 1)) + 1) ≤ B64 * D := Nat.mul_le_mul_left _ hlt
  rw [Nat.mul_add] at this
  omega
theorem DigRel.step {w : World} {gq gr L n A D k : Nat} {qs rs : List Nat} {wr wr' : World} (h : DigRel w gq gr L n A D k qs rs wr) (hk : k < L) (hne : gq ≠ gr) {a q : Nat} {ws ws' : List Nat} (ha : a = L - 1 - k)
    (hrs : valB B64 rs = valB B64 (rs.take a) + B64 ^ a * valB B64 ws) (hz : valB B64 (rs.drop (a + (n + 1))) = 0) (hD : 0 < D) (hq : q = valB B64 ws / D) (hqb : q < B64) (hr : valB B64 ws' = valB B64 ws % D)
    (hwr : Wr gr a (n + 1) wr wr') (hrow : Row wr' gr a (n + 1) ws') : DigRel w gq gr L n A D (k + 1) (qs.set a q) (winPut rs ws' a) (wr'.setCell ⟨gq, a, none⟩ (U q)) := by
  have hl := h.rowr.len; have hql := h.rowq.len; have hwl := hrow.len
  have hle : a + ws'.length ≤ rs.length := by omega
  have e1 : L - (k + 1) = a := by omega
  have e2 : L - k = a + 1 := by omega
  have hdrop : valB B64 ((winPut rs ws' a).drop a) = valB B64 ws % D := by
    rw [winPut_drop rs ws' a hle, valB_append, hwl, hz, Nat.mul_zero, Nat.add_zero, hr]
  refine ⟨fun B h1 h2 => ?_, ?_, ?_, fun b o h1 h2 => ?_, ?_, ?_⟩
  · exact ((h.bel B h1 h2).trans (hwr.below h2)).trans ((Wr.refl gq 0 L wr').setCell a ⟨by omega, by omega⟩ (U q) |>.below h1)
  · have := (h.rowq.wr hwr hne).set a q (by omega) hqb
    rw [Nat.zero_add] at this; exact this
  · exact (h.rowr.put hwr hrow (by omega)).other gq a _ (Ne.symm hne)
  · rw [World.cell?_setCell_other _ _ _ _ (by intro e; apply h1; have := congrArg Addr.block e; simp at this; omega), hwr.cell b o (.inl h2)]
    exact h.cell b o h1 h2
  · rw [e1, hdrop]; exact Nat.mod_lt _ hD
  · have hs := h.sum
    rw [e2, hrs, Nat.pow_succ] at hs
    rw [e1, valB_split B64 (winPut rs ws' a) a (by rw [winPut_len rs ws' a hle]; omega), winPut_take rs ws' a hle, hdrop, drop_set_at qs a q (by omega), valB_cons]
    refine dig_abs (W := valB B64 ws) (q := q) ?_ hs
    rw [hq, Nat.mul_comm]; exact Nat.div_add_mod _ _

theorem takedig_any {gq gr gd od cd L n : Nat} {qs rs ds : List Nat} {w : World} (hq : Row w gq 0 L qs) (hr : Row w gr 0 (L + n) rs) (hd : At w (some ⟨gd, od, none⟩) n cd ds) (hqr : gq ≠ gr) (hdq : gd ≠ gq) (hdr : gd ≠ gr) (hn : 2 ≤ n) (hn2 : n ≤ 8192) (hL : L ≤ 8193) (hlt : valB B64 (rs.drop L) < valB B64 ds) :
    Calls Tryz.prog 143 #[.slice (some ⟨gq, 0, none⟩) L L, .slice (some ⟨gr, 0, none⟩) (L + n : Nat) (L + n : Nat), .slice (some ⟨gd, od, none⟩) n cd] w fun e w' =>
      ∃ qs' rs', e = .returned (.tuple #[]) ∧ (∀ B, B ≤ gq → B ≤ gr → Below B w w') ∧ Row w' gq 0 L qs' ∧ Row w' gr 0 (L + n) rs' ∧ valB B64 rs' < valB B64 ds ∧ valB B64 rs' + valB B64 qs' * valB B64 ds = valB B64 rs := by
  have hDn := valB_lt B64_pos hd.dig
  rw [hd.len] at hDn
  have hD : 0 < valB B64 ds := by omega
  have dcap := hd.cap; have dbig := hd.big
  unfold maxLen at dbig
  have HD0 : Hid (At w (some ⟨gd, od, none⟩) n cd ds) := hd
  have HDN : Hid (valB B64 ds < B64 ^ n) := hDn
  have HDP : Hid (0 < valB B64 ds) := hD
  have HR0 : Hid (DigRel w gq gr L n (valB B64 rs) (valB B64 ds) 0 qs rs w) := by
    refine ⟨fun B _ _ => Below.refl _ _, hq, hr, fun _ _ _ _ => rfl, by rw [Nat.sub_zero]; exact hlt, ?_⟩
    rw [Nat.sub_zero, List.drop_of_length_le (by rw [hq.len]; omega)]; simp [valB]
  clear hq hr hd hDn hD hlt
  obtain ⟨m, hm⟩ : ∃ m, m = L + n := ⟨_, rfl⟩
  rw [← hm]
  have hm1 : L + n ≤ m := by omega
  have hm2 : m ≤ L + n := by omega
  have HM : Hid (m = L + n) := hm
  clear hm
  go_enter Tryz.func143, Tryz.ntmps143
  go_wp2
  go_step3
  go_wp2
  go_step3
  go_wp2
  go_loopg [16] L (fun gk i wr => ∃ (k : Nat) (qk rk : List Nat), k + gk = L ∧ i = .int .i64 k ∧ Hid (DigRel w gq gr L n (valB B64 rs) (valB B64 ds) k qk rk wr))
  case atStart => exact ⟨0, qs, rs, by omega, rfl, HR0⟩
  case round =>
    obtain ⟨k, qk, rk, hkg, rfl, HR⟩ := hrel
    cases gk with
    | zero =>
      have hkz : ¬ ((k : Int) < (L : Int)) := by omega
      obtain rfl : k = L := by omega
      clear hkg
      go_wp2
      try rw [Exit.noGoto_ret]
      go_end0
      have hh := HR.out
      have hs := hh.sum; have hlt := hh.lt
      rw [Nat.sub_self, List.drop_zero] at hlt
      rw [Nat.sub_self, List.drop_zero, Nat.pow_zero, Nat.one_mul] at hs
      have hrr := hh.rowr
      rw [← HM.out] at hrr
      exact ⟨qk, rk, rfl, hh.bel, hh.rowq, hrr, hlt, hs⟩
    | succ gg =>
      obtain ⟨wo, hwo⟩ : ∃ wo, wo = wr := ⟨_, rfl⟩
      subst hwo
      have hkz : (k : Int) < (L : Int) := by omega
      obtain ⟨a, ws, ha, hws, hrow, hwlt, hrs, hz⟩ := HR.out.window (by omega) HDN.out
      have HD1 : Hid (At wo (some ⟨gd, od, none⟩) n cd ds) := HD0.out.cells_of (fun o => HR.out.cell gd o hdq hdr)
      have HAW : Hid (a = L - 1 - k) := ha
      have HWS : Hid (valB B64 rk = valB B64 (rk.take a) + B64 ^ a * valB B64 ws) := hrs
      have HZ : Hid (valB B64 (rk.drop (a + (n + 1))) = 0) := hz
      have HROW : Hid (Row wo gr a (n + 1) ws) := hrow
      have HWL : Hid (valB B64 ws < B64 * valB B64 ds) := hwlt
      have hal : a < L := by omega
      have hea : L - 1 - k = a := ha.symm
      have HEA : Hid (L - 1 - k = a) := hea
      clear ha hws hrs hz hrow hwlt hea
      go_wp2_with fail
      rw [show L - 1 - k + n + 1 - (L - 1 - k) = n + 1 by omega, HEA.out]
      refine (trial_any (HROW.out.at_ (Nat.le_refl _) (by unfold maxLen; omega)) HD1.out hn HWL.out).mono ?_
      rintro e w1 ⟨d, rfl, hdb, hqd, r1, hw1⟩
      have HR1 : Hid (Row w1 gr a (n + 1) ws) := by rw [hw1]; exact HROW.out.drewN r1
      have HD2 : Hid (At w1 (some ⟨gd, od, none⟩) n cd ds) := by rw [hw1]; exact HD1.out.drewN r1
      have HW1 : Hid (Wr gr a (n + 1) wo w1) := by rw [hw1]; exact (Wr.refl _ _ _ _).drewN r1
      have HQD : Hid (valB B64 ws / valB B64 ds ≤ d) := hqd
      clear hw1 hqd HROW HD1
      go_wp2_with fail
      refine (takemul_any HR1.out HD2.out hn hn2 hdb hdr).mono ?_
      rintro e w2 ⟨b, ws2, rfl, hb1, hwr2, hrow2, hsum2⟩
      have HWIN : Hid (WinRel wo gr a n (valB B64 ws) (valB B64 ds) d b ws2 w2) := ⟨HW1.out.trans hwr2, hrow2, hdb, hb1, HQD.out, hsum2⟩
      clear hwr2 hrow2 hsum2 HR1 HD2 HW1 HQD
      go_wp2_with fail
      go_loopg [10, 11] d (fun g2 dv bv wy => ∃ (bb : Nat) (wsy : List Nat), dv = U g2 ∧ bv = .bool (decide (bb = 1)) ∧ Hid (WinRel wo gr a n (valB B64 ws) (valB B64 ds) g2 bb wsy wy))
      case atStart => exact ⟨b, ws2, rfl, rfl, HWIN⟩
      case round =>
        obtain ⟨bb, wsy, rfl, rfl, HY⟩ := hrel
        have hob := HY.out.bb
        have hgb := HY.out.db
        rcases Nat.eq_zero_or_pos bb with h0 | h0
        · subst h0
          have hdone := HY.out.done HDP.out
          have HQ : Hid (gk = valB B64 ws / valB B64 ds) := hdone.1
          have HM2 : Hid (valB B64 wsy = valB B64 ws % valB B64 ds) := hdone.2
          have hrq := HR.out.rowq.wr HY.out.wrs hqr
          have hcq : wr.cell? ⟨gq, L - 1 - k, none⟩ = some (U (qk.getD (L - 1 - k) 0)) := by
            have := hrq.cell (L - 1 - k) (by omega)
            rw [Nat.zero_add] at this; exact this
          have hfq : wr.frozen? ⟨gq, L - 1 - k, none⟩ = false := by
            have := hrq.frozen (L - 1 - k) (by omega)
            rw [Nat.zero_add] at this; exact this
          clear hdone hrq
          go_wp2_with fail
          go_roundg gg
          case measure => omega
          case rel =>
            refine ⟨k + 1, qk.set a gk, winPut rk wsy a, by omega, by go_num, ?_⟩
            rw [HEA.out]
            exact HR.out.step (by omega) hqr HAW.out HWS.out HZ.out HDP.out HQ.out hgb HM2.out HY.out.wrs HY.out.row
        · obtain rfl : bb = 1 := by omega
          have HD3 : Hid (At wr (some ⟨gd, od, none⟩) n cd ds) := (HD0.out.cells_of (fun o => HR.out.cell gd o hdq hdr)).wr HY.out.wrs hdr
          go_wp2_with fail
          refine (ladd_any gr a (n + 1) (n + 1) wsy (some ⟨gd, od, none⟩) n cd ds wr HY.out.row (Nat.le_refl _) (by omega) HD3.out (by omega) (fun g2 off2 _ he => by simp only [Option.some.injEq, Addr.mk.injEq, and_true] at he; exact .inl (by omega))).mono ?_
          rintro e w3 ⟨cy, zs, rfl, hcy, hwr3, hrow3, hsum3⟩
          have hmore := HY.out.more hcy hwr3 hrow3 hsum3
          have hge := hmore.1
          have HMO : Hid (WinRel wo gr a n (valB B64 ws) (valB B64 ds) (gk - 1) (1 - cy) zs w3) := hmore.2.2
          clear hmore hwr3 hrow3 hsum3
          go_wp2_with fail
          go_roundg (gk - 1)
          case measure => omega
          case rel =>
            have ew : IntKind.u64.wrap ((gk : Int) - 1) = ((gk - 1 : Nat) : Int) := wrap_mod _ _ (by rw [B64_eq] at hgb; omega)
            refine ⟨1 - cy, zs, by rw [ew], ?_, HMO⟩
            rcases Nat.eq_zero_or_pos cy with h | h
            · subst h; rfl
            · obtain rfl : cy = 1 := by omega
              rfl
theorem no_over {P X c Y : Nat} (h : X + P * c = Y) (hY : Y < P) : X = Y := by
  rcases Nat.eq_zero_or_pos c with e | e
  · subst e; omega
  · have : P * 1 ≤ P * c := Nat.mul_le_mul_left _ e
    omega
theorem moved_any {p : Option Addr} {m c : Nat} {xs : List Nat} {w : World} (h : At w p m c xs) (n s : Nat) (hmn : m ≤ n) (hn : n ≤ 10000) (hs : s < 64) (hfit : 2 ^ s * valB B64 xs < B64 ^ n) :
    Calls Tryz.prog 142 #[.slice p m c, .int .i64 n, .int .i64 s] w fun e w' =>
      ∃ g zs, e = .returned (.slice (some ⟨g, 0, none⟩) n n) ∧ w.heap.size ≤ g ∧ g < w'.heap.size ∧ Row w' g 0 n zs ∧ valB B64 zs = 2 ^ s * valB B64 xs ∧ Below w.heap.size w w' := by
  obtain ⟨i0, hi, hz0, hz1, hz2⟩ := info_parts Tryz.infoU64
  have hl := h.len
  have HF : Hid (2 ^ s * valB B64 xs < B64 ^ n) := hfit
  clear hfit
  go_enter Tryz.func142, Tryz.ntmps142
  go_wp2_with (first
    | (at_make; refine wpList_make_full _ rfl _ _ 93 rfl w.heap.size 22 i0 (.int .u64 0) 1 Tryz.underlying93 hi hz0 hz1 _ _ _ _ n rfl rfl (by omega) (by omega) (by rw [hz2]; omega) (by unfold maxLen; omega) (Nat.le_refl _) ?_; intro w1 hown hgrow; have hb := made_blk hown hgrow; clear hown hgrow)
    | (refine wpList_copy_splice rfl (.tmp 10) (.tmp 11) 93 93 rfl 22 Tryz.underlying93 Tryz.sizeU64 (some ⟨w.heap.size, 0, none⟩) p n n m c rfl rfl w.heap.size 0 (cellsU (List.replicate n 0)) 22 hb.1 (cellsU xs) (by rw [cellsU_length, hl]; exact (Nat.min_eq_left hmn).symm) (fun h0 => ⟨rfl, (h.below hb.2).src (by rw [cellsU_length] at h0; omega)⟩) (by simp [cellsU_length]; omega) (cellsU_one xs) w.heap.size w hb.2 (Nat.le_refl _) ?_; intro w2 hg2 hb2))
  have hg3 : Blk w2 w.heap.size (xs ++ List.replicate (n - m) 0) := by
    have := hg2
    rw [splice_cellsU, hl] at this; exact this
  clear hg2 hb
  have hdz : Dig B64 (xs ++ List.replicate (n - m) 0) := dig_pad h.dig _
  have hr := hg3.row hdz
  have hlz : (xs ++ List.replicate (n - m) 0).length = n := by simp; omega
  rw [hlz] at hr
  refine (sup_gen w.heap.size n n s _ _ hr (Nat.le_refl _) (by omega) hs).mono ?_
  rintro e w3 ⟨zs, rfl, hwr, hrow, hval⟩
  rw [valB_append_zeros] at hval
  have HV : Hid (valB B64 zs = 2 ^ s * valB B64 xs) := no_over hval HF.out
  have hb3 : Below w.heap.size w w3 := hb2.trans (hwr.below (Nat.le_refl _))
  have hlt3 : w.heap.size < w3.heap.size := by rw [hwr.size]; exact hg3.lt
  clear hval hg3 hdz hr hlz hb2 hwr
  go_wp2_with fail
  go_ret
  exact ⟨_, zs, rfl, Nat.le_refl _, hlt3, hrow, HV.out, hb3⟩

theorem top_ne {ys : List Nat} {b n : Nat} (hy : Nf B64 ys b) (hl : ys.length = n) (h0 : 0 < n) : ys.getD (n - 1) 0 ≠ 0 := by
  refine hy.top _ ?_
  rw [List.getLast?_eq_getElem?, hl, List.getD_eq_getElem?_getD, List.getElem?_eq_getElem (by omega)]; rfl
theorem div_fit {ys : List Nat} {b n s : Nat} (hy : Nf B64 ys b) (hl : ys.length = n) (h0 : 0 < n) (hs : s + bitsN (ys.getD (n - 1) 0) = 64) : 2 ^ s * b < B64 ^ n := by
  obtain ⟨k, rfl⟩ : ∃ k, n = k + 1 := ⟨n - 1, by omega⟩
  rw [Nat.add_sub_cancel] at hs
  have h1 := valB_top hl
  have h2 := take_len_lt hy.dig (n := k) (by omega)
  rw [hy.val] at h1
  have h3 := bitsN_lt (ys.getD k 0)
  have h4 : 2 ^ s * (ys.getD k 0 + 1) ≤ 2 ^ s * 2 ^ bitsN (ys.getD k 0) := Nat.mul_le_mul_left _ h3
  rw [← Nat.pow_add, hs, show (2:Nat) ^ 64 = B64 from rfl] at h4
  have h5 : b < B64 ^ k * (ys.getD k 0 + 1) := by rw [Nat.mul_add, Nat.mul_one]; omega
  have h6 : 2 ^ s * b < 2 ^ s * (B64 ^ k * (ys.getD k 0 + 1)) := Nat.mul_lt_mul_of_pos_left h5 (Nat.two_pow_pos s)
  have h7 : B64 ^ k * (2 ^ s * (ys.getD k 0 + 1)) ≤ B64 ^ k * B64 := Nat.mul_le_mul_left _ h4
  rw [Nat.pow_succ]
  rw [Nat.mul_left_comm] at h6
  omega
theorem div_room {xs : List Nat} {a m s : Nat} (hx : Nf B64 xs a) (hl : xs.length = m) (hs : s < 64) : 2 ^ s * a < B64 ^ (m + 1) := by
  have h1 := valB_lt B64_pos hx.dig
  rw [hx.val, hl] at h1
  have h2 : (2:Nat) ^ s ≤ B64 := by rw [show B64 = 2 ^ 64 from rfl]; exact Nat.pow_le_pow_right (by omega) (by omega)
  have h3 : 2 ^ s * a ≤ B64 * a := Nat.mul_le_mul_right _ h2
  have h4 : B64 * a < B64 * B64 ^ m := Nat.mul_lt_mul_of_pos_left h1 B64_pos
  rw [Nat.pow_succ, Nat.mul_comm (B64 ^ m)]
  omega
theorem div_start {xs ys rs : List Nat} {a b m n s L : Nat} (hx : Nf B64 xs a) (hy : Nf B64 ys b) (hl : xs.length = m) (hm : ys.length = n) (h0 : 0 < n) (hL : L + n = m + 1) (hr : rs.length = m + 1) (hv : valB B64 rs = 2 ^ s * a) : valB B64 (rs.drop L) < 2 ^ s * b := by
  have h1 := valB_lt B64_pos hx.dig
  rw [hx.val, hl] at h1
  have h2 := valB_pos B64_pos (show ys ≠ [] by intro e; subst e; simp at hm; omega) hy.top
  rw [hy.val, hm] at h2
  have h3 := valB_split B64 rs L (by omega)
  have h4 : B64 ^ L * B64 ^ (n - 1) ≤ B64 ^ L * b := Nat.mul_le_mul_left _ h2
  rw [← Nat.pow_add, show L + (n - 1) = m by omega] at h4
  have h5 : 2 ^ s * a < 2 ^ s * (B64 ^ L * b) := Nat.mul_lt_mul_of_pos_left (by omega) (Nat.two_pow_pos s)
  rw [Nat.mul_left_comm] at h5
  exact Nat.lt_of_mul_lt_mul_left (a := B64 ^ L) (by omega)
theorem div_end {a b s Q r : Nat} (h : r + Q * (2 ^ s * b) = 2 ^ s * a) (hr : r < 2 ^ s * b) : Q = a / b ∧ r / 2 ^ s = a % b := by
  have hp := Nat.two_pow_pos s
  have e1 : Q * (2 ^ s * b) = 2 ^ s * (Q * b) := by rw [Nat.mul_left_comm]
  rw [e1] at h
  obtain ⟨r', hr'⟩ : ∃ r', r = 2 ^ s * r' := by
    refine ⟨a - Q * b, ?_⟩
    rw [Nat.mul_sub]; omega
  subst hr'
  have h2 : r' + Q * b = a := by
    rw [← Nat.mul_add] at h
    exact Nat.eq_of_mul_eq_mul_left hp h
  have h3 : r' < b := Nat.lt_of_mul_lt_mul_left hr
  have h4 := quo_unique (n := a) (q := Q) (y := b) (r := r') (by omega) h3
  refine ⟨h4.1, ?_⟩
  rw [Nat.mul_div_cancel_left _ hp]; exact h4.2

structure DivTo (w : World) (a b : Nat) (v1 v2 : Value) (w' : World) : Prop where
  quo : ∃ p m zs, v1 = .slice p m m ∧ Own w.heap.size w' p m zs ∧ Nf B64 zs (a / b) ∧ m ≤ 8192
  rem : ∃ p m zs, v2 = .slice p m m ∧ Own w.heap.size w' p m zs ∧ Nf B64 zs (a % b) ∧ m ≤ 8192
  bel : Below w.heap.size w w'
  ap : Ap2 v1 v2

theorem divide_any {gp op gq oq : Nat} {m n c d : Nat} {xs ys : List Nat} {a b : Nat} {w : World} (h : At w (some ⟨gp, op, none⟩) m c xs) (k : At w (some ⟨gq, oq, none⟩) n d ys) (hx : Nf B64 xs a) (hy : Nf B64 ys b) (hm : m ≤ 8192) (hn : 2 ≤ n) (hnm : n ≤ m) :
    Calls Tryz.prog 131 #[.slice (some ⟨gp, op, none⟩) m c, .slice (some ⟨gq, oq, none⟩) n d] w fun e w' => ∃ v1 v2, e = .returned (.tuple #[v1, v2]) ∧ DivTo w a b v1 v2 w' := by
  obtain ⟨y, hyy⟩ : ∃ y, y = ys.getD (n - 1) 0 := ⟨_, rfl⟩
  have hyb : y < B64 := by rw [hyy]; exact hy.dig.getD B64_pos _
  have hy0 : y ≠ 0 := by rw [hyy]; exact top_ne hy k.len (by omega)
  have hb64 := bits64 hyb
  have hbp : 0 < bitsN y := by
    rcases Nat.eq_zero_or_pos (bitsN y) with e | e
    · exfalso
      have := bitsN_lt y
      rw [e] at this; simp at this; omega
    · exact e
  obtain ⟨s, hs⟩ : ∃ s, s + bitsN y = 64 := ⟨64 - bitsN y, by omega⟩
  have hs64 : s < 64 := by omega
  have cy : w.cell? ⟨gq, oq + (n - 1), none⟩ = some (U y) := by rw [hyy]; exact k.cellAt (n - 1) (by omega)
  have F1 : Hid (2 ^ s * valB B64 ys < B64 ^ n) := by
    have := div_fit hy k.len (by omega) (by rw [← hyy]; exact hs)
    rw [← hy.val] at this; exact this
  have F2 : Hid (2 ^ s * valB B64 xs < B64 ^ (m + 1)) := by
    have := div_room hx h.len hs64
    rw [← hx.val] at this; exact this
  have HX : Hid (Nf B64 xs a) := hx
  have HY : Hid (Nf B64 ys b) := hy
  have HS : Hid (s + bitsN y = 64) := hs
  have hlx := h.len; have hly := k.len
  have HLX : Hid (xs.length = m) := hlx
  have HLY : Hid (ys.length = n) := hly
  have kcap := k.cap; have kbig := k.big
  unfold maxLen at kbig
  have hwn : IntKind.i64.wrap ((n : Int) - 1) = (n : Int) - 1 := wrap_sub n 1 (by omega) (by omega)
  clear hx hy hyy hs hbp hb64 hlx hly
  go_enter Tryz.func131, Tryz.ntmps131
  go_wp2_with fail
  refine (lz_any y s w hyb HS.out).mono ?_
  rintro e w' ⟨rfl, hw⟩
  obtain rfl := hw.symm
  clear hw
  go_wp2_with fail
  refine (moved_any k n s (Nat.le_refl _) (by omega) hs64 F1.out).mono ?_
  rintro e w1 ⟨g1, zs1, rfl, hg1, hgl1, hrow1, hv1, hb1⟩
  have h1 := h.below hb1
  have HV1 : Hid (valB B64 zs1 = 2 ^ s * valB B64 ys) := hv1
  clear hv1 h k
  go_wp2_with fail
  rw [show ((m : Int) + 1) = ((m + 1 : Nat) : Int) by omega]
  refine (moved_any h1 (m + 1) s (by omega) (by omega) hs64 F2.out).mono ?_
  rintro e w2 ⟨g2, zs2, rfl, hg2, hgl2, hrow2, hv2, hb2⟩
  have hr1 := hrow1.below hb2 hgl1
  have HV2 : Hid (valB B64 zs2 = 2 ^ s * valB B64 xs) := hv2
  have hw2 := Below.on hb1 hb2
  clear hv2 h1 hrow1 hb1 hb2
  obtain ⟨i0, hi, hz0, hz1, hz2⟩ := info_parts Tryz.infoU64
  obtain ⟨L, hL⟩ : ∃ L, L = m - n + 1 := ⟨_, rfl⟩
  have HL : Hid (L = m - n + 1) := hL
  have hLi : (m : Int) - (n : Int) + 1 = (L : Int) := by omega
  have hLb : L ≤ 8192 := by omega
  clear hL
  go_wp2_with (at_make; refine wpList_make_full _ rfl _ _ 93 rfl w2.heap.size 22 i0 (.int .u64 0) 1 Tryz.underlying93 hi hz0 hz1 _ _ _ _ L rfl rfl (by omega) (by omega) (by rw [hz2]; omega) (by unfold maxLen; omega) (Nat.le_refl _) ?_; intro w3 hown hgrow; have hb := made_blk hown hgrow; clear hown hgrow)
  have hq3 : Row w3 w2.heap.size 0 L (List.replicate L 0) := by
    have := hb.1.row (Dig.replicate B64 L B64_pos)
    rw [List.length_replicate] at this; exact this
  have hlt12 : g1 < w2.heap.size := Nat.lt_of_lt_of_le hgl1 (by have := hw2.size; omega)
  have hr13 := hr1.below hb.2 hlt12
  have hr23 := hrow2.below hb.2 hgl2
  have hw3 := Below.on hw2 hb.2
  have hne12 : g1 ≠ g2 := by omega
  have hLn : L + n = m + 1 := by have := HL.out; omega
  rw [← hLn] at hr23
  have TD := takedig_any hq3 hr23 (hr13.at_ (Nat.le_refl _) (by unfold maxLen; omega)) (by omega) (by omega) hne12 hn (by omega) (by omega) (by
    rw [HV1.out, HY.out.val]
    exact div_start HX.out HY.out HLX.out HLY.out (by omega) hLn (by rw [hrow2.len]) (by rw [HV2.out, HX.out.val]))
  rw [hLn] at TD
  have HLN : Hid (L + n = m + 1) := hLn
  clear hLn hq3 hr13 hr23 hr1 hrow2 hLi
  refine TD.mono ?_
  rintro e w4 ⟨qs, rs, rfl, hbel, hrq, hrr, hlt, hsum⟩
  rw [HV1.out, HY.out.val] at hlt
  rw [HV1.out, HV2.out, HY.out.val, HX.out.val] at hsum
  have hend := div_end hsum hlt
  have hsp := valB_split B64 rs n (by rw [hrr.len]; omega)
  have hfit : valB B64 (rs.take n) = valB B64 rs := no_over hsp.symm (Nat.lt_trans hlt (by have := F1.out; rw [HY.out.val] at this; exact this))
  have HQ : Hid (valB B64 qs = a / b) := hend.1
  have HREM : Hid (valB B64 (rs.take n) / 2 ^ s = a % b) := by rw [hfit]; exact hend.2
  have hrt := hrr.take n (by omega)
  have hw4 : Below w.heap.size w w4 := hw3.trans (hbel w.heap.size (by have := hw2.size; omega) (by omega))
  have hgq4 : w2.heap.size ≠ g2 := by omega
  have hgqb : w.heap.size ≤ w2.heap.size := hw2.size
  generalize w2.heap.size = gz at *
  clear hsum hlt hend hsp hfit hrr hbel TD hw3 hw2 hb hlt12 hne12
  go_wp2_with fail
  refine (cut_row g2 0 (m + 1) (m + 1) n w4 (Nat.le_refl _) (by omega)).mono ?_
  rintro e w5 ⟨rfl, r5, hw5⟩
  have hrt5 : Row w5 g2 0 n (rs.take n) := by rw [hw5]; exact hrt.drewN r5
  have hrq5 : Row w5 gz 0 L qs := by rw [hw5]; exact hrq.drewN r5
  have hbw5 : Below w.heap.size w w5 := by rw [hw5]; exact bDrewN hw4 r5
  clear hw5 hrt hrq hw4
  go_wp2_with fail
  refine (sdn_any g2 n n s (rs.take n) w5 hrt5 (Nat.le_refl _) (by omega) hs64).mono ?_
  rintro e w6 ⟨us, rfl, hwr6, hrow6, hval6⟩
  rw [HREM.out] at hval6
  have hrq6 := hrq5.wr hwr6 hgq4
  have hbw6 : Below w.heap.size w w6 := hbw5.trans (hwr6.below (by omega))
  have AQ := hrq6.at_ (Nat.le_refl _) (by unfold maxLen; omega)
  have AR := hrow6.at_ (Nat.le_refl _) (by unfold maxLen; omega)
  have NQ : Hid (Nf B64 (trimL qs) (a / b)) := by have := Nf.trim hrq6.dig; rw [HQ.out] at this; exact this
  have NR : Hid (Nf B64 (trimL us) (a % b)) := by have := Nf.trim hrow6.dig; rw [hval6] at this; exact this
  clear hval6 hrt5 hrq5 hbw5 hwr6
  go_wp2_with fail
  refine (trim_any AQ).mono ?_
  rintro e w' ⟨p1, m1, rfl, hm1, hp1, hw⟩
  obtain rfl := hw.symm
  have HM1 : Hid (m1 = (trimL qs).length) := hm1
  clear hw hm1
  go_wp2_with fail
  refine (trim_any AR).mono ?_
  rintro e w' ⟨p2, m2, rfl, hm2, hp2, hw⟩
  obtain rfl := hw.symm
  have HM2 : Hid (m2 = (trimL us).length) := hm2
  clear hw hm2
  go_wp2_with fail
  go_ret2
  have hl1 := trimL_length_le qs; have hl2 := trimL_length_le us
  have e1 := HM1.out; have e2 := HM2.out; have e3 := hrq6.len; have e4 := hrow6.len
  exact ⟨_, _, rfl, ⟨p1, m1, _, rfl, hrq6.own hgqb e1 hp1, NQ.out, by omega⟩, ⟨p2, m2, _, rfl, hrow6.own (by omega) e2 hp2, NR.out, by omega⟩, hbw6, ap_ne hp1 hp2 hgq4⟩
end Go.Proofs.YtmhkabomabkkfaaGreatDoor
namespace Go.Proofs.YtmhkabomabkkfaaGreatDoor
open Go.RowKit
set_option maxRecDepth 20000
set_option maxHeartbeats 0
structure DivRel (w : World) (g n : Nat) (zs : List Nat) (v k re : Nat) (dk : List Nat) (wr : World) : Prop where
  wrs : ∀ B, B ≤ g → Below B w wr
  row : Row wr g 0 n dk
  lo : dk.take (n - k) = zs.take (n - k)
  rlt : re < v
  sum : valB B64 (zs.drop (n - k)) = valB B64 (dk.drop (n - k)) * v + re
theorem DivRel.step {w : World} {g n : Nat} {zs : List Nat} {v k re : Nat} {dk : List Nat} {wr wr' : World} (h : DivRel w g n zs v k re dk wr) (hk : k < n) (hz : zs.length = n) {x q r : Nat}
    (hx : x = dk.getD (n - 1 - k) 0) (hq : re * B64 + x = q * v + r) (hr : r < v) (hw : ∀ B, B ≤ g → Below B w wr') (hrow : Row wr' g 0 n (dk.set (n - 1 - k) q)) : DivRel w g n zs v (k + 1) r (dk.set (n - 1 - k) q) wr' := by
  have hl := h.row.len
  have e : n - (k + 1) = n - 1 - k := by omega
  have e2 : n - 1 - k + 1 = n - k := by omega
  have hxz : x = zs.getD (n - 1 - k) 0 := hx.trans (getD_of_take h.lo (by omega))
  refine ⟨hw, hrow, ?_, hr, ?_⟩
  · rw [e, take_set_at]; exact take_of_take h.lo (by omega)
  · rw [e, drop_set_at dk _ q (by omega), valB_drop _ zs (n - 1 - k) (by omega), ← hxz, valB_cons, e2, h.sum, Nat.add_mul, Nat.mul_add]
    have e3 : B64 * (valB B64 (dk.drop (n - k)) * v) = B64 * valB B64 (dk.drop (n - k)) * v := by rw [Nat.mul_assoc]
    rw [e3, Nat.mul_comm B64 re]
    omega

theorem divw_nf {p : Option Addr} {m c : Nat} {xs : List Nat} {a : Nat} {w : World} (h : At w p m c xs) (hx : Nf B64 xs a) (hm : m ≤ 8192) (v : Nat) (hv : v < B64) (hv0 : v ≠ 0) :
    Calls Tryz.prog 129 #[.slice p m c, U v] w fun e w' =>
      (∃ p' m' zs, e = .returned (.tuple #[.slice p' m' m', U (a % v), .int .i64 0]) ∧ Own w.heap.size w' p' m' zs ∧ Nf B64 zs (a / v) ∧ m' ≤ 8192) ∧ Below w.heap.size w w' := by
  have fx := hx.form (by rw [h.len]; exact hm)
  have hl := h.len
  have HX : Hid (Nf B64 xs a) := hx
  have hv0' : ((v : Int) == 0) = false := by simp; omega
  clear hx
  go_enter Tryz.func129, Tryz.ntmps129
  go_wp2_with fail
  refine (form_true h fx).mono ?_
  rintro e w' ⟨rfl, hw⟩
  obtain rfl := hw.symm
  clear hw fx
  go_wp2_with fail
  refine (copied_any h m (Nat.le_refl _) (by omega)).mono ?_
  rintro e w1 ⟨g, rfl, hg, hblk, hb⟩
  rw [Nat.sub_self, List.replicate_zero, List.append_nil] at hblk
  have hr := hblk.row HX.out.dig
  rw [hl] at hr
  go_wp2_with fail
  go_loopw [8, 9, 10, 22] (fun rv _ _ i wr => ∃ (k re : Nat) (dk : List Nat), k ≤ m ∧ i = .int .i64 k ∧ rv = U re ∧ DivRel w1 g m xs v k re dk wr) (fun _ _ _ i _ => m - (intOf i).toNat)
  case atStart => exact ⟨0, 0, xs, Nat.zero_le _, rfl, rfl, ⟨fun B _ => Below.refl _ _, hr, rfl, by omega, by rw [Nat.sub_zero, List.drop_of_length_le (by omega)]; simp [valB]⟩⟩
  case round =>
    obtain ⟨k, re, dk, hk, rfl, rfl, hR⟩ := hrel
    by_cases hlt : k < m
    · obtain ⟨x, hxx⟩ : ∃ x, x = dk.getD (m - 1 - k) 0 := ⟨_, rfl⟩
      have hcx : wr.cell? ⟨g, m - 1 - k, none⟩ = some (U x) := by
        have := hR.row.cell (m - 1 - k) (by omega)
        rw [← hxx, Nat.zero_add] at this; exact this
      have hfx : wr.frozen? ⟨g, m - 1 - k, none⟩ = false := by
        have := hR.row.frozen (m - 1 - k) (by omega)
        rw [Nat.zero_add] at this; exact this
      have hxb : x < B64 := by rw [hxx]; exact hR.row.dig.getD B64_pos _
      have hrv := hR.rlt
      have HR : Hid (DivRel w1 g m xs v k re dk wr) := hR
      have HXX : Hid (x = dk.getD (m - 1 - k) 0) := hxx
      clear hR hxx hr
      go_wp2_with fail
      refine (div64_any re x v _ hrv hv hxb).mono ?_
      rintro e w2 ⟨rfl, r, hw⟩
      obtain rfl := hw.symm
      clear hw
      obtain ⟨q, hq⟩ : ∃ q, q = (re * B64 + x) / v := ⟨_, rfl⟩
      obtain ⟨r2, hr2⟩ : ∃ r2, r2 = (re * B64 + x) % v := ⟨_, rfl⟩
      rw [← hq, ← hr2]
      have hqr : re * B64 + x = q * v + r2 := by rw [hq, hr2, Nat.mul_comm ((re * B64 + x) / v)]; exact (Nat.div_add_mod _ _).symm
      have hr2v : r2 < v := by rw [hr2]; exact Nat.mod_lt _ (by omega)
      have hqb : q < B64 := by
        rw [hq]
        refine (Nat.div_lt_iff_lt_mul (by omega)).2 ?_
        have : (re + 1) * B64 ≤ v * B64 := Nat.mul_le_mul_right _ hrv
        rw [Nat.add_mul, Nat.one_mul, Nat.mul_comm v] at this
        omega
      have HQR : Hid (re * B64 + x = q * v + r2) := hqr
      clear hq hr2 hqr
      go_wp2_with fail
      go_roundw
      case rel =>
        refine ⟨k + 1, r2, dk.set (m - 1 - k) q, by omega, by go_num, rfl, HR.out.step hlt hl HXX.out HQR.out hr2v (fun B hB => ?_) ?_⟩
        · exact bDrewN ((HR.out.wrs B hB).setCell hB _) r
        · have h1 := HR.out.row.set (m - 1 - k) q (by omega) hqb
          rw [Nat.zero_add] at h1
          exact h1.drewN r
      case measure => simp [intOf]; omega
    · obtain rfl : k = m := by omega
      have HR : Hid (DivRel w1 g k xs v k re dk wr) := hR
      clear hR hr
      have hh := HR.out
      have A3 := hh.row.at_ (Nat.le_refl _) (by unfold maxLen; omega)
      have hs := hh.sum
      rw [Nat.sub_self, List.drop_zero, List.drop_zero, HX.out.val] at hs
      obtain ⟨hq, hre⟩ := quo_unique hs hh.rlt
      have hN := Nf.trim hh.row.dig
      rw [hq] at hN
      have HV : Hid (Nf B64 (trimL dk) (a / v)) := hN
      have HRE : Hid (re = a % v) := hre
      have hb3 : Below w.heap.size w wr := hb.trans (hh.wrs _ hg)
      have hrow := hh.row
      clear hs hq hre hN hh
      go_wp2_with fail
      refine (trim_any A3).mono ?_
      rintro e w4 ⟨p', m', rfl, hm', hp', hw⟩
      obtain rfl := hw.symm
      have HM : Hid (m' = (trimL dk).length) := hm'
      clear hw hm'
      go_wp2_with fail
      go_ret3
      have e1 := HM.out
      have e2 := trimL_length_le dk
      have e3 := hrow.len
      exact ⟨⟨p', m', trimL dk, by rw [HRE.out]; rfl, hrow.own hg e1 hp', HV.out, by omega⟩, hb3⟩
end Go.Proofs.YtmhkabomabkkfaaGreatDoor
namespace Go.Proofs.YtmhkabomabkkfaaGreatDoor
open Go.RowKit Go.Shelf
set_option maxRecDepth 20000
set_option maxHeartbeats 0
theorem Nf.one {ys : List Nat} {b : Nat} (hy : Nf B64 ys b) (hl : ys.length = 1) : ys = [b] := by
  match ys, hl with
  | [y], _ => have := hy.val; simp [valB] at this; rw [this]
theorem Nf.lt_of_len {xs ys : List Nat} {a b n m : Nat} (hx : Nf B64 xs a) (hy : Nf B64 ys b) (hl : xs.length = n) (hm : ys.length = m) (h : n < m) : a < b := by
  have := val_lt_len hx.dig hy.top (by omega)
  rw [hx.val, hy.val] at this; exact this

theorem quorem_any {p q : Option Addr} {n m c d : Nat} {xs ys : List Nat} {a b : Nat} {w : World} (h : At w p n c xs) (k : At w q m d ys) (hx : Nf B64 xs a) (hy : Nf B64 ys b) (hlx : n ≤ 8192) (hly : m ≤ 8192) (hb : b ≠ 0) :
    Calls Tryz.prog 110 #[.slice p n c, .slice q m d] w fun e w' => ∃ v1 v2, e = .returned (.tuple #[v1, v2, .int .i64 0]) ∧ DivTo w a b v1 v2 w' := by
  have fx := hx.form (by rw [h.len]; exact hlx)
  have fy := hy.form (by rw [k.len]; exact hly)
  have hm0 : 0 < m := by
    rcases Nat.eq_zero_or_pos m with e | e
    · exact absurd ((hy.zero_iff B64_one).1 (List.eq_nil_of_length_eq_zero (by rw [k.len]; exact e))) hb
    · exact e
  have HX : Hid (Nf B64 xs a) := hx
  have HY : Hid (Nf B64 ys b) := hy
  clear hx hy
  have hlenx := h.len; have hleny := k.len
  have HLX : Hid (xs.length = n) := hlenx
  have HLY : Hid (ys.length = m) := hleny
  clear hlenx hleny
  go_enter Tryz.func110, Tryz.ntmps110
  go_wp2_with fail
  refine (form_true h fx).mono ?_
  rintro e w' ⟨rfl, hw⟩
  obtain rfl := hw.symm
  clear hw
  go_wp2_with fail
  refine (form_true k fy).mono ?_
  rintro e w' ⟨rfl, hw⟩
  obtain rfl := hw.symm
  clear hw fx fy
  have hm0' : ((m : Int) == 0) = false := by simp; omega
  by_cases h1 : m = 1
  · subst h1
    obtain ⟨gq, oq, rfl, hcq⟩ := k.cells.resolve_left (by omega)
    have hc0 : w.cell? ⟨gq, oq, none⟩ = some (U b) := by
      have := hcq 0 (by omega)
      rw [HY.out.one HLY.out] at this; exact this
    have hbb : b < B64 := by
      have := HY.out.dig b (by rw [HY.out.one HLY.out]; simp)
      exact this
    clear hcq
    go_wp2_with fail
    refine (divw_nf h HX.out hlx b hbb hb).mono ?_
    rintro e w1 ⟨⟨p1, m1, zs1, rfl, ho1, n1, hm1⟩, hb1⟩
    have N1 : Hid (Nf B64 zs1 (a / b)) := n1
    obtain ⟨r, hr⟩ : ∃ r, r = a % b := ⟨_, rfl⟩
    rw [← hr]
    have HR : Hid (r = a % b) := hr
    have hrb : r < B64 := by rw [hr]; exact Nat.lt_trans (Nat.mod_lt _ (by omega)) hbb
    clear n1 hr
    go_wp2_with fail
    refine (word_any r w1 hrb).mono ?_
    rintro e w2 ⟨p2, m2, zs2, rfl, ho2, n2, hm2, hb2⟩
    have N2 : Hid (Nf B64 zs2 r) := n2
    clear n2
    go_wp2_with fail
    go_ret3
    refine ⟨_, _, rfl, ⟨p1, m1, zs1, rfl, ho1.below hb2, N1.out, hm1⟩, ⟨p2, m2, zs2, rfl, ho2.mono hb1.size, ?_, by omega⟩, Below.on hb1 hb2, ap_own ho1 ho2⟩
    rw [← HR.out]; exact N2.out
  · have h1' : ((m : Int) == 1) = false := by simp; omega
    by_cases hlt : n < m
    · have hab := HX.out.lt_of_len HY.out HLX.out HLY.out hlt
      have HQ : Hid (a / b = 0 ∧ a % b = a) := ⟨Nat.div_eq_of_lt hab, Nat.mod_eq_of_lt hab⟩
      clear hab
      go_wp2_with fail
      refine (norm_any h).mono ?_
      rintro e w1 ⟨ha1, hb1⟩
      rw [HX.out.val] at ha1
      have hal : a < LIM := HX.out.lim.1 (by rw [HLX.out]; exact hlx)
      rcases ha1 with ⟨_, p1, m1, zs, rfl, ho, hn1, hm1⟩ | ⟨hge, _⟩
      · have N1 : Hid (Nf B64 zs a) := hn1
        clear hn1 hal
        go_wp2_with fail
        go_ret3
        refine ⟨_, _, rfl, ⟨none, 0, [], rfl, ⟨rfl, Dig.nil _, .inl rfl⟩, ?_, by omega⟩, ⟨p1, m1, zs, rfl, ho, ?_, hm1⟩, hb1, ap_nil⟩
        · rw [HQ.out.1]; exact Nf.nil _
        · rw [HQ.out.2]; exact N1.out
      · omega
    · obtain ⟨gp, op, rfl, _⟩ := h.cells.resolve_left (by omega)
      obtain ⟨gq, oq, rfl, _⟩ := k.cells.resolve_left (by omega)
      go_wp2_with fail
      refine (divide_any h k HX.out HY.out hlx (by omega) (by omega)).mono ?_
      rintro e w1 ⟨v1, v2, rfl, hD⟩
      have HD : Hid (DivTo w a b v1 v2 w1) := hD
      clear hD
      go_wp2_with fail
      go_ret3
      exact ⟨_, _, rfl, HD.out⟩
def cmpI (x y : Int) : Int := if x < y then -1 else if x = y then 0 else 1
theorem Num.drewN {w : World} {p : Option Addr} {m c : Nat} {xs : List Nat} {a : Nat} (h : Num w p m c xs a) (r : Nat) : Num (w.drewN r) p m c xs a := ⟨h.at_.drewN r, h.nf, h.le⟩
theorem nshl_any {p : Option Addr} {m c : Nat} {xs : List Nat} {a : Nat} {w : World} (s : Bool) (h : Num w p m c xs a) (hs : s = true → 0 < a) (n : Nat) (hn : n ≤ 9223372036854775807) :
    Calls Tryz.prog 120 #[ZV s p m c, .int .i64 n] w fun e w' => AnsI w.heap.size w' e (iv s (2 ^ n * a)) ∧ Below w.heap.size w w' := by
  have H : Hid (Num w p m c xs a) := h
  have HS : Hid (s = true → 0 < a) := hs
  clear h hs
  have HN : Hid (n ≤ 9223372036854775807) := hn
  have c0 : decide ((n : Int) < 0) = false := decide_eq_false (by omega)
  clear hn
  go_enter Tryz.func120, Tryz.ntmps120
  go_wp2_with fail
  obtain ⟨W0, hW0⟩ : ∃ W0, W0 = ((w.alloc (.cells #[.bool s, .slice p m c] 95)).alloc (.cells #[.bool false, .slice none 0 0] 95)) := ⟨_, rfl⟩
  have Xx : Hid (Box W0 (w.heap.size) (.bool s) (.slice p m c)) := by rw [hW0]; exact ⟨by go_simp, by go_simp, by go_simp, by go_simp⟩
  have Xr : Hid (Box W0 (w.heap.size + 1) (.bool false) (.slice none 0 0)) := by rw [hW0]; exact ⟨by go_simp, by go_simp, by go_simp, by go_simp⟩
  have hb0 : Below w.heap.size w W0 := by rw [hW0]; exact below2 w _ _
  rw [← hW0]
  clear hW0
  have hbw : Below w.heap.size w w := Below.refl _ _
  obtain ⟨gr, hgr⟩ : ∃ g, g = w.heap.size + 1 := ⟨_, rfl⟩
  have HGr : Hid (w.heap.size ≤ gr) := by rw [hgr]; show _ ≤ _; omega
  rw [← hgr] at Xr
  try rw [← hgr]
  obtain ⟨gx, hgx⟩ : ∃ g, g = w.heap.size := ⟨_, rfl⟩
  have HGx : Hid (w.heap.size ≤ gx) := by rw [hgx]; show _ ≤ _; omega
  rw [← hgx] at Xx
  try rw [← hgx]
  have HGD : Hid (gx ≠ gr ∧ gr ≠ gx) := by rw [hgx, hgr]; exact ⟨by omega, by omega⟩
  clear hgx hgr
  replace H : Hid _ := H.out.below hb0
  replace hbw := Below.on hbw hb0
  clear hb0
  refine (numform_t s H.out HS.out).mono ?_
  rintro e w1 ⟨rfl, hb1⟩
  replace Xx : Hid _ := Xx.out.below hb1
  replace Xr : Hid _ := Xr.out.below hb1
  replace H : Hid _ := H.out.below hb1
  replace hbw := Below.on hbw hb1
  clear hb1
  clear c0
  obtain ⟨cx0, cx1, fx0, fx1⟩ := Xx.out
  have hnex := Xx.out.lt
  go_wp2_with fail
  clear cx0 cx1 fx0 fx1 hnex
  have hrl : gr < w1.heap.size := Xr.out.lt
  have HRL : Hid (gr < w1.heap.size ∧ w.heap.size ≤ w1.heap.size) := ⟨hrl, hbw.size⟩
  clear hrl
  obtain ⟨v, hv⟩ : ∃ v, v = 2 ^ n * a := ⟨_, rfl⟩
  have HV : Hid (v = 2 ^ n * a) := hv
  refine (shl_nf H.out.at_ H.out.nf H.out.le n HN.out).mono ?_
  rintro e w2 ⟨ha, hb2⟩
  rw [← hv] at ha
  clear hv
  replace Xx : Hid _ := Xx.out.below hb2
  replace Xr : Hid _ := Xr.out.below hb2
  replace H : Hid _ := H.out.below hb2
  replace hbw := Below.on hbw hb2
  clear hb2
  rcases ha with ⟨hl, p2, m2, z2, rfl, ho2, hn2, hm2⟩ | ⟨hl, rfl⟩
  · have HL : Hid (v < LIM) := hl
    clear hl
    have HO2 : Hid (Own w1.heap.size w2 p2 m2 z2) := ho2
    have HN2 : Hid (Nf B64 z2 v ∧ m2 ≤ 8192) := ⟨hn2, hm2⟩
    clear ho2 hn2 hm2
    obtain ⟨cx0, cx1, fx0, fx1⟩ := Xx.out
    have hnex := Xx.out.lt
    go_wp2_with fail
    clear cx0 cx1 fx0 fx1 hnex
    refine (signed_any s p2 m2 m2 w2).mono ?_
    rintro e w3 ⟨rfl, hb3⟩
    replace Xx : Hid _ := Xx.out.below hb3
    replace Xr : Hid _ := Xr.out.below hb3
    replace H : Hid _ := H.out.below hb3
    replace HO2 : Hid (Own w1.heap.size w3 p2 m2 z2) := HO2.out.below hb3
    replace hbw := Below.on hbw hb3
    clear hb3
    obtain ⟨b, hb⟩ : ∃ b, b = (s && decide (0 < m2)) := ⟨_, rfl⟩
    rw [← hb]
    have HBB : Hid (b = (s && decide (0 < m2))) := hb
    clear hb
    obtain ⟨cr0, cr1, fr0, fr1⟩ := Xr.out
    have hner := Xr.out.lt
    go_wp2_with fail
    refine bodyPost_ret (v := .tuple #[ZV b p2 m2 m2, .int .i64 0]) (by rw [results_cell_tmp rfl]; go_simp) rfl ⟨.inl ⟨by rw [iv_natAbs, ← HV.out]; exact HL.out, p2, m2, z2, ?_, ?_, ?_, HN2.out.2⟩, ?_⟩
    · rw [HBB.out, iv_lt, ← HV.out, HN2.out.1.lenpos HO2.out.len]
    · exact own_set2 HO2.out HRL.out.1 HRL.out.2 _ _
    · rw [iv_natAbs, ← HV.out]; exact HN2.out.1
    · exact bSet (bSet hbw _ _ _ HGr.out) _ _ _ HGr.out
  · have HL : Hid (LIM ≤ v) := hl
    clear hl
    obtain ⟨cx0, cx1, fx0, fx1⟩ := Xx.out
    have hnex := Xx.out.lt
    go_wp2_with fail
    clear cx0 cx1 fx0 fx1 hnex
    refine (signed_any s none 0 0 w2).mono ?_
    rintro e w3 ⟨rfl, hb3⟩
    replace Xx : Hid _ := Xx.out.below hb3
    replace Xr : Hid _ := Xr.out.below hb3
    replace H : Hid _ := H.out.below hb3
    replace hbw := Below.on hbw hb3
    clear hb3
    rw [show (s && decide (0 < 0)) = false from by simp]
    obtain ⟨cr0, cr1, fr0, fr1⟩ := Xr.out
    have hner := Xr.out.lt
    go_wp2_with fail
    refine bodyPost_ret (v := .tuple #[ZV false none 0 0, .int .i64 5]) (by rw [results_cell_tmp rfl]; go_simp) rfl ⟨.inr ⟨by rw [iv_natAbs, ← HV.out]; exact HL.out, rfl⟩, ?_⟩
    exact bSet (bSet hbw _ _ _ HGr.out) _ _ _ HGr.out
structure Row32 (w : World) (g off n : Nat) (xs : List Nat) : Prop where
  len : xs.length = n
  dig : Dig B32 xs
  cell : ∀ j, j < n → w.cell? ⟨g, off + j, none⟩ = some (V (xs.getD j 0))
  frozen : ∀ j, j < n → w.frozen? ⟨g, off + j, none⟩ = false
theorem Row32.at_ {w : World} {g off n c : Nat} {xs : List Nat} (h : Row32 w g off n xs) (hc : n ≤ c) (hb : c ≤ maxLen) : At32 w (some ⟨g, off, none⟩) n c xs :=
  ⟨h.len, hc, hb, h.dig, .inr ⟨g, off, rfl, h.cell⟩⟩
theorem Row32.set {w : World} {g off n : Nat} {xs : List Nat} (h : Row32 w g off n xs) (k y : Nat) (hk : k < n) (hy : y < B32) : Row32 (w.setCell ⟨g, off + k, none⟩ (V y)) g off n (xs.set k y) := by
  refine ⟨by rw [List.length_set]; exact h.len, h.dig.set k hy, fun j hj => ?_, fun j hj => by rw [World.frozen?_setCell]; exact h.frozen j hj⟩
  rw [getD_set xs k y j (by rw [h.len]; exact hk)]
  by_cases e : j = k
  · subst e; rw [if_pos rfl]; exact World.cell?_setCell_same _ _ _ (h.cell j hj)
  · rw [if_neg e]
    exact (World.cell?_setCell_other _ _ _ _ (by intro e2; apply e; have := congrArg Addr.off e2; simp at this; omega)).trans (h.cell j hj)
theorem Row32.drewN {w : World} {g off n : Nat} {xs : List Nat} (h : Row32 w g off n xs) (q : Nat) : Row32 (w.drewN q) g off n xs := ⟨h.len, h.dig, h.cell, h.frozen⟩
theorem Row32.drew {w : World} {g off n : Nat} {xs : List Nat} (h : Row32 w g off n xs) : Row32 w.drew g off n xs := ⟨h.len, h.dig, h.cell, h.frozen⟩
theorem Blk32.frozen {w : World} {g : Nat} {xs : List Nat} (h : Blk32 w g xs) (j : Nat) : w.frozen? ⟨g, j, none⟩ = false := frozen_of_row w g j _ _ h
theorem Blk32.row {w : World} {g : Nat} {xs : List Nat} (h : Blk32 w g xs) (hd : Dig B32 xs) : Row32 w g 0 xs.length xs :=
  ⟨rfl, hd, fun j hj => by rw [Nat.zero_add]; exact h.cell j hj, fun j _ => h.frozen _⟩
theorem Row32.win {w : World} {g m : Nat} {rs : List Nat} (h : Row32 w g 0 m rs) (a l : Nat) (ha : a + l ≤ m) : Row32 w g a l ((rs.drop a).take l) := by
  have hl := h.len
  refine ⟨by simp; omega, (h.dig.drop a).take l, fun j hj => ?_, fun j hj => ?_⟩
  · have e : ((rs.drop a).take l).getD j 0 = rs.getD (a + j) 0 := by
      rw [List.getD_eq_getElem?_getD, List.getD_eq_getElem?_getD, List.getElem?_take, if_pos hj, List.getElem?_drop]
    rw [e]
    have := h.cell (a + j) (by omega)
    rw [Nat.zero_add] at this; exact this
  · have := h.frozen (a + j) (by omega)
    rw [Nat.zero_add] at this; exact this
theorem Row32.put {w w' : World} {g m a l : Nat} {rs ws : List Nat} (h : Row32 w g 0 m rs) (hwr : Wr g a l w w') (hr : Row32 w' g a l ws) (ha : a + l ≤ m) : Row32 w' g 0 m (winPut rs ws a) := by
  have hl := h.len; have hwl := hr.len
  have hle : a + ws.length ≤ rs.length := by omega
  refine ⟨by rw [winPut_len rs ws a hle]; exact hl, ?_, fun j hj => ?_, fun j hj => ?_⟩
  · unfold winPut; exact ((h.dig.take a).append hr.dig).append (h.dig.drop _)
  · rw [winPut_get rs ws a j hle, Nat.zero_add]
    by_cases hc : a ≤ j ∧ j < a + ws.length
    · rw [if_pos hc]
      have := hr.cell (j - a) (by omega)
      rw [show a + (j - a) = j by omega] at this; exact this
    · rw [if_neg hc, hwr.cell g j (by omega)]
      have := h.cell j hj
      rw [Nat.zero_add] at this; exact this
  · rw [hwr.frozen]; exact h.frozen j hj
theorem win_take32 (rs : List Nat) (a m : Nat) (h : a + m ≤ rs.length) : valB B32 rs = valB B32 (rs.take a) + B32 ^ a * (valB B32 ((rs.drop a).take m) + B32 ^ m * valB B32 (rs.drop (a + m))) := by
  rw [valB_split B32 rs a (by omega), valB_split B32 (rs.drop a) m (by rw [List.length_drop]; omega), List.drop_drop]

structure RMulRel (w : World) (g off m : Nat) (zs ys : List Nat) (v k cy : Nat) (dk : List Nat) (wr : World) : Prop where
  wrs : Wr g off m w wr
  row : Row32 wr g off m dk
  hi : dk.drop k = zs.drop k
  car : cy < B32
  sum : valB B32 (dk.take k) + B32 ^ k * cy = valB B32 (zs.take k) + valB B32 (ys.take k) * v
theorem RMulRel.step {w : World} {g off m : Nat} {zs ys : List Nat} {v k cy : Nat} {dk : List Nat} {wr : World} (h : RMulRel w g off m zs ys v k cy dk wr) (hk : k < m)
    {x z l d : Nat} (hz : z = dk.getD k 0) (hx : x = ys.getD k 0) (hs : x * v + z + cy = l + B32 * d) (hl : l < B32) (hd : d < B32) :
    RMulRel w g off m zs ys v (k + 1) d (dk.set k l) (wr.setCell ⟨g, off + k, none⟩ (V l)) := by
  have hlen := h.row.len
  refine ⟨h.wrs.setCell (off + k) ⟨by omega, by omega⟩ _, h.row.set k l hk hl, ?_, hd, ?_⟩
  · rw [drop_set_lt]; exact drop_succ_of_drop h.hi
  · have hzz : z = zs.getD k 0 := hz.trans (getD_of_drop h.hi)
    rw [take_set_succ dk k l (by omega), valB_snoc, List.length_take, hlen, Nat.min_eq_left (by omega), valB_take_any _ zs k, valB_take_any _ ys k, ← hzz, ← hx, Nat.pow_succ, Nat.add_mul]
    have e1 := h.sum
    have e2 : B32 ^ k * (x * v + z + cy) = B32 ^ k * (l + B32 * d) := by rw [hs]
    rw [Nat.mul_add, Nat.mul_add, Nat.mul_add, ← Nat.mul_assoc] at e2
    have e3 : B32 ^ k * x * v = B32 ^ k * (x * v) := Nat.mul_assoc _ _ _
    have e4 : B32 ^ k * B32 * d = B32 ^ k * (B32 * d) := Nat.mul_assoc _ _ _
    rw [e3, e4]
    rw [← Nat.mul_assoc] at e2
    generalize B32 ^ k * x * v = X0 at *
    generalize B32 ^ k * (x * v) = X1 at *
    generalize B32 ^ k * B32 * d = X2 at *
    generalize B32 ^ k * (B32 * d) = X3 at *
    generalize B32 ^ k * z = X4 at *
    generalize B32 ^ k * cy = X5 at *
    generalize B32 ^ k * l = X6 at *
    omega

theorem RMulRel.drewN {w : World} {g off m : Nat} {zs ys : List Nat} {v k cy : Nat} {dk : List Nat} {wr : World} (h : RMulRel w g off m zs ys v k cy dk wr) (q : Nat) : RMulRel w g off m zs ys v k cy dk (wr.drewN q) :=
  ⟨h.wrs.drewN q, h.row.drewN q, h.hi, h.car, h.sum⟩
theorem valB_set_zero (b : Nat) (xs : List Nat) (k y : Nat) (hk : k < xs.length) (h0 : xs.getD k 0 = 0) : valB b (xs.set k y) = valB b xs + b ^ k * y := by
  have h1 := valB_split b xs k (by omega)
  have h2 := valB_split b (xs.set k y) k (by simp; omega)
  rw [drop_set_at xs k y hk, take_set_at, valB_cons] at h2
  rw [valB_drop b xs k hk, h0] at h1
  rw [h2, h1, Nat.mul_add, Nat.zero_add]
  omega
theorem valB_drop_zero {b : Nat} (hb : 0 < b) {xs : List Nat} {k : Nat} (h : valB b (xs.drop k) = 0) : xs.getD k 0 = 0 ∧ valB b (xs.drop (k + 1)) = 0 := by
  by_cases hk : k < xs.length
  · rw [valB_drop b xs k hk] at h
    have h1 : b * valB b (xs.drop (k + 1)) = 0 := by omega
    refine ⟨by omega, ?_⟩
    rcases Nat.mul_eq_zero.1 h1 with e | e
    · omega
    · exact e
  · refine ⟨?_, ?_⟩
    · rw [List.getD_eq_getElem?_getD, List.getElem?_eq_none (by omega)]; rfl
    · rw [List.drop_of_length_le (by omega)]; rfl
structure RMulO (w : World) (g N m : Nat) (xs ys : List Nat) (i : Nat) (ps : List Nat) (wr : World) : Prop where
  bel : Below g w wr
  row : Row32 wr g 0 N ps
  val : valB B32 ps = valB B32 (xs.take i) * valB B32 ys
  zero : valB B32 (ps.drop (i + m)) = 0
theorem rmul_abs {P Y x T Z D V cy B m : Nat} (h1 : V = T + P * Z) (h2 : D + B ^ m * cy = Z + Y * x) : T + P * D + P * B ^ m * cy = V + P * (Y * x) := by
  have e1 : P * (D + B ^ m * cy) = P * (Z + Y * x) := by rw [h2]
  rw [Nat.mul_add, Nat.mul_add, ← Nat.mul_assoc] at e1
  omega
theorem RMulO.step {w : World} {g N m n : Nat} {xs ys : List Nat} {i : Nat} {ps : List Nat} {wr wr' : World} (h : RMulO w g N m xs ys i ps wr) (hi : i < n) (hN : N = n + m) (hx : xs.length = n) (hy : ys.length = m) {x cy : Nat} {dk : List Nat} (ex : x = xs.getD i 0) (hR : RMulRel wr g i m ((ps.drop i).take m) ys x m cy dk wr') :
    RMulO w g N m xs ys (i + 1) ((winPut ps dk i).set (i + m) cy) (wr'.setCell ⟨g, i + m, none⟩ (V cy)) := by
  have hl := h.row.len; have hdl := hR.row.len
  have hle : i + dk.length ≤ ps.length := by omega
  have hrow := h.row.put hR.wrs hR.row (by omega)
  have hz := valB_drop_zero B32_pos h.zero
  have hsum := hR.sum
  have t1 : dk.take m = dk := List.take_of_length_le (by omega)
  have t2 : ((ps.drop i).take m).take m = (ps.drop i).take m := by rw [List.take_take, Nat.min_self]
  have t3 : ys.take m = ys := List.take_of_length_le (by omega)
  rw [t1, t2, t3] at hsum
  have hv := win_take32 ps i m (by omega)
  rw [h.zero, Nat.mul_zero, Nat.add_zero] at hv
  have hv1 : valB B32 (winPut ps dk i) = valB B32 (ps.take i) + B32 ^ i * valB B32 dk := by
    rw [valB_split B32 (winPut ps dk i) i (by rw [winPut_len ps dk i hle]; omega), winPut_take ps dk i hle, winPut_drop ps dk i hle, valB_append, hdl, h.zero, Nat.mul_zero, Nat.add_zero]
  have hg0 : (winPut ps dk i).getD (i + m) 0 = 0 := by
    rw [winPut_get ps dk i (i + m) hle, if_neg (by omega)]; exact hz.1
  refine ⟨(h.bel.trans (hR.wrs.below (Nat.le_refl _))).trans (((Wr.refl g 0 N wr').setCell (i + m) ⟨by omega, by omega⟩ (V cy)).below (Nat.le_refl _)), ?_, ?_, ?_⟩
  · have := hrow.set (i + m) cy (by omega) hR.car
    rw [Nat.zero_add] at this; exact this
  · rw [valB_set_zero B32 _ (i + m) cy (by rw [winPut_len ps dk i hle]; omega) hg0, hv1, Nat.pow_add, rmul_abs hv hsum, h.val, valB_take_succ B32 xs i (by omega), ← ex, Nat.add_mul, Nat.mul_assoc, Nat.mul_comm (valB B32 ys) x]
  · rw [show i + 1 + m = i + m + 1 by omega, drop_set_lt]
    have e : (winPut ps dk i).drop (i + m + 1) = ps.drop (i + m + 1) := by
      have e1 : (winPut ps dk i).drop (i + m) = ps.drop (i + m) := by
        have := congrArg (List.drop dk.length) (winPut_drop ps dk i hle)
        rw [List.drop_drop, List.drop_left, hdl] at this
        exact this
      have := congrArg (List.drop 1) e1
      rw [List.drop_drop, List.drop_drop] at this; exact this
    rw [e]; exact hz.2
structure RAddR (w : World) (g N M : Nat) (xs ys : List Nat) (i cy : Nat) (ss : List Nat) (wr : World) : Prop where
  bel : Below g w wr
  own : wr.ownsRow g 34 1 (.slice (some ⟨g, 0, none⟩) i N) i (cellsV ss)
  len : ss.length = i
  dig : Dig B32 ss
  car : cy ≤ 1
  fin : i ≤ M + 1
  last : i = M + 1 → cy = 0
  sum : valB B32 ss + B32 ^ i * cy = valB B32 (xs.take i) + valB B32 (ys.take i)
theorem RAddR.at_ {w : World} {g N M : Nat} {xs ys : List Nat} {i cy : Nat} {ss : List Nat} {wr : World} (h : RAddR w g N M xs ys i cy ss wr) : At32 wr (some ⟨g, 0, none⟩) i N ss := by
  rcases h.own.2 with ⟨h', _⟩ | ⟨g', cap', cur, h', hbase, hgc, hcap', hmx, hsz, htake⟩
  · simp at h'
  · simp only [Value.slice.injEq, Option.some.injEq, Addr.mk.injEq, and_true, true_and] at h'
    obtain ⟨rfl, rfl⟩ := h'
    refine ⟨h.len, hcap', hmx, h.dig, .inr ⟨g, 0, rfl, fun jj hj => ?_⟩⟩
    rw [Nat.zero_add, cell_of_row wr g jj _ _ _ hgc]
    have e1 := cellsV_get ss jj (by rw [h.len]; exact hj)
    rw [← htake, Nat.mul_one, List.getElem?_take, if_pos hj] at e1
    rw [← Array.getElem?_toList]; exact e1
def sgnI (z : Int) : Int := if z < 0 then -1 else if z = 0 then 0 else 1
theorem bits_zero (a : Nat) : bitsN a = 0 ↔ a = 0 := by
  have h1 := lt_pow_bits a 0
  constructor
  · intro e
    have := h1.2 (by omega)
    omega
  · rintro rfl
    have := h1.1 (by omega)
    omega
theorem sign_any {p : Option Addr} {m c : Nat} {xs : List Nat} {a : Nat} {w : World} (s : Bool) (h : Num w p m c xs a) :
    Calls Tryz.prog 97 #[ZV s p m c] w fun e w' => e = .returned (.int .i64 (sgnI (iv s a))) ∧ Below w.heap.size w w' := by
  have H : Hid (Num w p m c xs a) := h
  have hm := h.le
  obtain ⟨bb, hbb⟩ : ∃ bb, bb = bitsN a := ⟨_, rfl⟩
  have HBB : Hid (bb = bitsN a) := hbb
  clear h hbb
  by_cases ha : a = 0
  · have hb0 : bb = 0 := by rw [HBB.out]; exact (bits_zero a).2 ha
    have hr : sgnI (iv s a) = 0 := by rw [ha]; cases s <;> rfl
    rw [hr]
    clear hr ha
    go_enter Tryz.func97, Tryz.ntmps97
    go_wp2_with fail
    refine (bits_any (H.out.at_.alloc _) (by omega)).mono ?_
    rintro e w1 ⟨rfl, hw⟩
    rw [H.out.nf.val, ← HBB.out, hb0]
    have hbw : Below w.heap.size w w1 := by rw [hw]; exact below1 w _
    clear hw hb0
    go_wp2_with fail
    go_ret
    exact ⟨rfl, hbw⟩
  · have hb0 : ((bb : Int) == 0) = false := by have := mt (bits_zero a).1 ha; rw [← HBB.out] at this; simpa using this
    obtain ⟨sg, hsg⟩ : ∃ sg, sg = sgnI (iv s a) := ⟨_, rfl⟩
    rw [← hsg]
    have HSG : Hid (sg = if s = true then -1 else 1) := by
      show _ = _
      rw [hsg]; unfold sgnI
      cases s
      · rw [iv_f, if_neg (by omega), if_neg (by omega), if_neg (by simp)]
      · rw [iv_t, if_pos (by omega), if_pos rfl]
    clear hsg ha
    cases s
    · go_enter Tryz.func97, Tryz.ntmps97
      go_wp2_with fail
      refine (bits_any (H.out.at_.alloc _) (by omega)).mono ?_
      rintro e w1 ⟨rfl, hw⟩
      rw [H.out.nf.val, ← HBB.out]
      have hbw : Below w.heap.size w w1 := by rw [hw]; exact below1 w _
      have B0 : Box (w.alloc (.cells #[.bool false, .slice p m c] 95)) w.heap.size (.bool false) (.slice p m c) := ⟨by go_simp, by go_simp, by go_simp, by go_simp⟩
      obtain ⟨c0, c1, f0, f1⟩ := B0
      rw [← hw] at c0 c1 f0 f1
      clear hw
      go_wp2_with fail
      go_ret
      exact ⟨by rw [HSG.out]; rfl, hbw⟩
    · go_enter Tryz.func97, Tryz.ntmps97
      go_wp2_with fail
      refine (bits_any (H.out.at_.alloc _) (by omega)).mono ?_
      rintro e w1 ⟨rfl, hw⟩
      rw [H.out.nf.val, ← HBB.out]
      have hbw : Below w.heap.size w w1 := by rw [hw]; exact below1 w _
      have B0 : Box (w.alloc (.cells #[.bool true, .slice p m c] 95)) w.heap.size (.bool true) (.slice p m c) := ⟨by go_simp, by go_simp, by go_simp, by go_simp⟩
      obtain ⟨c0, c1, f0, f1⟩ := B0
      rw [← hw] at c0 c1 f0 f1
      clear hw
      go_wp2_with fail
      go_ret
      exact ⟨by rw [HSG.out]; rfl, hbw⟩
theorem Box.put {W : World} {g : Nat} {v0 v1 : Value} (h : Box W g v0 v1) (u0 u1 : Value) : Box ((W.setCell ⟨g, 0, none⟩ u0).setCell ⟨g, 1, none⟩ u1) g u0 u1 := by
  obtain ⟨c0, c1, f0, f1⟩ := h
  exact ⟨by go_simp, by go_simp, by go_simp, by go_simp⟩
structure ZN (w : World) (s : Bool) (p : Option Addr) (m c : Nat) (z : Int) : Prop where
  ex : ∃ xs, Num w p m c xs z.natAbs
  sg : s = decide (z < 0)
theorem ZN.below {w w' : World} {s : Bool} {p : Option Addr} {m c : Nat} {z : Int} (h : ZN w s p m c z) (hb : Below w.heap.size w w') : ZN w' s p m c z := by
  obtain ⟨xs, hx⟩ := h.ex
  exact ⟨⟨xs, hx.below hb⟩, h.sg⟩
theorem ZN.iv {w : World} {s : Bool} {p : Option Addr} {m c : Nat} {z : Int} (h : ZN w s p m c z) : iv s z.natAbs = z := by rw [h.sg]; exact iv_abs z
theorem ZN.pos {w : World} {s : Bool} {p : Option Addr} {m c : Nat} {z : Int} (h : ZN w s p m c z) : s = true → 0 < z.natAbs := by rw [h.sg]; exact sgn_pos z
theorem ZN.lim {w : World} {s : Bool} {p : Option Addr} {m c : Nat} {z : Int} (h : ZN w s p m c z) : z.natAbs < LIM := by
  obtain ⟨xs, hx⟩ := h.ex
  exact hx.lim
theorem ZN.le {w : World} {s : Bool} {p : Option Addr} {m c : Nat} {z : Int} (h : ZN w s p m c z) : m ≤ 8192 := by
  obtain ⟨xs, hx⟩ := h.ex
  exact hx.le
theorem ZN.cast {w : World} {s : Bool} {p : Option Addr} {m c : Nat} {z z' : Int} (h : ZN w s p m c z) (e : z = z') : ZN w s p m c z' := e ▸ h
theorem ZN.of {w : World} {p : Option Addr} {m c : Nat} {xs : List Nat} {a : Nat} {t : Bool} (h : Num w p m c xs a) (ht : t = true → 0 < a) : ZN w t p m c (Go.Proofs.YtmhkabomabkkfaaGreatDoor.iv t a) :=
  ⟨⟨xs, by rw [iv_natAbs]; exact h⟩, by
    cases t
    · rw [iv_f]; exact (decide_eq_false (Int.not_lt.2 (Int.natCast_nonneg _))).symm
    · rw [iv_t]; have := ht rfl; exact (decide_eq_true (by omega)).symm⟩
def Got (w' : World) (e : Ending) (z : Int) : Prop := ∃ s p m, e = .returned (.tuple #[ZV s p m m, .int .i64 0]) ∧ ZN w' s p m m z
theorem AnsZ.zn {B : Nat} {w' : World} {v : Value} {z : Int} (h : AnsZ B w' v z) : ∃ s p m, v = ZV s p m m ∧ ZN w' s p m m z := by
  obtain ⟨p, m, zs, rfl, ho, hn, hm⟩ := h
  exact ⟨_, p, m, rfl, ⟨zs, Num.of ho hn hm⟩, rfl⟩
theorem AnsI.zn {B : Nat} {w' : World} {e : Ending} {z : Int} (h : AnsI B w' e z) : (z.natAbs < LIM ∧ Got w' e z) ∨ (LIM ≤ z.natAbs ∧ e = .returned (.tuple #[ZV false none 0 0, .int .i64 5])) := by
  rcases h with ⟨hl, p, m, zs, rfl, ho, hn, hm⟩ | ⟨hl, rfl⟩
  · exact .inl ⟨hl, _, p, m, rfl, ⟨zs, Num.of ho hn hm⟩, rfl⟩
  · exact .inr ⟨hl, rfl⟩
theorem AnsI.got {B : Nat} {w' : World} {e : Ending} {z : Int} (h : AnsI B w' e z) (hz : z.natAbs < LIM) : Got w' e z := by
  rcases h.zn with ⟨_, k⟩ | ⟨k, _⟩
  · exact k
  · omega
variable {w : World} {s t : Bool} {p q : Option Addr} {m c n d : Nat} {x y : Int}
theorem zadd (h : ZN w s p m c x) (k : ZN w t q n d y) : Calls Tryz.prog 123 #[ZV s p m c, ZV t q n d] w fun e w' => AnsI w.heap.size w' e (x + y) ∧ Below w.heap.size w w' := by
  obtain ⟨xs, hx⟩ := h.ex
  obtain ⟨ys, hy⟩ := k.ex
  have := nadd_any s t hx hy h.pos k.pos
  rwa [h.iv, k.iv] at this
theorem zmul (h : ZN w s p m c x) (k : ZN w t q n d y) : Calls Tryz.prog 106 #[ZV s p m c, ZV t q n d] w fun e w' => AnsI w.heap.size w' e (x * y) ∧ Below w.heap.size w w' := by
  obtain ⟨xs, hx⟩ := h.ex
  obtain ⟨ys, hy⟩ := k.ex
  have := nmul_any s t hx hy h.pos k.pos
  rwa [h.iv, k.iv] at this
theorem zshl (h : ZN w s p m c x) (k : Nat) (hk : k ≤ 9223372036854775807) : Calls Tryz.prog 120 #[ZV s p m c, .int .i64 k] w fun e w' => AnsI w.heap.size w' e (x * 2 ^ k) ∧ Below w.heap.size w w' := by
  obtain ⟨xs, hx⟩ := h.ex
  have := nshl_any s hx h.pos k hk
  rwa [show Go.Proofs.YtmhkabomabkkfaaGreatDoor.iv s (2 ^ k * x.natAbs) = x * 2 ^ k from by
    have e := h.iv
    rw [show Go.Proofs.YtmhkabomabkkfaaGreatDoor.iv s (2 ^ k * x.natAbs) = Go.Proofs.YtmhkabomabkkfaaGreatDoor.iv s x.natAbs * 2 ^ k from by cases s <;> simp [Go.Proofs.YtmhkabomabkkfaaGreatDoor.iv, Int.mul_comm, Int.neg_mul], e]] at this
theorem zsign (h : ZN w s p m c x) : Calls Tryz.prog 97 #[ZV s p m c] w fun e w' => e = .returned (.int .i64 (sgnI x)) ∧ Below w.heap.size w w' := by
  obtain ⟨xs, hx⟩ := h.ex
  have := sign_any s hx
  rwa [h.iv] at this
theorem zform (h : ZN w s p m c x) : Calls Tryz.prog 114 #[ZV s p m c] w fun e w' => e = .returned (.bool true) ∧ Below w.heap.size w w' := by
  obtain ⟨xs, hx⟩ := h.ex
  exact numform_t s hx h.pos
structure B3q (W : World) (g : Nat) (v0 v1 v2 : Value) : Prop where
  c0 : W.cell? ⟨g, 0, none⟩ = some v0
  c1 : W.cell? ⟨g, 1, none⟩ = some v1
  c2 : W.cell? ⟨g, 2, none⟩ = some v2
  f0 : W.frozen? ⟨g, 0, none⟩ = false
  f1 : W.frozen? ⟨g, 1, none⟩ = false
  f2 : W.frozen? ⟨g, 2, none⟩ = false
theorem B3q.lt {w : World} {g : Nat} {a b c : Value} (h : B3q w g a b c) : g < w.heap.size := World.block_lt_of_cell? w _ h.c0
theorem B3q.below {W W' : World} {g : Nat} {v0 v1 v2 : Value} (h : B3q W g v0 v1 v2) (hb : Below W.heap.size W W') : B3q W' g v0 v1 v2 := by
  have hl : g < W.heap.size := World.block_lt_of_cell? W _ h.c0
  exact ⟨(hb.cell (p := ⟨g, 0, none⟩) hl).trans h.c0, (hb.cell (p := ⟨g, 1, none⟩) hl).trans h.c1, (hb.cell (p := ⟨g, 2, none⟩) hl).trans h.c2, (hb.frozen (p := ⟨g, 0, none⟩) hl).trans h.f0, (hb.frozen (p := ⟨g, 1, none⟩) hl).trans h.f1, (hb.frozen (p := ⟨g, 2, none⟩) hl).trans h.f2⟩
theorem B3q.new (w : World) (ty : TypeId) (v0 v1 v2 : Value) : B3q (w.alloc (.cells #[v0, v1, v2] ty)) w.heap.size v0 v1 v2 := ⟨by go_simp, by go_simp, by go_simp, by go_simp, by go_simp, by go_simp⟩
abbrev DV (s : Bool) (p : Option Addr) (m c : Nat) (e : Int) : Value := .agg #[.bool s, .slice p m c, .int .i64 e]
def DFm (z e : Int) : Prop := (z = 0 ∧ e = 0) ∨ (z % 2 = 1 ∧ -1048576 ≤ e ∧ e ≤ 1048576)
structure DN (w : World) (s : Bool) (p : Option Addr) (m c : Nat) (e z : Int) : Prop where
  zn : ZN w s p m c z
  fm : DFm z e
theorem DN.below {w w' : World} {s : Bool} {p : Option Addr} {m c : Nat} {e z : Int} (h : DN w s p m c e z) (hb : Below w.heap.size w w') : DN w' s p m c e z := ⟨h.zn.below hb, h.fm⟩
def dv (z e : Int) : Int := z * ((2 ^ (e + 4194304).toNat : Nat) : Int)
theorem pow_pos_int (k : Nat) : ((2 ^ k : Nat) : Int) ≠ 0 := by
  have : 0 < 2 ^ k := Nat.pow_pos (by omega)
  intro h
  have := Int.ofNat.inj h
  omega
theorem dpow_split {a b : Nat} (h : a ≤ b) : ((2 ^ b : Nat) : Int) = ((2 ^ (b - a) : Nat) : Int) * ((2 ^ a : Nat) : Int) := by
  have : 2 ^ b = 2 ^ (b - a) * 2 ^ a := by rw [← Nat.pow_add, Nat.sub_add_cancel h]
  rw [this, Int.natCast_mul]
theorem dv_zero (e : Int) : dv 0 e = 0 := by unfold dv; rw [Int.zero_mul]
theorem dv_eq_zero {z e : Int} (h : dv z e = 0) : z = 0 := by
  unfold dv at h
  exact (Int.mul_eq_zero.1 h).resolve_right (pow_pos_int _)
theorem odd_ne {z z' : Int} {a b : Nat} (hz : z % 2 = 1) (h : z * ((2 ^ a : Nat) : Int) = z' * ((2 ^ b : Nat) : Int)) : b ≤ a := by
  refine Nat.le_of_not_lt fun hlt => ?_
  rw [dpow_split (Nat.le_of_lt hlt), ← Int.mul_assoc] at h
  have h1 := Int.eq_of_mul_eq_mul_right (pow_pos_int a) h
  obtain ⟨k, hk⟩ : ∃ k, b - a = k + 1 := ⟨b - a - 1, by omega⟩
  rw [hk, Nat.pow_succ, Int.natCast_mul] at h1
  have h2 : z = (z' * ((2 ^ k : Nat) : Int)) * 2 := by rw [h1, Int.mul_assoc]; rfl
  generalize z' * ((2 ^ k : Nat) : Int) = q at h2
  omega
theorem dv_inj {z e z' e' : Int} (h : DFm z e) (h' : DFm z' e') (hv : dv z e = dv z' e') : z = z' ∧ e = e' := by
  rcases h with ⟨rfl, rfl⟩ | ⟨h1, h2, h3⟩
  · rw [dv_zero] at hv
    have := dv_eq_zero hv.symm
    subst this
    rcases h' with ⟨_, rfl⟩ | ⟨k1, _⟩
    · exact ⟨rfl, rfl⟩
    · omega
  · rcases h' with ⟨rfl, rfl⟩ | ⟨k1, k2, k3⟩
    · rw [dv_zero] at hv
      have := dv_eq_zero hv
      subst this
      omega
    · unfold dv at hv
      have a1 := odd_ne h1 hv
      have a2 := odd_ne k1 hv.symm
      have he : e = e' := by omega
      subst he
      exact ⟨Int.eq_of_mul_eq_mul_right (pow_pos_int _) hv, rfl⟩
theorem dv_shift {z e f : Int} (h : f ≤ e) (hf : -4194304 ≤ f) : dv z e = dv (z * ((2 ^ (e - f).toNat : Nat) : Int)) f := by
  unfold dv
  rw [dpow_split (a := (f + 4194304).toNat) (b := (e + 4194304).toNat) (by omega), ← Int.mul_assoc, show (e + 4194304).toNat - (f + 4194304).toNat = (e - f).toNat from by omega]
theorem dv_add (x y e : Int) : dv (x + y) e = dv x e + dv y e := by unfold dv; rw [Int.add_mul]
theorem dv_neg (x e : Int) : dv (-x) e = - dv x e := by unfold dv; rw [Int.neg_mul]
theorem own_set3 {B b : Nat} {w' : World} {p : Option Addr} {m : Nat} {zs : List Nat} (h : Own B w' p m zs) {r : Nat} (hr : r < B) (hb : b ≤ B) (v0 v1 v2 : Value) : Own b (((w'.setCell ⟨r, 0, none⟩ v0).setCell ⟨r, 1, none⟩ v1).setCell ⟨r, 2, none⟩ v2) p m zs :=
  (((h.setOld _ _ _ hr).setOld _ _ _ hr).setOld _ _ _ hr).mono hb
def AnsD (B : Nat) (w' : World) (v : Value) (z e : Int) : Prop :=
  ∃ p m zs, v = DV (decide (z < 0)) p m m e ∧ Own B w' p m zs ∧ Nf B64 zs z.natAbs ∧ m ≤ 8192
theorem AnsD.dn {B : Nat} {w' : World} {v : Value} {z e : Int} (h : AnsD B w' v z e) (hf : DFm z e) : ∃ s p m, v = DV s p m m e ∧ DN w' s p m m e z := by
  obtain ⟨p, m, zs, rfl, ho, hn, hm⟩ := h
  exact ⟨_, p, m, rfl, ⟨⟨zs, Num.of ho hn hm⟩, rfl⟩, hf⟩
theorem tz_split {z : Int} {k : Nat} (hz : z ≠ 0) (h : TzO z.natAbs k) : fl (decide (z < 0)) z.natAbs (2 ^ k) % 2 = 1 ∧ fl (decide (z < 0)) z.natAbs (2 ^ k) * ((2 ^ k : Nat) : Int) = z ∧ (fl (decide (z < 0)) z.natAbs (2 ^ k)).natAbs ≤ z.natAbs := by
  rcases h with ⟨h0, _⟩ | ⟨_, h1, h2⟩
  · omega
  · have hd := Nat.div_add_mod z.natAbs (2 ^ k)
    rw [h1, Nat.add_zero, Nat.mul_comm] at hd
    have hle := Nat.div_le_self z.natAbs (2 ^ k)
    unfold fl
    rw [h1]
    generalize z.natAbs / 2 ^ k = q at *
    have hc : (q : Int) * ((2 ^ k : Nat) : Int) = (z.natAbs : Int) := by rw [← Int.natCast_mul, hd]
    by_cases hs : z < 0
    · rw [decide_eq_true hs]
      simp only [ne_eq, not_true_eq_false, decide_false, Bool.and_false, Bool.toNat_false, Nat.add_zero, iv, if_true]
      refine ⟨by omega, by rw [Int.neg_mul, hc]; omega, by omega⟩
    · rw [decide_eq_false hs]
      simp only [ne_eq, not_true_eq_false, decide_false, Bool.and_false, Bool.toNat_false, Nat.add_zero, iv]
      refine ⟨?_, ?_, ?_⟩
      · show (q : Int) % 2 = 1; omega
      · show (q : Int) * _ = z; rw [hc]; omega
      · show (q : Int).natAbs ≤ _; omega
theorem patternOf_32 (b : Nat) (hb : b < 2 * 2147483648) (w : World) :
    Calls Tryz.prog 47 #[.int .i64 32, U b] w fun en w' => en = .returned (.tuple #[PV 32 24 (-149) (decide (2147483648 ≤ b)) (b % 2147483648), .int .i64 0]) ∧ Below w.heap.size w w' := by
  have hl : bl_bitsN b ≤ 32 := bl_le (by omega)
  have e1 : bits BinOp.and IntKind.u64 (b : Int) 2147483648 = _ := sign_and b 2147483648 31 (by decide) (by decide) hb
  have e2 : bits BinOp.andNot IntKind.u64 (b : Int) 2147483648 = _ := sign_andNot b 2147483648 31 (by decide) (by decide) hb
  obtain ⟨z, hz⟩ : ∃ z, z = b % 2147483648 := ⟨_, rfl⟩
  obtain ⟨s, hs⟩ : ∃ s, s = decide (2147483648 ≤ b) := ⟨_, rfl⟩
  obtain ⟨y, hy⟩ : ∃ y, y = (if 2147483648 ≤ b then 2147483648 else 0) := ⟨_, rfl⟩
  rw [← hz] at e2 ⊢
  rw [← hy] at e1
  rw [← hs]
  have hys2 : ((y : Int) == 0) = !s := by
    rw [hy, hs]
    by_cases h : 2147483648 ≤ b <;> simp [h]
  have hys : ((y : Int) != 0) = s := by simp [bne, hys2]
  obtain ⟨ln, hll⟩ : ∃ l, l = bl_bitsN b := ⟨_, rfl⟩
  rw [← hll] at hl
  have hltb : decide ((32 : Int) < (ln : Int)) = false := decide_eq_false (by omega)
  have HLL : Hid (bl_bitsN b = ln) := hll.symm
  have HBB : Hid (b < B64) := by show b < B64; rw [B64_eq]; omega
  clear hz hs hy hl hb hll
  go_enter Tryz.func47, Tryz.ntmps47
  go_wp2_with fail
  obtain ⟨W0, hW0⟩ : ∃ W0, W0 = (w.alloc (.cells #[.int .i64 0, .int .i64 0, .int .i64 0, .bool false, .int .u64 0] 77)) := ⟨_, rfl⟩
  have Xr : Hid (B5q W0 (w.heap.size) (.int .i64 0) (.int .i64 0) (.int .i64 0) (.bool false) (.int .u64 0)) := by rw [hW0]; exact ⟨by go_simp, by go_simp, by go_simp, by go_simp, by go_simp, by go_simp, by go_simp, by go_simp, by go_simp, by go_simp⟩
  have hb0 : Below w.heap.size w W0 := by rw [hW0]; exact below1 w _
  rw [← hW0]
  clear hW0
  have hbw : Below w.heap.size w w := Below.refl _ _
  obtain ⟨gr, hgr⟩ : ∃ g, g = w.heap.size := ⟨_, rfl⟩
  have HGr : Hid (w.heap.size ≤ gr) := by rw [hgr]; show _ ≤ _; omega
  rw [← hgr] at Xr
  try rw [← hgr]
  clear hgr
  replace hbw := Below.on hbw hb0
  clear hb0
  refine (of_32 _).mono ?_
  rintro e v1 ⟨rfl, hb1⟩
  replace Xr : Hid _ := Xr.out.below hb1
  replace hbw := Below.on hbw hb1
  clear hb1
  go_wp2_with fail
  have HDr : Hid (gr ≠ v1.heap.size) := Nat.ne_of_lt Xr.out.lt
  have Xg0 : Hid (B3q (v1.alloc (.cells #[.int .i64 32, .int .i64 24, .int .i64 (-149)] 75)) v1.heap.size (.int .i64 32) (.int .i64 24) (.int .i64 (-149))) := B3q.new v1 _ _ _ _
  have hbn : Below v1.heap.size v1 (v1.alloc (.cells #[.int .i64 32, .int .i64 24, .int .i64 (-149)] 75)) := below1 v1 _
  generalize v1.alloc (.cells #[.int .i64 32, .int .i64 24, .int .i64 (-149)] 75) = Wg at *
  have HGg : Hid (w.heap.size ≤ v1.heap.size) := hbw.size
  replace Xr : Hid _ := Xr.out.below hbn
  replace hbw := Below.on hbw hbn
  clear hbn
  generalize v1.heap.size = gg at *
  have Xg := Xg0
  clear Xg0
  obtain ⟨W3, hW3⟩ : ∃ W1, W1 = Wg.drew := ⟨_, rfl⟩
  have hbd : Below Wg.heap.size Wg W3 := by rw [hW3]; exact bDrew1 (Below.refl _ _)
  replace Xr : Hid _ := Xr.out.below hbd
  replace Xg : Hid _ := Xg.out.below hbd
  replace hbw := Below.on hbw hbd
  clear hbd
  have HJ : Hid ((fun W' : World => W'.cell? ⟨gg, 0, none⟩ = some (.int .i64 32)) W3) := Xg.out.c0
  refine wp_region_J (fun W' => W'.cell? ⟨gg, 0, none⟩ = some (.int .i64 32)) (by kernel_rfl) ?_
  rw [← hW3]
  clear hW3
  refine wpJ_tk 0 (v := ?v1x0) rfl ?hy1x0 HJ.out ?_
  case hy1x0 => (intro W' hJ; have j0 := hJ; go_simp; first | done | with_reducible rfl)
  refine wpJ_tk 2 (v := ?v2x2) rfl ?hy2x2 HJ.out ?_
  case hy2x2 => (intro W' hJ; have j0 := hJ; go_simp; first | done | with_reducible rfl)
  refine wpJ_tk 3 (v := ?v3x3) rfl ?hy3x3 HJ.out ?_
  case hy3x3 => (intro W' hJ; have j0 := hJ; go_simp; first | done | with_reducible rfl)
  refine wpJ_on 1 rfl fun KJ hK => ?_
  go_simp
  refine (bl_len_any b _ HBB.out).mono ?_
  rintro e2 v2 ⟨rfl, hw⟩
  obtain rfl := hw.symm
  clear hw
  rw [HLL.out]
  clear HJ
  have HJ : Hid ((fun W' : World => W'.cell? ⟨gg, 0, none⟩ = some (.int .i64 32)) W3) := Xg.out.c0
  refine hK _ _ HJ.out ?_
  clear hK
  refine wpJ_tk 4 (v := ?v4x4) rfl ?hy4x4 HJ.out ?_
  case hy4x4 => (intro W' hJ; have j0 := hJ; go_simp; first | done | with_reducible rfl)
  refine wpJ_done (by kernel_rfl) ?_ _
  clear HJ
  obtain ⟨cg0, cg1, cg2, fg0, fg1, fg2⟩ := Xg.out
  have hneg : gg < W3.heap.size := World.block_lt_of_cell? W3 _ cg0
  go_wp2_with fail
  clear cg0 cg1 cg2 fg0 fg1 fg2 hneg
  obtain ⟨W6, hW6⟩ : ∃ W1, W1 = W3.drew := ⟨_, rfl⟩
  have hbd : Below W3.heap.size W3 W6 := by rw [hW6]; exact bDrew1 (Below.refl _ _)
  replace Xr : Hid _ := Xr.out.below hbd
  replace Xg : Hid _ := Xg.out.below hbd
  replace hbw := Below.on hbw hbd
  clear hbd
  have HJ : Hid ((fun W' : World => W'.cell? ⟨gg, 0, none⟩ = some (.int .i64 32) ∧ W'.cell? ⟨gg, 1, none⟩ = some (.int .i64 24) ∧ W'.cell? ⟨gg, 2, none⟩ = some (.int .i64 (-149))) W6) := ⟨Xg.out.c0, Xg.out.c1, Xg.out.c2⟩
  refine wp_region_J (fun W' => W'.cell? ⟨gg, 0, none⟩ = some (.int .i64 32) ∧ W'.cell? ⟨gg, 1, none⟩ = some (.int .i64 24) ∧ W'.cell? ⟨gg, 2, none⟩ = some (.int .i64 (-149))) (by kernel_rfl) ?_
  rw [← hW6]
  clear hW6
  refine wpJ_tq 0 rfl HJ.out ?_
  refine wpJ_tq 1 rfl HJ.out ?_
  refine wpJ_tq 2 rfl HJ.out ?_
  refine wpJ_tq 6 rfl HJ.out ?_
  refine wpJ_tq 7 rfl HJ.out ?_
  refine wpJ_on 3 rfl fun KJ hK => ?_
  go_simp
  refine (sign_32 _).mono ?_
  rintro e v4 ⟨rfl, hb4⟩
  replace Xr : Hid _ := Xr.out.below hb4
  replace Xg : Hid _ := Xg.out.below hb4
  replace hbw := Below.on hbw hb4
  clear hb4
  clear HJ
  have HJ : Hid ((fun W' : World => W'.cell? ⟨gg, 0, none⟩ = some (.int .i64 32) ∧ W'.cell? ⟨gg, 1, none⟩ = some (.int .i64 24) ∧ W'.cell? ⟨gg, 2, none⟩ = some (.int .i64 (-149))) v4) := ⟨Xg.out.c0, Xg.out.c1, Xg.out.c2⟩
  refine hK _ _ HJ.out ?_
  clear hK
  refine wpJ_tq 4 rfl HJ.out ?_
  refine wpJ_tq 5 rfl HJ.out ?_
  refine wpJ_on 8 rfl fun KJ hK => ?_
  go_simp
  refine (sign_32 _).mono ?_
  rintro e v5 ⟨rfl, hb5⟩
  replace Xr : Hid _ := Xr.out.below hb5
  replace Xg : Hid _ := Xg.out.below hb5
  replace hbw := Below.on hbw hb5
  clear hb5
  clear HJ
  have HJ : Hid ((fun W' : World => W'.cell? ⟨gg, 0, none⟩ = some (.int .i64 32) ∧ W'.cell? ⟨gg, 1, none⟩ = some (.int .i64 24) ∧ W'.cell? ⟨gg, 2, none⟩ = some (.int .i64 (-149))) v5) := ⟨Xg.out.c0, Xg.out.c1, Xg.out.c2⟩
  refine hK _ _ HJ.out ?_
  clear hK
  refine wpJ_tq 9 rfl HJ.out ?_
  refine wpJ_tq 10 rfl HJ.out ?_
  obtain ⟨cr0, cr1, cr2, cr3, cr4, fr0, fr1, fr2, fr3, fr4⟩ := Xr.out
  have hner : gr < v5.heap.size := World.block_lt_of_cell? v5 _ cr0
  obtain ⟨cg0, cg1, cg2, fg0, fg1, fg2⟩ := Xg.out
  have hneg : gg < v5.heap.size := World.block_lt_of_cell? v5 _ cg0
  have qa := HDr.out
  have qb : gg ≠ gr := fun h => qa h.symm
  refine wpJ_on 11 rfl fun KJ hK => ?_
  go_simp
  have HJ2 : Hid ((fun W' : World => W'.cell? ⟨gg, 0, none⟩ = some (.int .i64 32) ∧ W'.cell? ⟨gg, 1, none⟩ = some (.int .i64 24) ∧ W'.cell? ⟨gg, 2, none⟩ = some (.int .i64 (-149))) (((((v5.setCell ⟨gr, 0, none⟩ (.int .i64 32)).setCell ⟨gr, 1, none⟩ (.int .i64 24)).setCell ⟨gr, 2, none⟩ (.int .i64 (-149))).setCell ⟨gr, 3, none⟩ (.bool s)).setCell ⟨gr, 4, none⟩ (U z))) := ⟨by go_simp, by go_simp, by go_simp⟩
  refine hK _ _ HJ2.out ?_
  clear hK HJ
  have HJ := HJ2
  clear HJ2
  refine wpJ_tq 12 rfl HJ.out ?_
  refine wpJ_done (by kernel_rfl) ?_ _
  clear HJ
  go_wp2_with fail
  refine bodyPost_ret (v := .tuple #[PV 32 24 (-149) s z, .int .i64 0]) (by rw [results_ct rfl]; go_simp) rfl ⟨rfl, ?_⟩
  exact bSet (bSet (bSet (bSet (bSet hbw _ _ _ HGr.out) _ _ _ HGr.out) _ _ _ HGr.out) _ _ _ HGr.out) _ _ _ HGr.out
theorem patternOf_64 (b : Nat) (hb : b < 2 * 9223372036854775808) (w : World) :
    Calls Tryz.prog 47 #[.int .i64 64, U b] w fun en w' => en = .returned (.tuple #[PV 64 53 (-1074) (decide (9223372036854775808 ≤ b)) (b % 9223372036854775808), .int .i64 0]) ∧ Below w.heap.size w w' := by
  have hl : bl_bitsN b ≤ 64 := bl_le (by omega)
  have e1 : bits BinOp.and IntKind.u64 (b : Int) 9223372036854775808 = _ := sign_and b 9223372036854775808 63 (by decide) (by decide) hb
  have e2 : bits BinOp.andNot IntKind.u64 (b : Int) 9223372036854775808 = _ := sign_andNot b 9223372036854775808 63 (by decide) (by decide) hb
  obtain ⟨z, hz⟩ : ∃ z, z = b % 9223372036854775808 := ⟨_, rfl⟩
  obtain ⟨s, hs⟩ : ∃ s, s = decide (9223372036854775808 ≤ b) := ⟨_, rfl⟩
  obtain ⟨y, hy⟩ : ∃ y, y = (if 9223372036854775808 ≤ b then 9223372036854775808 else 0) := ⟨_, rfl⟩
  rw [← hz] at e2 ⊢
  rw [← hy] at e1
  rw [← hs]
  have hys2 : ((y : Int) == 0) = !s := by
    rw [hy, hs]
    by_cases h : 9223372036854775808 ≤ b <;> simp [h]
  have hys : ((y : Int) != 0) = s := by simp [bne, hys2]
  obtain ⟨ln, hll⟩ : ∃ l, l = bl_bitsN b := ⟨_, rfl⟩
  rw [← hll] at hl
  have hltb : decide ((64 : Int) < (ln : Int)) = false := decide_eq_false (by omega)
  have HLL : Hid (bl_bitsN b = ln) := hll.symm
  have HBB : Hid (b < B64) := by show b < B64; rw [B64_eq]; omega
  clear hz hs hy hl hb hll
  go_enter Tryz.func47, Tryz.ntmps47
  go_wp2_with fail
  obtain ⟨W0, hW0⟩ : ∃ W0, W0 = (w.alloc (.cells #[.int .i64 0, .int .i64 0, .int .i64 0, .bool false, .int .u64 0] 77)) := ⟨_, rfl⟩
  have Xr : Hid (B5q W0 (w.heap.size) (.int .i64 0) (.int .i64 0) (.int .i64 0) (.bool false) (.int .u64 0)) := by rw [hW0]; exact ⟨by go_simp, by go_simp, by go_simp, by go_simp, by go_simp, by go_simp, by go_simp, by go_simp, by go_simp, by go_simp⟩
  have hb0 : Below w.heap.size w W0 := by rw [hW0]; exact below1 w _
  rw [← hW0]
  clear hW0
  have hbw : Below w.heap.size w w := Below.refl _ _
  obtain ⟨gr, hgr⟩ : ∃ g, g = w.heap.size := ⟨_, rfl⟩
  have HGr : Hid (w.heap.size ≤ gr) := by rw [hgr]; show _ ≤ _; omega
  rw [← hgr] at Xr
  try rw [← hgr]
  clear hgr
  replace hbw := Below.on hbw hb0
  clear hb0
  refine (of_64 _).mono ?_
  rintro e v1 ⟨rfl, hb1⟩
  replace Xr : Hid _ := Xr.out.below hb1
  replace hbw := Below.on hbw hb1
  clear hb1
  go_wp2_with fail
  have HDr : Hid (gr ≠ v1.heap.size) := Nat.ne_of_lt Xr.out.lt
  have Xg0 : Hid (B3q (v1.alloc (.cells #[.int .i64 64, .int .i64 53, .int .i64 (-1074)] 75)) v1.heap.size (.int .i64 64) (.int .i64 53) (.int .i64 (-1074))) := B3q.new v1 _ _ _ _
  have hbn : Below v1.heap.size v1 (v1.alloc (.cells #[.int .i64 64, .int .i64 53, .int .i64 (-1074)] 75)) := below1 v1 _
  generalize v1.alloc (.cells #[.int .i64 64, .int .i64 53, .int .i64 (-1074)] 75) = Wg at *
  have HGg : Hid (w.heap.size ≤ v1.heap.size) := hbw.size
  replace Xr : Hid _ := Xr.out.below hbn
  replace hbw := Below.on hbw hbn
  clear hbn
  generalize v1.heap.size = gg at *
  have Xg := Xg0
  clear Xg0
  obtain ⟨W3, hW3⟩ : ∃ W1, W1 = Wg.drew := ⟨_, rfl⟩
  have hbd : Below Wg.heap.size Wg W3 := by rw [hW3]; exact bDrew1 (Below.refl _ _)
  replace Xr : Hid _ := Xr.out.below hbd
  replace Xg : Hid _ := Xg.out.below hbd
  replace hbw := Below.on hbw hbd
  clear hbd
  have HJ : Hid ((fun W' : World => W'.cell? ⟨gg, 0, none⟩ = some (.int .i64 64)) W3) := Xg.out.c0
  refine wp_region_J (fun W' => W'.cell? ⟨gg, 0, none⟩ = some (.int .i64 64)) (by kernel_rfl) ?_
  rw [← hW3]
  clear hW3
  refine wpJ_tk 0 (v := ?v15x0) rfl ?hy15x0 HJ.out ?_
  case hy15x0 => (intro W' hJ; have j0 := hJ; go_simp; first | done | with_reducible rfl)
  refine wpJ_tk 2 (v := ?v16x2) rfl ?hy16x2 HJ.out ?_
  case hy16x2 => (intro W' hJ; have j0 := hJ; go_simp; first | done | with_reducible rfl)
  refine wpJ_tk 3 (v := ?v17x3) rfl ?hy17x3 HJ.out ?_
  case hy17x3 => (intro W' hJ; have j0 := hJ; go_simp; first | done | with_reducible rfl)
  refine wpJ_on 1 rfl fun KJ hK => ?_
  go_simp
  refine (bl_len_any b _ HBB.out).mono ?_
  rintro e2 v2 ⟨rfl, hw⟩
  obtain rfl := hw.symm
  clear hw
  rw [HLL.out]
  clear HJ
  have HJ : Hid ((fun W' : World => W'.cell? ⟨gg, 0, none⟩ = some (.int .i64 64)) W3) := Xg.out.c0
  refine hK _ _ HJ.out ?_
  clear hK
  refine wpJ_tk 4 (v := ?v18x4) rfl ?hy18x4 HJ.out ?_
  case hy18x4 => (intro W' hJ; have j0 := hJ; go_simp; first | done | with_reducible rfl)
  refine wpJ_done (by kernel_rfl) ?_ _
  clear HJ
  obtain ⟨cg0, cg1, cg2, fg0, fg1, fg2⟩ := Xg.out
  have hneg : gg < W3.heap.size := World.block_lt_of_cell? W3 _ cg0
  go_wp2_with fail
  clear cg0 cg1 cg2 fg0 fg1 fg2 hneg
  obtain ⟨W6, hW6⟩ : ∃ W1, W1 = W3.drew := ⟨_, rfl⟩
  have hbd : Below W3.heap.size W3 W6 := by rw [hW6]; exact bDrew1 (Below.refl _ _)
  replace Xr : Hid _ := Xr.out.below hbd
  replace Xg : Hid _ := Xg.out.below hbd
  replace hbw := Below.on hbw hbd
  clear hbd
  have HJ : Hid ((fun W' : World => W'.cell? ⟨gg, 0, none⟩ = some (.int .i64 64) ∧ W'.cell? ⟨gg, 1, none⟩ = some (.int .i64 53) ∧ W'.cell? ⟨gg, 2, none⟩ = some (.int .i64 (-1074))) W6) := ⟨Xg.out.c0, Xg.out.c1, Xg.out.c2⟩
  refine wp_region_J (fun W' => W'.cell? ⟨gg, 0, none⟩ = some (.int .i64 64) ∧ W'.cell? ⟨gg, 1, none⟩ = some (.int .i64 53) ∧ W'.cell? ⟨gg, 2, none⟩ = some (.int .i64 (-1074))) (by kernel_rfl) ?_
  rw [← hW6]
  clear hW6
  refine wpJ_tq 0 rfl HJ.out ?_
  refine wpJ_tq 1 rfl HJ.out ?_
  refine wpJ_tq 2 rfl HJ.out ?_
  refine wpJ_tq 6 rfl HJ.out ?_
  refine wpJ_tq 7 rfl HJ.out ?_
  refine wpJ_on 3 rfl fun KJ hK => ?_
  go_simp
  refine (sign_64 _).mono ?_
  rintro e v4 ⟨rfl, hb4⟩
  replace Xr : Hid _ := Xr.out.below hb4
  replace Xg : Hid _ := Xg.out.below hb4
  replace hbw := Below.on hbw hb4
  clear hb4
  clear HJ
  have HJ : Hid ((fun W' : World => W'.cell? ⟨gg, 0, none⟩ = some (.int .i64 64) ∧ W'.cell? ⟨gg, 1, none⟩ = some (.int .i64 53) ∧ W'.cell? ⟨gg, 2, none⟩ = some (.int .i64 (-1074))) v4) := ⟨Xg.out.c0, Xg.out.c1, Xg.out.c2⟩
  refine hK _ _ HJ.out ?_
  clear hK
  refine wpJ_tq 4 rfl HJ.out ?_
  refine wpJ_tq 5 rfl HJ.out ?_
  refine wpJ_on 8 rfl fun KJ hK => ?_
  go_simp
  refine (sign_64 _).mono ?_
  rintro e v5 ⟨rfl, hb5⟩
  replace Xr : Hid _ := Xr.out.below hb5
  replace Xg : Hid _ := Xg.out.below hb5
  replace hbw := Below.on hbw hb5
  clear hb5
  clear HJ
  have HJ : Hid ((fun W' : World => W'.cell? ⟨gg, 0, none⟩ = some (.int .i64 64) ∧ W'.cell? ⟨gg, 1, none⟩ = some (.int .i64 53) ∧ W'.cell? ⟨gg, 2, none⟩ = some (.int .i64 (-1074))) v5) := ⟨Xg.out.c0, Xg.out.c1, Xg.out.c2⟩
  refine hK _ _ HJ.out ?_
  clear hK
  refine wpJ_tq 9 rfl HJ.out ?_
  refine wpJ_tq 10 rfl HJ.out ?_
  obtain ⟨cr0, cr1, cr2, cr3, cr4, fr0, fr1, fr2, fr3, fr4⟩ := Xr.out
  have hner : gr < v5.heap.size := World.block_lt_of_cell? v5 _ cr0
  obtain ⟨cg0, cg1, cg2, fg0, fg1, fg2⟩ := Xg.out
  have hneg : gg < v5.heap.size := World.block_lt_of_cell? v5 _ cg0
  have qa := HDr.out
  have qb : gg ≠ gr := fun h => qa h.symm
  refine wpJ_on 11 rfl fun KJ hK => ?_
  go_simp
  have HJ2 : Hid ((fun W' : World => W'.cell? ⟨gg, 0, none⟩ = some (.int .i64 64) ∧ W'.cell? ⟨gg, 1, none⟩ = some (.int .i64 53) ∧ W'.cell? ⟨gg, 2, none⟩ = some (.int .i64 (-1074))) (((((v5.setCell ⟨gr, 0, none⟩ (.int .i64 64)).setCell ⟨gr, 1, none⟩ (.int .i64 53)).setCell ⟨gr, 2, none⟩ (.int .i64 (-1074))).setCell ⟨gr, 3, none⟩ (.bool s)).setCell ⟨gr, 4, none⟩ (U z))) := ⟨by go_simp, by go_simp, by go_simp⟩
  refine hK _ _ HJ2.out ?_
  clear hK HJ
  have HJ := HJ2
  clear HJ2
  refine wpJ_tq 12 rfl HJ.out ?_
  refine wpJ_done (by kernel_rfl) ?_ _
  clear HJ
  go_wp2_with fail
  refine bodyPost_ret (v := .tuple #[PV 64 53 (-1074) s z, .int .i64 0]) (by rw [results_ct rfl]; go_simp) rfl ⟨rfl, ?_⟩
  exact bSet (bSet (bSet (bSet (bSet hbw _ _ _ HGr.out) _ _ _ HGr.out) _ _ _ HGr.out) _ _ _ HGr.out) _ _ _ HGr.out
theorem patternOf_32_big (b : Nat) (hb : b < B64) (hg : 4294967296 ≤ b) (w : World) : Calls Tryz.prog 47 #[.int .i64 32, U b] w fun e w' => e = .returned (.tuple #[PV 0 0 0 false 0, .int .i64 2]) ∧ Below w.heap.size w w' := by
  have hl := bl_gt32 hg
  have hlt : (32 : Int) < (bl_bitsN b : Int) := by omega
  have hbb : b < B64 := hb
  clear hl hb hg
  obtain ⟨l, hll⟩ : ∃ l, l = bl_bitsN b := ⟨_, rfl⟩
  rw [← hll] at hlt
  have hltb : decide ((32 : Int) < (l : Int)) = true := decide_eq_true hlt
  have HLL : Hid (l = bl_bitsN b) := hll
  have HBB : Hid (b < B64) := hbb
  clear hll hbb
  go_enter Tryz.func47, Tryz.ntmps47
  go_wp2_with fail
  have X := B5q.new (w) 77 (.int .i64 0) (.int .i64 0) (.int .i64 0) (.bool false) (.int .u64 0)
  have hb0 := bwAlloc (w) (.cells #[.int .i64 0, .int .i64 0, .int .i64 0, .bool false, .int .u64 0] 77)
  generalize (w).alloc (.cells #[.int .i64 0, .int .i64 0, .int .i64 0, .bool false, .int .u64 0] 77) = W at *
  obtain ⟨g, hg⟩ : ∃ g, g = (w).heap.size := ⟨_, rfl⟩
  have HGg : Hid ((w).heap.size ≤ g) := by show _ ≤ _; omega
  rw [← hg] at X ⊢
  clear hg
  refine (of_32 _).mono ?_
  rintro e w1 ⟨rfl, hb1⟩
  have X1 := X.below hb1
  have HB1 : Hid (Below w.heap.size w w1) := bwOn hb0 hb1
  clear X hb0 hb1
  go_wp2_with fail
  have Y := B3.new (w1) 75 (.int .i64 32) (.int .i64 24) (.int .i64 (-149))
  have hb2 := bwAlloc (w1) (.cells #[.int .i64 32, .int .i64 24, .int .i64 (-149)] 75)
  generalize (w1).alloc (.cells #[.int .i64 32, .int .i64 24, .int .i64 (-149)] 75) = W2 at *
  obtain ⟨h, hh⟩ : ∃ h, h = (w1).heap.size := ⟨_, rfl⟩
  have HGh : Hid ((w1).heap.size ≤ h) := by show _ ≤ _; omega
  rw [← hh] at Y ⊢
  clear hh
  have X2 := X1.below hb2
  have HB2 : Hid (Below w.heap.size w W2) := bwOn HB1.out hb2
  clear X1 hb2 HB1
  have X3 : Hid (B5q W2.drew g _ _ _ _ _) := X2.drew
  have Y3 : Hid (B3 W2.drew h _ _ _) := Y.drew
  have HB3 : Hid (Below w.heap.size w W2.drew) := bwDrew HB2.out
  obtain ⟨y0, y1, y2, y3, y4, y5⟩ := Y
  obtain ⟨x0, x1, x2, x3, x4, x5, x6, x7, x8, x9⟩ := X2
  go_region_with (first
    | (go_at_call 82; (with_reducible refine (bl_len_any _ _ HBB.out).mono ?_); rintro e w' ⟨rfl, hw⟩; rw [← HLL.out]; obtain rfl := hw.symm; clear hw))
  all_goals
    (go_wp2_with fail
     refine bodyPost_ret (v := .tuple #[PV 0 0 0 false 0, .int .i64 2]) (by rw [results_ct rfl]; go_simp) rfl ⟨rfl, ?_⟩
     exact bwDrew (bwSet (bwSet (bwSet (bwSet (bwSet HB2.out _ _ _ HGg.out) _ _ _ HGg.out) _ _ _ HGg.out) _ _ _ HGg.out) _ _ _ HGg.out))
theorem bwDrewN {B : Nat} {a w : World} (h : Below B a w) (r : Nat) : Below B a (w.drewN r) := ⟨h.os, h.tape, h.output, h.size, h.block⟩
theorem B5q.drewN {W : World} {g : Nat} {v0 v1 v2 v3 v4 : Value} (h : B5q W g v0 v1 v2 v3 v4) (r : Nat) : B5q (W.drewN r) g v0 v1 v2 v3 v4 := ⟨h.c0, h.c1, h.c2, h.c3, h.c4, h.f0, h.f1, h.f2, h.f3, h.f4⟩
def clsN (H I s : Nat) : Int := if s = 0 then 0 else if s < H then 1 else if s < I then 2 else if s = I then 3 else 4
theorem infinity_32v {I : Nat} (hI : I = 2139095040) (w : World) : Calls Tryz.prog 52 #[WV 32 24 (-149)] w fun e w' => e = .returned (U I) ∧ Below w.heap.size w w' := by
  subst hI
  exact infinity_32 w
theorem class_32 {I : Nat} (hI : I = 2139095040) (neg : Bool) (s : Nat) (w : World) : Calls Tryz.prog 48 #[PV 32 24 (-149) neg s] w fun e w' => e = .returned (.int .i64 (clsN 8388608 I s)) ∧ Below w.heap.size w w' := by
  obtain ⟨c, hc⟩ : ∃ c, c = clsN 8388608 I s := ⟨_, rfl⟩
  rw [← hc]
  have HC : Hid (c = clsN 8388608 I s) := hc
  have HI : Hid (I = 2139095040) := hI
  have hHI : 8388608 ≤ I := by omega
  clear hc hI
  go_enter Tryz.func48, Tryz.ntmps48
  by_cases h0 : s = 0
  · subst h0
    have HC2 : Hid (c = 0) := HC.out
    go_wp2_with fail
    go_ret
    exact ⟨ret_int HC2.out.symm, bwAlloc w _⟩
  have h0b : ((s : Int) == 0) = false := by simp; omega
  by_cases h1 : s < 8388608
  · have HC2 : Hid (c = 1) := by show _ = _; rw [HC.out]; simp [clsN, h0, h1]
    have h1b : decide ((s : Int) < 8388608) = true := decide_eq_true (by omega)
    go_wp2_with fail
    go_quiet (fail)
    go_wp2_with fail
    go_ret
    exact ⟨ret_int HC2.out.symm, bwDrewN (bwAlloc w _) _⟩
  have h1b : decide ((s : Int) < 8388608) = false := decide_eq_false (by omega)
  go_wp2_with fail
  go_quiet (fail)
  go_wp2_with fail
  clear h0b h1b
  have X := (B5q.new w 77 (.int .i64 32) (.int .i64 24) (.int .i64 (-149)) (.bool neg) (U s)).drewN nq
  have hb0 := bwDrewN (bwAlloc w (.cells #[.int .i64 32, .int .i64 24, .int .i64 (-149), .bool neg, U s] 77)) nq
  generalize (w.alloc (.cells #[.int .i64 32, .int .i64 24, .int .i64 (-149), .bool neg, U s] 77)).drewN nq = W2 at *
  obtain ⟨g, hg⟩ : ∃ g, g = w.heap.size := ⟨_, rfl⟩
  rw [← hg] at X ⊢
  clear hg
  have X2 : Hid (B5q W2.drew g (.int .i64 32) (.int .i64 24) (.int .i64 (-149)) (.bool neg) (U s)) := X.drew
  have HB2 : Hid (Below w.heap.size w W2.drew) := bwDrew hb0
  obtain ⟨x0, x1, x2, x3, x4, x5, x6, x7, x8, x9⟩ := X
  clear hb0
  by_cases h2 : s < I
  · have HC2 : Hid (c = 2) := by show _ = _; rw [HC.out]; simp [clsN, h0, h1, h2]
    have h2b : decide ((s : Int) < (I : Int)) = true := decide_eq_true (by omega)
    have h2n : decide (s < I) = true := decide_eq_true h2
    clear h0 h1 h2 hHI
    go_region_with (go_at_call 52; (with_reducible refine (infinity_32v HI.out W2.drew).mono ?_); rintro e w3 ⟨rfl, hb3⟩; have X3 : Hid (B5q w3 g (.int .i64 32) (.int .i64 24) (.int .i64 (-149)) (.bool neg) (U s)) := X2.out.below hb3; obtain ⟨p0, p1, p2, p3, p4, p5, p6, p7, p8, p9⟩ := X3.out; have HB3 : Hid (Below w.heap.size w w3) := bwOn HB2.out hb3; clear hb3)
    all_goals
      (go_wp2_with fail
       go_ret
       exact ⟨ret_int HC2.out.symm, HB3.out⟩)
  have h2b : decide ((s : Int) < (I : Int)) = false := decide_eq_false (by omega)
  have h2n : decide (s < I) = false := decide_eq_false h2
  by_cases h3 : s = I
  · have HC2 : Hid (c = 3) := by show _ = _; rw [HC.out]; unfold clsN; rw [if_neg h0, if_neg h1, if_neg h2, if_pos h3]
    have h3b : ((s : Int) == (I : Int)) = true := by simp; omega
    have h3n : (s == I) = true := by simp [h3]
    have h3m : decide (s = I) = true := decide_eq_true h3
    clear h0 h1 h2 h3 hHI
    go_region_with (go_at_call 52; (with_reducible refine (infinity_32v HI.out W2.drew).mono ?_); rintro e w3 ⟨rfl, hb3⟩; have X3 : Hid (B5q w3 g (.int .i64 32) (.int .i64 24) (.int .i64 (-149)) (.bool neg) (U s)) := X2.out.below hb3; obtain ⟨p0, p1, p2, p3, p4, p5, p6, p7, p8, p9⟩ := X3.out; have HB3 : Hid (Below w.heap.size w w3) := bwOn HB2.out hb3; clear hb3)
    all_goals
      (clear x0 x1 x2 x3 x4 x5 x6 x7 x8 x9
       go_wp2_with fail
       clear h2b h2n
       go_region_with (go_at_call 52; (with_reducible refine (infinity_32v HI.out w3.drew).mono ?_); rintro e w4 ⟨rfl, hb4⟩; obtain ⟨q0, q1, q2, q3, q4, q5, q6, q7, q8, q9⟩ := X3.out.drew.below hb4; have HB4 : Hid (Below w.heap.size w w4) := bwOn (bwDrew HB3.out) hb4; clear hb4)
       all_goals
         (go_wp2_with fail
          go_ret
          exact ⟨ret_int HC2.out.symm, HB4.out⟩))
  have h3b : ((s : Int) == (I : Int)) = false := by simp; omega
  have h3n : (s == I) = false := by simp [h3]
  have h3m : decide (s = I) = false := decide_eq_false h3
  have HC2 : Hid (c = 4) := by show _ = _; rw [HC.out]; simp [clsN, h0, h1, h2, h3]
  clear h0 h1 h2 h3 hHI
  go_region_with (go_at_call 52; (with_reducible refine (infinity_32v HI.out W2.drew).mono ?_); rintro e w3 ⟨rfl, hb3⟩; have X3 : Hid (B5q w3 g (.int .i64 32) (.int .i64 24) (.int .i64 (-149)) (.bool neg) (U s)) := X2.out.below hb3; obtain ⟨p0, p1, p2, p3, p4, p5, p6, p7, p8, p9⟩ := X3.out; have HB3 : Hid (Below w.heap.size w w3) := bwOn HB2.out hb3; clear hb3)
  all_goals
    (clear x0 x1 x2 x3 x4 x5 x6 x7 x8 x9
     go_wp2_with fail
     clear h2b h2n
     go_region_with (go_at_call 52; (with_reducible refine (infinity_32v HI.out w3.drew).mono ?_); rintro e w4 ⟨rfl, hb4⟩; obtain ⟨q0, q1, q2, q3, q4, q5, q6, q7, q8, q9⟩ := X3.out.drew.below hb4; have HB4 : Hid (Below w.heap.size w w4) := bwOn (bwDrew HB3.out) hb4; clear hb4)
     all_goals
       (go_wp2_with fail
        go_ret
        exact ⟨ret_int HC2.out.symm, HB4.out⟩))
theorem infinity_64v {I : Nat} (hI : I = 9218868437227405312) (w : World) : Calls Tryz.prog 52 #[WV 64 53 (-1074)] w fun e w' => e = .returned (U I) ∧ Below w.heap.size w w' := by
  subst hI
  exact infinity_64 w
theorem class_64 {I : Nat} (hI : I = 9218868437227405312) (neg : Bool) (s : Nat) (w : World) : Calls Tryz.prog 48 #[PV 64 53 (-1074) neg s] w fun e w' => e = .returned (.int .i64 (clsN 4503599627370496 I s)) ∧ Below w.heap.size w w' := by
  obtain ⟨c, hc⟩ : ∃ c, c = clsN 4503599627370496 I s := ⟨_, rfl⟩
  rw [← hc]
  have HC : Hid (c = clsN 4503599627370496 I s) := hc
  have HI : Hid (I = 9218868437227405312) := hI
  have hHI : 4503599627370496 ≤ I := by omega
  clear hc hI
  go_enter Tryz.func48, Tryz.ntmps48
  by_cases h0 : s = 0
  · subst h0
    have HC2 : Hid (c = 0) := HC.out
    go_wp2_with fail
    go_ret
    exact ⟨ret_int HC2.out.symm, bwAlloc w _⟩
  have h0b : ((s : Int) == 0) = false := by simp; omega
  by_cases h1 : s < 4503599627370496
  · have HC2 : Hid (c = 1) := by show _ = _; rw [HC.out]; simp [clsN, h0, h1]
    have h1b : decide ((s : Int) < 4503599627370496) = true := decide_eq_true (by omega)
    go_wp2_with fail
    go_quiet (fail)
    go_wp2_with fail
    go_ret
    exact ⟨ret_int HC2.out.symm, bwDrewN (bwAlloc w _) _⟩
  have h1b : decide ((s : Int) < 4503599627370496) = false := decide_eq_false (by omega)
  go_wp2_with fail
  go_quiet (fail)
  go_wp2_with fail
  clear h0b h1b
  have X := (B5q.new w 77 (.int .i64 64) (.int .i64 53) (.int .i64 (-1074)) (.bool neg) (U s)).drewN nq
  have hb0 := bwDrewN (bwAlloc w (.cells #[.int .i64 64, .int .i64 53, .int .i64 (-1074), .bool neg, U s] 77)) nq
  generalize (w.alloc (.cells #[.int .i64 64, .int .i64 53, .int .i64 (-1074), .bool neg, U s] 77)).drewN nq = W2 at *
  obtain ⟨g, hg⟩ : ∃ g, g = w.heap.size := ⟨_, rfl⟩
  rw [← hg] at X ⊢
  clear hg
  have X2 : Hid (B5q W2.drew g (.int .i64 64) (.int .i64 53) (.int .i64 (-1074)) (.bool neg) (U s)) := X.drew
  have HB2 : Hid (Below w.heap.size w W2.drew) := bwDrew hb0
  obtain ⟨x0, x1, x2, x3, x4, x5, x6, x7, x8, x9⟩ := X
  clear hb0
  by_cases h2 : s < I
  · have HC2 : Hid (c = 2) := by show _ = _; rw [HC.out]; simp [clsN, h0, h1, h2]
    have h2b : decide ((s : Int) < (I : Int)) = true := decide_eq_true (by omega)
    have h2n : decide (s < I) = true := decide_eq_true h2
    clear h0 h1 h2 hHI
    go_region_with (go_at_call 52; (with_reducible refine (infinity_64v HI.out W2.drew).mono ?_); rintro e w3 ⟨rfl, hb3⟩; have X3 : Hid (B5q w3 g (.int .i64 64) (.int .i64 53) (.int .i64 (-1074)) (.bool neg) (U s)) := X2.out.below hb3; obtain ⟨p0, p1, p2, p3, p4, p5, p6, p7, p8, p9⟩ := X3.out; have HB3 : Hid (Below w.heap.size w w3) := bwOn HB2.out hb3; clear hb3)
    all_goals
      (go_wp2_with fail
       go_ret
       exact ⟨ret_int HC2.out.symm, HB3.out⟩)
  have h2b : decide ((s : Int) < (I : Int)) = false := decide_eq_false (by omega)
  have h2n : decide (s < I) = false := decide_eq_false h2
  by_cases h3 : s = I
  · have HC2 : Hid (c = 3) := by show _ = _; rw [HC.out]; unfold clsN; rw [if_neg h0, if_neg h1, if_neg h2, if_pos h3]
    have h3b : ((s : Int) == (I : Int)) = true := by simp; omega
    have h3n : (s == I) = true := by simp [h3]
    have h3m : decide (s = I) = true := decide_eq_true h3
    clear h0 h1 h2 h3 hHI
    go_region_with (go_at_call 52; (with_reducible refine (infinity_64v HI.out W2.drew).mono ?_); rintro e w3 ⟨rfl, hb3⟩; have X3 : Hid (B5q w3 g (.int .i64 64) (.int .i64 53) (.int .i64 (-1074)) (.bool neg) (U s)) := X2.out.below hb3; obtain ⟨p0, p1, p2, p3, p4, p5, p6, p7, p8, p9⟩ := X3.out; have HB3 : Hid (Below w.heap.size w w3) := bwOn HB2.out hb3; clear hb3)
    all_goals
      (clear x0 x1 x2 x3 x4 x5 x6 x7 x8 x9
       go_wp2_with fail
       clear h2b h2n
       go_region_with (go_at_call 52; (with_reducible refine (infinity_64v HI.out w3.drew).mono ?_); rintro e w4 ⟨rfl, hb4⟩; obtain ⟨q0, q1, q2, q3, q4, q5, q6, q7, q8, q9⟩ := X3.out.drew.below hb4; have HB4 : Hid (Below w.heap.size w w4) := bwOn (bwDrew HB3.out) hb4; clear hb4)
       all_goals
         (go_wp2_with fail
          go_ret
          exact ⟨ret_int HC2.out.symm, HB4.out⟩))
  have h3b : ((s : Int) == (I : Int)) = false := by simp; omega
  have h3n : (s == I) = false := by simp [h3]
  have h3m : decide (s = I) = false := decide_eq_false h3
  have HC2 : Hid (c = 4) := by show _ = _; rw [HC.out]; simp [clsN, h0, h1, h2, h3]
  clear h0 h1 h2 h3 hHI
  go_region_with (go_at_call 52; (with_reducible refine (infinity_64v HI.out W2.drew).mono ?_); rintro e w3 ⟨rfl, hb3⟩; have X3 : Hid (B5q w3 g (.int .i64 64) (.int .i64 53) (.int .i64 (-1074)) (.bool neg) (U s)) := X2.out.below hb3; obtain ⟨p0, p1, p2, p3, p4, p5, p6, p7, p8, p9⟩ := X3.out; have HB3 : Hid (Below w.heap.size w w3) := bwOn HB2.out hb3; clear hb3)
  all_goals
    (clear x0 x1 x2 x3 x4 x5 x6 x7 x8 x9
     go_wp2_with fail
     clear h2b h2n
     go_region_with (go_at_call 52; (with_reducible refine (infinity_64v HI.out w3.drew).mono ?_); rintro e w4 ⟨rfl, hb4⟩; obtain ⟨q0, q1, q2, q3, q4, q5, q6, q7, q8, q9⟩ := X3.out.drew.below hb4; have HB4 : Hid (Below w.heap.size w w4) := bwOn (bwDrew HB3.out) hb4; clear hb4)
     all_goals
       (go_wp2_with fail
        go_ret
        exact ⟨ret_int HC2.out.symm, HB4.out⟩))
theorem cls_ne {H I s : Nat} (h : s ≤ I) : clsN H I s ≠ 4 := by
  unfold clsN
  by_cases h0 : s = 0
  · rw [if_pos h0]; decide
  · rw [if_neg h0]
    by_cases h1 : s < H
    · rw [if_pos h1]; decide
    · rw [if_neg h1]
      by_cases h2 : s < I
      · rw [if_pos h2]; decide
      · rw [if_neg h2, if_pos (by omega)]; decide
theorem cls_nan {H I s : Nat} (hH : H ≤ I) (h : I < s) : clsN H I s = 4 := by
  unfold clsN
  rw [if_neg (by omega), if_neg (by omega), if_neg (by omega), if_neg (by omega)]
theorem cls_inf {H I s : Nat} (hH : H ≤ I) (h0 : 0 < I) : (clsN H I s == 3) = decide (s = I) := by
  unfold clsN
  by_cases h3 : s = I
  · rw [if_neg (by omega), if_neg (by omega), if_neg (by omega), if_pos h3]; simp [h3]
  · rw [decide_eq_false h3]
    by_cases h0 : s = 0
    · rw [if_pos h0]; decide
    · rw [if_neg h0]
      by_cases h1 : s < H
      · rw [if_pos h1]; decide
      · rw [if_neg h1]
        by_cases h2 : s < I
        · rw [if_pos h2]; decide
        · rw [if_neg h2, if_neg h3]; decide

theorem signed_32 (neg : Bool) (s : Nat) (hs : s < 2147483648) (w : World) : Calls Tryz.prog 51 #[WV 32 24 (-149), .bool neg, U s] w fun e w' => e = .returned (U (if neg then 2147483648 + s else s)) ∧ Below w.heap.size w w' := by
  have e1 : bits BinOp.or IntKind.u64 2147483648 (s : Int) = _ := sign_or s 2147483648 31 (by decide) (by decide) hs
  obtain ⟨r, hr⟩ : ∃ r, r = 2147483648 + s := ⟨_, rfl⟩
  rw [← hr] at e1 ⊢
  clear hr hs
  cases neg
  · clear e1
    go_enter Tryz.func51, Tryz.ntmps51
    go_wp2_with fail
    go_ret
    exact ⟨rfl, bwAlloc w _⟩
  · go_enter Tryz.func51, Tryz.ntmps51
    go_wp2_with fail
    refine (sign_32 _).mono ?_
    rintro e w1 ⟨rfl, hb1⟩
    have HB1 : Hid (Below w.heap.size w w1) := bwOn (bwAlloc w _) hb1
    clear hb1
    go_wp2_with fail
    go_ret
    exact ⟨rfl, HB1.out⟩
theorem signed_64 (neg : Bool) (s : Nat) (hs : s < 9223372036854775808) (w : World) : Calls Tryz.prog 51 #[WV 64 53 (-1074), .bool neg, U s] w fun e w' => e = .returned (U (if neg then 9223372036854775808 + s else s)) ∧ Below w.heap.size w w' := by
  have e1 : bits BinOp.or IntKind.u64 9223372036854775808 (s : Int) = _ := sign_or s 9223372036854775808 63 (by decide) (by decide) hs
  obtain ⟨r, hr⟩ : ∃ r, r = 9223372036854775808 + s := ⟨_, rfl⟩
  rw [← hr] at e1 ⊢
  clear hr hs
  cases neg
  · clear e1
    go_enter Tryz.func51, Tryz.ntmps51
    go_wp2_with fail
    go_ret
    exact ⟨rfl, bwAlloc w _⟩
  · go_enter Tryz.func51, Tryz.ntmps51
    go_wp2_with fail
    refine (sign_64 _).mono ?_
    rintro e w1 ⟨rfl, hb1⟩
    have HB1 : Hid (Below w.heap.size w w1) := bwOn (bwAlloc w _) hb1
    clear hb1
    go_wp2_with fail
    go_ret
    exact ⟨rfl, HB1.out⟩
structure Fm (f p m l : Int) (S I : Nat) : Prop where
  of : ∀ w, Calls Tryz.prog 50 #[.int .i64 f] w fun e w' => e = .returned (.tuple #[WV p m l, .int .i64 0]) ∧ Below w.heap.size w w'
  inf : ∀ w, Calls Tryz.prog 52 #[WV p m l] w fun e w' => e = .returned (U I) ∧ Below w.heap.size w w'
  sgn : ∀ (neg : Bool) (s : Nat) w, s < S → Calls Tryz.prog 51 #[WV p m l, .bool neg, U s] w fun e w' => e = .returned (U (if neg then S + s else s)) ∧ Below w.heap.size w w'
  pat : ∀ (b : Nat) w, b < 2 * S → Calls Tryz.prog 47 #[.int .i64 f, U b] w fun e w' => e = .returned (.tuple #[PV p m l (decide (S ≤ b)) (b % S), .int .i64 0]) ∧ Below w.heap.size w w'
  big : ∀ (b : Nat) w, b < B64 → 2 * S ≤ b → Calls Tryz.prog 47 #[.int .i64 f, U b] w fun e w' => e = .returned (.tuple #[PV 0 0 0 false 0, .int .i64 2]) ∧ Below w.heap.size w w'
  cls : ∀ (neg : Bool) (s : Nat) w, Calls Tryz.prog 48 #[PV p m l neg s] w fun e w' => ∃ c : Int, e = .returned (.int .i64 c) ∧ (c == 4) = decide (I < s) ∧ (c == 3) = decide (s = I) ∧ Below w.heap.size w w'
  lt : I < S
  pos : 2 < I
  le : S ≤ 9223372036854775808
theorem ranked_ok {f p m l : Int} {S I : Nat} (F : Fm f p m l S I) (b : Nat) (hb : b < 2 * S) (hr : b % S ≤ I) (w : World) : Calls Tryz.prog 80 #[.int .i64 f, U b] w fun e w' => e = .returned (.tuple #[PV p m l (decide (S ≤ b)) (b % S), .int .i64 0]) ∧ Below w.heap.size w w' := by
  have HP := fun w => F.pat b w hb
  obtain ⟨z, hz⟩ : ∃ z, z = b % S := ⟨_, rfl⟩
  obtain ⟨s, hs⟩ : ∃ s, s = decide (S ≤ b) := ⟨_, rfl⟩
  simp only [← hz, ← hs] at HP hr ⊢
  have HPH : Hid (∀ w : World, Calls Tryz.prog 47 #[.int .i64 f, U b] w fun e w' => e = .returned (.tuple #[PV p m l s z, .int .i64 0]) ∧ Below w.heap.size w w') := HP
  have HF : Hid (Fm f p m l S I) := F
  have HR : Hid (decide (I < z) = false) := decide_eq_false (by omega)
  clear hz hs HP hr hb F
  go_enter Tryz.func80, Tryz.ntmps80
  go_wp2_with fail
  have X := B5q.new (w) 77 (.int .i64 0) (.int .i64 0) (.int .i64 0) (.bool false) (.int .u64 0)
  have hb0 := bwAlloc (w) (.cells #[.int .i64 0, .int .i64 0, .int .i64 0, .bool false, .int .u64 0] 77)
  generalize (w).alloc (.cells #[.int .i64 0, .int .i64 0, .int .i64 0, .bool false, .int .u64 0] 77) = W at *
  obtain ⟨g, hg⟩ : ∃ g, g = (w).heap.size := ⟨_, rfl⟩
  have HGg : Hid ((w).heap.size ≤ g) := by show _ ≤ _; omega
  rw [← hg] at X ⊢
  clear hg
  refine (HPH.out _).mono ?_
  rintro e w1 ⟨rfl, hb1⟩
  have X1 := X.below hb1
  have HB1 : Hid (Below w.heap.size w w1) := bwOn hb0 hb1
  have XX : Hid (B5q w1 g (.int .i64 0) (.int .i64 0) (.int .i64 0) (.bool false) (.int .u64 0)) := X1
  clear X hb0 hb1
  obtain ⟨x0, x1, x2, x3, x4, x5, x6, x7, x8, x9⟩ := X1
  go_wp2_with fail
  clear x0 x1 x2 x3 x4 x5 x6 x7 x8 x9
  have Y := B5q.new (w1) 77 (.int .i64 p) (.int .i64 m) (.int .i64 l) (.bool s) (U z)
  have hb2 := bwAlloc (w1) (.cells #[.int .i64 p, .int .i64 m, .int .i64 l, .bool s, U z] 77)
  generalize (w1).alloc (.cells #[.int .i64 p, .int .i64 m, .int .i64 l, .bool s, U z] 77) = W2 at *
  obtain ⟨h, hh⟩ : ∃ h, h = (w1).heap.size := ⟨_, rfl⟩
  have HGh : Hid ((w1).heap.size ≤ h) := by show _ ≤ _; omega
  rw [← hh] at Y ⊢
  clear hh
  refine (HF.out.cls s z _).mono ?_
  rintro e w3 ⟨c, rfl, hc4, hc3, hb3⟩
  rw [HR.out] at hc4
  have hbb := bwOn hb2 hb3
  have HB3 : Hid (Below w.heap.size w w3) := bwOn HB1.out hbb
  have hgl := (XX.out.below hbb).lt
  have hhl := (Y.below hb3).lt
  obtain ⟨x0, x1, x2, x3, x4, x5, x6, x7, x8, x9⟩ := XX.out.below hbb
  obtain ⟨y0, y1, y2, y3, y4, y5, y6, y7, y8, y9⟩ := Y.below hb3
  clear Y hb2 hb3 hbb hc3 XX
  go_wp2_with fail
  refine bodyPost_ret (v := .tuple #[PV p m l s z, .int .i64 0]) (by rw [results_ct rfl]; go_simp) rfl ⟨rfl, ?_⟩
  exact bwSet (bwSet (bwSet (bwSet (bwSet HB3.out _ _ _ HGg.out) _ _ _ HGg.out) _ _ _ HGg.out) _ _ _ HGg.out) _ _ _ HGg.out
theorem rank_ok {f p m l : Int} {S I : Nat} (F : Fm f p m l S I) (b : Nat) (hb : b < 2 * S) (hr : b % S ≤ I) (w : World) : Calls Tryz.prog 45 #[.int .i64 f, U b] w fun e w' => e = .returned (.tuple #[.int .i64 (if S ≤ b then -((b % S : Nat) : Int) else ((b % S : Nat) : Int)), .int .i64 0]) ∧ Below w.heap.size w w' := by
  have HP := fun w => ranked_ok F b hb hr w
  have hIS := F.lt
  have hS := F.le
  have hzl : b % S ≤ 9223372036854775807 := by omega
  obtain ⟨z, hz⟩ : ∃ z, z = b % S := ⟨_, rfl⟩
  simp only [← hz] at HP hr hzl ⊢
  have hwz : IntKind.i64.wrap (z : Int) = (z : Int) := by simp [IntKind.wrap, IntKind.signed, IntKind.bits]; omega
  have hwn : IntKind.i64.wrap (-(z : Int)) = -(z : Int) := by simp [IntKind.wrap, IntKind.signed, IntKind.bits]; omega
  have hw64 : wrap64 (z : Int) = (z : Int) := by simp [wrap64]; omega
  by_cases hs : S ≤ b
  · rw [if_pos hs]
    simp only [decide_eq_true hs] at HP
    have HPH : Hid (∀ w : World, Calls Tryz.prog 80 #[.int .i64 f, U b] w fun e w' => e = .returned (.tuple #[PV p m l true z, .int .i64 0]) ∧ Below w.heap.size w w') := HP
    clear hz hs HP hr hb F hIS hS
    go_enter Tryz.func45, Tryz.ntmps45
    go_wp2_with fail
    refine (HPH.out _).mono ?_
    rintro e w1 ⟨rfl, hb1⟩
    have hbw := bwOn hb1 (bwAlloc w1 (.cells #[.int .i64 p, .int .i64 m, .int .i64 l, .bool true, U z] 77))
    clear hb1
    go_wp2_with fail
    go_ret2
    exact ⟨rfl, hbw⟩
  · rw [if_neg hs]
    simp only [decide_eq_false hs] at HP
    have HPH : Hid (∀ w : World, Calls Tryz.prog 80 #[.int .i64 f, U b] w fun e w' => e = .returned (.tuple #[PV p m l false z, .int .i64 0]) ∧ Below w.heap.size w w') := HP
    clear hz hs HP hr hb F hIS hS
    go_enter Tryz.func45, Tryz.ntmps45
    go_wp2_with fail
    refine (HPH.out _).mono ?_
    rintro e w1 ⟨rfl, hb1⟩
    have hbw := bwOn hb1 (bwAlloc w1 (.cells #[.int .i64 p, .int .i64 m, .int .i64 l, .bool false, U z] 77))
    clear hb1
    go_wp2_with fail
    go_ret2
    exact ⟨rfl, hbw⟩
structure B6q (W : World) (g : Nat) (v0 v1 v2 v3 v4 v5 : Value) : Prop where
  c0 : W.cell? ⟨g, 0, none⟩ = some v0
  c1 : W.cell? ⟨g, 1, none⟩ = some v1
  c2 : W.cell? ⟨g, 2, none⟩ = some v2
  c3 : W.cell? ⟨g, 3, none⟩ = some v3
  c4 : W.cell? ⟨g, 4, none⟩ = some v4
  c5 : W.cell? ⟨g, 5, none⟩ = some v5
  f0 : W.frozen? ⟨g, 0, none⟩ = false
  f1 : W.frozen? ⟨g, 1, none⟩ = false
  f2 : W.frozen? ⟨g, 2, none⟩ = false
  f3 : W.frozen? ⟨g, 3, none⟩ = false
  f4 : W.frozen? ⟨g, 4, none⟩ = false
  f5 : W.frozen? ⟨g, 5, none⟩ = false
theorem B6q.below {W W' : World} {g : Nat} {v0 v1 v2 v3 v4 v5 : Value} (h : B6q W g v0 v1 v2 v3 v4 v5) (hb : Below W.heap.size W W') : B6q W' g v0 v1 v2 v3 v4 v5 := by
  have hl : g < W.heap.size := World.block_lt_of_cell? W _ h.c0
  exact ⟨(hb.cell (p := ⟨g, 0, none⟩) hl).trans h.c0, (hb.cell (p := ⟨g, 1, none⟩) hl).trans h.c1, (hb.cell (p := ⟨g, 2, none⟩) hl).trans h.c2, (hb.cell (p := ⟨g, 3, none⟩) hl).trans h.c3, (hb.cell (p := ⟨g, 4, none⟩) hl).trans h.c4, (hb.cell (p := ⟨g, 5, none⟩) hl).trans h.c5, (hb.frozen (p := ⟨g, 0, none⟩) hl).trans h.f0, (hb.frozen (p := ⟨g, 1, none⟩) hl).trans h.f1, (hb.frozen (p := ⟨g, 2, none⟩) hl).trans h.f2, (hb.frozen (p := ⟨g, 3, none⟩) hl).trans h.f3, (hb.frozen (p := ⟨g, 4, none⟩) hl).trans h.f4, (hb.frozen (p := ⟨g, 5, none⟩) hl).trans h.f5⟩
theorem B6q.new (w : World) (ty : TypeId) (v0 v1 v2 v3 v4 v5 : Value) : B6q (w.alloc (.cells #[v0, v1, v2, v3, v4, v5] ty)) w.heap.size v0 v1 v2 v3 v4 v5 :=
  ⟨by go_simp, by go_simp, by go_simp, by go_simp, by go_simp, by go_simp, by go_simp, by go_simp, by go_simp, by go_simp, by go_simp, by go_simp⟩
theorem B6q.lt {W : World} {g : Nat} {v0 v1 v2 v3 v4 v5 : Value} (h : B6q W g v0 v1 v2 v3 v4 v5) : g < W.heap.size := World.block_lt_of_cell? W _ h.c0
theorem B6q.drew {W : World} {g : Nat} {v0 v1 v2 v3 v4 v5 : Value} (h : B6q W g v0 v1 v2 v3 v4 v5) : B6q W.drew g v0 v1 v2 v3 v4 v5 := ⟨h.c0, h.c1, h.c2, h.c3, h.c4, h.c5, h.f0, h.f1, h.f2, h.f3, h.f4, h.f5⟩
theorem fm_32 : Fm 32 32 24 (-149) 2147483648 2139095040 :=
  { of := of_32, inf := infinity_32v rfl, sgn := fun neg s w hs => signed_32 neg s hs w, pat := fun b w hb => patternOf_32 b hb w, big := fun b w hb hg => patternOf_32_big b hb (by omega) w,
    cls := fun neg s w => (class_32 rfl neg s w).mono (fun e w' h => ⟨_, h.1, by
      by_cases hn : 2139095040 < s
      · rw [cls_nan (by decide) hn, decide_eq_true hn]; decide
      · rw [decide_eq_false hn]; simp [cls_ne (Nat.le_of_not_lt hn)], cls_inf (by decide) (by decide), h.2⟩),
    lt := by decide, pos := by decide, le := by decide }
theorem fm_64 : Fm 64 64 53 (-1074) 9223372036854775808 9218868437227405312 :=
  { of := of_64, inf := infinity_64v rfl, sgn := fun neg s w hs => signed_64 neg s hs w, pat := fun b w hb => patternOf_64 b hb w, big := fun b w hb hg => absurd hg (by rw [B64_eq] at hb; omega),
    cls := fun neg s w => (class_64 rfl neg s w).mono (fun e w' h => ⟨_, h.1, by
      by_cases hn : 9218868437227405312 < s
      · rw [cls_nan (by decide) hn, decide_eq_true hn]; decide
      · rw [decide_eq_false hn]; simp [cls_ne (Nat.le_of_not_lt hn)], cls_inf (by decide) (by decide), h.2⟩),
    lt := by decide, pos := by decide, le := by decide }
end Go.Proofs.YtmhkabomabkkfaaGreatDoor
namespace Go.Proofs.YtmhkabomabkkfaaGreatDoor
open Go.RowKit
set_option maxRecDepth 20000
set_option maxHeartbeats 0
variable {P : Program} {md : Region.Mode} {ops : Array Oper} {Q : Exit → Act → World → Prop} {J : World → Prop}
variable {P : Program} {md : Region.Mode} {ops : Array Oper} {Q : Exit → Act → World → Prop} {J : World → Prop}
end Go.Proofs.YtmhkabomabkkfaaGreatDoor
