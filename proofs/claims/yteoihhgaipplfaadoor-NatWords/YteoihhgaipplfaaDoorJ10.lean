import Derived.Test.YteoihhgaipplfaaDoorJ9
import Derived.Test.YteoihhgaipplfaaDoorJ8
import Derived.Deep.LoopGhost
import Derived.WalkMore
import Derived.Laws.Cover1
namespace Go.Proofs.YteoihhgaipplfaaDoor
open Go.RowKit Go.Shelf

theorem takemul_sum {n : Nat} {P W L D v top cy zs' t b : Nat} (hW : W = L + P * top) (h1 : L + P * cy = zs' + D * v) (h2 : top + B64 * b = t + cy + 0) (hP : P = B64 ^ n) : zs' + P * t + D * v = W + B64 ^ (n + 1) * b := by
  have e1 : P * (top + B64 * b) = P * (t + cy) := by rw [h2, Nat.add_zero]
  rw [Nat.mul_add, Nat.mul_add, ← Nat.mul_assoc] at e1
  rw [Nat.pow_succ, ← hP]
  omega
theorem set_snoc (zs : List Nat) (x y n : Nat) (hl : zs.length = n) : (zs ++ [x]).set n y = zs ++ [y] := by
  subst hl
  rw [List.set_append_right _ _ (Nat.le_refl _), Nat.sub_self]; rfl
theorem cut_top (g off n : Nat) (w : World) :
    Calls Tryd.prog 101 #[.slice (some ⟨g, off, none⟩) (n + 1 : Nat) (n + 1 : Nat), .int .i64 n] w fun e w' =>
      e = .returned (.tuple #[.slice (some ⟨g, off, none⟩) n n, .slice (some ⟨g, off + n, none⟩) 1 1]) ∧ ∃ r, w' = w.drewN r := by
  refine (cut_row g off (n + 1) (n + 1) n w (Nat.le_refl _) (by omega)).mono ?_
  rintro e w' ⟨rfl, hr⟩
  rw [cutOff_lt (by omega), show n + 1 - n = 1 by omega]
  exact ⟨rfl, hr⟩

set_option maxRecDepth 20000 in
set_option maxHeartbeats 2000000 in
theorem takemul_any {g off n cd v : Nat} {gd od : Nat} {ws ds : List Nat} {w : World} (hw : Row w g off (n + 1) ws) (hd : At w (some ⟨gd, od, none⟩) n cd ds) (hn : 2 ≤ n) (hn2 : n ≤ 8192) (hv : v < B64) (hne : gd ≠ g) :
    Calls Tryd.prog 122 #[.slice (some ⟨g, off, none⟩) (n + 1 : Nat) (n + 1 : Nat), .slice (some ⟨gd, od, none⟩) n cd, U v] w fun e w' =>
      ∃ b ws', e = .returned (.bool (decide (b = 1))) ∧ b ≤ 1 ∧ Wr g off (n + 1) w w' ∧ Row w' g off (n + 1) ws' ∧ valB B64 ws' + valB B64 ds * v = valB B64 ws + B64 ^ (n + 1) * b := by
  have hl := hw.len
  have hr0 := hw.take n (by omega)
  have hW := valB_top hl
  obtain ⟨top, htop⟩ : ∃ top, top = ws.getD n 0 := ⟨_, rfl⟩
  have htb : top < B64 := by rw [htop]; exact hw.dig.getD B64_pos n
  have hct : w.cell? ⟨g, off + n, none⟩ = some (U top) := by rw [htop]; exact hw.cell n (by omega)
  have hft : w.frozen? ⟨g, off + n, none⟩ = false := hw.frozen n (by omega)
  rw [← htop] at hW
  have HW : Hid (valB B64 ws = valB B64 (ws.take n) + B64 ^ n * top) := hW
  clear hW htop hl
  go_enter Tryd.func122, Tryd.ntmps122
  go_wp2_with fail
  refine (cut_top g off n w).mono ?_
  rintro e w1 ⟨rfl, r1, hw1⟩
  have hr1 : Row w1 g off n (ws.take n) := by rw [hw1]; exact hr0.drewN r1
  have hd1 : At w1 (some ⟨gd, od, none⟩) n cd ds := by rw [hw1]; exact hd.drewN r1
  have hct1 : w1.cell? ⟨g, off + n, none⟩ = some (U top) := by rw [hw1]; exact hct
  have hft1 : w1.frozen? ⟨g, off + n, none⟩ = false := by rw [hw1]; exact hft
  have hwr1 : Wr g off (n + 1) w w1 := by rw [hw1]; exact (Wr.refl _ _ _ _).drewN r1
  clear hw1 hct hft hr0 hw hd
  go_wp2_with fail
  refine (smul_any g off n n _ (some ⟨gd, od, none⟩) n cd ds v w1 hr1 (Nat.le_refl _) (Nat.le_refl _) (by omega) hd1 hv (fun g2 off2 _ he => by simp only [Option.some.injEq, Addr.mk.injEq, and_true] at he; exact .inl (by omega))).mono ?_
  rintro e w2 ⟨cy, zs', rfl, hcy, hwr2, hrow2, hsum⟩
  have HS : Hid (valB B64 (ws.take n) + B64 ^ n * cy = valB B64 zs' + valB B64 ds * v) := hsum
  have hct2 : w2.cell? ⟨g, off + n, none⟩ = some (U top) := by rw [hwr2.cell g (off + n) (by omega)]; exact hct1
  have hft2 : w2.frozen? ⟨g, off + n, none⟩ = false := by rw [hwr2.frozen]; exact hft1
  have hwr : Wr g off (n + 1) w w2 := hwr1.trans (hwr2.mono (Nat.le_refl _) (by omega))
  have hrow := hrow2.snoc hct2 hft2 htb
  have hzl := hrow2.len
  have HZ : Hid (zs'.length = n) := hzl
  obtain ⟨t, b, hsub0, hb, htb', hb1⟩ := sub64_ex top cy 0 htb hcy (by omega)
  have hsub : ∀ w : World, (callFunc 106 #[U top, U cy, .int .u64 0]).run Tryd.prog w = .ok (.value (.tuple #[U t, U b])) w := hsub0
  have HB : Hid (top + B64 * b = t + cy + 0) := hb
  clear hsum hr1 hd1 hct1 hft1 hwr1 hwr2 hrow2 hsub0 hb hzl
  go_wp2_with fail
  go_ret
  have hset := hrow.set n t (by omega) htb'
  rw [set_snoc _ _ _ _ HZ.out] at hset
  refine ⟨b, zs' ++ [t], ret_bool ?_, hb1, hwr.setCell (off + n) ⟨by omega, by omega⟩ _, hset, ?_⟩
  · rcases Nat.eq_zero_or_pos b with h | h
    · subst h; rfl
    · obtain rfl : b = 1 := by omega
      rfl
  · rw [valB_snoc, HZ.out]
    exact takemul_sum HW.out HS.out HB.out rfl
end Go.Proofs.YteoihhgaipplfaaDoor

namespace Go.Proofs.YteoihhgaipplfaaDoor
open Go.RowKit Go.Shelf

/-- One window: what it holds once k digits' worth too many have been given back. -/
structure WinRel (w : World) (g off n : Nat) (W D d b : Nat) (ws : List Nat) (wr : World) : Prop where
  wrs : Wr g off (n + 1) w wr
  row : Row wr g off (n + 1) ws
  db : d < B64
  bb : b ≤ 1
  ge : W / D ≤ d
  sum : valB B64 ws + D * d = W + B64 ^ (n + 1) * b
theorem WinRel.done {w : World} {g off n W D d : Nat} {ws : List Nat} {wr : World} (h : WinRel w g off n W D d 0 ws wr) (hD : 0 < D) : d = W / D ∧ valB B64 ws = W % D := by
  have h1 := h.sum; have h2 := h.ge
  rw [Nat.mul_zero, Nat.add_zero] at h1
  have h3 : d ≤ W / D := (Nat.le_div_iff_mul_le hD).2 (by rw [Nat.mul_comm]; omega)
  have h4 : d = W / D := by omega
  refine ⟨h4, ?_⟩
  have h5 := Nat.div_add_mod W D
  rw [← h4] at h5
  omega
theorem WinRel.more {w : World} {g off n W D d : Nat} {ws : List Nat} {wr wr' : World} (h : WinRel w g off n W D d 1 ws wr) {cy : Nat} {ws' : List Nat} (hcy : cy ≤ 1) (hwr : Wr g off (n + 1) wr wr') (hrow : Row wr' g off (n + 1) ws') (hs : valB B64 ws' + B64 ^ (n + 1) * cy = valB B64 ws + D) :
    1 ≤ d ∧ W / D ≤ d - 1 ∧ WinRel w g off n W D (d - 1) (1 - cy) ws' wr' := by
  have h1 := h.sum; have h2 := h.ge; have h3 := h.db
  have hl := valB_lt B64_pos h.row.dig
  rw [h.row.len] at hl
  rw [Nat.mul_one] at h1
  have hgt : W < D * d := by omega
  have hd : 1 ≤ d := by
    rcases Nat.eq_zero_or_pos d with e | e
    · subst e; simp at hgt
    · exact e
  have hlt : W / D < d := Nat.div_lt_of_lt_mul hgt
  have e4 : D * d = D * (d - 1) + D := by rw [← Nat.mul_succ, show (d - 1).succ = d by omega]
  refine ⟨hd, by omega, h.wrs.trans hwr, hrow, by omega, by omega, by omega, ?_⟩
  rcases Nat.eq_zero_or_pos cy with e | e
  · subst e; rw [Nat.mul_zero, Nat.add_zero] at hs; rw [Nat.sub_zero, Nat.mul_one]; omega
  · obtain rfl : cy = 1 := by omega
    rw [Nat.mul_one] at hs; rw [Nat.sub_self, Nat.mul_zero]; omega

/-- What takeDigits has done when the digits from place L - k on are taken. -/
structure DigRel (w : World) (gq gr L n : Nat) (A D : Nat) (k : Nat) (qs rs : List Nat) (wr : World) : Prop where
  bel : ∀ B, B ≤ gq → B ≤ gr → Below B w wr
  rowq : Row wr gq 0 L qs
  rowr : Row wr gr 0 (L + n) rs
  cell : ∀ b o, b ≠ gq → b ≠ gr → wr.cell? ⟨b, o, none⟩ = w.cell? ⟨b, o, none⟩
  lt : valB B64 (rs.drop (L - k)) < D
  sum : valB B64 rs + B64 ^ (L - k) * valB B64 (qs.drop (L - k)) * D = A

theorem win_take (rs : List Nat) (a m : Nat) (h : a + m ≤ rs.length) : valB B64 rs = valB B64 (rs.take a) + B64 ^ a * (valB B64 ((rs.drop a).take m) + B64 ^ m * valB B64 (rs.drop (a + m))) := by
  rw [valB_split B64 rs a (by omega), valB_split B64 (rs.drop a) m (by rw [List.length_drop]; omega), List.drop_drop]
/-- The new list once a window has turned. -/
def winPut (rs ws : List Nat) (a : Nat) : List Nat := rs.take a ++ ws ++ rs.drop (a + ws.length)
theorem winPut_len (rs ws : List Nat) (a : Nat) (h : a + ws.length ≤ rs.length) : (winPut rs ws a).length = rs.length := by
  unfold winPut; simp; omega
theorem winPut_drop (rs ws : List Nat) (a : Nat) (h : a + ws.length ≤ rs.length) : (winPut rs ws a).drop a = ws ++ rs.drop (a + ws.length) := by
  unfold winPut
  rw [List.append_assoc, List.drop_append_of_le_length (by simp; omega), List.drop_of_length_le (by simp; omega), List.nil_append]
theorem winPut_take (rs ws : List Nat) (a : Nat) (h : a + ws.length ≤ rs.length) : (winPut rs ws a).take a = rs.take a := by
  unfold winPut
  rw [List.append_assoc, List.take_append_of_le_length (by simp; omega), List.take_take, Nat.min_self]
theorem winPut_get (rs ws : List Nat) (a j : Nat) (h : a + ws.length ≤ rs.length) : (winPut rs ws a).getD j 0 = if a ≤ j ∧ j < a + ws.length then ws.getD (j - a) 0 else rs.getD j 0 := by
  unfold winPut
  rw [List.getD_eq_getElem?_getD, List.getElem?_append, List.getElem?_append]
  simp only [List.length_append, List.length_take, Nat.min_eq_left (by omega : a ≤ rs.length)]
  by_cases h1 : j < a
  · rw [if_pos (by omega), if_pos (by omega), List.getElem?_take, if_pos h1, if_neg (by omega), List.getD_eq_getElem?_getD]
  · by_cases h2 : j < a + ws.length
    · rw [if_pos h2, if_neg h1, if_pos ⟨by omega, h2⟩, List.getD_eq_getElem?_getD]
    · rw [if_neg h2, if_neg (by omega), List.getElem?_drop, List.getD_eq_getElem?_getD]
      congr 2; omega

end Go.Proofs.YteoihhgaipplfaaDoor

namespace Go.Proofs.YteoihhgaipplfaaDoor
open Go.RowKit

/-- What shiftUp has done when k places from the top are done. -/
structure UpRel (w : World) (g n : Nat) (zs : List Nat) (s ov k : Nat) (dk : List Nat) (wr : World) : Prop where
  wrs : Wr g 0 n w wr
  row : Row wr g 0 n dk
  lo : dk.take (n - k) = zs.take (n - k)
  sum : valB B64 (dk.drop (n - k)) + B64 ^ k * ov = 2 ^ s * valB B64 (zs.drop (n - k)) + cin zs s (n - k)

theorem getD_of_take {dk zs : List Nat} {m j : Nat} (h : dk.take m = zs.take m) (hj : j < m) : dk.getD j 0 = zs.getD j 0 := by
  have := congrArg (fun l : List Nat => l[j]?) h
  simp only [List.getElem?_take, hj, if_true] at this
  rw [List.getD_eq_getElem?_getD, List.getD_eq_getElem?_getD, this]
theorem drop_set_at (dk : List Nat) (a y : Nat) (ha : a < dk.length) : (dk.set a y).drop a = y :: dk.drop (a + 1) := by
  rw [drop_getD _ a (by simpa using ha), getD_set dk a y a ha, if_pos rfl, drop_set_lt]
theorem take_set_at (dk : List Nat) (a y : Nat) : (dk.set a y).take a = dk.take a := by
  rw [List.take_set, List.set_eq_of_length_le (by simp; omega)]
theorem take_of_take {dk zs : List Nat} {m j : Nat} (h : dk.take m = zs.take m) (hj : j ≤ m) : dk.take j = zs.take j := by
  have := congrArg (List.take j) h
  rw [List.take_take, List.take_take, Nat.min_eq_left hj] at this
  exact this

theorem UpRel.step {w : World} {g n : Nat} {zs : List Nat} {s ov k : Nat} {dk : List Nat} {wr wr' : World} (h : UpRel w g n zs s ov k dk wr) (hk : k < n) (hz : zs.length = n) {d : Nat}
    (hd : d = shlW (dk.getD (n - 1 - k) 0) s + cin zs s (n - 1 - k)) (hw : Wr g 0 n w wr') (hr : Row wr' g 0 n (dk.set (n - 1 - k) d)) : UpRel w g n zs s ov (k + 1) (dk.set (n - 1 - k) d) wr' := by
  have hl := h.row.len
  have e : n - (k + 1) = n - 1 - k := by omega
  have e2 : n - 1 - k + 1 = n - k := by omega
  refine ⟨hw, hr, ?_, ?_⟩
  · rw [e, take_set_at]; exact take_of_take h.lo (by omega)
  · rw [e, drop_set_at dk _ d (by omega), e2]
    have h1 := h.sum
    rw [← e2] at h1
    have hdz : d = shlW (zs.getD (n - 1 - k) 0) s + cin zs s (n - 1 - k) := by rw [hd, getD_of_take h.lo (by omega)]
    rw [← e2]
    exact up_step (by omega) hdz h1

set_option maxRecDepth 20000 in
set_option maxHeartbeats 1000000 in
/-- limb.ShiftUp, in place. -/
theorem sup_gen (g n c s : Nat) (zs : List Nat) (w : World) (hz : Row w g 0 n zs) (hnc : n ≤ c) (hbig : c ≤ 9223372036854775807) (hs : s < 64) :
    Calls Tryd.prog 82 #[.slice (some ⟨g, 0, none⟩) n c, .int .i64 s] w fun e w' =>
      ∃ zs', e = .returned (.tuple #[]) ∧ Wr g 0 n w w' ∧ Row w' g 0 n zs' ∧ valB B64 zs' + B64 ^ n * cin zs s n = 2 ^ s * valB B64 zs := by
  obtain ⟨ov, hov⟩ : ∃ ov, ov = cin zs s n := ⟨_, rfl⟩
  rw [← hov]
  have HOV : Hid (ov = cin zs s n) := hov
  clear hov
  have hl := hz.len
  go_enter Tryd.func82, Tryd.ntmps82
  go_wp2
  go_loopw [4, 5, 8] (fun _ _ i wr => ∃ (k : Nat) (dk : List Nat), k ≤ n ∧ i = .int .i64 k ∧ UpRel w g n zs s ov k dk wr) (fun _ _ i _ => n - (intOf i).toNat)
  case atStart =>
    refine ⟨0, zs, Nat.zero_le _, rfl, Wr.refl _ _ _ _, hz, rfl, ?_⟩
    rw [Nat.sub_zero, List.drop_of_length_le (by omega), HOV.out]; simp [valB]
  case round =>
    obtain ⟨k, dk, hk, rfl, hR⟩ := hrel
    by_cases hlt : k < n
    · obtain ⟨x, hx⟩ : ∃ x, x = dk.getD (n - 1 - k) 0 := ⟨_, rfl⟩
      have HR : Hid (UpRel w g n zs s ov k dk wr) := hR
      have HX : Hid (x = dk.getD (n - 1 - k) 0) := hx
      by_cases hlast : n ≤ k + 1
      · have hc0 : wr.cell? ⟨g, 0, none⟩ = some (U x) := by
          have := hR.row.cell (n - 1 - k) (by omega)
          rw [← hx, show 0 + (n - 1 - k) = 0 by omega] at this; exact this
        have hf0 : wr.frozen? ⟨g, 0, none⟩ = false := hR.row.frozen 0 (by omega)
        clear hR hx
        go_wp2
        go_roundw
        case rel =>
          have e0 : n - 1 - k = 0 := by omega
          have hh := HR.out
          have hxx := HX.out
          rw [walk_shl]
          refine ⟨k + 1, dk.set (n - 1 - k) (shlW x s), by omega, by go_num, ?_⟩
          refine hh.step hlt hl (by rw [← hxx, e0]; simp [cin]) (hh.wrs.setCell 0 ⟨by omega, by omega⟩ _) ?_
          rw [e0]
          exact hh.row.set 0 _ (by omega) (shlW_lt x s)
        case measure => simp [intOf]; omega
      · obtain ⟨y, hy⟩ : ∃ y, y = dk.getD (n - 1 - k - 1) 0 := ⟨_, rfl⟩
        have hcx : wr.cell? ⟨g, n - 1 - k, none⟩ = some (U x) := by
          have := hR.row.cell (n - 1 - k) (by omega)
          rw [← hx, Nat.zero_add] at this; exact this
        have hfx : wr.frozen? ⟨g, n - 1 - k, none⟩ = false := by
          have := hR.row.frozen (n - 1 - k) (by omega)
          rw [Nat.zero_add] at this; exact this
        have hcy : wr.cell? ⟨g, n - 1 - k - 1, none⟩ = some (U y) := by
          have := hR.row.cell (n - 1 - k - 1) (by omega)
          rw [← hy, Nat.zero_add] at this; exact this
        have HY : Hid (y = dk.getD (n - 1 - k - 1) 0) := hy
        have hyb : y < B64 := by rw [hy]; exact hR.row.dig.getD B64_pos _
        clear hR hx hy
        go_wp2
        go_region
        go_wp2
        go_roundw
        case rel =>
          have hh := HR.out
          have hxx := HX.out
          have hyy := HY.out
          rw [walk_up x y s (by omega) hyb, walk_shl]
          refine ⟨k + 1, dk.set (n - 1 - k) (shlW x s + y * 2 ^ s / B64), by omega, by go_num, ?_⟩
          refine hh.step hlt hl ?_ ((((hh.wrs.setCell (n - 1 - k) ⟨by omega, by omega⟩ _).setCell (n - 1 - k) ⟨by omega, by omega⟩ _)).drew) ?_
          · rw [← hxx]; unfold cin
            rw [if_neg (by omega), hyy, getD_of_take hh.lo (by omega)]
          · have h1 := (hh.row.set (n - 1 - k) (shlW x s) (by omega) (shlW_lt x s)).set (n - 1 - k) _ (by omega) (up_lt x y s (by omega) hyb)
            rw [Nat.zero_add, List.set_set] at h1
            exact h1.drew
        case measure => simp [intOf]; omega
    · obtain rfl : k = n := by omega
      have HR : Hid (UpRel w g k zs s ov k dk wr) := hR
      clear hR
      go_wp2
      go_end0
      have hh := HR.out
      refine ⟨dk, rfl, hh.wrs, hh.row, ?_⟩
      have := hh.sum
      rw [Nat.sub_self, List.drop_zero, List.drop_zero] at this
      simpa [cin] using this

/-- limb.ShiftUp where there is room on top. -/
theorem sup_any (g n c s : Nat) (zs : List Nat) (w : World) (hz : Row w g 0 n zs) (hnc : n ≤ c) (hbig : c ≤ 9223372036854775807) (hs : s < 64) (htop : n = 0 ∨ zs.getD (n - 1) 0 = 0) :
    Calls Tryd.prog 82 #[.slice (some ⟨g, 0, none⟩) n c, .int .i64 s] w fun e w' =>
      ∃ zs', e = .returned (.tuple #[]) ∧ Wr g 0 n w w' ∧ Row w' g 0 n zs' ∧ valB B64 zs' = 2 ^ s * valB B64 zs := by
  refine (sup_gen g n c s zs w hz hnc hbig hs).mono ?_
  rintro e w' ⟨zs', rfl, h1, h2, h3⟩
  refine ⟨zs', rfl, h1, h2, ?_⟩
  have e0 : cin zs s n = 0 := by
    unfold cin
    rcases htop with h | h
    · simp [h]
    · rw [h]; simp
  rw [e0, Nat.mul_zero, Nat.add_zero] at h3; exact h3
end Go.Proofs.YteoihhgaipplfaaDoor

namespace Go.Proofs.YteoihhgaipplfaaDoor
open Go.RowKit Go.Shelf

theorem Row.win {w : World} {g m : Nat} {rs : List Nat} (h : Row w g 0 m rs) (a l : Nat) (ha : a + l ≤ m) : Row w g a l ((rs.drop a).take l) := by
  have hl := h.len
  refine ⟨by simp; omega, (h.dig.drop a).take l, fun j hj => ?_, fun j hj => ?_⟩
  · have e : ((rs.drop a).take l).getD j 0 = rs.getD (a + j) 0 := by
      rw [List.getD_eq_getElem?_getD, List.getD_eq_getElem?_getD, List.getElem?_take, if_pos hj, List.getElem?_drop]
    rw [e]
    have := h.cell (a + j) (by omega)
    rw [Nat.zero_add] at this; exact this
  · have := h.frozen (a + j) (by omega)
    rw [Nat.zero_add] at this; exact this
theorem Row.put {w w' : World} {g m a l : Nat} {rs ws : List Nat} (h : Row w g 0 m rs) (hwr : Wr g a l w w') (hr : Row w' g a l ws) (ha : a + l ≤ m) : Row w' g 0 m (winPut rs ws a) := by
  have hl := h.len; have hwl := hr.len
  have hle : a + ws.length ≤ rs.length := by omega
  refine ⟨by rw [winPut_len rs ws a hle]; exact hl, ?_, fun j hj => ?_, fun j hj => ?_⟩
  · unfold winPut; exact ((h.dig.take a).append hr.dig).append (h.dig.drop _)
  · rw [winPut_get rs ws a j hle, Nat.zero_add]
    by_cases hc : a ≤ j ∧ j < a + ws.length
    · rw [if_pos hc]
      have := hr.cell (j - a) (by omega)
      rw [show a + (j - a) = j by omega] at this; exact this
    · rw [if_neg hc, hwr.cell g j (by omega)]
      have := h.cell j hj
      rw [Nat.zero_add] at this; exact this
  · rw [hwr.frozen]; exact h.frozen j hj
theorem Row.other {w : World} {g off n : Nat} {xs : List Nat} (h : Row w g off n xs) (g2 o2 : Nat) (v : Value) (hne : g ≠ g2) : Row (w.setCell ⟨g2, o2, none⟩ v) g off n xs := by
  refine ⟨h.len, h.dig, fun j hj => ?_, fun j hj => by rw [World.frozen?_setCell]; exact h.frozen j hj⟩
  exact (World.cell?_setCell_other _ _ _ _ (by intro e; apply hne; have := congrArg Addr.block e; simp at this; omega)).trans (h.cell j hj)
theorem Row.wr {w w' : World} {g off n g2 o2 l2 : Nat} {xs : List Nat} (h : Row w g off n xs) (hwr : Wr g2 o2 l2 w w') (hne : g ≠ g2) : Row w' g off n xs :=
  ⟨h.len, h.dig, fun j hj => (hwr.cell g (off + j) (.inl hne)).trans (h.cell j hj), fun j hj => (hwr.frozen _).trans (h.frozen j hj)⟩
theorem At.wr {w w' : World} {g off n c g2 o2 l2 : Nat} {xs : List Nat} (h : At w (some ⟨g, off, none⟩) n c xs) (hwr : Wr g2 o2 l2 w w') (hne : g ≠ g2) : At w' (some ⟨g, off, none⟩) n c xs :=
  ⟨h.len, h.cap, h.big, h.dig, by
    rcases h.cells with h0 | ⟨g', o', he, hc⟩
    · exact .inl h0
    · refine .inr ⟨g', o', he, fun j hj => ?_⟩
      simp only [Option.some.injEq, Addr.mk.injEq, and_true] at he
      rw [← he.1, ← he.2] at hc ⊢
      exact (hwr.cell g (off + j) (.inl hne)).trans (hc j hj)⟩
theorem At.cells_of {w w' : World} {g off n c : Nat} {xs : List Nat} (h : At w (some ⟨g, off, none⟩) n c xs) (hc : ∀ o, w'.cell? ⟨g, o, none⟩ = w.cell? ⟨g, o, none⟩) : At w' (some ⟨g, off, none⟩) n c xs :=
  ⟨h.len, h.cap, h.big, h.dig, by
    rcases h.cells with h0 | ⟨g', o', he, hcl⟩
    · exact .inl h0
    · refine .inr ⟨g', o', he, fun j hj => ?_⟩
      simp only [Option.some.injEq, Addr.mk.injEq, and_true] at he
      rw [← he.1, ← he.2] at hcl ⊢
      exact (hc (off + j)).trans (hcl j hj)⟩

theorem dig_abs {P W q r D T Q A : Nat} (hW : q * D + r = W) (h : T + P * W + P * B64 * Q * D = A) : T + P * r + P * (q + B64 * Q) * D = A := by
  subst hW
  have e1 : P * (q + B64 * Q) * D = P * (q * D) + P * B64 * Q * D := by
    rw [Nat.mul_add, Nat.add_mul, Nat.mul_assoc P q D, ← Nat.mul_assoc P B64 Q]
  rw [e1]
  rw [Nat.mul_add] at h
  omega
/-- The window at the next place. -/
theorem DigRel.window {w : World} {gq gr L n A D k : Nat} {qs rs : List Nat} {wr : World} (h : DigRel w gq gr L n A D k qs rs wr) (hk : k < L) (hDn : D < B64 ^ n) :
    ∃ a ws, a = L - 1 - k ∧ ws = (rs.drop a).take (n + 1) ∧ Row wr gr a (n + 1) ws ∧ valB B64 ws < B64 * D ∧ valB B64 rs = valB B64 (rs.take a) + B64 ^ a * valB B64 ws ∧ valB B64 (rs.drop (a + (n + 1))) = 0 := by
  have hl := h.rowr.len
  obtain ⟨a, ha⟩ : ∃ a, a = L - 1 - k := ⟨_, rfl⟩
  have hlt := h.lt
  rw [show L - k = a + 1 by omega] at hlt
  have hz : valB B64 (rs.drop (a + (n + 1))) = 0 := by
    have hs := valB_split B64 (rs.drop (a + 1)) n (by rw [List.length_drop]; omega)
    rw [List.drop_drop, show a + 1 + n = a + (n + 1) by omega] at hs
    rcases Nat.eq_zero_or_pos (valB B64 (rs.drop (a + (n + 1)))) with e | e
    · exact e
    · exfalso
      have : B64 ^ n * 1 ≤ B64 ^ n * valB B64 (rs.drop (a + (n + 1))) := Nat.mul_le_mul_left _ e
      omega
  have hw := win_take rs a (n + 1) (by omega)
  rw [hz, Nat.mul_zero, Nat.add_zero] at hw
  refine ⟨a, _, ha, rfl, h.rowr.win a (n + 1) (by omega), ?_, hw, hz⟩
  have hs := valB_split B64 (rs.drop a) (n + 1) (by rw [List.length_drop]; omega)
  rw [List.drop_drop, hz, Nat.mul_zero, Nat.add_zero] at hs
  rw [← hs, valB_drop B64 rs a (by omega)]
  have hb := h.rowr.dig.getD B64_pos a
  have : B64 * (valB B64 (rs.drop (a + 1)) + 1) ≤ B64 * D := Nat.mul_le_mul_left _ hlt
  rw [Nat.mul_add] at this
  omega
theorem DigRel.step {w : World} {gq gr L n A D k : Nat} {qs rs : List Nat} {wr wr' : World} (h : DigRel w gq gr L n A D k qs rs wr) (hk : k < L) (hne : gq ≠ gr) {a q : Nat} {ws ws' : List Nat} (ha : a = L - 1 - k)
    (hrs : valB B64 rs = valB B64 (rs.take a) + B64 ^ a * valB B64 ws) (hz : valB B64 (rs.drop (a + (n + 1))) = 0) (hD : 0 < D) (hq : q = valB B64 ws / D) (hqb : q < B64) (hr : valB B64 ws' = valB B64 ws % D)
    (hwr : Wr gr a (n + 1) wr wr') (hrow : Row wr' gr a (n + 1) ws') : DigRel w gq gr L n A D (k + 1) (qs.set a q) (winPut rs ws' a) (wr'.setCell ⟨gq, a, none⟩ (U q)) := by
  have hl := h.rowr.len; have hql := h.rowq.len; have hwl := hrow.len
  have hle : a + ws'.length ≤ rs.length := by omega
  have e1 : L - (k + 1) = a := by omega
  have e2 : L - k = a + 1 := by omega
  have hdrop : valB B64 ((winPut rs ws' a).drop a) = valB B64 ws % D := by
    rw [winPut_drop rs ws' a hle, valB_append, hwl, hz, Nat.mul_zero, Nat.add_zero, hr]
  refine ⟨fun B h1 h2 => ?_, ?_, ?_, fun b o h1 h2 => ?_, ?_, ?_⟩
  · exact ((h.bel B h1 h2).trans (hwr.below h2)).trans ((Wr.refl gq 0 L wr').setCell a ⟨by omega, by omega⟩ (U q) |>.below h1)
  · have := (h.rowq.wr hwr hne).set a q (by omega) hqb
    rw [Nat.zero_add] at this; exact this
  · exact (h.rowr.put hwr hrow (by omega)).other gq a _ (Ne.symm hne)
  · rw [World.cell?_setCell_other _ _ _ _ (by intro e; apply h1; have := congrArg Addr.block e; simp at this; omega), hwr.cell b o (.inl h2)]
    exact h.cell b o h1 h2
  · rw [e1, hdrop]; exact Nat.mod_lt _ hD
  · have hs := h.sum
    rw [e2, hrs, Nat.pow_succ] at hs
    rw [e1, valB_split B64 (winPut rs ws' a) a (by rw [winPut_len rs ws' a hle]; omega), winPut_take rs ws' a hle, hdrop, drop_set_at qs a q (by omega), valB_cons]
    refine dig_abs (W := valB B64 ws) (q := q) ?_ hs
    rw [hq, Nat.mul_comm]; exact Nat.div_add_mod _ _

set_option maxRecDepth 20000 in
set_option maxHeartbeats 2000000 in
theorem takedig_any {gq gr gd od cd L n : Nat} {qs rs ds : List Nat} {w : World} (hq : Row w gq 0 L qs) (hr : Row w gr 0 (L + n) rs) (hd : At w (some ⟨gd, od, none⟩) n cd ds) (hqr : gq ≠ gr) (hdq : gd ≠ gq) (hdr : gd ≠ gr) (hn : 2 ≤ n) (hn2 : n ≤ 8192) (hL : L ≤ 8193) (hlt : valB B64 (rs.drop L) < valB B64 ds) :
    Calls Tryd.prog 105 #[.slice (some ⟨gq, 0, none⟩) L L, .slice (some ⟨gr, 0, none⟩) (L + n : Nat) (L + n : Nat), .slice (some ⟨gd, od, none⟩) n cd] w fun e w' =>
      ∃ qs' rs', e = .returned (.tuple #[]) ∧ (∀ B, B ≤ gq → B ≤ gr → Below B w w') ∧ Row w' gq 0 L qs' ∧ Row w' gr 0 (L + n) rs' ∧ valB B64 rs' < valB B64 ds ∧ valB B64 rs' + valB B64 qs' * valB B64 ds = valB B64 rs := by
  have hDn := valB_lt B64_pos hd.dig
  rw [hd.len] at hDn
  have hD : 0 < valB B64 ds := by omega
  have dcap := hd.cap; have dbig := hd.big
  unfold maxLen at dbig
  have HD0 : Hid (At w (some ⟨gd, od, none⟩) n cd ds) := hd
  have HDN : Hid (valB B64 ds < B64 ^ n) := hDn
  have HDP : Hid (0 < valB B64 ds) := hD
  have HR0 : Hid (DigRel w gq gr L n (valB B64 rs) (valB B64 ds) 0 qs rs w) := by
    refine ⟨fun B _ _ => Below.refl _ _, hq, hr, fun _ _ _ _ => rfl, by rw [Nat.sub_zero]; exact hlt, ?_⟩
    rw [Nat.sub_zero, List.drop_of_length_le (by rw [hq.len]; omega)]; simp [valB]
  clear hq hr hd hDn hD hlt
  obtain ⟨m, hm⟩ : ∃ m, m = L + n := ⟨_, rfl⟩
  rw [← hm]
  have hm1 : L + n ≤ m := by omega
  have hm2 : m ≤ L + n := by omega
  have HM : Hid (m = L + n) := hm
  clear hm
  go_enter Tryd.func105, Tryd.ntmps105
  go_wp2
  go_step3
  go_wp2
  go_step3
  go_wp2
  go_loopg [16] L (fun gk i wr => ∃ (k : Nat) (qk rk : List Nat), k + gk = L ∧ i = .int .i64 k ∧ Hid (DigRel w gq gr L n (valB B64 rs) (valB B64 ds) k qk rk wr))
  case atStart => exact ⟨0, qs, rs, by omega, rfl, HR0⟩
  case round =>
    obtain ⟨k, qk, rk, hkg, rfl, HR⟩ := hrel
    cases gk with
    | zero =>
      have hkz : ¬ ((k : Int) < (L : Int)) := by omega
      obtain rfl : k = L := by omega
      clear hkg
      go_wp2
      try rw [Exit.noGoto_ret]
      go_end0
      have hh := HR.out
      have hs := hh.sum; have hlt := hh.lt
      rw [Nat.sub_self, List.drop_zero] at hlt
      rw [Nat.sub_self, List.drop_zero, Nat.pow_zero, Nat.one_mul] at hs
      have hrr := hh.rowr
      rw [← HM.out] at hrr
      exact ⟨qk, rk, rfl, hh.bel, hh.rowq, hrr, hlt, hs⟩
    | succ gg =>
      obtain ⟨wo, hwo⟩ : ∃ wo, wo = wr := ⟨_, rfl⟩
      subst hwo
      have hkz : (k : Int) < (L : Int) := by omega
      obtain ⟨a, ws, ha, hws, hrow, hwlt, hrs, hz⟩ := HR.out.window (by omega) HDN.out
      have HD1 : Hid (At wo (some ⟨gd, od, none⟩) n cd ds) := HD0.out.cells_of (fun o => HR.out.cell gd o hdq hdr)
      have HAW : Hid (a = L - 1 - k) := ha
      have HWS : Hid (valB B64 rk = valB B64 (rk.take a) + B64 ^ a * valB B64 ws) := hrs
      have HZ : Hid (valB B64 (rk.drop (a + (n + 1))) = 0) := hz
      have HROW : Hid (Row wo gr a (n + 1) ws) := hrow
      have HWL : Hid (valB B64 ws < B64 * valB B64 ds) := hwlt
      have hal : a < L := by omega
      have hea : L - 1 - k = a := ha.symm
      have HEA : Hid (L - 1 - k = a) := hea
      clear ha hws hrs hz hrow hwlt hea
      go_wp2_with fail
      rw [show L - 1 - k + n + 1 - (L - 1 - k) = n + 1 by omega, HEA.out]
      refine (trial_any (HROW.out.at_ (Nat.le_refl _) (by unfold maxLen; omega)) HD1.out hn HWL.out).mono ?_
      rintro e w1 ⟨d, rfl, hdb, hqd, r1, hw1⟩
      have HR1 : Hid (Row w1 gr a (n + 1) ws) := by rw [hw1]; exact HROW.out.drewN r1
      have HD2 : Hid (At w1 (some ⟨gd, od, none⟩) n cd ds) := by rw [hw1]; exact HD1.out.drewN r1
      have HW1 : Hid (Wr gr a (n + 1) wo w1) := by rw [hw1]; exact (Wr.refl _ _ _ _).drewN r1
      have HQD : Hid (valB B64 ws / valB B64 ds ≤ d) := hqd
      clear hw1 hqd HROW HD1
      go_wp2_with fail
      refine (takemul_any HR1.out HD2.out hn hn2 hdb hdr).mono ?_
      rintro e w2 ⟨b, ws2, rfl, hb1, hwr2, hrow2, hsum2⟩
      have HWIN : Hid (WinRel wo gr a n (valB B64 ws) (valB B64 ds) d b ws2 w2) := ⟨HW1.out.trans hwr2, hrow2, hdb, hb1, HQD.out, hsum2⟩
      clear hwr2 hrow2 hsum2 HR1 HD2 HW1 HQD
      go_wp2_with fail
      go_loopg [10, 11] d (fun g2 dv bv wy => ∃ (bb : Nat) (wsy : List Nat), dv = U g2 ∧ bv = .bool (decide (bb = 1)) ∧ Hid (WinRel wo gr a n (valB B64 ws) (valB B64 ds) g2 bb wsy wy))
      case atStart => exact ⟨b, ws2, rfl, rfl, HWIN⟩
      case round =>
        obtain ⟨bb, wsy, rfl, rfl, HY⟩ := hrel
        have hob := HY.out.bb
        have hgb := HY.out.db
        rcases Nat.eq_zero_or_pos bb with h0 | h0
        · subst h0
          have hdone := HY.out.done HDP.out
          have HQ : Hid (gk = valB B64 ws / valB B64 ds) := hdone.1
          have HM2 : Hid (valB B64 wsy = valB B64 ws % valB B64 ds) := hdone.2
          have hrq := HR.out.rowq.wr HY.out.wrs hqr
          have hcq : wr.cell? ⟨gq, L - 1 - k, none⟩ = some (U (qk.getD (L - 1 - k) 0)) := by
            have := hrq.cell (L - 1 - k) (by omega)
            rw [Nat.zero_add] at this; exact this
          have hfq : wr.frozen? ⟨gq, L - 1 - k, none⟩ = false := by
            have := hrq.frozen (L - 1 - k) (by omega)
            rw [Nat.zero_add] at this; exact this
          clear hdone hrq
          go_wp2_with fail
          go_roundg gg
          case measure => omega
          case rel =>
            refine ⟨k + 1, qk.set a gk, winPut rk wsy a, by omega, by go_num, ?_⟩
            rw [HEA.out]
            exact HR.out.step (by omega) hqr HAW.out HWS.out HZ.out HDP.out HQ.out hgb HM2.out HY.out.wrs HY.out.row
        · obtain rfl : bb = 1 := by omega
          have HD3 : Hid (At wr (some ⟨gd, od, none⟩) n cd ds) := (HD0.out.cells_of (fun o => HR.out.cell gd o hdq hdr)).wr HY.out.wrs hdr
          go_wp2_with fail
          refine (ladd_any gr a (n + 1) (n + 1) wsy (some ⟨gd, od, none⟩) n cd ds wr HY.out.row (Nat.le_refl _) (by omega) HD3.out (by omega) (fun g2 off2 _ he => by simp only [Option.some.injEq, Addr.mk.injEq, and_true] at he; exact .inl (by omega))).mono ?_
          rintro e w3 ⟨cy, zs, rfl, hcy, hwr3, hrow3, hsum3⟩
          have hmore := HY.out.more hcy hwr3 hrow3 hsum3
          have hge := hmore.1
          have HMO : Hid (WinRel wo gr a n (valB B64 ws) (valB B64 ds) (gk - 1) (1 - cy) zs w3) := hmore.2.2
          clear hmore hwr3 hrow3 hsum3
          go_wp2_with fail
          go_roundg (gk - 1)
          case measure => omega
          case rel =>
            have ew : IntKind.u64.wrap ((gk : Int) - 1) = ((gk - 1 : Nat) : Int) := wrap_mod _ _ (by rw [B64_eq] at hgb; omega)
            refine ⟨1 - cy, zs, by rw [ew], ?_, HMO⟩
            rcases Nat.eq_zero_or_pos cy with h | h
            · subst h; rfl
            · obtain rfl : cy = 1 := by omega
              rfl
end Go.Proofs.YteoihhgaipplfaaDoor

namespace Go.Proofs.YteoihhgaipplfaaDoor
open Go.RowKit Go.Shelf

/-- A row of words of one's own: its cells hold xs and may be written. -/
structure Row32 (w : World) (g off n : Nat) (xs : List Nat) : Prop where
  len : xs.length = n
  dig : Dig B32 xs
  cell : ∀ j, j < n → w.cell? ⟨g, off + j, none⟩ = some (V (xs.getD j 0))
  frozen : ∀ j, j < n → w.frozen? ⟨g, off + j, none⟩ = false
theorem Row32.at_ {w : World} {g off n c : Nat} {xs : List Nat} (h : Row32 w g off n xs) (hc : n ≤ c) (hb : c ≤ maxLen) : At32 w (some ⟨g, off, none⟩) n c xs :=
  ⟨h.len, hc, hb, h.dig, .inr ⟨g, off, rfl, h.cell⟩⟩
theorem Row32.set {w : World} {g off n : Nat} {xs : List Nat} (h : Row32 w g off n xs) (k y : Nat) (hk : k < n) (hy : y < B32) : Row32 (w.setCell ⟨g, off + k, none⟩ (V y)) g off n (xs.set k y) := by
  refine ⟨by rw [List.length_set]; exact h.len, h.dig.set k hy, fun j hj => ?_, fun j hj => by rw [World.frozen?_setCell]; exact h.frozen j hj⟩
  rw [getD_set xs k y j (by rw [h.len]; exact hk)]
  by_cases e : j = k
  · subst e; rw [if_pos rfl]; exact World.cell?_setCell_same _ _ _ (h.cell j hj)
  · rw [if_neg e]
    exact (World.cell?_setCell_other _ _ _ _ (by intro e2; apply e; have := congrArg Addr.off e2; simp at this; omega)).trans (h.cell j hj)
theorem Row32.drewN {w : World} {g off n : Nat} {xs : List Nat} (h : Row32 w g off n xs) (q : Nat) : Row32 (w.drewN q) g off n xs := ⟨h.len, h.dig, h.cell, h.frozen⟩
theorem Row32.drew {w : World} {g off n : Nat} {xs : List Nat} (h : Row32 w g off n xs) : Row32 w.drew g off n xs := ⟨h.len, h.dig, h.cell, h.frozen⟩
theorem Blk32.frozen {w : World} {g : Nat} {xs : List Nat} (h : Blk32 w g xs) (j : Nat) : w.frozen? ⟨g, j, none⟩ = false := frozen_of_row w g j _ _ h
theorem Blk32.row {w : World} {g : Nat} {xs : List Nat} (h : Blk32 w g xs) (hd : Dig B32 xs) : Row32 w g 0 xs.length xs :=
  ⟨rfl, hd, fun j hj => by rw [Nat.zero_add]; exact h.cell j hj, fun j _ => h.frozen _⟩
theorem Row32.win {w : World} {g m : Nat} {rs : List Nat} (h : Row32 w g 0 m rs) (a l : Nat) (ha : a + l ≤ m) : Row32 w g a l ((rs.drop a).take l) := by
  have hl := h.len
  refine ⟨by simp; omega, (h.dig.drop a).take l, fun j hj => ?_, fun j hj => ?_⟩
  · have e : ((rs.drop a).take l).getD j 0 = rs.getD (a + j) 0 := by
      rw [List.getD_eq_getElem?_getD, List.getD_eq_getElem?_getD, List.getElem?_take, if_pos hj, List.getElem?_drop]
    rw [e]
    have := h.cell (a + j) (by omega)
    rw [Nat.zero_add] at this; exact this
  · have := h.frozen (a + j) (by omega)
    rw [Nat.zero_add] at this; exact this
theorem Row32.put {w w' : World} {g m a l : Nat} {rs ws : List Nat} (h : Row32 w g 0 m rs) (hwr : Wr g a l w w') (hr : Row32 w' g a l ws) (ha : a + l ≤ m) : Row32 w' g 0 m (winPut rs ws a) := by
  have hl := h.len; have hwl := hr.len
  have hle : a + ws.length ≤ rs.length := by omega
  refine ⟨by rw [winPut_len rs ws a hle]; exact hl, ?_, fun j hj => ?_, fun j hj => ?_⟩
  · unfold winPut; exact ((h.dig.take a).append hr.dig).append (h.dig.drop _)
  · rw [winPut_get rs ws a j hle, Nat.zero_add]
    by_cases hc : a ≤ j ∧ j < a + ws.length
    · rw [if_pos hc]
      have := hr.cell (j - a) (by omega)
      rw [show a + (j - a) = j by omega] at this; exact this
    · rw [if_neg hc, hwr.cell g j (by omega)]
      have := h.cell j hj
      rw [Nat.zero_add] at this; exact this
  · rw [hwr.frozen]; exact h.frozen j hj
theorem win_take32 (rs : List Nat) (a m : Nat) (h : a + m ≤ rs.length) : valB B32 rs = valB B32 (rs.take a) + B32 ^ a * (valB B32 ((rs.drop a).take m) + B32 ^ m * valB B32 (rs.drop (a + m))) := by
  rw [valB_split B32 rs a (by omega), valB_split B32 (rs.drop a) m (by rw [List.length_drop]; omega), List.drop_drop]

/-- What a row of ref.Mul has done at place k. -/
structure RMulRel (w : World) (g off m : Nat) (zs ys : List Nat) (v k cy : Nat) (dk : List Nat) (wr : World) : Prop where
  wrs : Wr g off m w wr
  row : Row32 wr g off m dk
  hi : dk.drop k = zs.drop k
  car : cy < B32
  sum : valB B32 (dk.take k) + B32 ^ k * cy = valB B32 (zs.take k) + valB B32 (ys.take k) * v
theorem RMulRel.step {w : World} {g off m : Nat} {zs ys : List Nat} {v k cy : Nat} {dk : List Nat} {wr : World} (h : RMulRel w g off m zs ys v k cy dk wr) (hk : k < m)
    {x z l d : Nat} (hz : z = dk.getD k 0) (hx : x = ys.getD k 0) (hs : x * v + z + cy = l + B32 * d) (hl : l < B32) (hd : d < B32) :
    RMulRel w g off m zs ys v (k + 1) d (dk.set k l) (wr.setCell ⟨g, off + k, none⟩ (V l)) := by
  have hlen := h.row.len
  refine ⟨h.wrs.setCell (off + k) ⟨by omega, by omega⟩ _, h.row.set k l hk hl, ?_, hd, ?_⟩
  · rw [drop_set_lt]; exact drop_succ_of_drop h.hi
  · have hzz : z = zs.getD k 0 := hz.trans (getD_of_drop h.hi)
    rw [take_set_succ dk k l (by omega), valB_snoc, List.length_take, hlen, Nat.min_eq_left (by omega), valB_take_any _ zs k, valB_take_any _ ys k, ← hzz, ← hx, Nat.pow_succ, Nat.add_mul]
    have e1 := h.sum
    have e2 : B32 ^ k * (x * v + z + cy) = B32 ^ k * (l + B32 * d) := by rw [hs]
    rw [Nat.mul_add, Nat.mul_add, Nat.mul_add, ← Nat.mul_assoc] at e2
    have e3 : B32 ^ k * x * v = B32 ^ k * (x * v) := Nat.mul_assoc _ _ _
    have e4 : B32 ^ k * B32 * d = B32 ^ k * (B32 * d) := Nat.mul_assoc _ _ _
    rw [e3, e4]
    rw [← Nat.mul_assoc] at e2
    generalize B32 ^ k * x * v = X0 at *
    generalize B32 ^ k * (x * v) = X1 at *
    generalize B32 ^ k * B32 * d = X2 at *
    generalize B32 ^ k * (B32 * d) = X3 at *
    generalize B32 ^ k * z = X4 at *
    generalize B32 ^ k * cy = X5 at *
    generalize B32 ^ k * l = X6 at *
    omega

theorem RMulRel.drewN {w : World} {g off m : Nat} {zs ys : List Nat} {v k cy : Nat} {dk : List Nat} {wr : World} (h : RMulRel w g off m zs ys v k cy dk wr) (q : Nat) : RMulRel w g off m zs ys v k cy dk (wr.drewN q) :=
  ⟨h.wrs.drewN q, h.row.drewN q, h.hi, h.car, h.sum⟩
theorem valB_set_zero (b : Nat) (xs : List Nat) (k y : Nat) (hk : k < xs.length) (h0 : xs.getD k 0 = 0) : valB b (xs.set k y) = valB b xs + b ^ k * y := by
  have h1 := valB_split b xs k (by omega)
  have h2 := valB_split b (xs.set k y) k (by simp; omega)
  rw [drop_set_at xs k y hk, take_set_at, valB_cons] at h2
  rw [valB_drop b xs k hk, h0] at h1
  rw [h2, h1, Nat.mul_add, Nat.zero_add]
  omega
theorem valB_drop_zero {b : Nat} (hb : 0 < b) {xs : List Nat} {k : Nat} (h : valB b (xs.drop k) = 0) : xs.getD k 0 = 0 ∧ valB b (xs.drop (k + 1)) = 0 := by
  by_cases hk : k < xs.length
  · rw [valB_drop b xs k hk] at h
    have h1 : b * valB b (xs.drop (k + 1)) = 0 := by omega
    refine ⟨by omega, ?_⟩
    rcases Nat.mul_eq_zero.1 h1 with e | e
    · omega
    · exact e
  · refine ⟨?_, ?_⟩
    · rw [List.getD_eq_getElem?_getD, List.getElem?_eq_none (by omega)]; rfl
    · rw [List.drop_of_length_le (by omega)]; rfl
/-- What ref.Mul has done when i digits of a are through. -/
structure RMulO (w : World) (g N m : Nat) (xs ys : List Nat) (i : Nat) (ps : List Nat) (wr : World) : Prop where
  bel : Below g w wr
  row : Row32 wr g 0 N ps
  val : valB B32 ps = valB B32 (xs.take i) * valB B32 ys
  zero : valB B32 (ps.drop (i + m)) = 0
theorem rmul_abs {P Y x T Z D V cy B m : Nat} (h1 : V = T + P * Z) (h2 : D + B ^ m * cy = Z + Y * x) : T + P * D + P * B ^ m * cy = V + P * (Y * x) := by
  have e1 : P * (D + B ^ m * cy) = P * (Z + Y * x) := by rw [h2]
  rw [Nat.mul_add, Nat.mul_add, ← Nat.mul_assoc] at e1
  omega
theorem RMulO.step {w : World} {g N m n : Nat} {xs ys : List Nat} {i : Nat} {ps : List Nat} {wr wr' : World} (h : RMulO w g N m xs ys i ps wr) (hi : i < n) (hN : N = n + m) (hx : xs.length = n) (hy : ys.length = m) {x cy : Nat} {dk : List Nat} (ex : x = xs.getD i 0) (hR : RMulRel wr g i m ((ps.drop i).take m) ys x m cy dk wr') :
    RMulO w g N m xs ys (i + 1) ((winPut ps dk i).set (i + m) cy) (wr'.setCell ⟨g, i + m, none⟩ (V cy)) := by
  have hl := h.row.len; have hdl := hR.row.len
  have hle : i + dk.length ≤ ps.length := by omega
  have hrow := h.row.put hR.wrs hR.row (by omega)
  have hz := valB_drop_zero B32_pos h.zero
  have hsum := hR.sum
  have t1 : dk.take m = dk := List.take_of_length_le (by omega)
  have t2 : ((ps.drop i).take m).take m = (ps.drop i).take m := by rw [List.take_take, Nat.min_self]
  have t3 : ys.take m = ys := List.take_of_length_le (by omega)
  rw [t1, t2, t3] at hsum
  have hv := win_take32 ps i m (by omega)
  rw [h.zero, Nat.mul_zero, Nat.add_zero] at hv
  have hv1 : valB B32 (winPut ps dk i) = valB B32 (ps.take i) + B32 ^ i * valB B32 dk := by
    rw [valB_split B32 (winPut ps dk i) i (by rw [winPut_len ps dk i hle]; omega), winPut_take ps dk i hle, winPut_drop ps dk i hle, valB_append, hdl, h.zero, Nat.mul_zero, Nat.add_zero]
  have hg0 : (winPut ps dk i).getD (i + m) 0 = 0 := by
    rw [winPut_get ps dk i (i + m) hle, if_neg (by omega)]; exact hz.1
  refine ⟨(h.bel.trans (hR.wrs.below (Nat.le_refl _))).trans (((Wr.refl g 0 N wr').setCell (i + m) ⟨by omega, by omega⟩ (V cy)).below (Nat.le_refl _)), ?_, ?_, ?_⟩
  · have := hrow.set (i + m) cy (by omega) hR.car
    rw [Nat.zero_add] at this; exact this
  · rw [valB_set_zero B32 _ (i + m) cy (by rw [winPut_len ps dk i hle]; omega) hg0, hv1, Nat.pow_add, rmul_abs hv hsum, h.val, valB_take_succ B32 xs i (by omega), ← ex, Nat.add_mul, Nat.mul_assoc, Nat.mul_comm (valB B32 ys) x]
  · rw [show i + 1 + m = i + m + 1 by omega, drop_set_lt]
    have e : (winPut ps dk i).drop (i + m + 1) = ps.drop (i + m + 1) := by
      have e1 : (winPut ps dk i).drop (i + m) = ps.drop (i + m) := by
        have := congrArg (List.drop dk.length) (winPut_drop ps dk i hle)
        rw [List.drop_drop, List.drop_left, hdl] at this
        exact this
      have := congrArg (List.drop 1) e1
      rw [List.drop_drop, List.drop_drop] at this; exact this
    rw [e]; exact hz.2
theorem rmul_digit {x y z cy : Nat} (hx : x < B32) (hy : y < B32) (hz : z < B32) (hc : cy < B32) : x * y + z + cy < B64 := by
  have h1 : x * y ≤ (B32 - 1) * (B32 - 1) := Nat.mul_le_mul (by omega) (by omega)
  have h2 : (B32 - 1) * (B32 - 1) + 2 * (B32 - 1) < B64 := by decide
  omega

set_option maxRecDepth 20000 in
set_option maxHeartbeats 2000000 in
/-- ref.Mul. -/
theorem rmul_any {p q : Option Addr} {n m c d : Nat} {xs ys : List Nat} {a b : Nat} {w : World} (h : At32 w p n c xs) (k : At32 w q m d ys) (hx : Nf B32 xs a) (hy : Nf B32 ys b) (hn : n ≤ 1099511627776) (hm : m ≤ 1099511627776) :
    Calls Tryd.prog 118 #[.slice p n c, .slice q m d] w fun e w' => ∃ p' m' zs, e = .returned (.slice p' m' m') ∧ At32 w' p' m' m' zs ∧ Nf B32 zs (a * b) ∧ m' ≤ n + m ∧ Below w.heap.size w w' := by
  obtain ⟨i0, hi, hz0, hz1, hz2⟩ := info_parts Tryd.infoU32
  have HX : Hid (Nf B32 xs a) := hx
  have HY : Hid (Nf B32 ys b) := hy
  have HLX : Hid (xs.length = n) := h.len
  have HLY : Hid (ys.length = m) := k.len
  have hcap := h.cap; have hbig := h.big; have kcap := k.cap; have kbig := k.big
  unfold maxLen at hbig kbig
  obtain ⟨N, hN⟩ : ∃ N, N = n + m := ⟨_, rfl⟩
  have HN : Hid (N = n + m) := hN
  have hNi : (n : Int) + (m : Int) = (N : Int) := by omega
  have hNb : N ≤ 2199023255552 := by omega
  clear hx hy hN
  go_enter Tryd.func118, Tryd.ntmps118
  go_wp2_with (at_make; refine wpList_make_full _ rfl _ _ 72 rfl w.heap.size 112 i0 (.int .u32 0) 1 Tryd.underlying72 hi hz0 hz1 _ _ _ _ N rfl rfl (by omega) (by omega) (by rw [hz2]; omega) (by unfold maxLen; omega) (Nat.le_refl _) ?_; intro w1 hown hgrow; have hb := made_blk32 hown hgrow; clear hown hgrow)
  have HO : Hid (RMulO w w.heap.size N m xs ys 0 (List.replicate N 0) w1) := by
    have hr := hb.1.row (Dig.replicate B32 N B32_pos)
    rw [List.length_replicate] at hr
    refine ⟨hb.2, hr, by rw [valB_replicate]; simp [valB], by rw [List.drop_replicate, valB_replicate]⟩
  clear hb hNi
  go_loopg [6] n (fun gk iv wr => ∃ (i : Nat) (ps : List Nat), i + gk = n ∧ iv = .int .i64 i ∧ Hid (RMulO w w.heap.size N m xs ys i ps wr))
  case atStart => exact ⟨0, _, by omega, rfl, HO⟩
  case round =>
    obtain ⟨i, ps, hig, rfl, HR⟩ := hrel
    cases gk with
    | zero =>
      obtain rfl : i = n := by omega
      have hR := HR.out
      have A32 : At32 wr (some ⟨w.heap.size, 0, none⟩) N N ps := hR.row.at_ (Nat.le_refl _) (by unfold maxLen; omega)
      have hv := hR.val
      rw [List.take_of_length_le (by rw [HLX.out]; omega), HX.out.val, HY.out.val] at hv
      have HNF : Hid (Nf B32 (trimL ps) (a * b)) := by
        have := Nf.trim hR.row.dig
        rw [hv] at this; exact this
      have hle := trimL_length_le ps
      have HLE : Hid ((trimL ps).length ≤ i + m) := by have := hR.row.len; have := HN.out; show _ ≤ _; omega
      have hbx := hR.bel
      clear hR hv hle
      go_wp2_with fail
      refine (rnorm_any A32 (by omega)).mono ?_
      rintro e w5 ⟨g5, rfl, hg5, hblk5, hb5⟩
      have hd5 := HNF.out.dig
      generalize trimL ps = zs at *
      go_wp2_with fail
      go_ret
      exact ⟨_, _, zs, rfl, hblk5.at_ hd5 rfl (by have := HLE.out; unfold maxLen; omega), HNF.out, HLE.out, Below.on hbx hb5⟩
    | succ gg =>
      obtain ⟨wo, hwo⟩ : ∃ wo, wo = wr := ⟨_, rfl⟩
      subst hwo
      obtain ⟨g, off, rfl, hc⟩ := h.cells.resolve_left (by omega)
      obtain ⟨x, hx⟩ : ∃ x, x = xs.getD i 0 := ⟨_, rfl⟩
      have hcx0 : w.cell? ⟨g, off + i, none⟩ = some (V x) := by rw [hx]; exact hc i (by omega)
      have hcx : wo.cell? ⟨g, off + i, none⟩ = some (V x) := (HR.out.bel.cell (p := ⟨g, off + i, none⟩) (World.block_lt_of_cell? w _ hcx0)).trans hcx0
      have hxb : x < B32 := by rw [hx]; exact HX.out.dig.getD B32_pos i
      have hxw : IntKind.u64.wrap (x : Int) = (x : Int) := wrap_mod _ _ (by rw [B32_eq] at hxb; omega)
      have HXE : Hid (x = xs.getD i 0) := hx
      have hin : i < n := by omega
      clear hc hx hcx0
      go_wp2_with fail
      go_loopg [7, 9] m (fun g2 cv jv wy => ∃ (j cy : Nat) (dk : List Nat), j + g2 = m ∧ jv = .int .i64 j ∧ cv = U cy ∧ Hid (RMulRel wo w.heap.size i m ((ps.drop i).take m) ys x j cy dk wy))
      case atStart =>
        refine ⟨0, 0, (ps.drop i).take m, by omega, rfl, rfl, ⟨Wr.refl _ _ _ _, HR.out.row.win i m (by have := HN.out; omega), rfl, B32_pos, ?_⟩⟩
        simp [valB]
      case round =>
        obtain ⟨j, cy, dk, hjg, rfl, rfl, HI⟩ := hrel
        have hcyb := HI.out.car
        cases gk with
        | zero =>
          obtain rfl : j = m := by omega
          have hrow1 := HR.out.row.put HI.out.wrs HI.out.row (by have := HN.out; omega)
          have hct : wr.cell? ⟨w.heap.size, i + j, none⟩ = some (V ((winPut ps dk i).getD (i + j) 0)) := by
            have := hrow1.cell (i + j) (by have := HN.out; omega)
            rw [Nat.zero_add] at this; exact this
          have hft : wr.frozen? ⟨w.heap.size, i + j, none⟩ = false := by
            have := hrow1.frozen (i + j) (by have := HN.out; omega)
            rw [Nat.zero_add] at this; exact this
          have hnj : ¬ j < j := by omega
          have hiN : i + j < N := by have := HN.out; omega
          have hw32 : IntKind.u32.wrap (cy : Int) = (cy : Int) := wrap32 cy hcyb
          clear hrow1
          go_wp2_with fail
          go_roundg gg
          case measure => omega
          case rel => exact ⟨i + 1, (winPut ps dk i).set (i + j) cy, by omega, by go_num, HR.out.step (n := n) hin HN.out HLX.out HLY.out HXE.out HI.out⟩
        | succ g3 =>
          have hjm : j < m := by omega
          obtain ⟨gb, ob, rfl, hcb⟩ := k.cells.resolve_left (by omega)
          obtain ⟨z, hzz⟩ : ∃ z, z = dk.getD j 0 := ⟨_, rfl⟩
          obtain ⟨y, hyy⟩ : ∃ y, y = ys.getD j 0 := ⟨_, rfl⟩
          have hcy0 : w.cell? ⟨gb, ob + j, none⟩ = some (V y) := by rw [hyy]; exact hcb j hjm
          have hgb := World.block_lt_of_cell? w _ hcy0
          have hcy1 : wr.cell? ⟨gb, ob + j, none⟩ = some (V y) := by
            rw [HI.out.wrs.cell gb (ob + j) (.inl (by simp at hgb; omega))]
            exact (HR.out.bel.cell (p := ⟨gb, ob + j, none⟩) hgb).trans hcy0
          have hcz : wr.cell? ⟨w.heap.size, i + j, none⟩ = some (V z) := by rw [hzz]; exact HI.out.row.cell j hjm
          have hfz : wr.frozen? ⟨w.heap.size, i + j, none⟩ = false := HI.out.row.frozen j hjm
          have hzb : z < B32 := by rw [hzz]; exact HI.out.row.dig.getD B32_pos j
          have hyb : y < B32 := by rw [hyy]; exact HY.out.dig.getD B32_pos j
          have hall := rmul_digit hxb hyb hzb hcyb
          obtain ⟨xy, exy⟩ : ∃ xy, xy = x * y := ⟨_, rfl⟩
          rw [← exy] at hall
          rw [B64_eq] at hall
          have f0 : IntKind.u64.wrap (z : Int) = (z : Int) := wrap_mod _ _ (by rw [B32_eq] at hzb; omega)
          have f00 : IntKind.u64.wrap (y : Int) = (y : Int) := wrap_mod _ _ (by rw [B32_eq] at hyb; omega)
          have f1 : IntKind.u64.wrap ((x : Int) * (y : Int)) = (xy : Int) := by
            have e : ((x : Int) * (y : Int)) = ((x * y : Nat) : Int) := by simp
            rw [e, ← exy]; exact wrap_mod _ _ (by omega)
          obtain ⟨s1, es1⟩ : ∃ s1, s1 = z + xy := ⟨_, rfl⟩
          have f2 : IntKind.u64.wrap ((z : Int) + (xy : Int)) = (s1 : Int) := wrap_mod _ _ (by omega)
          obtain ⟨s2, es2⟩ : ∃ s2, s2 = cy + s1 := ⟨_, rfl⟩
          have f3 : IntKind.u64.wrap ((cy : Int) + (s1 : Int)) = (s2 : Int) := wrap_mod _ _ (by omega)
          have hs2 : s2 < 18446744073709551616 := by omega
          obtain ⟨lo, elo⟩ : ∃ lo, lo = s2 % B32 := ⟨_, rfl⟩
          obtain ⟨hh, ehh⟩ : ∃ hh, hh = s2 / B32 := ⟨_, rfl⟩
          have hlob : lo < B32 := by rw [elo]; exact Nat.mod_lt _ B32_pos
          have hhhb : hh < B32 := by rw [ehh]; exact Nat.div_lt_of_lt_mul (by rw [B32_two, B64_eq]; exact hs2)
          have f4 : bits .and .u64 (s2 : Int) 4294967295 = (lo : Int) := by rw [elo, B32_eq]; exact and32 s2 hs2
          have f5 : (s2 : Int) / 4294967296 = (hh : Int) := by rw [ehh, B32_eq]; exact div32 s2
          have f6 : IntKind.u32.wrap (lo : Int) = (lo : Int) := wrap32 lo hlob
          have HSUM : Hid (x * y + z + cy = lo + B32 * hh) := by
            have := Nat.mod_add_div s2 B32
            rw [← elo, ← ehh] at this
            show _ = _; omega
          have HZE : Hid (z = dk.getD j 0) := hzz
          have HYE : Hid (y = ys.getD j 0) := hyy
          have hij : IntKind.i64.wrap ((i : Int) + (j : Int)) = (i : Int) + (j : Int) := by
            have e : ((i : Int) + (j : Int)) = ((i + j : Nat) : Int) := by omega
            rw [e]
            simp [IntKind.wrap, IntKind.signed, IntKind.bits]
            omega
          have hiN : (i : Int) + (j : Int) < (N : Int) := by have := HN.out; omega
          clear hall exy es1 es2 elo ehh hzz hyy hcy0 hcb hgb
          go_wp2_with fail
          go_quiet (fail)
          go_wp2_with fail
          go_roundg g3
          case measure => omega
          case rel =>
            refine ⟨j + 1, hh, dk.set j lo, by omega, by go_num, rfl, ?_⟩
            exact (HI.out.drewN nq).step hjm HZE.out HYE.out (by have := HSUM.out; rw [Nat.mul_comm y x]; exact this) hlob hhhb
end Go.Proofs.YteoihhgaipplfaaDoor

namespace Go.Proofs.YteoihhgaipplfaaDoor
open Go.RowKit Go.Shelf

theorem divsmall_abs {L x d B V W q r : Nat} (h : V * d + L = W) (hq : L * B + x = q * d + r) : (q + B * V) * d + r = x + B * W := by
  rw [← h, Nat.add_mul, Nat.mul_add]
  have e : B * V * d = B * (V * d) := by rw [Nat.mul_assoc]
  rw [e]
  have e2 : B * L = L * B := Nat.mul_comm _ _
  omega
theorem drop_set_self (qs : List Nat) (j y : Nat) (h : j < qs.length) : (qs.set j y).drop j = y :: qs.drop (j + 1) := by
  rw [List.drop_eq_getElem_cons (by simpa using h), List.getElem_set_self, List.drop_set_of_lt (by omega)]

theorem bSet0 {B : Nat} {a w : World} (h : Below B a w) (g o : Nat) (v : Value) (hB : B ≤ g) : Below B a (w.setCell ⟨g, o, none⟩ v) :=
  h.trans ((Wr.refl g o 1 w).setCell o ⟨by omega, by omega⟩ v |>.below hB)
/-- The state of ref.DivSmall's loop. -/
structure DSm (w : World) (g n d : Nat) (xs : List Nat) (k L : Nat) (qs : List Nat) (wr : World) : Prop where
  bel : Below w.heap.size w wr
  row : Row32 wr g 0 n qs
  lt : L < d
  val : valB B32 (qs.drop k) * d + L = valB B32 (xs.drop k)

set_option maxRecDepth 20000 in
set_option maxHeartbeats 2000000 in
/-- ref.DivSmall. -/
theorem rdivsmall {p : Option Addr} {n c : Nat} {xs : List Nat} {w : World} (h : At32 w p n c xs) (hn : n ≤ 1099511627776) (d : Nat) (hd : 1 ≤ d) (hdb : d < B32) :
    Calls Tryd.prog 126 #[.slice p n c, .int .u32 d] w fun e w' => ∃ p' m' zs r, e = .returned (.tuple #[.slice p' m' m', .int .u32 r]) ∧ At32 w' p' m' m' zs ∧ Nf B32 zs (valB B32 xs / d) ∧ m' ≤ n ∧ Below w.heap.size w w' := by
  obtain ⟨i0, hi, hz0, hz1, hz2⟩ := info_parts Tryd.infoU32
  have HLX : Hid (xs.length = n) := h.len
  have hcap := h.cap; have hbig := h.big
  unfold maxLen at hbig
  have hd0 : ((d : Int) == 0) = false := by simp; omega
  have HDB : Hid (1 ≤ d ∧ d < B32) := ⟨hd, hdb⟩
  have hdw : IntKind.u64.wrap (d : Int) = (d : Int) := wrap_mod _ _ (by rw [B32_eq] at hdb; omega)
  clear hdb
  go_enter Tryd.func126, Tryd.ntmps126
  go_wp2_with (at_make; refine wpList_make_full _ rfl _ _ 72 rfl w.heap.size 112 i0 (.int .u32 0) 1 Tryd.underlying72 hi hz0 hz1 _ _ _ _ n rfl rfl (by omega) (by omega) (by rw [hz2]; omega) (by unfold maxLen; omega) (Nat.le_refl _) ?_; intro w1 hown hgrow; have hb := made_blk32 hown hgrow; clear hown hgrow)
  have HO : Hid (DSm w w.heap.size n d xs n 0 (List.replicate n 0) w1) := by
    have hr := hb.1.row (Dig.replicate B32 n B32_pos)
    rw [List.length_replicate] at hr
    refine ⟨hb.2, hr, by omega, ?_⟩
    rw [List.drop_of_length_le (by rw [List.length_replicate]; exact Nat.le_refl _), List.drop_of_length_le (by rw [HLX.out]; exact Nat.le_refl _)]
    simp [valB]
  clear hb
  go_loopg [7, 8] n (fun gk lv iv wr => ∃ (L : Nat) (z : Int) (qs : List Nat), lv = U L ∧ iv = .int .i64 z ∧ z = (gk : Int) - 1 ∧ gk ≤ n ∧ Hid (DSm w w.heap.size n d xs gk L qs wr))
  case atStart => exact ⟨0, (n : Int) - 1, _, rfl, rfl, rfl, Nat.le_refl _, HO⟩
  case round =>
    obtain ⟨L, z, qs, rfl, rfl, hz, hgn, HR⟩ := hrel
    cases gk with
    | zero =>
      obtain rfl : z = -1 := by omega
      have hR := HR.out
      have A32 : At32 wr (some ⟨w.heap.size, 0, none⟩) n n qs := hR.row.at_ (Nat.le_refl _) (by unfold maxLen; omega)
      have hv := hR.val
      rw [List.drop_zero, List.drop_zero] at hv
      have HV : Hid (valB B32 qs = valB B32 xs / d) := by
        show _ = _
        have h1 := hR.lt
        rw [← hv, Nat.mul_comm, Nat.mul_add_div (by omega), Nat.div_eq_of_lt h1, Nat.add_zero]
      have HNF : Hid (Nf B32 (trimL qs) (valB B32 xs / d)) := by
        have := Nf.trim hR.row.dig
        rw [HV.out] at this; exact this
      have hle := trimL_length_le qs
      have HLE : Hid ((trimL qs).length ≤ n) := by have := hR.row.len; show _ ≤ _; omega
      have hLw : IntKind.u32.wrap (L : Int) = (L : Int) := wrap32 L (by have := hR.lt; have := HDB.out.2; omega)
      have hbx := hR.bel
      clear hR hv hle hz HR
      go_wp2_with fail
      refine (rnorm_any A32 (by omega)).mono ?_
      rintro e w5 ⟨g5, rfl, hg5, hblk5, hb5⟩
      have hd5 := HNF.out.dig
      generalize trimL qs = us at *
      go_wp2_with fail
      go_ret2
      exact ⟨_, _, us, _, rfl, hblk5.at_ hd5 rfl (by have := HLE.out; unfold maxLen; omega), HNF.out, HLE.out, Below.on hbx hb5⟩
    | succ j =>
      obtain rfl : z = (j : Int) := by omega
      obtain ⟨g, off, rfl, hc⟩ := h.cells.resolve_left (by omega)
      obtain ⟨x, hx⟩ : ∃ x, x = xs.getD j 0 := ⟨_, rfl⟩
      have hcx0 : w.cell? ⟨g, off + j, none⟩ = some (V x) := by rw [hx]; exact hc j (by omega)
      have hcx : wr.cell? ⟨g, off + j, none⟩ = some (V x) := (HR.out.bel.cell (p := ⟨g, off + j, none⟩) (World.block_lt_of_cell? w _ hcx0)).trans hcx0
      have hxb : x < B32 := by rw [hx]; exact h.dig.getD B32_pos j
      have hjn : j < n := by omega
      have hct : wr.cell? ⟨w.heap.size, j, none⟩ = some (V (qs.getD j 0)) := by
        have := HR.out.row.cell j hjn
        rw [Nat.zero_add] at this; exact this
      have hft : wr.frozen? ⟨w.heap.size, j, none⟩ = false := by
        have := HR.out.row.frozen j hjn
        rw [Nat.zero_add] at this; exact this
      have hL := HR.out.lt
      have hdB := HDB.out.2
      rw [B32_eq] at hdB hxb
      obtain ⟨T, hT⟩ : ∃ T, T = L * 4294967296 + x := ⟨_, rfl⟩
      obtain ⟨lh, hlh⟩ : ∃ lh, lh = L * 4294967296 := ⟨_, rfl⟩
      have f1 : IntKind.u64.wrap ((L : Int) * 4294967296) = (lh : Int) := wrap_mod _ _ (by omega)
      have f2 : IntKind.u64.wrap ((lh : Int) + (x : Int)) = (T : Int) := wrap_mod _ _ (by omega)
      have fx : IntKind.u64.wrap (x : Int) = (x : Int) := wrap_mod _ _ (by omega)
      obtain ⟨Q, hQ⟩ : ∃ Q, Q = T / d := ⟨_, rfl⟩
      obtain ⟨R, hRr⟩ : ∃ R, R = T % d := ⟨_, rfl⟩
      have q1 : (T : Int).tdiv (d : Int) = (Q : Int) := by rw [hQ, Int.tdiv_eq_ediv_of_nonneg (Int.natCast_nonneg T)]; norm_cast
      have q2 : (T : Int) / (d : Int) = (Q : Int) := by rw [hQ]; norm_cast
      have r1 : (T : Int).tmod (d : Int) = (R : Int) := by rw [hRr, Int.tmod_eq_emod_of_nonneg (Int.natCast_nonneg T)]; norm_cast
      have r2 : (T : Int) % (d : Int) = (R : Int) := by rw [hRr]; norm_cast
      have hRd : R < d := by rw [hRr]; exact Nat.mod_lt _ hd
      have hQB : Q < B32 := by
        rw [hQ, B32_eq]
        refine Nat.div_lt_of_lt_mul ?_
        have : L * 4294967296 + 4294967296 ≤ d * 4294967296 := by
          have := Nat.mul_le_mul_right 4294967296 (show L + 1 ≤ d by omega)
          rw [Nat.add_mul] at this; omega
        omega
      have fq : IntKind.u32.wrap (Q : Int) = (Q : Int) := wrap32 Q hQB
      have fq2 : IntKind.u64.wrap (Q : Int) = (Q : Int) := wrap_mod _ _ (by rw [B32_eq] at hQB; omega)
      have fq3 : (Q : Int) % 4294967296 = (Q : Int) := by rw [B32_eq] at hQB; omega
      have hQR : L * B32 + x = Q * d + R := by rw [B32_eq, ← hT, hQ, hRr, Nat.mul_comm]; exact (Nat.div_add_mod T d).symm
      have HS : Hid (DSm w w.heap.size n d xs j R (qs.set j Q) (wr.setCell ⟨w.heap.size, j, none⟩ (V Q))) := by
        have hR := HR.out
        have hs := hR.row.set j Q hjn hQB
        rw [Nat.zero_add] at hs
        refine ⟨bSet0 hR.bel _ _ _ (Nat.le_refl _), hs, hRd, ?_⟩
        rw [drop_set_self qs j Q (by rw [hR.row.len]; exact hjn), valB_cons, valB_drop B32 xs j (by rw [HLX.out]; exact hjn), ← hx]
        exact divsmall_abs hR.val hQR
      clear hz HR hc hx hcx0 hQ hRr hT hlh hQR hL hdB hxb hRd hQB
      go_wp2_with fail
      go_roundg j
      case measure => omega
      case rel => exact ⟨R, (j : Int) - 1, qs.set j Q, rfl, rfl, rfl, by omega, HS⟩
end Go.Proofs.YteoihhgaipplfaaDoor

namespace Go.Proofs.YteoihhgaipplfaaDoor
open Go.RowKit Go.Shelf

/-- One window of ref.digit: what it holds once k digits' worth too many have been given back. -/
structure WinRel32 (w : World) (g off n : Nat) (W D d b : Nat) (ws : List Nat) (wr : World) : Prop where
  wrs : Wr g off (n + 1) w wr
  row : Row32 wr g off (n + 1) ws
  db : d < B32
  bb : b ≤ 1
  ge : W / D ≤ d
  sum : valB B32 ws + D * d = W + B32 ^ (n + 1) * b
theorem WinRel32.done {w : World} {g off n W D d : Nat} {ws : List Nat} {wr : World} (h : WinRel32 w g off n W D d 0 ws wr) (hD : 0 < D) : d = W / D ∧ valB B32 ws = W % D := by
  have h1 := h.sum; have h2 := h.ge
  rw [Nat.mul_zero, Nat.add_zero] at h1
  have h3 : d ≤ W / D := (Nat.le_div_iff_mul_le hD).2 (by rw [Nat.mul_comm]; omega)
  have h4 : d = W / D := by omega
  refine ⟨h4, ?_⟩
  have h5 := Nat.div_add_mod W D
  rw [← h4] at h5
  omega
theorem WinRel32.more {w : World} {g off n W D d : Nat} {ws : List Nat} {wr wr' : World} (h : WinRel32 w g off n W D d 1 ws wr) {cy : Nat} {ws' : List Nat} (hcy : cy ≤ 1) (hwr : Wr g off (n + 1) wr wr') (hrow : Row32 wr' g off (n + 1) ws') (hs : valB B32 ws' + B32 ^ (n + 1) * cy = valB B32 ws + D) :
    1 ≤ d ∧ WinRel32 w g off n W D (d - 1) (1 - cy) ws' wr' := by
  have h1 := h.sum; have h2 := h.ge; have h3 := h.db
  have hl := valB_lt B32_pos h.row.dig
  rw [h.row.len] at hl
  rw [Nat.mul_one] at h1
  have hgt : W < D * d := by omega
  have hd : 1 ≤ d := by
    rcases Nat.eq_zero_or_pos d with e | e
    · subst e; simp at hgt
    · exact e
  have hlt : W / D < d := Nat.div_lt_of_lt_mul hgt
  have e4 : D * d = D * (d - 1) + D := by rw [← Nat.mul_succ, show (d - 1).succ = d by omega]
  refine ⟨hd, h.wrs.trans hwr, hrow, by omega, by omega, by omega, ?_⟩
  rcases Nat.eq_zero_or_pos cy with e | e
  · subst e; rw [Nat.mul_zero, Nat.add_zero] at hs; rw [Nat.sub_zero, Nat.mul_one]; omega
  · obtain rfl : cy = 1 := by omega
    rw [Nat.mul_one] at hs; rw [Nat.sub_self, Nat.mul_zero]; omega
/-- The first loop: q times the divisor is taken off, place by place. -/
structure DgS (w : World) (g off n : Nat) (us vs : List Nat) (q k cy ow : Nat) (dk : List Nat) (wr : World) : Prop where
  wrs : Wr g off (n + 1) w wr
  row : Row32 wr g off (n + 1) dk
  hi : dk.drop k = us.drop k
  car : cy < B32
  owb : ow ≤ 1
  fin : k = n + 1 → cy = 0
  sum : valB B32 (dk.take k) + valB B32 (vs.take k) * q = valB B32 (us.take k) + B32 ^ k * (ow + cy)
theorem dgs_abs {P B S V U q d y u o c o' c' : Nat} (h : S + V * q = U + P * (o + c)) (hs : o + c + d + y * q = u + B * (o' + c')) : S + P * d + (V + P * y) * q = U + P * u + P * B * (o' + c') := by
  have e1 : P * (o + c + d + y * q) = P * (u + B * (o' + c')) := by rw [hs]
  rw [Nat.mul_add P (o + c + d) (y * q), Nat.mul_add P (o + c) d, Nat.mul_add P u] at e1
  have e2 : P * (y * q) = P * y * q := (Nat.mul_assoc _ _ _).symm
  have e3 : P * (B * (o' + c')) = P * B * (o' + c') := (Nat.mul_assoc _ _ _).symm
  rw [e2, e3] at e1
  rw [Nat.add_mul]
  generalize P * y * q = X1 at *
  generalize P * B * (o' + c') = X2 at *
  generalize P * (o + c) = X3 at *
  generalize P * d = X4 at *
  generalize P * u = X5 at *
  omega
theorem DgS.step {w : World} {g off n : Nat} {us vs : List Nat} {q k cy ow : Nat} {dk : List Nat} {wr : World} (h : DgS w g off n us vs q k cy ow dk wr) (hk : k < n + 1) (hvl : vs.length = n)
    {y u c1 lo cy' ow' d : Nat} (hy : y = vs.getD k 0) (hu : u = dk.getD k 0) (hc1 : c1 = cy + y * q) (hlo : c1 = lo + B32 * cy') (hcy' : cy' < B32) (how' : ow' ≤ 1) (hd : d + lo + ow = u + B32 * ow') (hdb : d < B32) :
    DgS w g off n us vs q (k + 1) cy' ow' (dk.set k d) (wr.setCell ⟨g, off + k, none⟩ (V d)) := by
  have hlen := h.row.len
  refine ⟨h.wrs.setCell (off + k) ⟨by omega, by omega⟩ _, h.row.set k d hk hdb, ?_, hcy', how', ?_, ?_⟩
  · rw [drop_set_lt]; exact drop_succ_of_drop h.hi
  · intro hkn
    have h0 : y = 0 := by
      rw [hy, List.getD_eq_getElem?_getD, List.getElem?_eq_none (by omega)]; rfl
    rw [h0, Nat.zero_mul] at hc1
    have := h.car
    rcases Nat.eq_zero_or_pos cy' with e | e
    · exact e
    · have : B32 * 1 ≤ B32 * cy' := Nat.mul_le_mul_left _ e
      omega
  · have huu : u = us.getD k 0 := hu.trans (getD_of_drop h.hi)
    rw [take_set_succ dk k d (by omega), valB_snoc, List.length_take, hlen, Nat.min_eq_left (by omega), valB_take_any _ us k, valB_take_any _ vs k, ← huu, ← hy, Nat.pow_succ]
    refine dgs_abs h.sum ?_
    rw [Nat.mul_add]
    omega
/-- The second loop: the divisor is given back. -/
structure DgA (w : World) (g off n : Nat) (ws vs : List Nat) (k cy : Nat) (dk : List Nat) (wr : World) : Prop where
  wrs : Wr g off (n + 1) w wr
  row : Row32 wr g off (n + 1) dk
  hi : dk.drop k = ws.drop k
  car : cy ≤ 1
  sum : valB B32 (dk.take k) + B32 ^ k * cy = valB B32 (ws.take k) + valB B32 (vs.take k)
theorem DgA.step {w : World} {g off n : Nat} {ws vs : List Nat} {k cy : Nat} {dk : List Nat} {wr : World} (h : DgA w g off n ws vs k cy dk wr) (hk : k < n + 1)
    {y u lo cy' : Nat} (hy : y = vs.getD k 0) (hu : u = dk.getD k 0) (hs : cy + u + y = lo + B32 * cy') (hlo : lo < B32) (hcy' : cy' ≤ 1) :
    DgA w g off n ws vs (k + 1) cy' (dk.set k lo) (wr.setCell ⟨g, off + k, none⟩ (V lo)) := by
  have hlen := h.row.len
  refine ⟨h.wrs.setCell (off + k) ⟨by omega, by omega⟩ _, h.row.set k lo hk hlo, ?_, hcy', ?_⟩
  · rw [drop_set_lt]; exact drop_succ_of_drop h.hi
  · have huu : u = ws.getD k 0 := hu.trans (getD_of_drop h.hi)
    rw [take_set_succ dk k lo (by omega), valB_snoc, List.length_take, hlen, Nat.min_eq_left (by omega), valB_take_any _ ws k, valB_take_any _ vs k, ← huu, ← hy, Nat.pow_succ]
    have e1 := h.sum
    have e2 : B32 ^ k * (cy + u + y) = B32 ^ k * (lo + B32 * cy') := by rw [hs]
    rw [Nat.mul_add, Nat.mul_add, Nat.mul_add, ← Nat.mul_assoc] at e2
    omega
/-- The guess is not too small. -/
theorem dg_guess {n : Nat} {us vs : List Nat} (hn : 1 ≤ n) (lu : us.length = n + 1) (lv : vs.length = n) (du : Dig B32 us) (hlt : valB B32 us < B32 * valB B32 vs) (hv0 : 0 < vs.getD (n - 1) 0) :
    valB B32 us / valB B32 vs ≤ min ((us.getD n 0 * B32 + us.getD (n - 1) 0) / vs.getD (n - 1) 0) (B32 - 1) := by
  obtain ⟨m, rfl⟩ : ∃ m, n = m + 1 := ⟨n - 1, by omega⟩
  rw [Nat.add_sub_cancel] at *
  have hU : valB B32 us = valB B32 (us.take m) + B32 ^ m * (us.getD m 0 + B32 * us.getD (m + 1) 0) := by
    rw [valB_split B32 us m (by omega), valB_drop B32 us m (by omega), valB_drop B32 us (m + 1) (by omega), List.drop_of_length_le (by omega), valB_nil, Nat.mul_zero, Nat.add_zero]
  have hV : valB B32 vs = valB B32 (vs.take m) + B32 ^ m * vs.getD m 0 := by
    rw [valB_split B32 vs m (by omega), valB_drop B32 vs m (by omega), List.drop_of_length_le (by omega), valB_nil, Nat.mul_zero, Nat.add_zero]
  have hP : 0 < B32 ^ m := Nat.pow_pos B32_pos
  have hL : valB B32 (us.take m) < B32 ^ m := by
    have := valB_lt B32_pos (du.take m)
    rwa [List.length_take, Nat.min_eq_left (by omega)] at this
  have hVpos : 0 < valB B32 vs := by
    rw [hV]
    have := Nat.mul_pos hP hv0
    omega
  obtain ⟨Q, hQ⟩ : ∃ Q, Q = valB B32 us / valB B32 vs := ⟨_, rfl⟩
  rw [← hQ]
  have hQb : Q < B32 := by rw [hQ]; exact Nat.div_lt_of_lt_mul (by rw [Nat.mul_comm]; exact hlt)
  have hQV : Q * valB B32 vs ≤ valB B32 us := by rw [hQ]; exact Nat.div_mul_le_self _ _
  refine Nat.le_min.2 ⟨?_, by omega⟩
  refine (Nat.le_div_iff_mul_le hv0).2 ?_
  have h1 : B32 ^ m * (Q * vs.getD m 0) ≤ Q * valB B32 vs := by
    rw [hV, Nat.mul_add]
    have : B32 ^ m * (Q * vs.getD m 0) = Q * (B32 ^ m * vs.getD m 0) := by rw [← Nat.mul_assoc, ← Nat.mul_assoc, Nat.mul_comm (B32 ^ m) Q]
    omega
  have h2 : B32 ^ m * (Q * vs.getD m 0) < B32 ^ m * (us.getD m 0 + B32 * us.getD (m + 1) 0 + 1) := by
    rw [Nat.mul_add (B32 ^ m) _ 1, Nat.mul_one]
    omega
  have h3 := Nat.lt_of_mul_lt_mul_left h2
  rw [Nat.mul_comm (us.getD (m + 1) 0) B32]
  omega
end Go.Proofs.YteoihhgaipplfaaDoor

namespace Go.Proofs.YteoihhgaipplfaaDoor
open Go.RowKit Go.Shelf

theorem DgS.drewN2 {w : World} {g off n : Nat} {us vs : List Nat} {q k cy ow : Nat} {dk : List Nat} {wr : World} (h : DgS w g off n us vs q k cy ow dk wr) (r : Nat) : DgS w g off n us vs q k cy ow dk (wr.drewN r) :=
  ⟨h.wrs.drewN r, h.row.drewN r, h.hi, h.car, h.owb, h.fin, h.sum⟩
theorem DgA.drewN2 {w : World} {g off n : Nat} {ws vs : List Nat} {k cy : Nat} {dk : List Nat} {wr : World} (h : DgA w g off n ws vs k cy dk wr) (r : Nat) : DgA w g off n ws vs k cy dk (wr.drewN r) :=
  ⟨h.wrs.drewN r, h.row.drewN r, h.hi, h.car, h.sum⟩
set_option maxRecDepth 20000 in
set_option maxHeartbeats 8000000 in
/-- ref.digit. -/
theorem rdigit_any {g off cu n : Nat} {gv ov cv : Nat} {us vs : List Nat} {w : World} (hu : Row32 w g off (n + 1) us) (hcu : n + 1 ≤ cu) (hcub : cu ≤ maxLen) (hv : At32 w (some ⟨gv, ov, none⟩) n cv vs) (hne : gv ≠ g) (hn : 1 ≤ n) (hnb : n ≤ 1099511627776) (hlt : valB B32 us < B32 * valB B32 vs) (hv0 : 0 < vs.getD (n - 1) 0) :
    Calls Tryd.prog 127 #[.slice (some ⟨g, off, none⟩) (n + 1) cu, .slice (some ⟨gv, ov, none⟩) n cv] w fun e w' => ∃ ws, e = .returned (.int .u32 (valB B32 us / valB B32 vs : Nat)) ∧ Wr g off (n + 1) w w' ∧ Row32 w' g off (n + 1) ws ∧ valB B32 ws = valB B32 us % valB B32 vs := by
  obtain ⟨u1, hu1⟩ : ∃ u1, u1 = us.getD n 0 := ⟨_, rfl⟩
  obtain ⟨u0, hu0⟩ : ∃ u0, u0 = us.getD (n - 1) 0 := ⟨_, rfl⟩
  obtain ⟨y1, hy1⟩ : ∃ y1, y1 = vs.getD (n - 1) 0 := ⟨_, rfl⟩
  have hguess := dg_guess hn hu.len hv.len hu.dig hlt hv0
  rw [← hu1, ← hu0, ← hy1] at hguess
  rw [← hy1] at hv0
  have b1 : u1 < B32 := by rw [hu1]; exact hu.dig.getD B32_pos _
  have b0 : u0 < B32 := by rw [hu0]; exact hu.dig.getD B32_pos _
  have by1 : y1 < B32 := by rw [hy1]; exact hv.dig.getD B32_pos _
  have cu1 : w.cell? ⟨g, off + n, none⟩ = some (V u1) := by rw [hu1]; exact hu.cell n (by omega)
  have cu0 : w.cell? ⟨g, off + (n - 1), none⟩ = some (V u0) := by rw [hu0]; exact hu.cell (n - 1) (by omega)
  have cy1 : w.cell? ⟨gv, ov + (n - 1), none⟩ = some (V y1) := by rw [hy1]; exact hv.cellAt (n - 1) (by omega)
  obtain ⟨m, rfl⟩ : ∃ m, n = m + 1 := ⟨n - 1, by omega⟩
  rw [Nat.add_sub_cancel] at cu0 cy1
  obtain ⟨D, hD⟩ : ∃ D, D = valB B32 vs := ⟨_, rfl⟩
  obtain ⟨U0, hU0⟩ : ∃ U0, U0 = valB B32 us := ⟨_, rfl⟩
  rw [← hD, ← hU0] at hguess hlt ⊢
  have HDU : Hid (D = valB B32 vs ∧ U0 = valB B32 us ∧ U0 < B32 * D) := ⟨hD, hU0, hlt⟩
  have hl := hv.len; have hcap := hv.cap; have hbig := hv.big
  unfold maxLen at hbig hcub
  have HV : Hid (At32 w (some ⟨gv, ov, none⟩) (m + 1) cv vs) := hv
  have HU : Hid (Row32 w g off (m + 1 + 1) us) := hu
  obtain ⟨tw, htw⟩ : ∃ tw, tw = u1 * B32 + u0 := ⟨_, rfl⟩
  obtain ⟨qq, hqq⟩ : ∃ qq, qq = tw / y1 := ⟨_, rfl⟩
  obtain ⟨q, hq⟩ : ∃ q, q = min qq (B32 - 1) := ⟨_, rfl⟩
  have hqb : q < B32 := by rw [hq]; have := B32_pos; omega
  have HQ : Hid (U0 / D ≤ q ∧ q < B32) := ⟨by rw [hq, hqq, htw]; exact hguess, hqb⟩
  rw [B32_eq] at b1 b0 by1 htw hq
  obtain ⟨th, hth⟩ : ∃ th, th = u1 * 4294967296 := ⟨_, rfl⟩
  have f1 : IntKind.u64.wrap (u1 : Int) = (u1 : Int) := wrap_mod _ _ (by omega)
  have f2 : IntKind.u64.wrap ((u1 : Int) * 4294967296) = (th : Int) := wrap_mod _ _ (by omega)
  have f3 : IntKind.u64.wrap (u0 : Int) = (u0 : Int) := wrap_mod _ _ (by omega)
  have f4 : IntKind.u64.wrap ((th : Int) + (u0 : Int)) = (tw : Int) := wrap_mod _ _ (by omega)
  have f5 : IntKind.u64.wrap (y1 : Int) = (y1 : Int) := wrap_mod _ _ (by omega)
  have hy1n : ((y1 : Int) == 0) = false := by simp; omega
  have hy1m : ¬ y1 = 0 := by omega
  have f6 : (tw : Int).tdiv (y1 : Int) = (qq : Int) := by rw [hqq, Int.tdiv_eq_ediv_of_nonneg (Int.natCast_nonneg tw)]; norm_cast
  have f7 : (tw : Int) / (y1 : Int) = (qq : Int) := by rw [hqq]; norm_cast
  have f8 : IntKind.u64.wrap (qq : Int) = (qq : Int) := wrap_mod _ _ (by have h9 : qq ≤ tw := (by rw [hqq]; exact Nat.div_le_self _ _); omega)
  have f9 : min (qq : Int) 4294967295 = (q : Int) := by rw [hq]; omega
  have ha1 : (m : Int) + 1 - 1 = (m : Int) := by omega
  clear hguess hD hU0 hlt hu1 hu0 hy1 htw hqq hq hth hu hv hv0 b1 b0 by1 hqb hn
  go_enter Tryd.func127, Tryd.ntmps127
  go_wp2_with fail
  go_quiet (fail)
  go_wp2_with fail
  have HO : Hid (DgS w g off (m + 1) us vs q 0 0 0 us (w.drewN nq)) := ⟨(Wr.refl _ _ _ _).drewN nq, HU.out.drewN nq, rfl, B32_pos, by omega, by omega, by simp [valB]⟩
  clear f1 f2 f3 f4 f5 f6 f7 f8 f9 hy1n hy1m cu1 cu0 cy1 ha1
  go_loopg [8, 9, 10] (m + 1 + 1) (fun gk cv ov iv wr => ∃ (k cy ow : Nat) (dk : List Nat), k + gk = m + 1 + 1 ∧ iv = .int .i64 k ∧ cv = U cy ∧ ov = U ow ∧ Hid (DgS w g off (m + 1) us vs q k cy ow dk wr))
  case atStart => exact ⟨0, 0, 0, us, by omega, rfl, rfl, rfl, HO⟩
  case round =>
    obtain ⟨k, cy, ow, dk, hkg, rfl, rfl, rfl, HR⟩ := hrel
    have hcyb := HR.out.car
    have howb := HR.out.owb
    have hqb := HQ.out.2
    cases gk with
    | zero =>
      obtain rfl : k = m + 1 + 1 := by omega
      have HW : Hid (WinRel32 w g off (m + 1) U0 D q ow dk wr) := by
        have hR := HR.out
        have hs := hR.sum
        rw [hR.fin rfl, Nat.add_zero, List.take_of_length_le (by rw [hR.row.len]; omega), List.take_of_length_le (by omega), List.take_of_length_le (by rw [HU.out.len]; omega), ← HDU.out.1, ← HDU.out.2.1] at hs
        exact ⟨hR.wrs, hR.row, HQ.out.2, hR.owb, HQ.out.1, hs⟩
      have HDP : Hid (0 < D) := by
        rcases Nat.eq_zero_or_pos D with e | e
        · have h9 := HDU.out.2.2; rw [e, Nat.mul_zero] at h9; omega
        · exact e
      clear hkg hcyb howb hqb HR HO
      go_wp2_with fail
      go_loopg [7, 9] (q - U0 / D) (fun gk wv ov wr => ∃ (d b : Nat) (ws : List Nat), gk = d - U0 / D ∧ wv = U d ∧ ov = U b ∧ Hid (WinRel32 w g off (m + 1) U0 D d b ws wr))
      case atStart => exact ⟨q, ow, dk, rfl, rfl, rfl, HW⟩
      case round =>
        obtain ⟨d, b, ws, hgd, rfl, rfl, HX⟩ := hrel
        have hdb := HX.out.db
        have hbb := HX.out.bb
        rcases (by omega : b = 0 ∨ b = 1) with hb | hb
        · subst hb
          have hdn := HX.out.done HDP.out
          have g7 : IntKind.u32.wrap (d : Int) = (d : Int) := wrap32 d hdb
          have HFIN : Hid (d = U0 / D ∧ valB B32 ws = U0 % D) := hdn
          clear hgd hdn hdb hbb
          go_wp2_with fail
          go_ret
          exact ⟨ws, by rw [← HFIN.out.1]; rfl, HX.out.wrs, HX.out.row, HFIN.out.2⟩
        · subst hb
          obtain ⟨wo, hwo⟩ : ∃ wo, wo = wr := ⟨_, rfl⟩
          subst hwo
          have hd1 : 1 ≤ d ∧ U0 / D < d := by
            have h1 := HX.out.sum; have hl9 := valB_lt B32_pos HX.out.row.dig
            rw [HX.out.row.len] at hl9
            rw [Nat.mul_one] at h1
            have hgt : U0 < D * d := by omega
            have hlt9 : U0 / D < d := Nat.div_lt_of_lt_mul hgt
            exact ⟨Nat.lt_of_le_of_lt (Nat.zero_le _) hlt9, hlt9⟩
          obtain ⟨d', ed'⟩ : ∃ d', d' = d - 1 := ⟨_, rfl⟩
          rw [B32_eq] at hdb
          have w1 : IntKind.u64.wrap ((d : Int) - 1) = (d' : Int) := wrap_mod _ _ (by omega)
          have HD1 : Hid (1 ≤ d ∧ U0 / D < d ∧ d' = d - 1) := ⟨hd1.1, hd1.2, ed'⟩
          have HGD : Hid (gk = d - U0 / D) := hgd
          clear hgd hd1 ed' hdb hbb
          go_wp2_with fail
          go_loopg [8, 13] (m + 1 + 1) (fun g2 cv jv wz => ∃ (k cy : Nat) (dk2 : List Nat), k + g2 = m + 1 + 1 ∧ jv = .int .i64 k ∧ cv = U cy ∧ Hid (DgA wo g off (m + 1) ws vs k cy dk2 wz))
          case atStart => exact ⟨0, 0, ws, by omega, rfl, rfl, ⟨Wr.refl _ _ _ _, HX.out.row, rfl, by omega, by simp [valB]⟩⟩
          case round =>
            obtain ⟨k, cy, dk2, hkg2, rfl, rfl, HI⟩ := hrel
            have hcy1 := HI.out.car
            cases gk with
            | zero =>
              obtain rfl : k = m + 1 + 1 := by omega
              obtain ⟨o2, eo2⟩ : ∃ o2, o2 = 1 - cy := ⟨_, rfl⟩
              have m1 : min (1 : Int) (cy : Int) = (cy : Int) := by omega
              have w2 : IntKind.u64.wrap (1 - (cy : Int)) = (o2 : Int) := wrap_mod _ _ (by omega)
              have HNX : Hid (WinRel32 w g off (m + 1) U0 D d' o2 dk2 wr) := by
                have hI := HI.out
                have hs := hI.sum
                rw [List.take_of_length_le (by rw [hI.row.len]; omega), List.take_of_length_le (by rw [HX.out.row.len]; omega), List.take_of_length_le (by omega), ← HDU.out.1] at hs
                have := (HX.out.more hI.car hI.wrs hI.row hs).2
                rw [← HD1.out.2.2, ← eo2] at this
                exact this
              clear hcy1 hkg2 eo2
              go_wp2_with fail
              go_roundg (d' - U0 / D)
              case measure => have := HD1.out; have := HGD.out; omega
              case rel => exact ⟨d', o2, dk2, rfl, rfl, rfl, HNX⟩
            | succ g3 =>
              have hkn : k < m + 1 + 1 := by omega
              obtain ⟨u, huu⟩ : ∃ u, u = dk2.getD k 0 := ⟨_, rfl⟩
              have hub : u < B32 := by rw [huu]; exact HI.out.row.dig.getD B32_pos k
              have hcu0 : wr.cell? ⟨g, off + k, none⟩ = some (V u) := by rw [huu]; exact HI.out.row.cell k hkn
              have hfu0 : wr.frozen? ⟨g, off + k, none⟩ = false := HI.out.row.frozen k hkn
              obtain ⟨y, hyy⟩ : ∃ y, y = vs.getD k 0 := ⟨_, rfl⟩
              have hyb : y < B32 := by rw [hyy]; exact HV.out.dig.getD B32_pos k
              obtain ⟨c1, ec1⟩ : ∃ c1, c1 = cy + u := ⟨_, rfl⟩
              obtain ⟨c2, ec2⟩ : ∃ c2, c2 = c1 + y := ⟨_, rfl⟩
              obtain ⟨lo, elo⟩ : ∃ lo, lo = c2 % B32 := ⟨_, rfl⟩
              obtain ⟨cy', ecy'⟩ : ∃ cy', cy' = c2 / B32 := ⟨_, rfl⟩
              have hlob : lo < B32 := by rw [elo]; exact Nat.mod_lt _ B32_pos
              rw [B32_eq] at hub hyb
              have hc2b : c2 < 18446744073709551616 := by omega
              have g1 : bits .and .u64 (c2 : Int) 4294967295 = (lo : Int) := by rw [elo, B32_eq]; exact and32 c2 hc2b
              have g2 : (c2 : Int) / 4294967296 = (cy' : Int) := by rw [ecy', B32_eq]; exact div32 c2
              have hcy'1 : cy' ≤ 1 := by rw [ecy', B32_eq]; omega
              have g4 : IntKind.u64.wrap (u : Int) = (u : Int) := wrap_mod _ _ (by omega)
              have g5 : IntKind.u64.wrap ((cy : Int) + (u : Int)) = (c1 : Int) := wrap_mod _ _ (by omega)
              have g7 : IntKind.u32.wrap (lo : Int) = (lo : Int) := wrap32 lo hlob
              have g8 : (lo : Int) % 4294967296 = (lo : Int) := by rw [B32_eq] at hlob; omega
              have HSP : Hid (cy + u + y = lo + B32 * cy' ∧ u = dk2.getD k 0 ∧ y = vs.getD k 0 ∧ lo < B32 ∧ cy' ≤ 1) := ⟨by have := Nat.mod_add_div c2 B32; rw [← elo, ← ecy'] at this; omega, huu, hyy, hlob, hcy'1⟩
              have hkle : (k : Int) ≤ (m : Int) + 1 := by omega
              have hlew : decide ((k : Int) ≤ (m : Int) + 1) = true := decide_eq_true hkle
              have hle2 : decide (k ≤ m + 1) = true := decide_eq_true (by omega)
              have hkc : k < cu := by omega
              by_cases hkm : k < m + 1
              · have hkmi : (k : Int) < (m : Int) + 1 := by omega
                have hkmd : decide ((k : Int) < (m : Int) + 1) = true := decide_eq_true hkmi
                have hkmd2 : decide (k < m + 1) = true := decide_eq_true hkm
                have hcv0 : w.cell? ⟨gv, ov + k, none⟩ = some (V y) := by rw [hyy]; exact HV.out.cellAt k hkm
                have hcv1 : wo.cell? ⟨gv, ov + k, none⟩ = some (V y) := (HX.out.wrs.cell gv (ov + k) (.inl hne)).trans hcv0
                have hcv : wr.cell? ⟨gv, ov + k, none⟩ = some (V y) := (HI.out.wrs.cell gv (ov + k) (.inl hne)).trans hcv1
                have hkcv : k < cv := by omega
                have p1 : IntKind.u64.wrap (y : Int) = (y : Int) := wrap_mod _ _ (by omega)
                have p3 : IntKind.u64.wrap ((c1 : Int) + (y : Int)) = (c2 : Int) := wrap_mod _ _ (by omega)
                clear hcv0 hcv1
                clear ec1 ec2 elo ecy' huu hyy hc2b hub hyb hlob hcy'1 hcy1
                go_wp2_with fail
                go_roundg g3
                case measure => omega
                case rel => exact ⟨k + 1, cy', dk2.set k lo, by omega, by go_num, rfl, HI.out.step hkn HSP.out.2.2.1 HSP.out.2.1 HSP.out.1 HSP.out.2.2.2.1 HSP.out.2.2.2.2⟩
              · have hkmi : ¬ (k : Int) < (m : Int) + 1 := by omega
                have hkmd : decide ((k : Int) < (m : Int) + 1) = false := decide_eq_false hkmi
                have hkmd2 : decide (k < m + 1) = false := decide_eq_false hkm
                have hy0 : y = 0 := by rw [hyy, List.getD_eq_getElem?_getD, List.getElem?_eq_none (by omega)]; rfl
                have hcc : c2 = c1 := by omega
                have g1 : bits .and .u64 (c1 : Int) 4294967295 = (lo : Int) := by rw [← hcc]; exact g1
                have g2 : (c1 : Int) / 4294967296 = (cy' : Int) := by rw [← hcc]; exact g2
                clear hy0 hcc
                clear ec1 ec2 elo ecy' huu hyy hc2b hub hyb hlob hcy'1 hcy1
                go_wp2_with fail
                go_roundg g3
                case measure => omega
                case rel => exact ⟨k + 1, cy', dk2.set k lo, by omega, by go_num, rfl, HI.out.step hkn HSP.out.2.2.1 HSP.out.2.1 HSP.out.1 HSP.out.2.2.2.1 HSP.out.2.2.2.2⟩
    | succ gg =>
      have hkn : k < m + 1 + 1 := by omega
      obtain ⟨u, huu⟩ : ∃ u, u = dk.getD k 0 := ⟨_, rfl⟩
      have hub : u < B32 := by rw [huu]; exact HR.out.row.dig.getD B32_pos k
      have hcu0 : wr.cell? ⟨g, off + k, none⟩ = some (V u) := by rw [huu]; exact HR.out.row.cell k hkn
      have hfu0 : wr.frozen? ⟨g, off + k, none⟩ = false := HR.out.row.frozen k hkn
      obtain ⟨y, hyy⟩ : ∃ y, y = vs.getD k 0 := ⟨_, rfl⟩
      have hyb : y < B32 := by rw [hyy]; exact HV.out.dig.getD B32_pos k
      obtain ⟨yq, eyq⟩ : ∃ yq, yq = q * y := ⟨_, rfl⟩
      have hall : yq + cy < 18446744073709551616 := by
        rw [eyq]
        have h1 : q * y ≤ (B32 - 1) * (B32 - 1) := Nat.mul_le_mul (by omega) (by omega)
        have h2 : (B32 - 1) * (B32 - 1) + (B32 - 1) < 18446744073709551616 := by decide
        omega
      obtain ⟨c1, ec1⟩ : ∃ c1, c1 = cy + yq := ⟨_, rfl⟩
      have hc1b : c1 < 18446744073709551616 := by omega
      obtain ⟨lo, elo⟩ : ∃ lo, lo = c1 % B32 := ⟨_, rfl⟩
      obtain ⟨cy', ecy'⟩ : ∃ cy', cy' = c1 / B32 := ⟨_, rfl⟩
      have hlob : lo < B32 := by rw [elo]; exact Nat.mod_lt _ B32_pos
      have hcy'b : cy' < B32 := by rw [ecy']; exact Nat.div_lt_of_lt_mul (by rw [B32_two, B64_eq]; exact hc1b)
      have g1 : bits .and .u64 (c1 : Int) 4294967295 = (lo : Int) := by rw [elo, B32_eq]; exact and32 c1 hc1b
      have g2 : (c1 : Int) / 4294967296 = (cy' : Int) := by rw [ecy', B32_eq]; exact div32 c1
      obtain ⟨tk, etk⟩ : ∃ tk, tk = lo + ow := ⟨_, rfl⟩
      have HSP : Hid (c1 = lo + B32 * cy' ∧ c1 = cy + y * q ∧ u = dk.getD k 0 ∧ y = vs.getD k 0 ∧ tk = lo + ow) := ⟨by have := Nat.mod_add_div c1 B32; rw [← elo, ← ecy'] at this; exact this.symm, by rw [ec1, eyq, Nat.mul_comm y q], huu, hyy, etk⟩
      rw [B32_eq] at hub hyb hlob hcy'b hcyb hqb
      have g3 : IntKind.u64.wrap ((lo : Int) + (ow : Int)) = (tk : Int) := wrap_mod _ _ (by omega)
      have g4 : IntKind.u64.wrap (u : Int) = (u : Int) := wrap_mod _ _ (by omega)
      have hkle : (k : Int) ≤ (m : Int) + 1 := by omega
      have hlew : decide ((k : Int) ≤ (m : Int) + 1) = true := decide_eq_true hkle
      have hle2 : decide (k ≤ m + 1) = true := decide_eq_true (by omega)
      have hkc : k < cu := by omega
      by_cases hb : u < tk
      · obtain ⟨u2, eu2⟩ : ∃ u2, u2 = u + 4294967296 := ⟨_, rfl⟩
        obtain ⟨d, ed⟩ : ∃ d, d = u2 - tk := ⟨_, rfl⟩
        have g5 : IntKind.u64.wrap ((u : Int) + 4294967296) = (u2 : Int) := wrap_mod _ _ (by omega)
        have g6 : IntKind.u64.wrap ((u2 : Int) - (tk : Int)) = (d : Int) := wrap_mod _ _ (by omega)
        have hdb : d < B32 := by rw [B32_eq]; omega
        have g7 : IntKind.u32.wrap (d : Int) = (d : Int) := wrap32 d hdb
        have g8 : (d : Int) % 4294967296 = (d : Int) := by rw [B32_eq] at hdb; omega
        have hbi : (u : Int) < (tk : Int) := by omega
        have hbd : decide (u < tk) = true := decide_eq_true hb
        have HST : Hid (d + lo + ow = u + B32 * 1 ∧ d < B32 ∧ cy' < B32) := ⟨by rw [B32_eq]; omega, hdb, by rw [B32_eq]; omega⟩
        by_cases hkm : k < m + 1
        · have hkmi : (k : Int) < (m : Int) + 1 := by omega
          have hkmd : decide ((k : Int) < (m : Int) + 1) = true := decide_eq_true hkmi
          have hkmd2 : decide (k < m + 1) = true := decide_eq_true hkm
          have hcv0 : w.cell? ⟨gv, ov + k, none⟩ = some (V y) := by rw [hyy]; exact HV.out.cellAt k hkm
          have hcv : wr.cell? ⟨gv, ov + k, none⟩ = some (V y) := (HR.out.wrs.cell gv (ov + k) (.inl hne)).trans hcv0
          have hkcv : k < cv := by omega
          have p1 : IntKind.u64.wrap (y : Int) = (y : Int) := wrap_mod _ _ (by omega)
          have p2 : IntKind.u64.wrap ((q : Int) * (y : Int)) = (yq : Int) := by
            have e : ((q : Int) * (y : Int)) = ((q * y : Nat) : Int) := by simp
            rw [e, ← eyq]; exact wrap_mod _ _ (by omega)
          have p3 : IntKind.u64.wrap ((cy : Int) + (yq : Int)) = (c1 : Int) := wrap_mod _ _ (by omega)
          clear hcv0
          clear eyq ec1 elo ecy' etk ed huu hyy hall hc1b hub hyb hlob hcy'b hcyb hqb howb hdb eu2
          go_wp2_with fail
          go_roundg gg
          case measure => omega
          case rel => exact ⟨k + 1, cy', 1, dk.set k d, by omega, by go_num, rfl, rfl, HR.out.step hkn hl HSP.out.2.2.2.1 HSP.out.2.2.1 HSP.out.2.1 HSP.out.1 HST.out.2.2 (by omega) HST.out.1 HST.out.2.1⟩
        · have hkmi : ¬ (k : Int) < (m : Int) + 1 := by omega
          have hkmd : decide ((k : Int) < (m : Int) + 1) = false := decide_eq_false hkmi
          have hkmd2 : decide (k < m + 1) = false := decide_eq_false hkm
          have hy0 : y = 0 := by rw [hyy, List.getD_eq_getElem?_getD, List.getElem?_eq_none (by omega)]; rfl
          have hcc : c1 = cy := by rw [ec1, eyq, hy0, Nat.mul_zero, Nat.add_zero]
          have g1 : bits .and .u64 (cy : Int) 4294967295 = (lo : Int) := by rw [← hcc]; exact g1
          have g2 : (cy : Int) / 4294967296 = (cy' : Int) := by rw [← hcc]; exact g2
          clear hy0 hcc
          clear eyq ec1 elo ecy' etk ed huu hyy hall hc1b hub hyb hlob hcy'b hcyb hqb howb hdb eu2
          go_wp2_with fail
          go_roundg gg
          case measure => omega
          case rel => exact ⟨k + 1, cy', 1, dk.set k d, by omega, by go_num, rfl, rfl, HR.out.step hkn hl HSP.out.2.2.2.1 HSP.out.2.2.1 HSP.out.2.1 HSP.out.1 HST.out.2.2 (by omega) HST.out.1 HST.out.2.1⟩
      · obtain ⟨d, ed⟩ : ∃ d, d = u - tk := ⟨_, rfl⟩
        have g6 : IntKind.u64.wrap ((u : Int) - (tk : Int)) = (d : Int) := wrap_mod _ _ (by omega)
        have hdb : d < B32 := by rw [B32_eq]; omega
        have g7 : IntKind.u32.wrap (d : Int) = (d : Int) := wrap32 d hdb
        have g8 : (d : Int) % 4294967296 = (d : Int) := by rw [B32_eq] at hdb; omega
        have hbi : ¬ (u : Int) < (tk : Int) := by omega
        have hbd : decide (u < tk) = false := decide_eq_false hb
        have HST : Hid (d + lo + ow = u + B32 * 0 ∧ d < B32 ∧ cy' < B32) := ⟨by rw [B32_eq]; omega, hdb, by rw [B32_eq]; omega⟩
        by_cases hkm : k < m + 1
        · have hkmi : (k : Int) < (m : Int) + 1 := by omega
          have hkmd : decide ((k : Int) < (m : Int) + 1) = true := decide_eq_true hkmi
          have hkmd2 : decide (k < m + 1) = true := decide_eq_true hkm
          have hcv0 : w.cell? ⟨gv, ov + k, none⟩ = some (V y) := by rw [hyy]; exact HV.out.cellAt k hkm
          have hcv : wr.cell? ⟨gv, ov + k, none⟩ = some (V y) := (HR.out.wrs.cell gv (ov + k) (.inl hne)).trans hcv0
          have hkcv : k < cv := by omega
          have p1 : IntKind.u64.wrap (y : Int) = (y : Int) := wrap_mod _ _ (by omega)
          have p2 : IntKind.u64.wrap ((q : Int) * (y : Int)) = (yq : Int) := by
            have e : ((q : Int) * (y : Int)) = ((q * y : Nat) : Int) := by simp
            rw [e, ← eyq]; exact wrap_mod _ _ (by omega)
          have p3 : IntKind.u64.wrap ((cy : Int) + (yq : Int)) = (c1 : Int) := wrap_mod _ _ (by omega)
          clear hcv0
          clear eyq ec1 elo ecy' etk ed huu hyy hall hc1b hub hyb hlob hcy'b hcyb hqb howb hdb
          go_wp2_with fail
          go_roundg gg
          case measure => omega
          case rel => exact ⟨k + 1, cy', 0, dk.set k d, by omega, by go_num, rfl, rfl, HR.out.step hkn hl HSP.out.2.2.2.1 HSP.out.2.2.1 HSP.out.2.1 HSP.out.1 HST.out.2.2 (by omega) HST.out.1 HST.out.2.1⟩
        · have hkmi : ¬ (k : Int) < (m : Int) + 1 := by omega
          have hkmd : decide ((k : Int) < (m : Int) + 1) = false := decide_eq_false hkmi
          have hkmd2 : decide (k < m + 1) = false := decide_eq_false hkm
          have hy0 : y = 0 := by rw [hyy, List.getD_eq_getElem?_getD, List.getElem?_eq_none (by omega)]; rfl
          have hcc : c1 = cy := by rw [ec1, eyq, hy0, Nat.mul_zero, Nat.add_zero]
          have g1 : bits .and .u64 (cy : Int) 4294967295 = (lo : Int) := by rw [← hcc]; exact g1
          have g2 : (cy : Int) / 4294967296 = (cy' : Int) := by rw [← hcc]; exact g2
          clear hy0 hcc
          clear eyq ec1 elo ecy' etk ed huu hyy hall hc1b hub hyb hlob hcy'b hcyb hqb howb hdb
          go_wp2_with fail
          go_roundg gg
          case measure => omega
          case rel => exact ⟨k + 1, cy', 0, dk.set k d, by omega, by go_num, rfl, rfl, HR.out.step hkn hl HSP.out.2.2.2.1 HSP.out.2.2.1 HSP.out.2.1 HSP.out.1 HST.out.2.2 (by omega) HST.out.1 HST.out.2.1⟩
end Go.Proofs.YteoihhgaipplfaaDoor

namespace Go.Proofs.YteoihhgaipplfaaDoor
open Go.RowKit Go.Shelf

/-- What ref.Add has done when i digits are through. -/
structure RAddR (w : World) (g N M : Nat) (xs ys : List Nat) (i cy : Nat) (ss : List Nat) (wr : World) : Prop where
  bel : Below g w wr
  own : wr.ownsRow g 112 1 (.slice (some ⟨g, 0, none⟩) i N) i (cellsV ss)
  len : ss.length = i
  dig : Dig B32 ss
  car : cy ≤ 1
  fin : i ≤ M + 1
  last : i = M + 1 → cy = 0
  sum : valB B32 ss + B32 ^ i * cy = valB B32 (xs.take i) + valB B32 (ys.take i)
theorem radd_step {xs ys ss : List Nat} {i cy x y lo hh : Nat} (h : valB B32 ss + B32 ^ i * cy = valB B32 (xs.take i) + valB B32 (ys.take i)) (hl : ss.length = i) (ex : x = xs.getD i 0) (ey : y = ys.getD i 0) (hs : cy + x + y = lo + B32 * hh) :
    valB B32 (ss ++ [lo]) + B32 ^ (i + 1) * hh = valB B32 (xs.take (i + 1)) + valB B32 (ys.take (i + 1)) := by
  rw [valB_snoc, hl, valB_take_any _ xs i, valB_take_any _ ys i, ← ex, ← ey, Nat.pow_succ]
  have e1 : B32 ^ i * (cy + x + y) = B32 ^ i * (lo + B32 * hh) := by rw [hs]
  rw [Nat.mul_add, Nat.mul_add, Nat.mul_add, ← Nat.mul_assoc] at e1
  omega
theorem RAddR.at_ {w : World} {g N M : Nat} {xs ys : List Nat} {i cy : Nat} {ss : List Nat} {wr : World} (h : RAddR w g N M xs ys i cy ss wr) : At32 wr (some ⟨g, 0, none⟩) i N ss := by
  rcases h.own.2 with ⟨h', _⟩ | ⟨g', cap', cur, h', hbase, hgc, hcap', hmx, hsz, htake⟩
  · simp at h'
  · simp only [Value.slice.injEq, Option.some.injEq, Addr.mk.injEq, and_true, true_and] at h'
    obtain ⟨rfl, rfl⟩ := h'
    refine ⟨h.len, hcap', hmx, h.dig, .inr ⟨g, 0, rfl, fun jj hj => ?_⟩⟩
    rw [Nat.zero_add, cell_of_row wr g jj _ _ _ hgc]
    have e1 := cellsV_get ss jj (by rw [h.len]; exact hj)
    rw [← htake, Nat.mul_one, List.getElem?_take, if_pos hj] at e1
    rw [← Array.getElem?_toList]; exact e1
theorem one_cell (w : World) (x : Nat) : ∀ (j : Nat) (u : Value), [V x][j]? = some u → (w.alloc (.cells #[V x] 112)).cell? ((⟨w.heap.size, 0, none⟩ : Addr).add j) = some u := by
  intro j u h
  have hb : Blk32 (w.alloc (.cells #[V x] 112)) w.heap.size [x] := heap_alloc_new w _
  have hj : j < 1 := by
    have := (List.getElem?_eq_some_iff.1 h).1
    simpa using this
  have hadd : (⟨w.heap.size, 0, none⟩ : Addr).add j = ⟨w.heap.size, j, none⟩ := by unfold Addr.add; split <;> simp_all
  rw [hadd, hb.cell j (by simpa using hj)]
  obtain rfl : j = 0 := by omega
  simpa using h

set_option maxRecDepth 20000 in
set_option maxHeartbeats 2000000 in
/-- ref.Add. -/
theorem radd_any {p q : Option Addr} {n m c d : Nat} {xs ys : List Nat} {a b : Nat} {w : World} (h : At32 w p n c xs) (k : At32 w q m d ys) (hx : Nf B32 xs a) (hy : Nf B32 ys b) (hn : n ≤ 4398046511104) (hm : m ≤ 4398046511104) :
    Calls Tryd.prog 80 #[.slice p n c, .slice q m d] w fun e w' => ∃ p' m' zs, e = .returned (.slice p' m' m') ∧ At32 w' p' m' m' zs ∧ Nf B32 zs (a + b) ∧ Below w.heap.size w w' := by
  obtain ⟨i0, hi, hz0, hz1, hz2⟩ := info_parts Tryd.infoU32
  have HX : Hid (Nf B32 xs a) := hx
  have HY : Hid (Nf B32 ys b) := hy
  have HLX : Hid (xs.length = n) := h.len
  have HLY : Hid (ys.length = m) := k.len
  have hcap := h.cap; have hbig := h.big; have kcap := k.cap; have kbig := k.big
  unfold maxLen at hbig kbig
  obtain ⟨M, hM⟩ : ∃ M, M = max n m := ⟨_, rfl⟩
  have hM1 : n ≤ M := by omega
  have hM2 : m ≤ M := by omega
  have HM : Hid (M = n ∨ M = m) := by show _ ∨ _; omega
  have hMi : max (n : Int) (m : Int) = (M : Int) := by omega
  have hMb : M ≤ 4398046511104 := by omega
  clear hx hy hM
  go_enter Tryd.func80, Tryd.ntmps80
  go_wp2_with (at_make; refine wpList_make_own _ rfl _ _ 72 rfl w.heap.size 112 i0 (.int .u32 0) 1 Tryd.underlying72 hi hz0 hz1 _ _ _ (M + 1) rfl rfl (by omega) (by rw [hz2]; omega) (by unfold maxLen; omega) (Nat.le_refl _) ?_; intro w1 hown hgrow)
  have hb1 : Below w.heap.size w w1 := (Below.refl _ _).grown hgrow (Nat.le_refl _) (fun k hk => by simp at hk)
  have HO : Hid (RAddR w w.heap.size (M + 1) M xs ys 0 0 [] w1) := ⟨hb1, hown, rfl, Dig.nil _, by omega, by omega, fun _ => rfl, by simp [valB]⟩
  clear hown hgrow hb1 hMi
  obtain ⟨N, hN⟩ : ∃ N, N = M + 1 := ⟨_, rfl⟩
  rw [← hN] at HO ⊢
  have HN : Hid (N = M + 1) := hN
  clear hN
  -- the loop
  go_loopg [5, 6, 7] (M + 1) (fun gk sv cv iv wr => ∃ (i cy : Nat) (ss : List Nat), i + gk = M + 1 ∧ iv = .int .i64 i ∧ cv = U cy ∧ sv = .slice (some ⟨w.heap.size, 0, none⟩) i N ∧ Hid (RAddR w w.heap.size N M xs ys i cy ss wr))
  case atStart => exact ⟨0, 0, [], by omega, rfl, rfl, rfl, HO⟩
  case round =>
    obtain ⟨i, cy, ss, hig, rfl, rfl, rfl, HR⟩ := hrel
    have hcy := HR.out.car
    by_cases hall : ¬ i < n ∧ ¬ i < m ∧ cy = 0
    · obtain ⟨ha, hb, rfl⟩ := hall
      have A32 := HR.out.at_
      have hv := HR.out.sum
      rw [Nat.mul_zero, Nat.add_zero, List.take_of_length_le (by rw [HLX.out]; omega), List.take_of_length_le (by rw [HLY.out]; omega), HX.out.val, HY.out.val] at hv
      have HNF : Hid (Nf B32 (trimL ss) (a + b)) := by
        have := Nf.trim HR.out.dig
        rw [hv] at this; exact this
      have hle := trimL_length_le ss
      have HLE : Hid ((trimL ss).length ≤ M + 1) := by have := HR.out.len; have := HR.out.fin; show _ ≤ _; omega
      have hib := HR.out.fin
      have hbx := HR.out.bel
      have hc0 : ¬ (0 : Int) < ((0 : Nat) : Int) := by omega
      clear hv hle
      go_wp2_with fail
      refine (rnorm_any A32 (by omega)).mono ?_
      rintro e w5 ⟨g5, rfl, hg5, hblk5, hb5⟩
      have hd5 := HNF.out.dig
      generalize trimL ss = zs at *
      go_wp2_with fail
      go_ret
      exact ⟨_, _, zs, rfl, hblk5.at_ hd5 rfl (by have := HLE.out; unfold maxLen; omega), HNF.out, Below.on hbx hb5⟩
    · obtain ⟨x, hx⟩ : ∃ x, x = xs.getD i 0 := ⟨_, rfl⟩
      obtain ⟨y, hy⟩ : ∃ y, y = ys.getD i 0 := ⟨_, rfl⟩
      have hxb : x < B32 := by rw [hx]; exact HX.out.dig.getD B32_pos i
      have hyb : y < B32 := by rw [hy]; exact HY.out.dig.getD B32_pos i
      have HXE : Hid (x = xs.getD i 0) := hx
      have HYE : Hid (y = ys.getD i 0) := hy
      clear hx hy
      cases gk with
      | zero =>
        exfalso
        have h1 := HR.out.last (by omega)
        exact hall ⟨by omega, by omega, h1⟩
      | succ gg =>
        by_cases ha : i < n
        · by_cases hb : i < m
          · have hin : i < n := ha
            obtain ⟨g, off, rfl, hc⟩ := h.cells.resolve_left (by omega)
            have hcx0 : w.cell? ⟨g, off + i, none⟩ = some (V x) := by rw [HXE.out]; exact hc i hin
            have hcx : wr.cell? ⟨g, off + i, none⟩ = some (V x) := (HR.out.bel.cell (p := ⟨g, off + i, none⟩) (World.block_lt_of_cell? w _ hcx0)).trans hcx0
            have hxw : IntKind.u64.wrap (x : Int) = (x : Int) := wrap_mod _ _ (by rw [B32_eq] at hxb; omega)
            clear hc hcx0
            have him : i < m := hb
            obtain ⟨g2, off2, rfl, hc2⟩ := k.cells.resolve_left (by omega)
            have hcy0 : w.cell? ⟨g2, off2 + i, none⟩ = some (V y) := by rw [HYE.out]; exact hc2 i him
            have hcy1 : wr.cell? ⟨g2, off2 + i, none⟩ = some (V y) := (HR.out.bel.cell (p := ⟨g2, off2 + i, none⟩) (World.block_lt_of_cell? w _ hcy0)).trans hcy0
            have hyw : IntKind.u64.wrap (y : Int) = (y : Int) := wrap_mod _ _ (by rw [B32_eq] at hyb; omega)
            clear hc2 hcy0
            obtain ⟨t1, et1⟩ : ∃ t1, t1 = cy + x := ⟨_, rfl⟩
            obtain ⟨t2, et2⟩ : ∃ t2, t2 = t1 + y := ⟨_, rfl⟩
            rw [B32_eq] at hxb hyb
            have f1 : IntKind.u64.wrap ((cy : Int) + (x : Int)) = (t1 : Int) := wrap_mod _ _ (by omega)
            have f2 : IntKind.u64.wrap ((t1 : Int) + (y : Int)) = (t2 : Int) := wrap_mod _ _ (by omega)
            have ht2 : t2 < 18446744073709551616 := by omega
            obtain ⟨lo, elo⟩ : ∃ lo, lo = t2 % B32 := ⟨_, rfl⟩
            obtain ⟨hh, ehh⟩ : ∃ hh, hh = t2 / B32 := ⟨_, rfl⟩
            have hlob : lo < B32 := by rw [elo]; exact Nat.mod_lt _ B32_pos
            have hhb : hh ≤ 1 := by rw [ehh, B32_eq]; omega
            have f4 : bits .and .u64 (t2 : Int) 4294967295 = (lo : Int) := by rw [elo, B32_eq]; exact and32 t2 ht2
            have f5 : (t2 : Int) / 4294967296 = (hh : Int) := by rw [ehh, B32_eq]; exact div32 t2
            have f6 : IntKind.u32.wrap (lo : Int) = (lo : Int) := wrap32 lo hlob
            have HSUM : Hid (cy + x + y = lo + B32 * hh) := by
              have := Nat.mod_add_div t2 B32
              rw [← elo, ← ehh] at this
              show _ = _; omega
            have HLAST : Hid (i + 1 = M + 1 → hh = 0) := by
              intro hl
              exfalso; omega
            have HI1 : Hid (i + 1 ≤ M + 1) := by
              have h1 := HR.out.fin; have h2 := HR.out.last
              show _ ≤ _; omega
            have HOA : Hid ((wr.alloc (.cells #[V lo] 112)).ownsRow w.heap.size 112 1 (.slice (some ⟨w.heap.size, 0, none⟩) i N) i (cellsV ss)) := HR.out.own.alloc _
            have hsp : i + 1 ≤ N := by have := HI1.out; have := HN.out; omega
            clear et1 et2 elo ehh hxb hyb
            go_wp2_with (at_builtin; refine wpList_append_fits _ rfl (.tmp 53) (.tmp 57) 72 rfl w.heap.size 112 i0 1 Tryd.underlying72 hi hz1 w.heap.size i N (cellsV ss) rfl HOA.out ⟨wr.heap.size, 0, none⟩ 1 1 [V lo] rfl rfl (one_cell wr lo) (by intro u hu; simp at hu; subst hu; rfl) hsp ?_; intro w3 hw3 hgr3)
            have HR3 : Hid (RAddR w w.heap.size N M xs ys (i + 1) hh (ss ++ [lo]) w3) := by
              have hR := HR.out
              refine ⟨(hR.bel.alloc hR.bel.size _).grown hgr3 (by have := hR.bel.size; simp; omega) (fun q hq => by simp at hq; omega), ?_, by simp [hR.len], hR.dig.append (Dig.cons hlob (Dig.nil _)), hhb, HI1.out, HLAST.out, radd_step hR.sum hR.len HXE.out HYE.out HSUM.out⟩
              have e0 : cellsV (ss ++ [lo]) = cellsV ss ++ [V lo] := by unfold cellsV; rw [List.map_append]; rfl
              rw [e0]; exact hw3
            clear hw3 hgr3
            go_roundg gg
            case measure => omega
            case rel => exact ⟨i + 1, hh, ss ++ [lo], by omega, by go_num, rfl, rfl, HR3⟩
          · have hin : i < n := ha
            obtain ⟨g, off, rfl, hc⟩ := h.cells.resolve_left (by omega)
            have hcx0 : w.cell? ⟨g, off + i, none⟩ = some (V x) := by rw [HXE.out]; exact hc i hin
            have hcx : wr.cell? ⟨g, off + i, none⟩ = some (V x) := (HR.out.bel.cell (p := ⟨g, off + i, none⟩) (World.block_lt_of_cell? w _ hcx0)).trans hcx0
            have hxw : IntKind.u64.wrap (x : Int) = (x : Int) := wrap_mod _ _ (by rw [B32_eq] at hxb; omega)
            clear hc hcx0
            have hy0 : y = 0 := by rw [HYE.out, List.getD_eq_getElem?_getD, List.getElem?_eq_none (by rw [HLY.out]; omega)]; rfl
            obtain ⟨t1, et1⟩ : ∃ t1, t1 = cy + x := ⟨_, rfl⟩
            obtain ⟨t2, et2⟩ : ∃ t2, t2 = t1 + y := ⟨_, rfl⟩
            rw [B32_eq] at hxb hyb
            have f1 : IntKind.u64.wrap ((cy : Int) + (x : Int)) = (t1 : Int) := wrap_mod _ _ (by omega)
            obtain rfl : t2 = t1 := by omega
            have ht2 : t2 < 18446744073709551616 := by omega
            obtain ⟨lo, elo⟩ : ∃ lo, lo = t2 % B32 := ⟨_, rfl⟩
            obtain ⟨hh, ehh⟩ : ∃ hh, hh = t2 / B32 := ⟨_, rfl⟩
            have hlob : lo < B32 := by rw [elo]; exact Nat.mod_lt _ B32_pos
            have hhb : hh ≤ 1 := by rw [ehh, B32_eq]; omega
            have f4 : bits .and .u64 (t2 : Int) 4294967295 = (lo : Int) := by rw [elo, B32_eq]; exact and32 t2 ht2
            have f5 : (t2 : Int) / 4294967296 = (hh : Int) := by rw [ehh, B32_eq]; exact div32 t2
            have f6 : IntKind.u32.wrap (lo : Int) = (lo : Int) := wrap32 lo hlob
            have HSUM : Hid (cy + x + y = lo + B32 * hh) := by
              have := Nat.mod_add_div t2 B32
              rw [← elo, ← ehh] at this
              show _ = _; omega
            have HLAST : Hid (i + 1 = M + 1 → hh = 0) := by
              intro hl
              exfalso; omega
            have HI1 : Hid (i + 1 ≤ M + 1) := by
              have h1 := HR.out.fin; have h2 := HR.out.last
              show _ ≤ _; omega
            have HOA : Hid ((wr.alloc (.cells #[V lo] 112)).ownsRow w.heap.size 112 1 (.slice (some ⟨w.heap.size, 0, none⟩) i N) i (cellsV ss)) := HR.out.own.alloc _
            have hsp : i + 1 ≤ N := by have := HI1.out; have := HN.out; omega
            clear et1 et2 elo ehh hxb hyb
            go_wp2_with (at_builtin; refine wpList_append_fits _ rfl (.tmp 53) (.tmp 57) 72 rfl w.heap.size 112 i0 1 Tryd.underlying72 hi hz1 w.heap.size i N (cellsV ss) rfl HOA.out ⟨wr.heap.size, 0, none⟩ 1 1 [V lo] rfl rfl (one_cell wr lo) (by intro u hu; simp at hu; subst hu; rfl) hsp ?_; intro w3 hw3 hgr3)
            have HR3 : Hid (RAddR w w.heap.size N M xs ys (i + 1) hh (ss ++ [lo]) w3) := by
              have hR := HR.out
              refine ⟨(hR.bel.alloc hR.bel.size _).grown hgr3 (by have := hR.bel.size; simp; omega) (fun q hq => by simp at hq; omega), ?_, by simp [hR.len], hR.dig.append (Dig.cons hlob (Dig.nil _)), hhb, HI1.out, HLAST.out, radd_step hR.sum hR.len HXE.out HYE.out HSUM.out⟩
              have e0 : cellsV (ss ++ [lo]) = cellsV ss ++ [V lo] := by unfold cellsV; rw [List.map_append]; rfl
              rw [e0]; exact hw3
            clear hw3 hgr3
            go_roundg gg
            case measure => omega
            case rel => exact ⟨i + 1, hh, ss ++ [lo], by omega, by go_num, rfl, rfl, HR3⟩
        · by_cases hb : i < m
          · have him : i < m := hb
            obtain ⟨g2, off2, rfl, hc2⟩ := k.cells.resolve_left (by omega)
            have hcy0 : w.cell? ⟨g2, off2 + i, none⟩ = some (V y) := by rw [HYE.out]; exact hc2 i him
            have hcy1 : wr.cell? ⟨g2, off2 + i, none⟩ = some (V y) := (HR.out.bel.cell (p := ⟨g2, off2 + i, none⟩) (World.block_lt_of_cell? w _ hcy0)).trans hcy0
            have hyw : IntKind.u64.wrap (y : Int) = (y : Int) := wrap_mod _ _ (by rw [B32_eq] at hyb; omega)
            clear hc2 hcy0
            have hx0 : x = 0 := by rw [HXE.out, List.getD_eq_getElem?_getD, List.getElem?_eq_none (by rw [HLX.out]; omega)]; rfl
            obtain ⟨t1, et1⟩ : ∃ t1, t1 = cy + x := ⟨_, rfl⟩
            obtain ⟨t2, et2⟩ : ∃ t2, t2 = t1 + y := ⟨_, rfl⟩
            rw [B32_eq] at hxb hyb
            obtain rfl : t1 = cy := by omega
            have f2 : IntKind.u64.wrap ((t1 : Int) + (y : Int)) = (t2 : Int) := wrap_mod _ _ (by omega)
            have ht2 : t2 < 18446744073709551616 := by omega
            obtain ⟨lo, elo⟩ : ∃ lo, lo = t2 % B32 := ⟨_, rfl⟩
            obtain ⟨hh, ehh⟩ : ∃ hh, hh = t2 / B32 := ⟨_, rfl⟩
            have hlob : lo < B32 := by rw [elo]; exact Nat.mod_lt _ B32_pos
            have hhb : hh ≤ 1 := by rw [ehh, B32_eq]; omega
            have f4 : bits .and .u64 (t2 : Int) 4294967295 = (lo : Int) := by rw [elo, B32_eq]; exact and32 t2 ht2
            have f5 : (t2 : Int) / 4294967296 = (hh : Int) := by rw [ehh, B32_eq]; exact div32 t2
            have f6 : IntKind.u32.wrap (lo : Int) = (lo : Int) := wrap32 lo hlob
            have HSUM : Hid (t1 + x + y = lo + B32 * hh) := by
              have := Nat.mod_add_div t2 B32
              rw [← elo, ← ehh] at this
              show _ = _; omega
            have HLAST : Hid (i + 1 = M + 1 → hh = 0) := by
              intro hl
              exfalso; omega
            have HI1 : Hid (i + 1 ≤ M + 1) := by
              have h1 := HR.out.fin; have h2 := HR.out.last
              show _ ≤ _; omega
            have HOA : Hid ((wr.alloc (.cells #[V lo] 112)).ownsRow w.heap.size 112 1 (.slice (some ⟨w.heap.size, 0, none⟩) i N) i (cellsV ss)) := HR.out.own.alloc _
            have hsp : i + 1 ≤ N := by have := HI1.out; have := HN.out; omega
            clear et1 et2 elo ehh hxb hyb
            go_wp2_with (at_builtin; refine wpList_append_fits _ rfl (.tmp 53) (.tmp 57) 72 rfl w.heap.size 112 i0 1 Tryd.underlying72 hi hz1 w.heap.size i N (cellsV ss) rfl HOA.out ⟨wr.heap.size, 0, none⟩ 1 1 [V lo] rfl rfl (one_cell wr lo) (by intro u hu; simp at hu; subst hu; rfl) hsp ?_; intro w3 hw3 hgr3)
            have HR3 : Hid (RAddR w w.heap.size N M xs ys (i + 1) hh (ss ++ [lo]) w3) := by
              have hR := HR.out
              refine ⟨(hR.bel.alloc hR.bel.size _).grown hgr3 (by have := hR.bel.size; simp; omega) (fun q hq => by simp at hq; omega), ?_, by simp [hR.len], hR.dig.append (Dig.cons hlob (Dig.nil _)), hhb, HI1.out, HLAST.out, radd_step hR.sum hR.len HXE.out HYE.out HSUM.out⟩
              have e0 : cellsV (ss ++ [lo]) = cellsV ss ++ [V lo] := by unfold cellsV; rw [List.map_append]; rfl
              rw [e0]; exact hw3
            clear hw3 hgr3
            go_roundg gg
            case measure => omega
            case rel => exact ⟨i + 1, hh, ss ++ [lo], by omega, by go_num, rfl, rfl, HR3⟩
          · have hcp : 0 < cy := by
              rcases Nat.eq_zero_or_pos cy with e | e
              · exact absurd ⟨ha, hb, e⟩ hall
              · exact e
            have hcp' : (0 : Int) < (cy : Int) := by omega
            have hx0 : x = 0 := by rw [HXE.out, List.getD_eq_getElem?_getD, List.getElem?_eq_none (by rw [HLX.out]; omega)]; rfl
            have hy0 : y = 0 := by rw [HYE.out, List.getD_eq_getElem?_getD, List.getElem?_eq_none (by rw [HLY.out]; omega)]; rfl
            obtain ⟨t1, et1⟩ : ∃ t1, t1 = cy + x := ⟨_, rfl⟩
            obtain ⟨t2, et2⟩ : ∃ t2, t2 = t1 + y := ⟨_, rfl⟩
            rw [B32_eq] at hxb hyb
            obtain rfl : t1 = cy := by omega
            obtain rfl : t2 = t1 := by omega
            have ht2 : t2 < 18446744073709551616 := by omega
            obtain ⟨lo, elo⟩ : ∃ lo, lo = t2 % B32 := ⟨_, rfl⟩
            obtain ⟨hh, ehh⟩ : ∃ hh, hh = t2 / B32 := ⟨_, rfl⟩
            have hlob : lo < B32 := by rw [elo]; exact Nat.mod_lt _ B32_pos
            have hhb : hh ≤ 1 := by rw [ehh, B32_eq]; omega
            have f4 : bits .and .u64 (t2 : Int) 4294967295 = (lo : Int) := by rw [elo, B32_eq]; exact and32 t2 ht2
            have f5 : (t2 : Int) / 4294967296 = (hh : Int) := by rw [ehh, B32_eq]; exact div32 t2
            have f6 : IntKind.u32.wrap (lo : Int) = (lo : Int) := wrap32 lo hlob
            have HSUM : Hid (t2 + x + y = lo + B32 * hh) := by
              have := Nat.mod_add_div t2 B32
              rw [← elo, ← ehh] at this
              show _ = _; omega
            have HLAST : Hid (i + 1 = M + 1 → hh = 0) := by
              intro hl
              rw [ehh, B32_eq]; omega
            have HI1 : Hid (i + 1 ≤ M + 1) := by
              have h1 := HR.out.fin; have h2 := HR.out.last
              show _ ≤ _; omega
            have HOA : Hid ((wr.alloc (.cells #[V lo] 112)).ownsRow w.heap.size 112 1 (.slice (some ⟨w.heap.size, 0, none⟩) i N) i (cellsV ss)) := HR.out.own.alloc _
            have hsp : i + 1 ≤ N := by have := HI1.out; have := HN.out; omega
            clear et1 et2 elo ehh hxb hyb
            go_wp2_with (at_builtin; refine wpList_append_fits _ rfl (.tmp 53) (.tmp 57) 72 rfl w.heap.size 112 i0 1 Tryd.underlying72 hi hz1 w.heap.size i N (cellsV ss) rfl HOA.out ⟨wr.heap.size, 0, none⟩ 1 1 [V lo] rfl rfl (one_cell wr lo) (by intro u hu; simp at hu; subst hu; rfl) hsp ?_; intro w3 hw3 hgr3)
            have HR3 : Hid (RAddR w w.heap.size N M xs ys (i + 1) hh (ss ++ [lo]) w3) := by
              have hR := HR.out
              refine ⟨(hR.bel.alloc hR.bel.size _).grown hgr3 (by have := hR.bel.size; simp; omega) (fun q hq => by simp at hq; omega), ?_, by simp [hR.len], hR.dig.append (Dig.cons hlob (Dig.nil _)), hhb, HI1.out, HLAST.out, radd_step hR.sum hR.len HXE.out HYE.out HSUM.out⟩
              have e0 : cellsV (ss ++ [lo]) = cellsV ss ++ [V lo] := by unfold cellsV; rw [List.map_append]; rfl
              rw [e0]; exact hw3
            clear hw3 hgr3
            go_roundg gg
            case measure => omega
            case rel => exact ⟨i + 1, hh, ss ++ [lo], by omega, by go_num, rfl, rfl, HR3⟩
end Go.Proofs.YteoihhgaipplfaaDoor

