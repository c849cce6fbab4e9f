import Derived.Test.YtmekccpbcjpddaaGreatDoorJ8
import Derived.Test.YtmekccpbcjpddaaGreatDoorJ9
import Derived.Laws.Bits64b
import Derived.Deep.LoopGhost
import Derived.WalkMore
namespace Go.Proofs.YtmekccpbcjpddaaGreatDoor
open Go.RowKit
set_option maxRecDepth 20000
set_option maxHeartbeats 0
structure UpRel (w : World) (g n : Nat) (zs : List Nat) (s ov k : Nat) (dk : List Nat) (wr : World) : Prop where
  wrs : Wr g 0 n w wr
  row : Row wr g 0 n dk
  lo : dk.take (n - k) = zs.take (n - k)
  sum : valB B64 (dk.drop (n - k)) + B64 ^ k * ov = 2 ^ s * valB B64 (zs.drop (n - k)) + cin zs s (n - k)

theorem getD_of_take {dk zs : List Nat} {m j : Nat} (h : dk.take m = zs.take m) (hj : j < m) : dk.getD j 0 = zs.getD j 0 := by
  have := congrArg (fun l : List Nat => l[j]?) h
  simp only [List.getElem?_take, hj, if_true] at this
  rw [List.getD_eq_getElem?_getD, List.getD_eq_getElem?_getD, this]
theorem drop_set_at (dk : List Nat) (a y : Nat) (ha : a < dk.length) : (dk.set a y).drop a = y :: dk.drop (a + 1) := by
  rw [drop_getD _ a (by simpa using ha), getD_set dk a y a ha, if_pos rfl, drop_set_lt]
theorem take_set_at (dk : List Nat) (a y : Nat) : (dk.set a y).take a = dk.take a := by
  rw [List.take_set, List.set_eq_of_length_le (by simp; omega)]
theorem take_of_take {dk zs : List Nat} {m j : Nat} (h : dk.take m = zs.take m) (hj : j ≤ m) : dk.take j = zs.take j := by
  have := congrArg (List.take j) h
  rw [List.take_take, List.take_take, Nat.min_eq_left hj] at this
  exact this

theorem UpRel.step {w : World} {g n : Nat} {zs : List Nat} {s ov k : Nat} {dk : List Nat} {wr wr' : World} (h : UpRel w g n zs s ov k dk wr) (hk : k < n) (hz : zs.length = n) {d : Nat}
    (hd : d = shlW (dk.getD (n - 1 - k) 0) s + cin zs s (n - 1 - k)) (hw : Wr g 0 n w wr') (hr : Row wr' g 0 n (dk.set (n - 1 - k) d)) : UpRel w g n zs s ov (k + 1) (dk.set (n - 1 - k) d) wr' := by
  have hl := h.row.len
  have e : n - (k + 1) = n - 1 - k := by omega
  have e2 : n - 1 - k + 1 = n - k := by omega
  refine ⟨hw, hr, ?_, ?_⟩
  · rw [e, take_set_at]; exact take_of_take h.lo (by omega)
  · rw [e, drop_set_at dk _ d (by omega), e2]
    have h1 := h.sum
    rw [← e2] at h1
    have hdz : d = shlW (zs.getD (n - 1 - k) 0) s + cin zs s (n - 1 - k) := by rw [hd, getD_of_take h.lo (by omega)]
    rw [← e2]
    exact up_step (by omega) hdz h1

theorem sup_gen (g n c s : Nat) (zs : List Nat) (w : World) (hz : Row w g 0 n zs) (hnc : n ≤ c) (hbig : c ≤ 9223372036854775807) (hs : s < 64) :
    Calls Tryz.prog 71 #[.slice (some ⟨g, 0, none⟩) n c, .int .i64 s] w fun e w' =>
      ∃ zs', e = .returned (.tuple #[]) ∧ Wr g 0 n w w' ∧ Row w' g 0 n zs' ∧ valB B64 zs' + B64 ^ n * cin zs s n = 2 ^ s * valB B64 zs := by
  obtain ⟨ov, hov⟩ : ∃ ov, ov = cin zs s n := ⟨_, rfl⟩
  rw [← hov]
  have HOV : Hid (ov = cin zs s n) := hov
  clear hov
  have hl := hz.len
  go_enter Tryz.func71, Tryz.ntmps71
  go_wp2
  go_loopw [4, 5, 8] (fun _ _ i wr => ∃ (k : Nat) (dk : List Nat), k ≤ n ∧ i = .int .i64 k ∧ UpRel w g n zs s ov k dk wr) (fun _ _ i _ => n - (intOf i).toNat)
  case atStart =>
    refine ⟨0, zs, Nat.zero_le _, rfl, Wr.refl _ _ _ _, hz, rfl, ?_⟩
    rw [Nat.sub_zero, List.drop_of_length_le (by omega), HOV.out]; simp [valB]
  case round =>
    obtain ⟨k, dk, hk, rfl, hR⟩ := hrel
    by_cases hlt : k < n
    · obtain ⟨x, hx⟩ : ∃ x, x = dk.getD (n - 1 - k) 0 := ⟨_, rfl⟩
      have HR : Hid (UpRel w g n zs s ov k dk wr) := hR
      have HX : Hid (x = dk.getD (n - 1 - k) 0) := hx
      by_cases hlast : n ≤ k + 1
      · have hc0 : wr.cell? ⟨g, 0, none⟩ = some (U x) := by
          have := hR.row.cell (n - 1 - k) (by omega)
          rw [← hx, show 0 + (n - 1 - k) = 0 by omega] at this; exact this
        have hf0 : wr.frozen? ⟨g, 0, none⟩ = false := hR.row.frozen 0 (by omega)
        clear hR hx
        go_wp2
        go_roundw
        case rel =>
          have e0 : n - 1 - k = 0 := by omega
          have hh := HR.out
          have hxx := HX.out
          rw [walk_shl]
          refine ⟨k + 1, dk.set (n - 1 - k) (shlW x s), by omega, by go_num, ?_⟩
          refine hh.step hlt hl (by rw [← hxx, e0]; simp [cin]) (hh.wrs.setCell 0 ⟨by omega, by omega⟩ _) ?_
          rw [e0]
          exact hh.row.set 0 _ (by omega) (shlW_lt x s)
        case measure => simp [intOf]; omega
      · obtain ⟨y, hy⟩ : ∃ y, y = dk.getD (n - 1 - k - 1) 0 := ⟨_, rfl⟩
        have hcx : wr.cell? ⟨g, n - 1 - k, none⟩ = some (U x) := by
          have := hR.row.cell (n - 1 - k) (by omega)
          rw [← hx, Nat.zero_add] at this; exact this
        have hfx : wr.frozen? ⟨g, n - 1 - k, none⟩ = false := by
          have := hR.row.frozen (n - 1 - k) (by omega)
          rw [Nat.zero_add] at this; exact this
        have hcy : wr.cell? ⟨g, n - 1 - k - 1, none⟩ = some (U y) := by
          have := hR.row.cell (n - 1 - k - 1) (by omega)
          rw [← hy, Nat.zero_add] at this; exact this
        have HY : Hid (y = dk.getD (n - 1 - k - 1) 0) := hy
        have hyb : y < B64 := by rw [hy]; exact hR.row.dig.getD B64_pos _
        clear hR hx hy
        go_wp2
        go_region
        go_wp2
        go_roundw
        case rel =>
          have hh := HR.out
          have hxx := HX.out
          have hyy := HY.out
          rw [walk_up x y s (by omega) hyb, walk_shl]
          refine ⟨k + 1, dk.set (n - 1 - k) (shlW x s + y * 2 ^ s / B64), by omega, by go_num, ?_⟩
          refine hh.step hlt hl ?_ ((((hh.wrs.setCell (n - 1 - k) ⟨by omega, by omega⟩ _).setCell (n - 1 - k) ⟨by omega, by omega⟩ _)).drew) ?_
          · rw [← hxx]; unfold cin
            rw [if_neg (by omega), hyy, getD_of_take hh.lo (by omega)]
          · have h1 := (hh.row.set (n - 1 - k) (shlW x s) (by omega) (shlW_lt x s)).set (n - 1 - k) _ (by omega) (up_lt x y s (by omega) hyb)
            rw [Nat.zero_add, List.set_set] at h1
            exact h1.drew
        case measure => simp [intOf]; omega
    · obtain rfl : k = n := by omega
      have HR : Hid (UpRel w g k zs s ov k dk wr) := hR
      clear hR
      go_wp2
      go_end0
      have hh := HR.out
      refine ⟨dk, rfl, hh.wrs, hh.row, ?_⟩
      have := hh.sum
      rw [Nat.sub_self, List.drop_zero, List.drop_zero] at this
      simpa [cin] using this

theorem sup_any (g n c s : Nat) (zs : List Nat) (w : World) (hz : Row w g 0 n zs) (hnc : n ≤ c) (hbig : c ≤ 9223372036854775807) (hs : s < 64) (htop : n = 0 ∨ zs.getD (n - 1) 0 = 0) :
    Calls Tryz.prog 71 #[.slice (some ⟨g, 0, none⟩) n c, .int .i64 s] w fun e w' =>
      ∃ zs', e = .returned (.tuple #[]) ∧ Wr g 0 n w w' ∧ Row w' g 0 n zs' ∧ valB B64 zs' = 2 ^ s * valB B64 zs := by
  refine (sup_gen g n c s zs w hz hnc hbig hs).mono ?_
  rintro e w' ⟨zs', rfl, h1, h2, h3⟩
  refine ⟨zs', rfl, h1, h2, ?_⟩
  have e0 : cin zs s n = 0 := by
    unfold cin
    rcases htop with h | h
    · simp [h]
    · rw [h]; simp
  rw [e0, Nat.mul_zero, Nat.add_zero] at h3; exact h3
structure DivRel (w : World) (g n : Nat) (zs : List Nat) (v k re : Nat) (dk : List Nat) (wr : World) : Prop where
  wrs : ∀ B, B ≤ g → Below B w wr
  row : Row wr g 0 n dk
  lo : dk.take (n - k) = zs.take (n - k)
  rlt : re < v
  sum : valB B64 (zs.drop (n - k)) = valB B64 (dk.drop (n - k)) * v + re
theorem DivRel.step {w : World} {g n : Nat} {zs : List Nat} {v k re : Nat} {dk : List Nat} {wr wr' : World} (h : DivRel w g n zs v k re dk wr) (hk : k < n) (hz : zs.length = n) {x q r : Nat}
    (hx : x = dk.getD (n - 1 - k) 0) (hq : re * B64 + x = q * v + r) (hr : r < v) (hw : ∀ B, B ≤ g → Below B w wr') (hrow : Row wr' g 0 n (dk.set (n - 1 - k) q)) : DivRel w g n zs v (k + 1) r (dk.set (n - 1 - k) q) wr' := by
  have hl := h.row.len
  have e : n - (k + 1) = n - 1 - k := by omega
  have e2 : n - 1 - k + 1 = n - k := by omega
  have hxz : x = zs.getD (n - 1 - k) 0 := hx.trans (getD_of_take h.lo (by omega))
  refine ⟨hw, hrow, ?_, hr, ?_⟩
  · rw [e, take_set_at]; exact take_of_take h.lo (by omega)
  · rw [e, drop_set_at dk _ q (by omega), valB_drop _ zs (n - 1 - k) (by omega), ← hxz, valB_cons, e2, h.sum, Nat.add_mul, Nat.mul_add]
    have e3 : B64 * (valB B64 (dk.drop (n - k)) * v) = B64 * valB B64 (dk.drop (n - k)) * v := by rw [Nat.mul_assoc]
    rw [e3, Nat.mul_comm B64 re]
    omega

theorem divw_nf {p : Option Addr} {m c : Nat} {xs : List Nat} {a : Nat} {w : World} (h : At w p m c xs) (hx : Nf B64 xs a) (hm : m ≤ 8192) (v : Nat) (hv : v < B64) (hv0 : v ≠ 0) :
    Calls Tryz.prog 14 #[.slice p m c, U v] w fun e w' =>
      (∃ p' m' zs, e = .returned (.tuple #[.slice p' m' m', U (a % v), .int .i64 0]) ∧ Own w.heap.size w' p' m' zs ∧ Nf B64 zs (a / v) ∧ m' ≤ 8192) ∧ Below w.heap.size w w' := by
  have fx := hx.form (by rw [h.len]; exact hm)
  have hl := h.len
  have HX : Hid (Nf B64 xs a) := hx
  have hv0' : ((v : Int) == 0) = false := by simp; omega
  clear hx
  go_enter Tryz.func14, Tryz.ntmps14
  go_wp2_with fail
  refine (form_true h fx).mono ?_
  rintro e w' ⟨rfl, hw⟩
  obtain rfl := hw.symm
  clear hw fx
  go_wp2_with fail
  refine (copied_any h m (Nat.le_refl _) (by omega)).mono ?_
  rintro e w1 ⟨g, rfl, hg, hblk, hb⟩
  rw [Nat.sub_self, List.replicate_zero, List.append_nil] at hblk
  have hr := hblk.row HX.out.dig
  rw [hl] at hr
  go_wp2_with fail
  go_loopw [8, 9, 10, 22] (fun rv _ _ i wr => ∃ (k re : Nat) (dk : List Nat), k ≤ m ∧ i = .int .i64 k ∧ rv = U re ∧ DivRel w1 g m xs v k re dk wr) (fun _ _ _ i _ => m - (intOf i).toNat)
  case atStart => exact ⟨0, 0, xs, Nat.zero_le _, rfl, rfl, ⟨fun B _ => Below.refl _ _, hr, rfl, by omega, by rw [Nat.sub_zero, List.drop_of_length_le (by omega)]; simp [valB]⟩⟩
  case round =>
    obtain ⟨k, re, dk, hk, rfl, rfl, hR⟩ := hrel
    by_cases hlt : k < m
    · obtain ⟨x, hxx⟩ : ∃ x, x = dk.getD (m - 1 - k) 0 := ⟨_, rfl⟩
      have hcx : wr.cell? ⟨g, m - 1 - k, none⟩ = some (U x) := by
        have := hR.row.cell (m - 1 - k) (by omega)
        rw [← hxx, Nat.zero_add] at this; exact this
      have hfx : wr.frozen? ⟨g, m - 1 - k, none⟩ = false := by
        have := hR.row.frozen (m - 1 - k) (by omega)
        rw [Nat.zero_add] at this; exact this
      have hxb : x < B64 := by rw [hxx]; exact hR.row.dig.getD B64_pos _
      have hrv := hR.rlt
      have HR : Hid (DivRel w1 g m xs v k re dk wr) := hR
      have HXX : Hid (x = dk.getD (m - 1 - k) 0) := hxx
      clear hR hxx hr
      go_wp2_with fail
      refine (div64_any re x v _ hrv hv hxb).mono ?_
      rintro e w2 ⟨rfl, r, hw⟩
      obtain rfl := hw.symm
      clear hw
      obtain ⟨q, hq⟩ : ∃ q, q = (re * B64 + x) / v := ⟨_, rfl⟩
      obtain ⟨r2, hr2⟩ : ∃ r2, r2 = (re * B64 + x) % v := ⟨_, rfl⟩
      rw [← hq, ← hr2]
      have hqr : re * B64 + x = q * v + r2 := by rw [hq, hr2, Nat.mul_comm ((re * B64 + x) / v)]; exact (Nat.div_add_mod _ _).symm
      have hr2v : r2 < v := by rw [hr2]; exact Nat.mod_lt _ (by omega)
      have hqb : q < B64 := by
        rw [hq]
        refine (Nat.div_lt_iff_lt_mul (by omega)).2 ?_
        have : (re + 1) * B64 ≤ v * B64 := Nat.mul_le_mul_right _ hrv
        rw [Nat.add_mul, Nat.one_mul, Nat.mul_comm v] at this
        omega
      have HQR : Hid (re * B64 + x = q * v + r2) := hqr
      clear hq hr2 hqr
      go_wp2_with fail
      go_roundw
      case rel =>
        refine ⟨k + 1, r2, dk.set (m - 1 - k) q, by omega, by go_num, rfl, HR.out.step hlt hl HXX.out HQR.out hr2v (fun B hB => ?_) ?_⟩
        · exact bDrewN ((HR.out.wrs B hB).setCell hB _) r
        · have h1 := HR.out.row.set (m - 1 - k) q (by omega) hqb
          rw [Nat.zero_add] at h1
          exact h1.drewN r
      case measure => simp [intOf]; omega
    · obtain rfl : k = m := by omega
      have HR : Hid (DivRel w1 g k xs v k re dk wr) := hR
      clear hR hr
      have hh := HR.out
      have A3 := hh.row.at_ (Nat.le_refl _) (by unfold maxLen; omega)
      have hs := hh.sum
      rw [Nat.sub_self, List.drop_zero, List.drop_zero, HX.out.val] at hs
      obtain ⟨hq, hre⟩ := quo_unique hs hh.rlt
      have hN := Nf.trim hh.row.dig
      rw [hq] at hN
      have HV : Hid (Nf B64 (trimL dk) (a / v)) := hN
      have HRE : Hid (re = a % v) := hre
      have hb3 : Below w.heap.size w wr := hb.trans (hh.wrs _ hg)
      have hrow := hh.row
      clear hs hq hre hN hh
      go_wp2_with fail
      refine (trim_any A3).mono ?_
      rintro e w4 ⟨p', m', rfl, hm', hp', hw⟩
      obtain rfl := hw.symm
      have HM : Hid (m' = (trimL dk).length) := hm'
      clear hw hm'
      go_wp2_with fail
      go_ret3
      have e1 := HM.out
      have e2 := trimL_length_le dk
      have e3 := hrow.len
      exact ⟨⟨p', m', trimL dk, by rw [HRE.out]; rfl, hrow.own hg e1 hp', HV.out, by omega⟩, hb3⟩
theorem Wr.row_above {w w' : World} {g m n : Nat} {xs : List Nat} (hb : Blk w g xs) (h : Wr g 0 m w w') (hn : xs.length = n) (hm : m < n) : w'.cell? ⟨g, m, none⟩ = some (U (xs.getD m 0)) ∧ w'.frozen? ⟨g, m, none⟩ = false := by
  constructor
  · rw [h.cell g m (by omega)]; exact hb.cell m (by omega)
  · rw [h.frozen]; exact hb.frozen m
theorem Blk.row_take {w : World} {g : Nat} {xs : List Nat} (h : Blk w g xs) (hd : Dig B64 xs) (m : Nat) (hm : m ≤ xs.length) : Row w g 0 m (xs.take m) := (h.row hd).take m hm

theorem mulw_nf {p : Option Addr} {m c : Nat} {xs : List Nat} {a : Nat} {w : World} (h : At w p m c xs) (hx : Nf B64 xs a) (hm : m ≤ 8192) (v : Nat) (hv : v < B64) :
    Calls Tryz.prog 25 #[.slice p m c, U v] w fun e w' => Ans w.heap.size w' e (a * v) ∧ Below w.heap.size w w' := by
  have fx := hx.form (by rw [h.len]; exact hm)
  have hl := h.len
  have HX : Hid (Nf B64 xs a) := hx
  clear hx
  go_enter Tryz.func25, Tryz.ntmps25
  go_wp2_with fail
  refine (form_true h fx).mono ?_
  rintro e w' ⟨rfl, hw⟩
  obtain rfl := hw.symm
  clear hw fx
  obtain ⟨i0, hi, hz0, hz1, hz2⟩ := info_parts Tryz.infoU64
  go_wp2_with (at_make; refine wpList_make_full _ rfl _ _ 22 rfl w.heap.size 28 i0 (.int .u64 0) 1 Tryz.underlying22 hi hz0 hz1 _ _ _ _ (m + 1) rfl rfl (by omega) (by omega) (by rw [hz2]; omega) (by unfold maxLen; omega) (Nat.le_refl _) ?_; intro w1 hown hgrow; have hb := made_blk hown hgrow; clear hown hgrow)
  obtain ⟨hblk, hb1⟩ := hb
  have hdz : Dig B64 (List.replicate (m + 1) 0) := Dig.replicate _ _ B64_pos
  have hr := hblk.row_take hdz m (by simp)
  rw [List.take_replicate, Nat.min_eq_left (by omega)] at hr
  refine (amul_any w.heap.size 0 (m + 1) (m + 1) _ p m c xs v _ hr (by omega) (Nat.le_refl _) (by omega) (h.below hb1) hv (fun g2 off2 hn hp => .inl (h.fresh (Nat.le_refl _) g2 off2 hn hp))).mono ?_
  rintro e w2 ⟨cy, zs, rfl, hcy, hwr, hrow, hsum⟩
  obtain ⟨hcm, hfm⟩ := hwr.row_above hblk (n := m + 1) (by simp) (by omega)
  have hb2 : Below w.heap.size w w2 := hb1.trans (hwr.below (Nat.le_refl _))
  rw [valB_replicate, Nat.zero_add, HX.out.val] at hsum
  have HS : Hid (valB B64 zs + B64 ^ m * cy = a * v) := hsum
  clear hsum hwr hb1 hblk hr hdz
  go_wp2_with fail
  have hrow3 : Row (w2.setCell ⟨w.heap.size, m, none⟩ (U cy)) w.heap.size 0 (m + 1) (zs ++ [cy]) := by
    have hW : Wr w.heap.size (0 + m) 1 w2 (w2.setCell ⟨w.heap.size, m, none⟩ (U cy)) := (Wr.refl w.heap.size (0 + m) 1 w2).setCell m ⟨by omega, by omega⟩ _
    have hrow' : Row (w2.setCell ⟨w.heap.size, m, none⟩ (U cy)) w.heap.size 0 m zs :=
      ⟨hrow.len, hrow.dig, fun j hj => by rw [hW.cell _ _ (by omega)]; exact hrow.cell j hj, fun j hj => by rw [World.frozen?_setCell]; exact hrow.frozen j hj⟩
    refine hrow'.snoc ?_ ?_ hcy
    · rw [Nat.zero_add]; exact World.cell?_setCell_same _ _ _ hcm
    · rw [Nat.zero_add, World.frozen?_setCell]; exact hfm
  have hb3 : Below w.heap.size w (w2.setCell ⟨w.heap.size, m, none⟩ (U cy)) := hb2.setCell (Nat.le_refl _) _
  generalize w2.setCell ⟨w.heap.size, m, none⟩ (U cy) = w3 at *
  have A3 := hrow3.at_ (Nat.le_refl _) (by unfold maxLen; omega)
  have hval : valB B64 (zs ++ [cy]) = a * v := by rw [valB_snoc, hrow.len]; exact HS.out
  have hN := Nf.trim hrow3.dig
  rw [hval] at hN
  have HV : Hid (Nf B64 (trimL (zs ++ [cy])) (a * v)) := hN
  clear hval hN hcm hfm hrow
  generalize zs ++ [cy] = us at *
  refine (fitted_any A3).mono ?_
  rintro e w4 hres
  rcases hres with ⟨hle, ⟨p', m', rfl, hm', hp'⟩, hw⟩ | ⟨hgt, rfl, hw⟩
  · obtain rfl := hw.symm
    have HM : Hid (m' = (trimL us).length) := hm'
    clear hw hm'
    go_wp2_with fail
    go_ret2
    have e1 := HM.out
    exact ⟨.inl ⟨HV.out.lim.1 hle, p', m', trimL us, rfl, hrow3.own (Nat.le_refl _) e1 hp', HV.out, by omega⟩, hb3⟩
  · obtain rfl := hw.symm
    clear hw
    go_wp2_with fail
    go_ret2
    refine ⟨.inr ⟨?_, rfl⟩, hb3⟩
    have := mt HV.out.lim.2 (by omega)
    omega
theorem sqr_any {p : Option Addr} {n c : Nat} {xs : List Nat} {a : Nat} {w : World} (h : At w p n c xs) (hx : Nf B64 xs a) (hlx : n ≤ 8192) :
    Calls Tryz.prog 24 #[.slice p n c] w fun e w' => Ans w.heap.size w' e (a * a) ∧ Below w.heap.size w w' := by
  have HX : Hid (Nf B64 xs a) := hx
  clear hx
  go_enter Tryz.func24, Tryz.ntmps24
  go_wp2_with fail
  refine (mul_any h h HX.out HX.out hlx hlx).mono ?_
  rintro e w1 ⟨ha, hb⟩
  rcases ha with ⟨hl, p1, m1, zs, rfl, ho, hn1, hm1⟩ | ⟨hl, rfl⟩
  · have HL : Hid (a * a < LIM) := hl
    clear hl
    go_wp2_with fail
    go_ret2
    exact ⟨.inl ⟨HL.out, p1, m1, zs, rfl, ho, hn1, hm1⟩, hb⟩
  · have HL : Hid (LIM ≤ a * a) := hl
    clear hl
    go_wp2_with fail
    go_ret2
    exact ⟨.inr ⟨HL.out, rfl⟩, hb⟩
structure DnRel (w : World) (g n : Nat) (zs : List Nat) (s k : Nat) (dk : List Nat) (wr : World) : Prop where
  wrs : Wr g 0 n w wr
  row : Row wr g 0 n dk
  hi : dk.drop k = zs.drop k
  sum : 2 ^ s * valB B64 (dk.take k) + cout zs s 0 = valB B64 (zs.take k) + B64 ^ k * cout zs s k

theorem DnRel.step {w : World} {g n : Nat} {zs : List Nat} {s k : Nat} {dk : List Nat} {wr wr' : World} (h : DnRel w g n zs s k dk wr) (hk : k < n) (hz : zs.length = n) (hs : s ≤ 64) {d : Nat}
    (hd : d = dk.getD k 0 / 2 ^ s + 2 ^ (64 - s) * cout zs s (k + 1)) (hw : Wr g 0 n w wr') (hr : Row wr' g 0 n (dk.set k d)) : DnRel w g n zs s (k + 1) (dk.set k d) wr' := by
  have hl := h.row.len
  refine ⟨hw, hr, ?_, ?_⟩
  · rw [drop_set_lt]; exact drop_succ_of_drop h.hi
  · rw [take_set_succ dk k d (by omega), valB_snoc, List.length_take, hl, Nat.min_eq_left (by omega)]
    exact down_step hs (by rw [hd, getD_of_drop h.hi]) h.sum (by omega)

theorem sdn_any (g n c s : Nat) (zs : List Nat) (w : World) (hz : Row w g 0 n zs) (hnc : n ≤ c) (hbig : c ≤ 9223372036854775807) (hs : s < 64) :
    Calls Tryz.prog 49 #[.slice (some ⟨g, 0, none⟩) n c, .int .i64 s] w fun e w' =>
      ∃ zs', e = .returned (.tuple #[]) ∧ Wr g 0 n w w' ∧ Row w' g 0 n zs' ∧ valB B64 zs' = valB B64 zs / 2 ^ s := by
  have hl := hz.len
  go_enter Tryz.func49, Tryz.ntmps49
  go_wp2
  go_loopw [4, 7] (fun _ i wr => ∃ (k : Nat) (dk : List Nat), k ≤ n ∧ i = .int .i64 k ∧ DnRel w g n zs s k dk wr) (fun _ i _ => n - (intOf i).toNat)
  case atStart => exact ⟨0, zs, Nat.zero_le _, rfl, Wr.refl _ _ _ _, hz, rfl, by simp [valB]⟩
  case round =>
    obtain ⟨k, dk, hk, rfl, hR⟩ := hrel
    by_cases hlt : k < n
    · obtain ⟨x, hx⟩ : ∃ x, x = dk.getD k 0 := ⟨_, rfl⟩
      have HR : Hid (DnRel w g n zs s k dk wr) := hR
      have HX : Hid (x = dk.getD k 0) := hx
      have hxb : x < B64 := by rw [hx]; exact hR.row.dig.getD B64_pos _
      have hcx : wr.cell? ⟨g, k, none⟩ = some (U x) := by
        have := hR.row.cell k hlt
        rw [← hx, Nat.zero_add] at this; exact this
      have hfx : wr.frozen? ⟨g, k, none⟩ = false := by
        have := hR.row.frozen k hlt
        rw [Nat.zero_add] at this; exact this
      by_cases hlast : n ≤ k + 1
      · clear hR hx
        go_wp2
        go_roundw
        case rel =>
          have hh := HR.out
          have hxx := HX.out
          rw [walk_shr]
          refine ⟨k + 1, dk.set k (x / 2 ^ s), by omega, by go_num, ?_⟩
          refine hh.step hlt hl (by omega) ?_ (hh.wrs.setCell k ⟨by omega, by omega⟩ _) ?_
          · rw [← hxx]; unfold cout
            rw [List.getD_eq_getElem?_getD, List.getElem?_eq_none (by omega)]; simp
          · have h1 := hh.row.set k (x / 2 ^ s) hlt (Nat.lt_of_le_of_lt (Nat.div_le_self _ _) hxb)
            rw [Nat.zero_add] at h1; exact h1
        case measure => simp [intOf]; omega
      · obtain ⟨z, hy⟩ : ∃ z, z = dk.getD (k + 1) 0 := ⟨_, rfl⟩
        have hcz : wr.cell? ⟨g, k + 1, none⟩ = some (U z) := by
          have := hR.row.cell (k + 1) (by omega)
          rw [← hy, Nat.zero_add] at this; exact this
        have HY : Hid (z = dk.getD (k + 1) 0) := hy
        clear hR hx hy
        go_wp2
        go_region
        go_wp2
        go_roundw
        case rel =>
          have hh := HR.out
          have hxx := HX.out
          have hyy := HY.out
          have hxd : x / 2 ^ s < B64 := Nat.lt_of_le_of_lt (Nat.div_le_self _ _) hxb
          rw [walk_down x z s (by omega) hxb, walk_shr]
          refine ⟨k + 1, dk.set k (x / 2 ^ s + 2 ^ (64 - s) * (z % 2 ^ s)), by omega, by go_num, ?_⟩
          refine hh.step hlt hl (by omega) ?_ (((hh.wrs.setCell k ⟨by omega, by omega⟩ _).setCell k ⟨by omega, by omega⟩ _).drew) ?_
          · rw [← hxx]; unfold cout
            rw [hyy, getD_of_drop (drop_succ_of_drop hh.hi)]
          · have h1 := (hh.row.set k (x / 2 ^ s) hlt hxd).set k _ hlt (down_lt x z s (by omega) hxb)
            rw [Nat.zero_add, List.set_set] at h1
            exact h1.drew
        case measure => simp [intOf]; omega
    · obtain rfl : k = n := by omega
      have HR : Hid (DnRel w g k zs s k dk wr) := hR
      clear hR
      go_wp2
      go_end0
      have hh := HR.out
      refine ⟨dk, rfl, hh.wrs, hh.row, ?_⟩
      have h1 := hh.sum
      have hlk := hh.row.len
      rw [List.take_of_length_le (by omega), List.take_of_length_le (by omega)] at h1
      have h2 : cout zs s k = 0 := by unfold cout; rw [List.getD_eq_getElem?_getD, List.getElem?_eq_none (by omega)]; simp
      have h3 : cout zs s 0 < 2 ^ s := Nat.mod_lt _ (Nat.two_pow_pos _)
      rw [h2, Nat.mul_zero, Nat.add_zero] at h1
      rw [← h1, Nat.mul_add_div (Nat.two_pow_pos _), Nat.div_eq_of_lt h3, Nat.add_zero]
theorem bitsN_pos {a : Nat} (h : a ≠ 0) : 0 < bitsN a := by unfold bitsN; rw [if_neg h]; omega
theorem lt_pow_bits (x K : Nat) : x < 2 ^ K ↔ bitsN x ≤ K := by
  constructor
  · intro h
    by_cases h0 : x = 0
    · subst h0; simp [bitsN]
    · have h1 := bitsN_le x h0
      have h2 : bitsN x - 1 < K := (Nat.pow_lt_pow_iff_right (by decide : 1 < 2)).1 (Nat.lt_of_le_of_lt h1 h)
      omega
  · intro h
    exact Nat.lt_of_lt_of_le (bitsN_lt x) (Nat.pow_le_pow_right (by decide) h)
theorem bitsN_shl (a n : Nat) (h : a ≠ 0) : bitsN (2 ^ n * a) = n + bitsN a := by
  have := bitsN_top (lo := 0) (k := n) (Nat.two_pow_pos n) (bitsN_lt a) (bitsN_le a h) (by have := bitsN_pos h; omega)
  rw [Nat.zero_add] at this; exact this
theorem LIM_two (k : Nat) (hk : k = 524288) : LIM = 2 ^ k := by
  obtain ⟨K, hK⟩ : ∃ K, K = 8192 := ⟨_, rfl⟩
  rw [LIM_eq K hK, B64_pow, show 64 * K = k by omega]
theorem lim_bits (x : Nat) : x < LIM ↔ bitsN x ≤ 524288 := by
  obtain ⟨K, hK⟩ : ∃ K, K = 524288 := ⟨_, rfl⟩
  rw [LIM_two K hK, lt_pow_bits, hK]
theorem lim_shl (a n : Nat) (h : a ≠ 0) : 2 ^ n * a < LIM ↔ n + bitsN a ≤ 524288 := by rw [lim_bits, bitsN_shl a n h]
theorem splice_mid (L o : Nat) (xs : List Nat) (h : o + xs.length ≤ L) : splice (cellsU (List.replicate L 0)) o (cellsU xs) = cellsU (List.replicate o 0 ++ xs ++ List.replicate (L - (o + xs.length)) 0) := by
  unfold splice cellsU
  simp only [List.map_append, List.map_replicate, List.take_replicate, List.drop_replicate, List.length_map, List.append_assoc]
  rw [Nat.min_eq_left (by omega)]
theorem valB_shifted (o r : Nat) (xs : List Nat) : valB B64 (List.replicate o 0 ++ xs ++ List.replicate r 0) = B64 ^ o * valB B64 xs := by
  rw [valB_append_zeros, valB_append, valB_replicate, List.length_replicate, Nat.zero_add]
theorem shl_split (n a : Nat) : 2 ^ (n % 64) * (B64 ^ (n / 64) * a) = 2 ^ n * a := by
  rw [B64_pow, ← Nat.mul_assoc, ← Nat.pow_add, Nat.mod_add_div]

theorem shl_nf {p : Option Addr} {m c : Nat} {xs : List Nat} {a : Nat} {w : World} (h : At w p m c xs) (hx : Nf B64 xs a) (hm : m ≤ 8192) (n : Nat) (hn : n ≤ 9223372036854775807) :
    Calls Tryz.prog 69 #[.slice p m c, .int .i64 n] w fun e w' => Ans w.heap.size w' e (2 ^ n * a) ∧ Below w.heap.size w w' := by
  have fx := hx.form (by rw [h.len]; exact hm)
  have hl := h.len
  have HX : Hid (Nf B64 xs a) := hx
  clear hx
  by_cases h0 : m = 0
  · subst h0
    have hxe : xs = [] := List.eq_nil_of_length_eq_zero hl
    have ha : a = 0 := (HX.out.zero_iff B64_one).1 hxe
    have HA : Hid (2 ^ n * a = 0) := by rw [ha]; exact Nat.mul_zero _
    clear ha hxe hl
    go_enter Tryz.func69, Tryz.ntmps69
    go_wp2_with fail
    refine (form_true h fx).mono ?_
    rintro e w' ⟨rfl, hw⟩
    obtain rfl := hw.symm
    clear hw fx
    go_wp2_with fail
    go_ret2
    refine ⟨.inl ⟨?_, none, 0, [], rfl, ⟨rfl, Dig.nil _, .inl rfl⟩, ?_, by omega⟩, Below.refl _ _⟩
    · rw [HA.out]; exact (Nf.nil B64).lim.1 (by simp)
    · rw [HA.out]; exact Nf.nil _
  · have ha : a ≠ 0 := by
      intro e
      have := (HX.out.zero_iff B64_one).2 e
      rw [this] at hl; simp at hl; omega
    have h0' : ((m : Int) == 0) = false := by simp; omega
    have hls := lim_shl a n ha
    have hbl : bitsN a ≤ 524288 := by rw [← lim_bits]; exact HX.out.lim.1 (by omega)
    have HL : Hid (2 ^ n * a < LIM ↔ n + bitsN a ≤ 524288) := hls
    clear hls ha
    go_enter Tryz.func69, Tryz.ntmps69
    go_wp2_with fail
    refine (form_true h fx).mono ?_
    rintro e w' ⟨rfl, hw⟩
    obtain rfl := hw.symm
    clear hw fx
    go_wp2_with fail
    refine (bits_any h (by omega)).mono ?_
    rintro e w' ⟨rfl, hw⟩
    obtain rfl := hw.symm
    clear hw
    rw [HX.out.val]
    by_cases hbig : n + bitsN a ≤ 524288
    · obtain ⟨i0, hi, hz0, hz1, hz2⟩ := info_parts Tryz.infoU64
      go_wp2_with (first
        | (at_make; refine wpList_make_full _ rfl _ _ 22 rfl w.heap.size 28 i0 (.int .u64 0) 1 Tryz.underlying22 hi hz0 hz1 _ _ _ _ (m + n / 64 + 1) rfl rfl (by omega) (by omega) (by rw [hz2]; omega) (by unfold maxLen; omega) (Nat.le_refl _) ?_; intro w1 hown hgrow; have hb := made_blk hown hgrow; clear hown hgrow)
        | (refine wpList_copy_splice rfl (.tmp 30) (.tmp 31) 22 22 rfl 28 Tryz.underlying22 Tryz.sizeU64 (some ⟨w.heap.size, n / 64, none⟩) p (m + n / 64 + 1 - n / 64) (m + n / 64 + 1 - n / 64) m c rfl rfl w.heap.size (n / 64) (cellsU (List.replicate (m + n / 64 + 1) 0)) 28 hb.1 (cellsU xs) (by rw [cellsU_length, hl]; exact (Nat.min_eq_left (by omega)).symm) (fun h0 => ⟨rfl, (h.below hb.2).src (by rw [cellsU_length] at h0; omega)⟩) (by simp [cellsU_length]; omega) (cellsU_one xs) w.heap.size w hb.2 (Nat.le_refl _) ?_; intro w2 hg2 hb2))
      have hg3 : Blk w2 w.heap.size (List.replicate (n / 64) 0 ++ xs ++ List.replicate (m + n / 64 + 1 - (n / 64 + xs.length)) 0) := by
        have := hg2.out
        rw [splice_mid _ _ _ (by omega)] at this; exact this
      clear hg2 hb
      have hdz : Dig B64 (List.replicate (n / 64) 0 ++ xs ++ List.replicate (m + n / 64 + 1 - (n / 64 + xs.length)) 0) := dig_pad ((Dig.replicate _ _ B64_pos).append HX.out.dig) _
      have hr := hg3.row hdz
      have hlz : (List.replicate (n / 64) 0 ++ xs ++ List.replicate (m + n / 64 + 1 - (n / 64 + xs.length)) 0).length = m + n / 64 + 1 := by simp; omega
      rw [hlz] at hr
      refine (sup_any w.heap.size (m + n / 64 + 1) (m + n / 64 + 1) (n % 64) _ _ hr (Nat.le_refl _) (by omega) (by omega) (.inr ?_)).mono ?_
      · rw [Nat.add_sub_cancel, List.getD_eq_getElem?_getD, List.getElem?_append_right (by simp; omega), List.getElem?_replicate]
        split <;> rfl
      rintro e w3 ⟨zs, rfl, hwr, hrow, hval⟩
      rw [valB_shifted, HX.out.val, shl_split] at hval
      have A3 := hrow.at_ (Nat.le_refl _) (by unfold maxLen; omega)
      have hN := Nf.trim hrow.dig
      rw [hval] at hN
      have HV : Hid (Nf B64 (trimL zs) (2 ^ n * a)) := hN
      have hb3 : Below w.heap.size w w3 := hb2.trans (hwr.below (Nat.le_refl _))
      clear hval hN hg3 hdz hr hlz hb2
      go_wp2_with fail
      refine (trim_any A3).mono ?_
      rintro e w4 ⟨p', m', rfl, hm', hp', hw⟩
      obtain rfl := hw.symm
      have HM : Hid (m' = (trimL zs).length) := hm'
      clear hw hm'
      go_wp2_with fail
      go_ret2
      have e1 := HM.out
      have e2 := HL.out.2 hbig
      exact ⟨.inl ⟨e2, p', m', trimL zs, rfl, hrow.own (Nat.le_refl _) e1 hp', HV.out, by have := HV.out.lim.2 e2; omega⟩, hb3⟩
    · go_wp2_with fail
      go_ret2
      refine ⟨.inr ⟨?_, rfl⟩, Below.refl _ _⟩
      have := mt HL.out.1 hbig
      omega
theorem div_pow_zero {a n : Nat} (h : bitsN a ≤ n) : a / 2 ^ n = 0 := Nat.div_eq_of_lt ((lt_pow_bits a n).2 h)
theorem mod_pow_self {a n : Nat} (h : bitsN a ≤ n) : a % 2 ^ n = a := Nat.mod_eq_of_lt ((lt_pow_bits a n).2 h)
theorem len_bits {xs : List Nat} {a m : Nat} (hx : Nf B64 xs a) (hl : xs.length = m) : bitsN a ≤ 64 * m := by
  rw [← lt_pow_bits, ← B64_pow]; exact (hx.len_le B64_one).1 (by omega)
theorem drop_div {xs : List Nat} {a k : Nat} (hx : Nf B64 xs a) (hk : k ≤ xs.length) : valB B64 (xs.drop k) = a / B64 ^ k := by
  have h1 := valB_split B64 xs k hk
  have h2 := valB_lt B64_pos (hx.dig.take k)
  rw [List.length_take, Nat.min_eq_left hk] at h2
  rw [hx.val] at h1
  rw [h1, Nat.add_mul_div_left _ _ (Nat.pow_pos B64_pos), Nat.div_eq_of_lt h2, Nat.zero_add]
theorem shr_split (n a : Nat) : a / B64 ^ (n / 64) / 2 ^ (n % 64) = a / 2 ^ n := by
  rw [B64_pow, Nat.div_div_eq_div_mul, ← Nat.pow_add, Nat.div_add_mod]
theorem take_mod {xs : List Nat} {a k : Nat} (hx : Nf B64 xs a) (hk : k ≤ xs.length) : valB B64 (xs.take k) = a % B64 ^ k := by
  have h1 := valB_split B64 xs k hk
  have h2 := valB_lt B64_pos (hx.dig.take k)
  rw [List.length_take, Nat.min_eq_left hk] at h2
  rw [hx.val] at h1
  rw [h1, Nat.add_mul_mod_self_left, Nat.mod_eq_of_lt h2]
theorem Own.empty (B : Nat) (w : World) (p : Option Addr) : Own B w p 0 [] := ⟨rfl, Dig.nil _, .inl rfl⟩
theorem At.drop {w : World} {g off n c : Nat} {xs : List Nat} (h : At w (some ⟨g, off, none⟩) n c xs) (k : Nat) (hk : k < n) : At w (some ⟨g, off + k, none⟩) (n - k) (n - k) (xs.drop k) := by
  have h1 := h.len; have h2 := h.cap; have h3 := h.big
  refine ⟨by rw [List.length_drop, h1], Nat.le_refl _, by omega, h.dig.drop k, .inr ⟨g, off + k, rfl, fun j hj => ?_⟩⟩
  obtain ⟨g', off', hp, hc⟩ := h.cells.resolve_left (by omega)
  simp only [Option.some.injEq, Addr.mk.injEq, and_true] at hp
  obtain ⟨rfl, rfl⟩ := hp
  have e : (xs.drop k).getD j 0 = xs.getD (k + j) 0 := by rw [List.getD_eq_getElem?_getD, List.getD_eq_getElem?_getD, List.getElem?_drop]
  rw [e, Nat.add_assoc]; exact hc (k + j) (by omega)

theorem shr_nf {p : Option Addr} {m c : Nat} {xs : List Nat} {a : Nat} {w : World} (h : At w p m c xs) (hx : Nf B64 xs a) (hm : m ≤ 8192) (n : Nat) (hn : n ≤ 9223372036854775807) :
    Calls Tryz.prog 78 #[.slice p m c, .int .i64 n] w fun e w' =>
      (∃ p' m' zs, e = .returned (.tuple #[.slice p' m' m', .int .i64 0]) ∧ Own w.heap.size w' p' m' zs ∧ Nf B64 zs (a / 2 ^ n) ∧ m' ≤ 8192) ∧ Below w.heap.size w w' := by
  have fx := hx.form (by rw [h.len]; exact hm)
  have hl := h.len
  have hcap := h.cap
  have HX : Hid (Nf B64 xs a) := hx
  have hbm := len_bits hx hl
  clear hx
  go_enter Tryz.func78, Tryz.ntmps78
  go_wp2_with fail
  refine (form_true h fx).mono ?_
  rintro e w' ⟨rfl, hw⟩
  obtain rfl := hw.symm
  clear hw fx
  go_wp2_with fail
  refine (bits_any h (by omega)).mono ?_
  rintro e w' ⟨rfl, hw⟩
  obtain rfl := hw.symm
  clear hw
  rw [HX.out.val]
  by_cases hbig : bitsN a ≤ n
  · have HZ : Hid (a / 2 ^ n = 0) := div_pow_zero hbig
    go_wp2_with fail
    go_ret2
    exact ⟨⟨none, 0, [], rfl, Own.empty _ _ _, by rw [HZ.out]; exact Nf.nil _, by omega⟩, Below.refl _ _⟩
  · obtain ⟨g, off, rfl, _⟩ := h.cells.resolve_left (by omega)
    have hkm : n / 64 < m := by omega
    go_wp2_with fail
    rw [show ((n : Int) / 64) = ((n / 64 : Nat) : Int) by omega]
    refine (cut_row g off m c (n / 64) _ hcap (by omega)).mono ?_
    rintro e w1 ⟨rfl, r, hw⟩
    obtain rfl := hw.symm
    clear hw
    rw [cutOff_lt hkm]
    have A1 := (h.drop (n / 64) hkm).drewN r
    go_wp2_with fail
    refine (copied_any A1 (m - n / 64) (Nat.le_refl _) (by omega)).mono ?_
    rintro e w2 ⟨g2, rfl, hg, hblk, hb⟩
    rw [Nat.sub_self, List.replicate_zero, List.append_nil] at hblk
    have hr := hblk.row A1.dig
    rw [A1.len] at hr
    go_wp2_with fail
    rw [show ((n : Int) % 64) = ((n % 64 : Nat) : Int) by omega]
    refine (sdn_any g2 (m - n / 64) (m - n / 64) (n % 64) _ _ hr (Nat.le_refl _) (by omega) (by omega)).mono ?_
    rintro e w3 ⟨zs, rfl, hwr, hrow, hval⟩
    rw [drop_div HX.out (by omega), shr_split] at hval
    have A3 := hrow.at_ (Nat.le_refl _) (by unfold maxLen; omega)
    have hN := Nf.trim hrow.dig
    rw [hval] at hN
    have HV : Hid (Nf B64 (trimL zs) (a / 2 ^ n)) := hN
    have hb3 : Below w.heap.size w w3 := (bDrewN (Below.refl _ _) r).trans (hb.trans (hwr.below hg))
    clear hval hN hblk hr hb A1
    go_wp2_with fail
    refine (trim_any A3).mono ?_
    rintro e w4 ⟨p', m', rfl, hm', hp', hw⟩
    obtain rfl := hw.symm
    have HM : Hid (m' = (trimL zs).length) := hm'
    clear hw hm'
    go_wp2_with fail
    go_ret2
    have e1 := HM.out
    have e2 := trimL_length_le zs
    have e3 := hrow.len
    exact ⟨⟨p', m', trimL zs, rfl, hrow.own hg e1 hp', HV.out, by omega⟩, hb3⟩

theorem mask_val {xs ys : List Nat} {a n x : Nat} (hx : Nf B64 xs a) (hk : n / 64 < xs.length) (ex : x = xs.getD (n / 64) 0) (hy : ys = (xs.take (n / 64 + 1)).set (n / 64) (x % 2 ^ (n % 64))) : valB B64 ys = a % 2 ^ n := by
  have hl : (xs.take (n / 64 + 1)).length = n / 64 + 1 := by rw [List.length_take]; omega
  have e1 : ys = xs.take (n / 64) ++ [x % 2 ^ (n % 64)] := by
    have h1 := take_set_succ (xs.take (n / 64 + 1)) (n / 64) (x % 2 ^ (n % 64)) (by omega)
    rw [← hy, List.take_of_length_le (by rw [hy, List.length_set]; omega), List.take_take, Nat.min_eq_left (by omega)] at h1
    exact h1
  have h2 : x = a / B64 ^ (n / 64) % B64 := by
    rw [← drop_div hx (by omega), drop_getD xs _ hk, ← ex, valB_cons, Nat.add_mul_mod_self_left, Nat.mod_eq_of_lt]
    rw [ex]; exact hx.dig.getD B64_pos _
  rw [e1, valB_snoc, List.length_take, Nat.min_eq_left (by omega), take_mod hx (by omega), h2]
  have h3 : 2 ^ n = B64 ^ (n / 64) * 2 ^ (n % 64) := by rw [B64_pow, ← Nat.pow_add, Nat.div_add_mod]
  have h4 : a / B64 ^ (n / 64) % B64 % 2 ^ (n % 64) = a / B64 ^ (n / 64) % 2 ^ (n % 64) := by
    refine Nat.mod_mod_of_dvd _ ⟨2 ^ (64 - n % 64), ?_⟩
    exact (pow_split (n % 64) (by omega)).symm
  rw [h4, h3, Nat.mod_mul]

theorem mask_and (x s : Nat) (hx : x < B64) (hs : s < 64) : Value.int .u64 (bits .and .u64 (x : Int) (IntKind.u64.wrap (IntKind.u64.wrap (2 ^ s) - 1))) = U (x % 2 ^ s) := by
  have h1 : IntKind.u64.wrap ((2 : Int) ^ s) = ((2 ^ s : Nat) : Int) := by
    have h2 : 2 ^ s < B64 := by rw [B64_p]; exact (Nat.pow_lt_pow_iff_right (by decide : 1 < 2)).2 hs
    have := wrap_nat 1 s
    unfold shlW at this
    rw [Nat.one_mul, Nat.mod_eq_of_lt h2] at this
    rw [show ((1 : Nat) : Int) * 2 ^ s = (2 : Int) ^ s by simp] at this
    exact this
  have hp := Nat.two_pow_pos s
  have h2 : 2 ^ s < 18446744073709551616 := by rw [← B64_eq, B64_p]; exact (Nat.pow_lt_pow_iff_right (by decide : 1 < 2)).2 hs
  have h3 : IntKind.u64.wrap (((2 ^ s : Nat) : Int) - 1) = ((2 ^ s - 1 : Nat) : Int) := by
    rw [IntKind.wrap_u64]
    generalize 2 ^ s = P at *
    omega
  rw [B64_eq] at hx
  rw [h1, h3, bits_and_u64_nat x _ hx (by omega), Nat.and_two_pow_sub_one_eq_mod]

theorem low_nf {p : Option Addr} {m c : Nat} {xs : List Nat} {a : Nat} {w : World} (h : At w p m c xs) (hx : Nf B64 xs a) (hm : m ≤ 8192) (n : Nat) (hn : n ≤ 9223372036854775807) :
    Calls Tryz.prog 79 #[.slice p m c, .int .i64 n] w fun e w' =>
      (∃ p' m' zs, e = .returned (.tuple #[.slice p' m' m', .int .i64 0]) ∧ Own w.heap.size w' p' m' zs ∧ Nf B64 zs (a % 2 ^ n) ∧ m' ≤ 8192) ∧ Below w.heap.size w w' := by
  have fx := hx.form (by rw [h.len]; exact hm)
  have hl := h.len
  have hcap := h.cap
  have HX : Hid (Nf B64 xs a) := hx
  have hbm := len_bits hx hl
  clear hx
  go_enter Tryz.func79, Tryz.ntmps79
  go_wp2_with fail
  refine (form_true h fx).mono ?_
  rintro e w' ⟨rfl, hw⟩
  obtain rfl := hw.symm
  clear hw fx
  go_wp2_with fail
  refine (bits_any h (by omega)).mono ?_
  rintro e w' ⟨rfl, hw⟩
  obtain rfl := hw.symm
  clear hw
  rw [HX.out.val]
  by_cases hbig : bitsN a ≤ n
  · have HZ : Hid (a % 2 ^ n = a) := mod_pow_self hbig
    go_wp2_with fail
    refine (copied_any h m (Nat.le_refl _) (by omega)).mono ?_
    rintro e w2 ⟨g2, rfl, hg, hblk, hb⟩
    rw [Nat.sub_self, List.replicate_zero, List.append_nil] at hblk
    go_wp2_with fail
    go_ret2
    have ho := hblk.own HX.out.dig hg
    rw [hl] at ho
    exact ⟨⟨_, m, xs, rfl, ho, by rw [HZ.out]; exact HX.out, hm⟩, hb⟩
  · obtain ⟨g, off, rfl, _⟩ := h.cells.resolve_left (by omega)
    have hkm : n / 64 < m := by omega
    go_wp2_with fail
    rw [show ((n : Int) / 64 + 1) = ((n / 64 + 1 : Nat) : Int) by omega]
    refine (cut_row g off m c (n / 64 + 1) _ hcap (by omega)).mono ?_
    rintro e w1 ⟨rfl, r, hw⟩
    obtain rfl := hw.symm
    clear hw
    have A1 := (h.take (n / 64 + 1) (by omega) (n / 64 + 1) (Nat.le_refl _) (by unfold maxLen; omega)).drewN r
    go_wp2_with fail
    refine (copied_any A1 (n / 64 + 1) (Nat.le_refl _) (by omega)).mono ?_
    rintro e w2 ⟨g2, rfl, hg, hblk, hb⟩
    rw [Nat.sub_self, List.replicate_zero, List.append_nil] at hblk
    have hr := hblk.row A1.dig
    rw [A1.len] at hr
    obtain ⟨x, hx⟩ : ∃ x, x = xs.getD (n / 64) 0 := ⟨_, rfl⟩
    have hxb : x < B64 := by rw [hx]; exact HX.out.dig.getD B64_pos _
    have hxt : (xs.take (n / 64 + 1)).getD (n / 64) 0 = x := by rw [hx, List.getD_eq_getElem?_getD, List.getD_eq_getElem?_getD, List.getElem?_take, if_pos (by omega)]
    have hcx : w2.cell? ⟨g2, n / 64, none⟩ = some (U x) := by
      have := hr.cell (n / 64) (by omega)
      rw [Nat.zero_add, hxt] at this; exact this
    have hfx : w2.frozen? ⟨g2, n / 64, none⟩ = false := by
      have := hr.frozen (n / 64) (by omega)
      rw [Nat.zero_add] at this; exact this
    have HXX : Hid (x = xs.getD (n / 64) 0) := hx
    have HRR : Hid (Row w2 g2 0 (n / 64 + 1) (xs.take (n / 64 + 1))) := hr
    clear hx hxt hr hblk A1
    go_wp2_with fail
    go_region
    go_wp2_with fail
    rw [mask_and x (n % 64) hxb (by omega)]
    have hmb : x % 2 ^ (n % 64) < B64 := Nat.lt_of_le_of_lt (Nat.mod_le _ _) hxb
    have hrow := (HRR.out.set (n / 64) (x % 2 ^ (n % 64)) (by omega) hmb).drew
    rw [Nat.zero_add] at hrow
    have hwr := ((Wr.refl g2 0 (n / 64 + 1) w2).setCell (n / 64) ⟨by omega, by omega⟩ (U (x % 2 ^ (n % 64)))).drew
    have hval := mask_val HX.out (by omega) HXX.out rfl
    generalize (w2.setCell ⟨g2, n / 64, none⟩ (U (x % 2 ^ (n % 64)))).drew = w3 at *
    generalize (xs.take (n / 64 + 1)).set (n / 64) (x % 2 ^ (n % 64)) = zs at *
    have A3 := hrow.at_ (Nat.le_refl _) (by unfold maxLen; omega)
    have hN := Nf.trim hrow.dig
    rw [hval] at hN
    have HV : Hid (Nf B64 (trimL zs) (a % 2 ^ n)) := hN
    have hb3 : Below w.heap.size w w3 := (bDrewN (Below.refl _ _) r).trans (hb.trans (hwr.below hg))
    clear hval hN hb hcx hfx
    refine (trim_any A3).mono ?_
    rintro e w4 ⟨p', m', rfl, hm', hp', hw⟩
    obtain rfl := hw.symm
    have HM : Hid (m' = (trimL zs).length) := hm'
    clear hw hm'
    go_wp2_with fail
    go_ret2
    have e1 := HM.out
    have e2 := trimL_length_le zs
    have e3 := hrow.len
    exact ⟨⟨p', m', trimL zs, rfl, hrow.own hg e1 hp', HV.out, by omega⟩, hb3⟩
theorem Nf.drop {xs : List Nat} {a k : Nat} (hx : Nf B64 xs a) (hk : k ≤ xs.length) : Nf B64 (xs.drop k) (a / B64 ^ k) := by
  refine ⟨hx.dig.drop k, ?_, drop_div hx hk⟩
  intro x h
  refine hx.top x ?_
  by_cases hkl : k < xs.length
  · rw [List.getLast?_drop, if_neg (by omega)] at h; exact h
  · rw [List.drop_of_length_le (by omega)] at h; simp at h
theorem Nf.low {xs : List Nat} {a k : Nat} (hx : Nf B64 xs a) (hk : k ≤ xs.length) : Nf B64 (trimL (xs.take k)) (a % B64 ^ k) := by
  have h := Nf.trim (hx.dig.take k)
  rw [take_mod hx hk] at h; exact h
end Go.Proofs.YtmekccpbcjpddaaGreatDoor
namespace Go.Proofs.YtmekccpbcjpddaaGreatDoor
open Go.RowKit Go.Shelf
set_option maxRecDepth 20000
set_option maxHeartbeats 0
theorem tsame_any {p q : Option Addr} {n m c d : Nat} {xs ys : List Nat} {w : World} (h : At w p n c xs) (k : At w q m d ys) :
    Calls Tryz.prog 5 #[.slice p n c, .slice q m d] w fun e w' => e = .returned (.bool (decide (xs = ys))) ∧ ∃ r, w' = w.drewN r := by
  have hl := h.len; have hcap := h.cap; have hbig := h.big
  have kl := k.len; have kcap := k.cap; have kbig := k.big
  unfold maxLen at hbig kbig
  by_cases hne : n = m
  · subst hne
    have hnn : ((n : Int) != (n : Int)) = false := by simp
    obtain ⟨b, hb⟩ : ∃ b, b = decide (xs = ys) := ⟨_, rfl⟩
    rw [← hb]
    by_cases h0 : n = 0
    · subst h0
      have hx : xs = [] := List.eq_nil_of_length_eq_zero hl
      have hy : ys = [] := List.eq_nil_of_length_eq_zero kl
      have hb' : b = true := by rw [hx, hy] at hb; simpa using hb
      have HB : Hid (b = true) := hb'
      clear hb hb' hl kl hx hy
      go_enter Tryz.func5, Tryz.ntmps5
      go_wp2
      go_loop [5] (fun i => i = .int .i64 0) (fun _ => 0)
      case atStart => rfl
      case round =>
        subst hrel
        go_wp2
        go_ret
        exact ⟨ret_bool HB.out.symm, 0, rfl⟩
    · obtain ⟨g, off, rfl, hc⟩ := h.cells.resolve_left h0
      obtain ⟨g2, off2, rfl, hc2⟩ := k.cells.resolve_left h0
      have HB : Hid (b = decide (xs = ys)) := hb
      clear hb
      go_enter Tryz.func5, Tryz.ntmps5
      go_wp2
      go_loopw [5] (fun i wr => ∃ k r : Nat, k ≤ n ∧ i = .int .i64 k ∧ wr = w.drewN r ∧ ∀ j, j < k → xs.getD j 0 = ys.getD j 0) (fun i _ => n - (intOf i).toNat)
      case atStart => exact ⟨0, 0, Nat.zero_le _, rfl, rfl, fun j hj => by omega⟩
      case round =>
        obtain ⟨k, r, hk, rfl, rfl, hz⟩ := hrel
        have HZ : Hid (∀ j, j < k → xs.getD j 0 = ys.getD j 0) := hz
        clear hz
        by_cases hlt : k < n
        · obtain ⟨x, hx⟩ : ∃ x, x = xs.getD k 0 := ⟨_, rfl⟩
          obtain ⟨y, hy⟩ : ∃ y, y = ys.getD k 0 := ⟨_, rfl⟩
          have hcx : w.cell? ⟨g, off + k, none⟩ = some (U x) := by rw [hx]; exact hc _ (by omega)
          have hcy : w.cell? ⟨g2, off2 + k, none⟩ = some (U y) := by rw [hy]; exact hc2 _ (by omega)
          have HX : Hid (x = xs.getD k 0) := hx
          have HY : Hid (y = ys.getD k 0) := hy
          clear hx hy hc hc2
          go_wp2
          go_quiet (fail)
          go_wp2
          · have h0 : ((x : Int) != (y : Int)) = true := by assumption
            go_ret
            exact ⟨ret_bool (by rw [HB.out, same_not xs ys k x y HX.out HY.out h0]), r + nq, by simp⟩
          · have h0 : ((x : Int) != (y : Int)) = false := by assumption
            go_roundw
            case rel => exact ⟨k + 1, r + nq, by omega, by go_num, by simp, fun j hj => if e : j = k then by rw [e, ← HX.out, ← HY.out]; simp at h0; omega else HZ.out j (by omega)⟩
            case measure => simp [intOf]; omega
        · have hkn : k = n := by omega
          subst hkn
          have hy := same_yes xs ys _ hl kl HZ.out
          have HY : Hid (decide (xs = ys) = true) := hy
          clear hy
          go_wp2
          go_ret
          exact ⟨ret_bool (by rw [HB.out, HY.out]), r, rfl⟩
  · have hnn : ((n : Int) != (m : Int)) = true := by simp; omega
    have hf : decide (xs = ys) = false := by rw [decide_eq_false_iff_not]; intro e; subst e; omega
    rw [hf]
    clear hf
    go_enter Tryz.func5, Tryz.ntmps5
    go_wp2
    go_ret
    exact ⟨rfl, 0, rfl⟩
theorem tsame_t {p q : Option Addr} {n m c d : Nat} {xs : List Nat} {w : World} (h : At w p n c xs) (k : At w q m d xs) :
    Calls Tryz.prog 5 #[.slice p n c, .slice q m d] w fun e w' => e = .returned (.bool true) ∧ Below w.heap.size w w' := by
  refine (tsame_any h k).mono ?_
  rintro e w' ⟨rfl, r, rfl⟩
  exact ⟨ret_bool (by simp), bDrewN (Below.refl _ _) r⟩

theorem lim_up {i j a : Nat} (h : a < B64 ^ i) (hij : i ≤ j) : a < B64 ^ j := Nat.lt_of_lt_of_le h (Nat.pow_le_pow_right B64_pos hij)
theorem lim_of (i : Nat) {a : Nat} (h : a < B64 ^ i) (hi : i ≤ 8192) : a < LIM := by
  obtain ⟨K, hK⟩ : ∃ K, K = 8192 := ⟨8192, rfl⟩
  rw [LIM_eq K hK]; exact lim_up h (by omega)

theorem natural_any {p : Option Addr} {n c : Nat} {xs : List Nat} {w : World} (h : At w p n c xs) (i : Nat) (hi : i = 250) :
    Calls Tryz.prog 6 #[.slice p n c, .int .i64 250] w fun e w' => ∃ p' k N us a, e = .returned (.slice p' k N) ∧ Num w' p' k N us a ∧ a < B64 ^ i ∧ Below w.heap.size w w' := by
  have cap := h.cap; have big := h.big
  unfold maxLen at big
  obtain ⟨k, hk⟩ : ∃ k, k = min n 250 := ⟨_, rfl⟩
  have HK : Hid (k ≤ i) := by show _ ≤ _; omega
  have hkn : k ≤ n := by omega
  have hkb : k ≤ 250 := by omega
  have A0 := h.take k hkn c (by omega) (by unfold maxLen; omega)
  have HV : Hid (valB B64 (xs.take k) < B64 ^ i) := by
    have h1 := valB_lt B64_pos A0.dig
    rw [A0.len] at h1
    exact lim_up h1 (by omega)
  by_cases hn : 250 < n
  · obtain rfl : k = 250 := by omega
    have hd : decide ((250 : Int) < (n : Int)) = true := decide_eq_true (by omega)
    obtain ⟨g, off, rfl, _⟩ := h.cells.resolve_left (by omega)
    clear h hk
    go_enter Tryz.func6, Tryz.ntmps6
    go_wp2_with fail
    refine (from_any A0 (by omega)).mono ?_
    rintro e w1 ⟨g1, zs, rfl, hg1, hblk1, hnf1, hl1, hb1⟩
    have A1 : At32 w1 (some ⟨g1, 0, none⟩) zs.length zs.length zs := hblk1.at_ hnf1.dig rfl (by unfold maxLen; omega)
    have HN1 : Hid (Nf B32 zs (valB B64 (xs.take 250))) := hnf1
    clear hblk1 hnf1
    go_wp2_with fail
    refine (rto_any A1 (by omega)).mono ?_
    rintro e w2 ⟨g2, k2, N2, us, rfl, hg2, hA2, hnf2, hb2⟩
    have HA2 : Hid (At w2 (some ⟨g2, 0, none⟩) k2 N2 us) := hA2
    have HN2 : Hid (Nf B64 us (valB B64 (xs.take 250))) := by have h := hnf2; rw [HN1.out.val] at h; exact h
    have hbw := Below.on hb1 hb2
    clear hA2 hnf2 hb1 hb2
    go_wp2_with fail
    go_ret
    refine ⟨_, k2, N2, us, _, rfl, ⟨HA2.out, HN2.out, ?_⟩, HV.out, hbw⟩
    have h1 := (HN2.out.len_le (k := i) B64_one).2 HV.out
    rw [HA2.out.len] at h1; omega
  · obtain rfl : k = n := by omega
    have hd : decide ((250 : Int) < (k : Int)) = false := decide_eq_false (by omega)
    have hn' : ¬ 250 < k := hn
    clear hk
    go_enter Tryz.func6, Tryz.ntmps6
    go_wp2_with fail
    refine (from_any A0 (by omega)).mono ?_
    rintro e w1 ⟨g1, zs, rfl, hg1, hblk1, hnf1, hl1, hb1⟩
    have A1 : At32 w1 (some ⟨g1, 0, none⟩) zs.length zs.length zs := hblk1.at_ hnf1.dig rfl (by unfold maxLen; omega)
    have HN1 : Hid (Nf B32 zs (valB B64 (xs.take k))) := hnf1
    clear hblk1 hnf1
    go_wp2_with fail
    refine (rto_any A1 (by omega)).mono ?_
    rintro e w2 ⟨g2, k2, N2, us, rfl, hg2, hA2, hnf2, hb2⟩
    have HA2 : Hid (At w2 (some ⟨g2, 0, none⟩) k2 N2 us) := hA2
    have HN2 : Hid (Nf B64 us (valB B64 (xs.take k))) := by have h := hnf2; rw [HN1.out.val] at h; exact h
    have hbw := Below.on hb1 hb2
    clear hA2 hnf2 hb1 hb2
    go_wp2_with fail
    go_ret
    refine ⟨_, k2, N2, us, _, rfl, ⟨HA2.out, HN2.out, ?_⟩, HV.out, hbw⟩
    have h1 := (HN2.out.len_le (k := i) B64_one).2 HV.out
    rw [HA2.out.len] at h1; omega

theorem among_any (x m : Int) (w : World) (_hx : -9223372036854775808 ≤ x ∧ x ≤ 9223372036854775807) (hm : 0 < m ∧ m ≤ 1000000) :
    Calls Tryz.prog 12 #[.int .i64 x, .int .i64 m] w fun e w' => ∃ r : Nat, e = .returned (.int .i64 r) ∧ (r : Int) < m ∧ w' = w := by
  obtain ⟨q, hq⟩ : ∃ q : Int, q = x.tmod m := ⟨_, rfl⟩
  have h1 : -m < q ∧ q < m := by
    rw [hq]
    exact ⟨Int.lt_tmod_of_pos x hm.1, Int.tmod_lt_of_pos x hm.1⟩
  have hm0 : (m == 0) = false := by simp; omega
  by_cases hn : q < 0
  · obtain ⟨r, hr⟩ := Int.eq_ofNat_of_zero_le (show 0 ≤ q + m by omega)
    have hd : decide (q < 0) = true := decide_eq_true hn
    have hw : IntKind.i64.wrap (q + m) = (r : Int) := by rw [hr]; simp [IntKind.wrap, IntKind.signed, IntKind.bits]; omega
    have hqq : x.tmod m = q := hq.symm
    clear hq
    go_enter Tryz.func12, Tryz.ntmps12
    go_wp2_with fail
    go_ret
    exact ⟨r, by first | rfl | (rw [hr]), by omega, rfl⟩
  · obtain ⟨r, hr⟩ := Int.eq_ofNat_of_zero_le (show 0 ≤ q by omega)
    have hd : decide (q < 0) = false := decide_eq_false hn
    have hqq : x.tmod m = q := hq.symm
    clear hq
    go_enter Tryz.func12, Tryz.ntmps12
    go_wp2_with fail
    go_ret
    exact ⟨r, by first | rfl | (rw [hr]), by omega, rfl⟩
theorem smul_limb {x y z cy hi lo l1 c1 l2 c2 : Nat} (hx : x < B64) (hy : y < B64) (hz : z < B64) (hc : cy < B64) (h1 : x * y = lo + B64 * hi) (h2 : lo + cy + 0 = l1 + B64 * c1) (h3 : z + B64 * c2 = l2 + l1 + 0) (hc2 : c2 ≤ 1) (hl2 : l2 < B64) (_hl1 : l1 < B64) :
    hi + c1 < B64 ∧ hi + c1 + c2 < B64 ∧ l2 + x * y + cy = z + B64 * (hi + c1 + c2) := by
  have e0 : x * y + cy = l1 + B64 * (hi + c1) := by rw [Nat.mul_add]; omega
  have e : l2 + x * y + cy = z + B64 * (hi + c1 + c2) := by rw [Nat.mul_add]; omega
  have a1 : x * y ≤ (B64 - 1) * (B64 - 1) := Nat.mul_le_mul (by omega) (by omega)
  have a2 : (B64 - 1) * (B64 - 1) + (B64 - 1) = B64 * (B64 - 1) := by decide
  have a3 : B64 * (hi + c1) + l1 ≤ B64 * (B64 - 1) := by omega
  have a4 : hi + c1 ≤ B64 - 1 := Nat.le_of_mul_le_mul_left (by omega : B64 * (hi + c1) ≤ B64 * (B64 - 1)) B64_pos
  have hp := B64_pos
  refine ⟨by omega, ?_, e⟩
  by_cases hh : hi + c1 = B64 - 1
  · rw [hh] at a3
    have : l1 = 0 := by omega
    have : c2 = 0 := by
      rcases Nat.eq_zero_or_pos c2 with h | h
      · exact h
      · have : c2 = 1 := by omega
        subst this; omega
    omega
  · omega

structure SubMulRel (w : World) (g off m : Nat) (zs ys : List Nat) (v k cy : Nat) (dk : List Nat) (wr : World) : Prop where
  wrs : Wr g off m w wr
  row : Row wr g off m dk
  hi : dk.drop k = zs.drop k
  car : cy < B64
  sum : valB B64 (zs.take k) + B64 ^ k * cy = valB B64 (dk.take k) + valB B64 (ys.take k) * v

theorem SubMulRel.step {w : World} {g off m : Nat} {zs ys : List Nat} {v k cy : Nat} {dk : List Nat} {wr : World} (h : SubMulRel w g off m zs ys v k cy dk wr) (hk : k < m)
    {x z l d : Nat} (hz : z = dk.getD k 0) (hx : x = ys.getD k 0) (hs : l + x * v + cy = z + B64 * d) (hl : l < B64) (hd : d < B64) :
    SubMulRel w g off m zs ys v (k + 1) d (dk.set k l) (wr.setCell ⟨g, off + k, none⟩ (U l)) := by
  have hlen := h.row.len
  refine ⟨h.wrs.setCell (off + k) ⟨by omega, by omega⟩ _, h.row.set k l hk hl, ?_, hd, ?_⟩
  · rw [drop_set_lt]; exact drop_succ_of_drop h.hi
  · have hzz : z = zs.getD k 0 := hz.trans (getD_of_drop h.hi)
    rw [take_set_succ dk k l (by omega), valB_snoc, List.length_take, hlen, Nat.min_eq_left (by omega), valB_take_any _ zs k, valB_take_any _ ys k, ← hzz, ← hx, Nat.pow_succ, Nat.add_mul]
    have e1 := h.sum
    have e2 : B64 ^ k * (l + x * v + cy) = B64 ^ k * (z + B64 * d) := by rw [hs]
    rw [Nat.mul_add, Nat.mul_add, Nat.mul_add, ← Nat.mul_assoc] at e2
    have e3 : B64 ^ k * x * v = B64 ^ k * (x * v) := Nat.mul_assoc _ _ _
    have e4 : B64 ^ k * B64 * d = B64 ^ k * (B64 * d) := Nat.mul_assoc _ _ _
    rw [e3, e4]
    rw [← Nat.mul_assoc] at e2
    generalize B64 ^ k * x * v = X0 at *
    generalize B64 ^ k * (x * v) = X1 at *
    generalize B64 ^ k * B64 * d = X2 at *
    generalize B64 ^ k * (B64 * d) = X3 at *
    generalize B64 ^ k * z = X4 at *
    generalize B64 ^ k * cy = X5 at *
    generalize B64 ^ k * l = X6 at *
    omega

theorem smul_any (g off n c : Nat) (zs : List Nat) (p : Option Addr) (m d : Nat) (ys : List Nat) (v : Nat) (w : World) (hz : Row w g off m zs) (hmn : m ≤ n) (hnc : n ≤ c) (_hbig : c ≤ 9223372036854775807)
    (ha : At w p m d ys) (hv : v < B64) (hap : ∀ g2 off2, 0 < m → p = some ⟨g2, off2, none⟩ → g2 ≠ g ∨ off2 + m ≤ off ∨ off + m ≤ off2) :
    Calls Tryz.prog 95 #[.slice (some ⟨g, off, none⟩) n c, .slice p m d, U v] w fun e w' =>
      ∃ cy zs', e = .returned (U cy) ∧ cy < B64 ∧ Wr g off m w w' ∧ Row w' g off m zs' ∧ valB B64 zs + B64 ^ m * cy = valB B64 zs' + valB B64 ys * v := by
  have hl := hz.len; have al := ha.len; have acap := ha.cap; have abig := ha.big
  unfold maxLen at abig
  go_enter Tryz.func95, Tryz.ntmps95
  go_wp2_with fail
  go_loopw [7, 8, 9, 10, 11, 18] (fun cv _ _ _ _ i wr => ∃ (k cy : Nat) (dk : List Nat), k ≤ m ∧ i = .int .i64 k ∧ cv = U cy ∧ SubMulRel w g off m zs ys v k cy dk wr) (fun _ _ _ _ _ i _ => m - (intOf i).toNat)
  case atStart => exact ⟨0, 0, zs, Nat.zero_le _, rfl, rfl, ⟨Wr.refl _ _ _ _, hz, rfl, B64_pos, by simp [valB]⟩⟩
  case round =>
    obtain ⟨k, cy, dk, hk, rfl, rfl, hR⟩ := hrel
    by_cases hlt : k < m
    · obtain ⟨g2, off2, rfl, hc2⟩ := ha.cells.resolve_left (by omega)
      obtain ⟨z, hzz⟩ : ∃ z, z = dk.getD k 0 := ⟨_, rfl⟩
      obtain ⟨x, hx⟩ : ∃ x, x = ys.getD k 0 := ⟨_, rfl⟩
      have hcz : wr.cell? ⟨g, off + k, none⟩ = some (U z) := by rw [hzz]; exact hR.row.cell k (by omega)
      have hfz : wr.frozen? ⟨g, off + k, none⟩ = false := hR.row.frozen k (by omega)
      have hcx : wr.cell? ⟨g2, off2 + k, none⟩ = some (U x) := by
        rw [hx, hR.wrs.cell g2 (off2 + k) (by have := hap g2 off2 (by omega) rfl; omega)]; exact hc2 k hlt
      have hzb : z < B64 := by rw [hzz]; exact hR.row.dig.getD B64_pos k
      have hxb : x < B64 := by rw [hx]; exact ha.dig.getD B64_pos k
      obtain ⟨hi, lo, hmul, em, hlo⟩ := mul64_ex x v hxb hv
      obtain ⟨l1, c1, hrun10, e1, hl1, hc1⟩ := add64_ex lo cy 0 hlo hR.car (by omega)
      obtain ⟨l2, c2, hrun20, e2, hl2, hc2'⟩ := sub64_ex z l1 0 hzb hl1 (by omega)
      obtain ⟨hfit0, hfit, hsum⟩ := smul_limb hxb hv hzb hR.car em e1 e2 hc2' hl2 hl1
      have hrun1 : ∀ w : World, (callFunc 76 #[U lo, U cy, .int .u64 0]).run Tryz.prog w = .ok (.value (.tuple #[U l1, U c1])) w := hrun10
      have hrun2 : ∀ w : World, (callFunc 96 #[U z, U l1, .int .u64 0]).run Tryz.prog w = .ok (.value (.tuple #[U l2, U c2])) w := hrun20
      have hf0 : hi + c1 ≤ 18446744073709551615 := by rw [B64_eq] at hfit0; omega
      have hf1 : hi + c1 + c2 ≤ 18446744073709551615 := by rw [B64_eq] at hfit; omega
      have HR : Hid (SubMulRel w g off m zs ys v k cy dk wr) := hR
      have HX : Hid (x = ys.getD k 0) := hx
      have HZ : Hid (z = dk.getD k 0) := hzz
      have HS : Hid (l2 + x * v + cy = z + B64 * (hi + c1 + c2)) := hsum
      have HM : Hid (∀ w : World, Calls Tryz.prog 82 #[U x, U v] w fun e w' => e = .returned (.tuple #[U hi, U lo]) ∧ w' = w) := hmul
      clear hR hx hzz hsum hmul hc2 hrun10 hrun20 em e1 e2 hc1 hc2'
      go_wp2_with (go_at_call 82; refine (HM.out _).mono ?_; rintro e w' ⟨rfl, hw⟩; obtain rfl := hw.symm; clear hw)
      go_roundw
      case rel => exact ⟨k + 1, hi + c1 + c2, dk.set k l2, by omega, by go_num, by go_num, HR.out.step hlt HZ.out HX.out HS.out hl2 hfit⟩
      case measure => simp [intOf]; omega
    · obtain rfl : k = m := by omega
      have HR : Hid (SubMulRel w g off k zs ys v k cy dk wr) := hR
      clear hR
      go_wp2_with fail
      go_ret
      have hh := HR.out
      have h1 := hh.sum
      have h2 := hh.row.len
      rw [List.take_of_length_le (by omega), List.take_of_length_le (by omega), List.take_of_length_le (by omega)] at h1
      exact ⟨cy, dk, rfl, hh.car, hh.wrs, hh.row, h1⟩
theorem valB_top {xs : List Nat} {n : Nat} (hl : xs.length = n + 1) : valB B64 xs = valB B64 (xs.take n) + B64 ^ n * xs.getD n 0 := by
  have h := valB_take_succ B64 xs n (by omega)
  rw [List.take_of_length_le (by omega)] at h; exact h
theorem take_len_lt {xs : List Nat} (hd : Dig B64 xs) {n : Nat} (hn : n ≤ xs.length) : valB B64 (xs.take n) < B64 ^ n := by
  have := valB_lt B64_pos (hd.take n)
  rw [List.length_take, Nat.min_eq_left hn] at this; exact this

theorem trial_top {P L M T V W D q : Nat} (hW : W = L + P * T) (hL : L < P) (hD : D = M + P * V) (hq : q * D ≤ W) : q * V ≤ T := by
  have h1 : P * (q * V) ≤ q * D := by rw [hD, Nat.mul_add, Nat.mul_left_comm]; exact Nat.le_add_left _ _
  have h2 : P * (q * V) < P * (T + 1) := by rw [Nat.mul_add, Nat.mul_one]; omega
  have := Nat.lt_of_mul_lt_mul_left h2
  omega
theorem trial_first {q f s w0 w1 w2 : Nat} (hw0 : w0 < B64) (h : q * (s + B64 * f) ≤ w0 + B64 * (w1 + B64 * w2)) : q * f ≤ w1 + B64 * w2 := by
  have h1 : q * (s + B64 * f) = q * s + B64 * (q * f) := by rw [Nat.mul_add, Nat.mul_left_comm]
  have h2 : B64 * (q * f) < B64 * (w1 + B64 * w2 + 1) := by rw [Nat.mul_add B64 _ 1, Nat.mul_one]; omega
  have := Nat.lt_of_mul_lt_mul_left h2
  omega
theorem trial_step {q d l f s w0 w1 w2 : Nat} (h : q * (s + B64 * f) ≤ w0 + B64 * (w1 + B64 * w2)) (hi : d * f + l = w1 + B64 * w2) (hg : l * B64 + w0 < d * s) : q < d := by
  have h1 : d * (s + B64 * f) = d * s + B64 * (d * f) := by rw [Nat.mul_add, Nat.mul_left_comm]
  have h2 : B64 * (d * f) + B64 * l = B64 * (w1 + B64 * w2) := by rw [← Nat.mul_add, hi]
  have h3 : l * B64 = B64 * l := Nat.mul_comm _ _
  have h4 : q * (s + B64 * f) < d * (s + B64 * f) := by omega
  exact Nat.lt_of_mul_lt_mul_right h4
structure TrialC (ws ds : List Nat) (n w0 w1 w2 s f q : Nat) : Prop where
  e0 : w0 = ws.getD (n - 2) 0
  e1 : w1 = ws.getD (n - 1) 0
  e2 : w2 = ws.getD n 0
  es : s = ds.getD (n - 2) 0
  ef : f = ds.getD (n - 1) 0
  b0 : w0 < B64
  b1 : w1 < B64
  b2 : w2 < B64
  bs : s < B64
  bf : f < B64
  top : q * (s + B64 * f) ≤ w0 + B64 * (w1 + B64 * w2)
  le : w2 ≤ f
  qb : q < B64
theorem TrialC.mk' {ws ds : List Nat} {n : Nat} (hn : 2 ≤ n) (lw : ws.length = n + 1) (ld : ds.length = n) (dw : Dig B64 ws) (dd : Dig B64 ds) (hlt : valB B64 ws < B64 * valB B64 ds) :
    ∃ w0 w1 w2 s f, TrialC ws ds n w0 w1 w2 s f (valB B64 ws / valB B64 ds) := by
  obtain ⟨k, rfl⟩ : ∃ k, n = k + 2 := ⟨n - 2, by omega⟩
  have a1 := valB_top lw
  have a2 := valB_take_succ B64 ws (k + 1) (by omega)
  have a3 := valB_take_succ B64 ws k (by omega)
  have c1 := valB_top (xs := ds) (n := k + 1) (by omega)
  have c2 := valB_take_succ B64 ds k (by omega)
  have hL := take_len_lt dw (n := k) (by omega)
  have hM := take_len_lt dd (n := k) (by omega)
  have hP : 0 < B64 ^ k := Nat.pow_pos B64_pos
  have b0 := dw.getD B64_pos k; have b1 := dw.getD B64_pos (k + 1); have b2 := dw.getD B64_pos (k + 2)
  have bs := dd.getD B64_pos k; have bf := dd.getD B64_pos (k + 1)
  have hW : valB B64 ws = valB B64 (ws.take k) + B64 ^ k * (ws.getD k 0 + B64 * (ws.getD (k + 1) 0 + B64 * ws.getD (k + 2) 0)) := by
    rw [a1, a2, a3, show B64 ^ (k + 2) = B64 ^ k * B64 * B64 by rw [Nat.pow_succ, Nat.pow_succ], Nat.pow_succ]; simp only [Nat.mul_add, Nat.mul_assoc, Nat.add_assoc]
  have hD : valB B64 ds = valB B64 (ds.take k) + B64 ^ k * (ds.getD k 0 + B64 * ds.getD (k + 1) 0) := by
    rw [c1, c2, Nat.pow_succ]; simp only [Nat.mul_add, Nat.mul_assoc, Nat.add_assoc]
  refine ⟨_, _, _, _, _, rfl, rfl, rfl, rfl, rfl, b0, b1, b2, bs, bf, trial_top hW hL hD (Nat.div_mul_le_self _ _), ?_, Nat.div_lt_of_lt_mul (by rw [Nat.mul_comm]; exact hlt)⟩
  -- the top limb is at most the divisor's
  rw [hW, hD] at hlt
  show ws.getD (k + 2) 0 ≤ ds.getD (k + 1) 0
  by_cases hle : ws.getD (k + 2) 0 ≤ ds.getD (k + 1) 0
  · exact hle
  · exfalso
    have h1 : B64 * (ds.getD (k + 1) 0 + 1) ≤ B64 * ws.getD (k + 2) 0 := Nat.mul_le_mul_left _ (by omega)
    have h2 : B64 * (B64 * (ds.getD (k + 1) 0 + 1)) ≤ B64 * (B64 * ws.getD (k + 2) 0) := Nat.mul_le_mul_left _ h1
    have h3 : B64 * (ds.getD k 0 + 1 + B64 * ds.getD (k + 1) 0) ≤ B64 * (B64 * (ds.getD (k + 1) 0 + 1)) := Nat.mul_le_mul_left _ (by rw [Nat.mul_add]; omega)
    have h4 : B64 ^ k * (B64 * (ds.getD k 0 + 1 + B64 * ds.getD (k + 1) 0)) ≤ B64 ^ k * (ws.getD k 0 + B64 * (ws.getD (k + 1) 0 + B64 * ws.getD (k + 2) 0)) := Nat.mul_le_mul_left _ (by rw [Nat.mul_add B64 (ws.getD (k + 1) 0)]; omega)
    have h5 : B64 * (valB B64 (ds.take k) + B64 ^ k * (ds.getD k 0 + B64 * ds.getD (k + 1) 0)) ≤ B64 ^ k * (B64 * (ds.getD k 0 + 1 + B64 * ds.getD (k + 1) 0)) := by
      rw [Nat.mul_left_comm (B64 ^ k)]
      refine Nat.mul_le_mul_left _ ?_
      have : B64 ^ k * (ds.getD k 0 + 1 + B64 * ds.getD (k + 1) 0) = B64 ^ k * (ds.getD k 0 + B64 * ds.getD (k + 1) 0) + B64 ^ k := by
        rw [show ds.getD k 0 + 1 + B64 * ds.getD (k + 1) 0 = (ds.getD k 0 + B64 * ds.getD (k + 1) 0) + 1 by omega, Nat.mul_add, Nat.mul_one]
      omega
    omega

theorem toogreat_any (d s h l : Nat) (w : World) (hd : d < B64) (hs : s < B64) (hl : l < B64) :
    Calls Tryz.prog 94 #[U d, U s, U h, U l] w fun e w' => e = .returned (.bool (decide (h * B64 + l < d * s))) ∧ w' = w := by
  obtain ⟨hi, lo, hmul, em, hlo⟩ := mul64_ex d s hd hs
  obtain ⟨r, hr⟩ : ∃ r, r = decide (h * B64 + l < d * s) := ⟨_, rfl⟩
  rw [← hr]
  rw [em, Nat.mul_comm h B64] at hr
  have HM : Hid (∀ w : World, Calls Tryz.prog 82 #[U d, U s] w fun e w' => e = .returned (.tuple #[U hi, U lo]) ∧ w' = w) := hmul
  have HR : Hid (r = decide (B64 * h + l < lo + B64 * hi)) := hr
  clear hmul hr em
  by_cases h1 : h < hi
  · have h1' : decide ((h : Int) < (hi : Int)) = true := decide_eq_true (by omega)
    go_enter Tryz.func94, Tryz.ntmps94
    go_wp2_with (go_at_call 82; refine (HM.out _).mono ?_; rintro e w' ⟨rfl, hw⟩; obtain rfl := hw.symm; clear hw)
    go_ret
    refine ⟨ret_bool ?_, rfl⟩
    rw [HR.out]
    have : B64 * (h + 1) ≤ B64 * hi := Nat.mul_le_mul_left _ h1
    rw [Nat.mul_add] at this
    rw [decide_eq_true (by omega)]
  · have h1' : decide ((h : Int) < (hi : Int)) = false := decide_eq_false (by omega)
    by_cases h2 : hi = h
    · subst h2
      go_enter Tryz.func94, Tryz.ntmps94
      go_wp2_with (go_at_call 82; refine (HM.out _).mono ?_; rintro e w' ⟨rfl, hw⟩; obtain rfl := hw.symm; clear hw)
      go_ret
      refine ⟨ret_bool ?_, rfl⟩
      rw [HR.out]
      refine decide_eq_decide.2 ?_
      omega
    · have h2' : ((hi : Int) == (h : Int)) = false := by simp; omega
      go_enter Tryz.func94, Tryz.ntmps94
      go_wp2_with (go_at_call 82; refine (HM.out _).mono ?_; rintro e w' ⟨rfl, hw⟩; obtain rfl := hw.symm; clear hw)
      go_ret
      refine ⟨ret_bool ?_, rfl⟩
      rw [HR.out]
      have : B64 * (hi + 1) ≤ B64 * h := Nat.mul_le_mul_left _ (by omega)
      rw [Nat.mul_add] at this
      rw [decide_eq_false (by omega)]

theorem At.cellAt {w : World} {g off n c : Nat} {xs : List Nat} (h : At w (some ⟨g, off, none⟩) n c xs) (j : Nat) (hj : j < n) : w.cell? ⟨g, off + j, none⟩ = some (U (xs.getD j 0)) := by
  obtain ⟨g', o', he, hcell⟩ := h.cells.resolve_left (by omega)
  simp only [Option.some.injEq, Addr.mk.injEq, and_true] at he
  obtain ⟨rfl, rfl⟩ := he
  exact hcell j hj

structure TrialR (w1 w2 f q d l o : Nat) : Prop where
  qd : q ≤ d
  db : d < B64
  lb : l < B64
  ob : o ≤ 1
  sum : o = 0 → d * f + l = w1 + B64 * w2
theorem TrialR.down {w0 w1 w2 s f q d l o l' o' : Nat} (h : TrialR w1 w2 f q d l o) {ws ds : List Nat} {n : Nat} (c : TrialC ws ds n w0 w1 w2 s f q) (ho : o = 0) (hg : l * B64 + w0 < d * s) (ha : l + f + 0 = l' + B64 * o') (hl' : l' < B64) (ho' : o' ≤ 1) : 1 ≤ d ∧ TrialR w1 w2 f q (d - 1) l' o' := by
  have h1 := trial_step c.top (h.sum ho) hg
  have h2 := h.db
  refine ⟨by omega, by omega, by omega, hl', ho', fun h0 => ?_⟩
  subst h0
  have h3 := h.sum ho
  have h4 : d * f = (d - 1) * f + f := by rw [← Nat.succ_mul, show (d - 1).succ = d by omega]
  omega

theorem wrap_sub (n j : Nat) (h : j ≤ n) (hb : n ≤ 9223372036854775807) : IntKind.i64.wrap ((n : Int) - (j : Int)) = (n : Int) - (j : Int) := by
  simp [IntKind.wrap, IntKind.signed, IntKind.bits]
  omega

theorem quiet_of2 {P : Program} {f : FuncId} {args : Array Value} {w : World} {A n : Nat} {v : Value}
    (h : ∀ W : World, Calls P f args W fun e w' => e = .returned v ∧ ∃ m, w' = W.drewN m) : Calls P f args (w.drewN (A + n)) fun e w'' => e = .returned v ∧ ∃ m, w'' = w.drewN (A + m) :=
  (h _).mono fun _ _ ⟨he, m, hm⟩ => ⟨he, n + m, by rw [hm, drewN_two, Nat.add_assoc]⟩
theorem trial_any {gw ow cw gd od cd n : Nat} {ws ds : List Nat} {w : World} (hw : At w (some ⟨gw, ow, none⟩) (n + 1) cw ws) (hd : At w (some ⟨gd, od, none⟩) n cd ds) (hn : 2 ≤ n) (hlt : valB B64 ws < B64 * valB B64 ds) :
    Calls Tryz.prog 72 #[.slice (some ⟨gw, ow, none⟩) (n + 1 : Nat) cw, .slice (some ⟨gd, od, none⟩) n cd] w fun e w' =>
      ∃ d, e = .returned (U d) ∧ d < B64 ∧ valB B64 ws / valB B64 ds ≤ d ∧ ∃ r, w' = w.drewN r := by
  obtain ⟨w0, w1, w2, s, f, hC⟩ := TrialC.mk' hn hw.len hd.len hw.dig hd.dig hlt
  generalize valB B64 ws / valB B64 ds = q at *
  have c2 : w.cell? ⟨gw, ow + n, none⟩ = some (U w2) := by rw [hC.e2]; exact hw.cellAt n (by omega)
  have c1 : w.cell? ⟨gw, ow + (n - 1), none⟩ = some (U w1) := by rw [hC.e1]; exact hw.cellAt (n - 1) (by omega)
  have c0 : w.cell? ⟨gw, ow + (n - 2), none⟩ = some (U w0) := by rw [hC.e0]; exact hw.cellAt (n - 2) (by omega)
  have cf : w.cell? ⟨gd, od + (n - 1), none⟩ = some (U f) := by rw [hC.ef]; exact hd.cellAt (n - 1) (by omega)
  have cs : w.cell? ⟨gd, od + (n - 2), none⟩ = some (U s) := by rw [hC.es]; exact hd.cellAt (n - 2) (by omega)
  have b0 := hC.b0; have b1 := hC.b1; have bs := hC.bs; have bf := hC.bf; have le := hC.le; have qb := hC.qb
  have wcap := hw.cap; have wbig := hw.big; have dcap := hd.cap; have dbig := hd.big
  unfold maxLen at wbig dbig
  have HC : Hid (TrialC ws ds n w0 w1 w2 s f q) := hC
  clear hC hlt hw hd
  obtain ⟨nw, hnw⟩ : ∃ nw, nw = n + 1 := ⟨_, rfl⟩
  rw [← hnw] at wcap ⊢
  have hnl : n < nw := by omega
  have hwr1 : IntKind.i64.wrap ((n : Int) - 1) = (n : Int) - 1 := wrap_sub n 1 (by omega) (by omega)
  have hix1 : 1 ≤ (n : Int) ∧ (n : Int) - 1 < (nw : Int) := by omega
  have hwr2 : IntKind.i64.wrap ((n : Int) - 2) = (n : Int) - 2 := wrap_sub n 2 (by omega) (by omega)
  have hix2 : 2 ≤ (n : Int) ∧ (n : Int) - 2 < (nw : Int) := by omega
  clear hnw
  by_cases h2 : w2 < f
  · have h2' : decide ((w2 : Int) < (f : Int)) = true := decide_eq_true (by omega)
    have HQ : Hid (TrialR w1 w2 f q ((w2 * B64 + w1) / f) ((w2 * B64 + w1) % f) 0) := by
      have hf : 0 < f := by omega
      have t := trial_first b0 HC.out.top
      have e := Nat.div_add_mod (w2 * B64 + w1) f
      rw [Nat.mul_comm f] at e
      refine ⟨(Nat.le_div_iff_mul_le hf).2 (by rw [Nat.mul_comm w2]; omega), ?_, ?_, by omega, fun _ => ?_⟩
      · refine Nat.div_lt_of_lt_mul ?_
        have h3 : B64 * (w2 + 1) ≤ B64 * f := Nat.mul_le_mul_left _ h2
        rw [Nat.mul_add] at h3
        rw [Nat.mul_comm w2, Nat.mul_comm f]; omega
      · exact Nat.lt_trans (Nat.mod_lt _ hf) bf
      · rw [e, Nat.mul_comm w2]; omega
    have hdv : ∀ W : World, Calls Tryz.prog 43 #[U w2, U w1, U f] W fun e w' => e = .returned (.tuple #[U ((w2 * B64 + w1) / f), U ((w2 * B64 + w1) % f)]) ∧ ∃ r, w' = W.drewN r := fun W => div64_any w2 w1 f W h2 bf b1
    generalize (w2 * B64 + w1) / f = d0 at *
    generalize (w2 * B64 + w1) % f = l0 at *
    have HDV : Hid (∀ W : World, Calls Tryz.prog 43 #[U w2, U w1, U f] W fun e w' => e = .returned (.tuple #[U d0, U l0]) ∧ ∃ r, w' = W.drewN r) := hdv
    clear hdv
    go_enter Tryz.func72, Tryz.ntmps72
    go_wp2_with fail
    go_quiet (fail)
    go_wp2_with fail
    go_quiet (fail)
    go_wp2_with fail
    go_quiet ((go_at_call 43; exact quiet_of2 HDV.out))
    go_wp2_with fail
    go_loopw [8, 9, 10] (fun dv lv ov wr => ∃ (d l o : Nat), dv = U d ∧ lv = U l ∧ ov = U o ∧ TrialR w1 w2 f q d l o ∧ ∃ r, wr = w.drewN r) (fun dv _ _ _ => (intOf dv).toNat)
    case atStart => exact ⟨d0, l0, 0, rfl, rfl, rfl, HQ.out, _, drewN_two _ _ _⟩
    case round =>
      obtain ⟨d, l, o, rfl, rfl, rfl, hT, r, rfl⟩ := hrel
      have hob := hT.ob
      have hdb := hT.db
      have hlb := hT.lb
      obtain ⟨l2, o2, hadd, ea, hl2, ho2⟩ := add64_ex l f 0 hlb bf (by omega)
      have hadd' : ∀ w : World, (callFunc 76 #[U l, U f, .int .u64 0]).run Tryz.prog w = .ok (.value (.tuple #[U l2, U o2])) w := hadd
      have HT : Hid (TrialR w1 w2 f q d l o) := hT
      clear hT hadd
      by_cases h0 : o = 0
      · subst h0
        by_cases hg : l * B64 + w0 < d * s
        · have hdn := HT.out.down HC.out rfl hg ea hl2 ho2
          have h1d := hdn.1
          have HDN : Hid (TrialR w1 w2 f q (d - 1) l2 o2) := hdn.2
          have HG : Hid (∀ W : World, Calls Tryz.prog 94 #[U d, U s, U l, U w0] W fun e w' => e = .returned (.bool true) ∧ w' = W) := fun W => by
            have := toogreat_any d s l w0 W hdb bs b0
            rw [decide_eq_true hg] at this; exact this
          clear hdn hg ea
          go_wp2_with (go_at_call 94; refine (HG.out _).mono ?_; rintro e w' ⟨rfl, hw⟩; obtain rfl := hw.symm; clear hw)
          have ew : IntKind.u64.wrap ((d : Int) - 1) = ((d - 1 : Nat) : Int) := wrap_mod _ _ (by rw [B64_eq] at hdb; omega)
          rw [ew]
          exact ⟨⟨d - 1, l2, o2, rfl, rfl, rfl, HDN.out, r, rfl⟩, by simp [intOf]; omega⟩
        · have HG : Hid (∀ W : World, Calls Tryz.prog 94 #[U d, U s, U l, U w0] W fun e w' => e = .returned (.bool false) ∧ w' = W) := fun W => by
            have := toogreat_any d s l w0 W hdb bs b0
            rw [decide_eq_false hg] at this; exact this
          clear hg ea
          go_wp2_with (go_at_call 94; refine (HG.out _).mono ?_; rintro e w' ⟨rfl, hw⟩; obtain rfl := hw.symm; clear hw)
          go_ret
          exact ⟨d, rfl, hdb, HT.out.qd, r, rfl⟩
      · have h0' : ((o : Int) == 0) = false := by simp; omega
        go_wp2_with fail
        go_ret
        exact ⟨d, rfl, hdb, HT.out.qd, r, rfl⟩
  · have h2' : decide ((w2 : Int) < (f : Int)) = false := decide_eq_false (by omega)
    obtain ⟨l0, o0, hadd0, ea0, hl0, ho0⟩ := add64_ex w1 f 0 b1 bf (by omega)
    have hadd1 : ∀ w : World, (callFunc 76 #[U w1, U f, .int .u64 0]).run Tryz.prog w = .ok (.value (.tuple #[U l0, U o0])) w := hadd0
    have HQ : Hid (TrialR w1 w2 f q 18446744073709551615 l0 o0) := by
      refine ⟨by rw [B64_eq] at qb; omega, by decide, hl0, ho0, fun h0 => ?_⟩
      subst h0
      rw [B64_eq] at ea0 ⊢
      omega
    clear hadd0 ea0
    go_enter Tryz.func72, Tryz.ntmps72
    go_wp2_with fail
    go_quiet (fail)
    go_wp2_with fail
    go_quiet (fail)
    go_wp2_with fail
    go_loopw [8, 9, 10] (fun dv lv ov wr => ∃ (d l o : Nat), dv = U d ∧ lv = U l ∧ ov = U o ∧ TrialR w1 w2 f q d l o ∧ ∃ r, wr = w.drewN r) (fun dv _ _ _ => (intOf dv).toNat)
    case atStart => exact ⟨18446744073709551615, l0, o0, rfl, rfl, rfl, HQ.out, _, rfl⟩
    case round =>
      obtain ⟨d, l, o, rfl, rfl, rfl, hT, r, rfl⟩ := hrel
      have hob := hT.ob
      have hdb := hT.db
      have hlb := hT.lb
      obtain ⟨l2, o2, hadd, ea, hl2, ho2⟩ := add64_ex l f 0 hlb bf (by omega)
      have hadd' : ∀ w : World, (callFunc 76 #[U l, U f, .int .u64 0]).run Tryz.prog w = .ok (.value (.tuple #[U l2, U o2])) w := hadd
      have HT : Hid (TrialR w1 w2 f q d l o) := hT
      clear hT hadd
      by_cases h0 : o = 0
      · subst h0
        by_cases hg : l * B64 + w0 < d * s
        · have hdn := HT.out.down HC.out rfl hg ea hl2 ho2
          have h1d := hdn.1
          have HDN : Hid (TrialR w1 w2 f q (d - 1) l2 o2) := hdn.2
          have HG : Hid (∀ W : World, Calls Tryz.prog 94 #[U d, U s, U l, U w0] W fun e w' => e = .returned (.bool true) ∧ w' = W) := fun W => by
            have := toogreat_any d s l w0 W hdb bs b0
            rw [decide_eq_true hg] at this; exact this
          clear hdn hg ea
          go_wp2_with (go_at_call 94; refine (HG.out _).mono ?_; rintro e w' ⟨rfl, hw⟩; obtain rfl := hw.symm; clear hw)
          have ew : IntKind.u64.wrap ((d : Int) - 1) = ((d - 1 : Nat) : Int) := wrap_mod _ _ (by rw [B64_eq] at hdb; omega)
          rw [ew]
          exact ⟨⟨d - 1, l2, o2, rfl, rfl, rfl, HDN.out, r, rfl⟩, by simp [intOf]; omega⟩
        · have HG : Hid (∀ W : World, Calls Tryz.prog 94 #[U d, U s, U l, U w0] W fun e w' => e = .returned (.bool false) ∧ w' = W) := fun W => by
            have := toogreat_any d s l w0 W hdb bs b0
            rw [decide_eq_false hg] at this; exact this
          clear hg ea
          go_wp2_with (go_at_call 94; refine (HG.out _).mono ?_; rintro e w' ⟨rfl, hw⟩; obtain rfl := hw.symm; clear hw)
          go_ret
          exact ⟨d, rfl, hdb, HT.out.qd, r, rfl⟩
      · have h0' : ((o : Int) == 0) = false := by simp; omega
        go_wp2_with fail
        go_ret
        exact ⟨d, rfl, hdb, HT.out.qd, r, rfl⟩
theorem takemul_sum {n : Nat} {P W L D v top cy zs' t b : Nat} (hW : W = L + P * top) (h1 : L + P * cy = zs' + D * v) (h2 : top + B64 * b = t + cy + 0) (hP : P = B64 ^ n) : zs' + P * t + D * v = W + B64 ^ (n + 1) * b := by
  have e1 : P * (top + B64 * b) = P * (t + cy) := by rw [h2, Nat.add_zero]
  rw [Nat.mul_add, Nat.mul_add, ← Nat.mul_assoc] at e1
  rw [Nat.pow_succ, ← hP]
  omega
theorem set_snoc (zs : List Nat) (x y n : Nat) (hl : zs.length = n) : (zs ++ [x]).set n y = zs ++ [y] := by
  subst hl
  rw [List.set_append_right _ _ (Nat.le_refl _), Nat.sub_self]; rfl
theorem cut_top (g off n : Nat) (w : World) :
    Calls Tryz.prog 48 #[.slice (some ⟨g, off, none⟩) (n + 1 : Nat) (n + 1 : Nat), .int .i64 n] w fun e w' =>
      e = .returned (.tuple #[.slice (some ⟨g, off, none⟩) n n, .slice (some ⟨g, off + n, none⟩) 1 1]) ∧ ∃ r, w' = w.drewN r := by
  refine (cut_row g off (n + 1) (n + 1) n w (Nat.le_refl _) (by omega)).mono ?_
  rintro e w' ⟨rfl, hr⟩
  rw [cutOff_lt (by omega), show n + 1 - n = 1 by omega]
  exact ⟨rfl, hr⟩

theorem takemul_any {g off n cd v : Nat} {gd od : Nat} {ws ds : List Nat} {w : World} (hw : Row w g off (n + 1) ws) (hd : At w (some ⟨gd, od, none⟩) n cd ds) (hn : 2 ≤ n) (hn2 : n ≤ 8192) (hv : v < B64) (hne : gd ≠ g) :
    Calls Tryz.prog 73 #[.slice (some ⟨g, off, none⟩) (n + 1 : Nat) (n + 1 : Nat), .slice (some ⟨gd, od, none⟩) n cd, U v] w fun e w' =>
      ∃ b ws', e = .returned (.bool (decide (b = 1))) ∧ b ≤ 1 ∧ Wr g off (n + 1) w w' ∧ Row w' g off (n + 1) ws' ∧ valB B64 ws' + valB B64 ds * v = valB B64 ws + B64 ^ (n + 1) * b := by
  have hl := hw.len
  have hr0 := hw.take n (by omega)
  have hW := valB_top hl
  obtain ⟨top, htop⟩ : ∃ top, top = ws.getD n 0 := ⟨_, rfl⟩
  have htb : top < B64 := by rw [htop]; exact hw.dig.getD B64_pos n
  have hct : w.cell? ⟨g, off + n, none⟩ = some (U top) := by rw [htop]; exact hw.cell n (by omega)
  have hft : w.frozen? ⟨g, off + n, none⟩ = false := hw.frozen n (by omega)
  rw [← htop] at hW
  have HW : Hid (valB B64 ws = valB B64 (ws.take n) + B64 ^ n * top) := hW
  clear hW htop hl
  go_enter Tryz.func73, Tryz.ntmps73
  go_wp2_with fail
  refine (cut_top g off n w).mono ?_
  rintro e w1 ⟨rfl, r1, hw1⟩
  have hr1 : Row w1 g off n (ws.take n) := by rw [hw1]; exact hr0.drewN r1
  have hd1 : At w1 (some ⟨gd, od, none⟩) n cd ds := by rw [hw1]; exact hd.drewN r1
  have hct1 : w1.cell? ⟨g, off + n, none⟩ = some (U top) := by rw [hw1]; exact hct
  have hft1 : w1.frozen? ⟨g, off + n, none⟩ = false := by rw [hw1]; exact hft
  have hwr1 : Wr g off (n + 1) w w1 := by rw [hw1]; exact (Wr.refl _ _ _ _).drewN r1
  clear hw1 hct hft hr0 hw hd
  go_wp2_with fail
  refine (smul_any g off n n _ (some ⟨gd, od, none⟩) n cd ds v w1 hr1 (Nat.le_refl _) (Nat.le_refl _) (by omega) hd1 hv (fun g2 off2 _ he => by simp only [Option.some.injEq, Addr.mk.injEq, and_true] at he; exact .inl (by omega))).mono ?_
  rintro e w2 ⟨cy, zs', rfl, hcy, hwr2, hrow2, hsum⟩
  have HS : Hid (valB B64 (ws.take n) + B64 ^ n * cy = valB B64 zs' + valB B64 ds * v) := hsum
  have hct2 : w2.cell? ⟨g, off + n, none⟩ = some (U top) := by rw [hwr2.cell g (off + n) (by omega)]; exact hct1
  have hft2 : w2.frozen? ⟨g, off + n, none⟩ = false := by rw [hwr2.frozen]; exact hft1
  have hwr : Wr g off (n + 1) w w2 := hwr1.trans (hwr2.mono (Nat.le_refl _) (by omega))
  have hrow := hrow2.snoc hct2 hft2 htb
  have hzl := hrow2.len
  have HZ : Hid (zs'.length = n) := hzl
  obtain ⟨t, b, hsub0, hb, htb', hb1⟩ := sub64_ex top cy 0 htb hcy (by omega)
  have hsub : ∀ w : World, (callFunc 96 #[U top, U cy, .int .u64 0]).run Tryz.prog w = .ok (.value (.tuple #[U t, U b])) w := hsub0
  have HB : Hid (top + B64 * b = t + cy + 0) := hb
  clear hsum hr1 hd1 hct1 hft1 hwr1 hwr2 hrow2 hsub0 hb hzl
  go_wp2_with fail
  go_ret
  have hset := hrow.set n t (by omega) htb'
  rw [set_snoc _ _ _ _ HZ.out] at hset
  refine ⟨b, zs' ++ [t], ret_bool ?_, hb1, hwr.setCell (off + n) ⟨by omega, by omega⟩ _, hset, ?_⟩
  · rcases Nat.eq_zero_or_pos b with h | h
    · subst h; rfl
    · obtain rfl : b = 1 := by omega
      rfl
  · rw [valB_snoc, HZ.out]
    exact takemul_sum HW.out HS.out HB.out rfl
structure WinRel (w : World) (g off n : Nat) (W D d b : Nat) (ws : List Nat) (wr : World) : Prop where
  wrs : Wr g off (n + 1) w wr
  row : Row wr g off (n + 1) ws
  db : d < B64
  bb : b ≤ 1
  ge : W / D ≤ d
  sum : valB B64 ws + D * d = W + B64 ^ (n + 1) * b
theorem WinRel.done {w : World} {g off n W D d : Nat} {ws : List Nat} {wr : World} (h : WinRel w g off n W D d 0 ws wr) (hD : 0 < D) : d = W / D ∧ valB B64 ws = W % D := by
  have h1 := h.sum; have h2 := h.ge
  rw [Nat.mul_zero, Nat.add_zero] at h1
  have h3 : d ≤ W / D := (Nat.le_div_iff_mul_le hD).2 (by rw [Nat.mul_comm]; omega)
  have h4 : d = W / D := by omega
  refine ⟨h4, ?_⟩
  have h5 := Nat.div_add_mod W D
  rw [← h4] at h5
  omega
theorem WinRel.more {w : World} {g off n W D d : Nat} {ws : List Nat} {wr wr' : World} (h : WinRel w g off n W D d 1 ws wr) {cy : Nat} {ws' : List Nat} (hcy : cy ≤ 1) (hwr : Wr g off (n + 1) wr wr') (hrow : Row wr' g off (n + 1) ws') (hs : valB B64 ws' + B64 ^ (n + 1) * cy = valB B64 ws + D) :
    1 ≤ d ∧ W / D ≤ d - 1 ∧ WinRel w g off n W D (d - 1) (1 - cy) ws' wr' := by
  have h1 := h.sum; have h2 := h.ge; have h3 := h.db
  have hl := valB_lt B64_pos h.row.dig
  rw [h.row.len] at hl
  rw [Nat.mul_one] at h1
  have hgt : W < D * d := by omega
  have hd : 1 ≤ d := by
    rcases Nat.eq_zero_or_pos d with e | e
    · subst e; simp at hgt
    · exact e
  have hlt : W / D < d := Nat.div_lt_of_lt_mul hgt
  have e4 : D * d = D * (d - 1) + D := by rw [← Nat.mul_succ, show (d - 1).succ = d by omega]
  refine ⟨hd, by omega, h.wrs.trans hwr, hrow, by omega, by omega, by omega, ?_⟩
  rcases Nat.eq_zero_or_pos cy with e | e
  · subst e; rw [Nat.mul_zero, Nat.add_zero] at hs; rw [Nat.sub_zero, Nat.mul_one]; omega
  · obtain rfl : cy = 1 := by omega
    rw [Nat.mul_one] at hs; rw [Nat.sub_self, Nat.mul_zero]; omega

structure DigRel (w : World) (gq gr L n : Nat) (A D : Nat) (k : Nat) (qs rs : List Nat) (wr : World) : Prop where
  bel : ∀ B, B ≤ gq → B ≤ gr → Below B w wr
  rowq : Row wr gq 0 L qs
  rowr : Row wr gr 0 (L + n) rs
  cell : ∀ b o, b ≠ gq → b ≠ gr → wr.cell? ⟨b, o, none⟩ = w.cell? ⟨b, o, none⟩
  lt : valB B64 (rs.drop (L - k)) < D
  sum : valB B64 rs + B64 ^ (L - k) * valB B64 (qs.drop (L - k)) * D = A

theorem win_take (rs : List Nat) (a m : Nat) (h : a + m ≤ rs.length) : valB B64 rs = valB B64 (rs.take a) + B64 ^ a * (valB B64 ((rs.drop a).take m) + B64 ^ m * valB B64 (rs.drop (a + m))) := by
  rw [valB_split B64 rs a (by omega), valB_split B64 (rs.drop a) m (by rw [List.length_drop]; omega), List.drop_drop]
def winPut (rs ws : List Nat) (a : Nat) : List Nat := rs.take a ++ ws ++ rs.drop (a + ws.length)
theorem winPut_len (rs ws : List Nat) (a : Nat) (h : a + ws.length ≤ rs.length) : (winPut rs ws a).length = rs.length := by
  unfold winPut; simp; omega
theorem winPut_drop (rs ws : List Nat) (a : Nat) (h : a + ws.length ≤ rs.length) : (winPut rs ws a).drop a = ws ++ rs.drop (a + ws.length) := by
  unfold winPut
  rw [List.append_assoc, List.drop_append_of_le_length (by simp; omega), List.drop_of_length_le (by simp; omega), List.nil_append]
theorem winPut_take (rs ws : List Nat) (a : Nat) (h : a + ws.length ≤ rs.length) : (winPut rs ws a).take a = rs.take a := by
  unfold winPut
  rw [List.append_assoc, List.take_append_of_le_length (by simp; omega), List.take_take, Nat.min_self]
theorem winPut_get (rs ws : List Nat) (a j : Nat) (h : a + ws.length ≤ rs.length) : (winPut rs ws a).getD j 0 = if a ≤ j ∧ j < a + ws.length then ws.getD (j - a) 0 else rs.getD j 0 := by
  unfold winPut
  rw [List.getD_eq_getElem?_getD, List.getElem?_append, List.getElem?_append]
  simp only [List.length_append, List.length_take, Nat.min_eq_left (by omega : a ≤ rs.length)]
  by_cases h1 : j < a
  · rw [if_pos (by omega), if_pos (by omega), List.getElem?_take, if_pos h1, if_neg (by omega), List.getD_eq_getElem?_getD]
  · by_cases h2 : j < a + ws.length
    · rw [if_pos h2, if_neg h1, if_pos ⟨by omega, h2⟩, List.getD_eq_getElem?_getD]
    · rw [if_neg h2, if_neg (by omega), List.getElem?_drop, List.getD_eq_getElem?_getD]
      congr 2; omega
theorem Row.win {w : World} {g m : Nat} {rs : List Nat} (h : Row w g 0 m rs) (a l : Nat) (ha : a + l ≤ m) : Row w g a l ((rs.drop a).take l) := by
  have hl := h.len
  refine ⟨by simp; omega, (h.dig.drop a).take l, fun j hj => ?_, fun j hj => ?_⟩
  · have e : ((rs.drop a).take l).getD j 0 = rs.getD (a + j) 0 := by
      rw [List.getD_eq_getElem?_getD, List.getD_eq_getElem?_getD, List.getElem?_take, if_pos hj, List.getElem?_drop]
    rw [e]
    have := h.cell (a + j) (by omega)
    rw [Nat.zero_add] at this; exact this
  · have := h.frozen (a + j) (by omega)
    rw [Nat.zero_add] at this; exact this
theorem Row.put {w w' : World} {g m a l : Nat} {rs ws : List Nat} (h : Row w g 0 m rs) (hwr : Wr g a l w w') (hr : Row w' g a l ws) (ha : a + l ≤ m) : Row w' g 0 m (winPut rs ws a) := by
  have hl := h.len; have hwl := hr.len
  have hle : a + ws.length ≤ rs.length := by omega
  refine ⟨by rw [winPut_len rs ws a hle]; exact hl, ?_, fun j hj => ?_, fun j hj => ?_⟩
  · unfold winPut; exact ((h.dig.take a).append hr.dig).append (h.dig.drop _)
  · rw [winPut_get rs ws a j hle, Nat.zero_add]
    by_cases hc : a ≤ j ∧ j < a + ws.length
    · rw [if_pos hc]
      have := hr.cell (j - a) (by omega)
      rw [show a + (j - a) = j by omega] at this; exact this
    · rw [if_neg hc, hwr.cell g j (by omega)]
      have := h.cell j hj
      rw [Nat.zero_add] at this; exact this
  · rw [hwr.frozen]; exact h.frozen j hj
theorem Row.other {w : World} {g off n : Nat} {xs : List Nat} (h : Row w g off n xs) (g2 o2 : Nat) (v : Value) (hne : g ≠ g2) : Row (w.setCell ⟨g2, o2, none⟩ v) g off n xs := by
  refine ⟨h.len, h.dig, fun j hj => ?_, fun j hj => by rw [World.frozen?_setCell]; exact h.frozen j hj⟩
  exact (World.cell?_setCell_other _ _ _ _ (by intro e; apply hne; have := congrArg Addr.block e; simp at this; omega)).trans (h.cell j hj)
theorem Row.wr {w w' : World} {g off n g2 o2 l2 : Nat} {xs : List Nat} (h : Row w g off n xs) (hwr : Wr g2 o2 l2 w w') (hne : g ≠ g2) : Row w' g off n xs :=
  ⟨h.len, h.dig, fun j hj => (hwr.cell g (off + j) (.inl hne)).trans (h.cell j hj), fun j hj => (hwr.frozen _).trans (h.frozen j hj)⟩
theorem At.wr {w w' : World} {g off n c g2 o2 l2 : Nat} {xs : List Nat} (h : At w (some ⟨g, off, none⟩) n c xs) (hwr : Wr g2 o2 l2 w w') (hne : g ≠ g2) : At w' (some ⟨g, off, none⟩) n c xs :=
  ⟨h.len, h.cap, h.big, h.dig, by
    rcases h.cells with h0 | ⟨g', o', he, hc⟩
    · exact .inl h0
    · refine .inr ⟨g', o', he, fun j hj => ?_⟩
      simp only [Option.some.injEq, Addr.mk.injEq, and_true] at he
      rw [← he.1, ← he.2] at hc ⊢
      exact (hwr.cell g (off + j) (.inl hne)).trans (hc j hj)⟩
theorem At.cells_of {w w' : World} {g off n c : Nat} {xs : List Nat} (h : At w (some ⟨g, off, none⟩) n c xs) (hc : ∀ o, w'.cell? ⟨g, o, none⟩ = w.cell? ⟨g, o, none⟩) : At w' (some ⟨g, off, none⟩) n c xs :=
  ⟨h.len, h.cap, h.big, h.dig, by
    rcases h.cells with h0 | ⟨g', o', he, hcl⟩
    · exact .inl h0
    · refine .inr ⟨g', o', he, fun j hj => ?_⟩
      simp only [Option.some.injEq, Addr.mk.injEq, and_true] at he
      rw [← he.1, ← he.2] at hcl ⊢
      exact (hc (off + j)).trans (hcl j hj)⟩

theorem dig_abs {P W q r D T Q A : Nat} (hW : q * D + r = W) (h : T + P * W + P * B64 * Q * D = A) : T + P * r + P * (q + B64 * Q) * D = A := by
  subst hW
  have e1 : P * (q + B64 * Q) * D = P * (q * D) + P * B64 * Q * D := by
    rw [Nat.mul_add, Nat.add_mul, Nat.mul_assoc P q D, ← Nat.mul_assoc P B64 Q]
  rw [e1]
  rw [Nat.mul_add] at h
  omega
theorem DigRel.window {w : World} {gq gr L n A D k : Nat} {qs rs : List Nat} {wr : World} (h : DigRel w gq gr L n A D k qs rs wr) (hk : k < L) (hDn : D < B64 ^ n) :
    ∃ a ws, a = L - 1 - k ∧ ws = (rs.drop a).take (n + 1) ∧ Row wr gr a (n + 1) ws ∧ valB B64 ws < B64 * D ∧ valB B64 rs = valB B64 (rs.take a) + B64 ^ a * valB B64 ws ∧ valB B64 (rs.drop (a + (n + 1))) = 0 := by
  have hl := h.rowr.len
  obtain ⟨a, ha⟩ : ∃ a, a = L - 1 - k := ⟨_, rfl⟩
  have hlt := h.lt
  rw [show L - k = a + 1 by omega] at hlt
  have hz : valB B64 (rs.drop (a + (n + 1))) = 0 := by
    have hs := valB_split B64 (rs.drop (a + 1)) n (by rw [List.length_drop]; omega)
    rw [List.drop_drop, show a + 1 + n = a + (n + 1) by omega] at hs
    rcases Nat.eq_zero_or_pos (valB B64 (rs.drop (a + (n + 1)))) with e | e
    · exact e
    · exfalso
      have : B64 ^ n * 1 ≤ B64 ^ n * valB B64 (rs.drop (a + (n + 1))) := Nat.mul_le_mul_left _ e
      omega
  have hw := win_take rs a (n + 1) (by omega)
  rw [hz, Nat.mul_zero, Nat.add_zero] at hw
  refine ⟨a, _, ha, rfl, h.rowr.win a (n + 1) (by omega), ?_, hw, hz⟩
  have hs := valB_split B64 (rs.drop a) (n + 1) (by rw [List.length_drop]; omega)
  rw [List.drop_drop, hz, Nat.mul_zero, Nat.add_zero] at hs
  rw [← hs, valB_drop B64 rs a (by omega)]
  have hb := h.rowr.dig.getD B64_pos a
  have : B64 * (valB B64 (rs.drop (a + 1)) + 1) ≤ B64 * D := Nat.mul_le_mul_left _ hlt
  rw [Nat.mul_add] at this
  omega
theorem DigRel.step {w : World} {gq gr L n A D k : Nat} {qs rs : List Nat} {wr wr' : World} (h : DigRel w gq gr L n A D k qs rs wr) (hk : k < L) (hne : gq ≠ gr) {a q : Nat} {ws ws' : List Nat} (ha : a = L - 1 - k)
    (hrs : valB B64 rs = valB B64 (rs.take a) + B64 ^ a * valB B64 ws) (hz : valB B64 (rs.drop (a + (n + 1))) = 0) (hD : 0 < D) (hq : q = valB B64 ws / D) (hqb : q < B64) (hr : valB B64 ws' = valB B64 ws % D)
    (hwr : Wr gr a (n + 1) wr wr') (hrow : Row wr' gr a (n + 1) ws') : DigRel w gq gr L n A D (k + 1) (qs.set a q) (winPut rs ws' a) (wr'.setCell ⟨gq, a, none⟩ (U q)) := by
  have hl := h.rowr.len; have hql := h.rowq.len; have hwl := hrow.len
  have hle : a + ws'.length ≤ rs.length := by omega
  have e1 : L - (k + 1) = a := by omega
  have e2 : L - k = a + 1 := by omega
  have hdrop : valB B64 ((winPut rs ws' a).drop a) = valB B64 ws % D := by
    rw [winPut_drop rs ws' a hle, valB_append, hwl, hz, Nat.mul_zero, Nat.add_zero, hr]
  refine ⟨fun B h1 h2 => ?_, ?_, ?_, fun b o h1 h2 => ?_, ?_, ?_⟩
  · exact ((h.bel B h1 h2).trans (hwr.below h2)).trans ((Wr.refl gq 0 L wr').setCell a ⟨by omega, by omega⟩ (U q) |>.below h1)
  · have := (h.rowq.wr hwr hne).set a q (by omega) hqb
    rw [Nat.zero_add] at this; exact this
  · exact (h.rowr.put hwr hrow (by omega)).other gq a _ (Ne.symm hne)
  · rw [World.cell?_setCell_other _ _ _ _ (by intro e; apply h1; have := congrArg Addr.block e; simp at this; omega), hwr.cell b o (.inl h2)]
    exact h.cell b o h1 h2
  · rw [e1, hdrop]; exact Nat.mod_lt _ hD
  · have hs := h.sum
    rw [e2, hrs, Nat.pow_succ] at hs
    rw [e1, valB_split B64 (winPut rs ws' a) a (by rw [winPut_len rs ws' a hle]; omega), winPut_take rs ws' a hle, hdrop, drop_set_at qs a q (by omega), valB_cons]
    refine dig_abs (W := valB B64 ws) (q := q) ?_ hs
    rw [hq, Nat.mul_comm]; exact Nat.div_add_mod _ _

theorem takedig_any {gq gr gd od cd L n : Nat} {qs rs ds : List Nat} {w : World} (hq : Row w gq 0 L qs) (hr : Row w gr 0 (L + n) rs) (hd : At w (some ⟨gd, od, none⟩) n cd ds) (hqr : gq ≠ gr) (hdq : gd ≠ gq) (hdr : gd ≠ gr) (hn : 2 ≤ n) (hn2 : n ≤ 8192) (hL : L ≤ 8193) (hlt : valB B64 (rs.drop L) < valB B64 ds) :
    Calls Tryz.prog 47 #[.slice (some ⟨gq, 0, none⟩) L L, .slice (some ⟨gr, 0, none⟩) (L + n : Nat) (L + n : Nat), .slice (some ⟨gd, od, none⟩) n cd] w fun e w' =>
      ∃ qs' rs', e = .returned (.tuple #[]) ∧ (∀ B, B ≤ gq → B ≤ gr → Below B w w') ∧ Row w' gq 0 L qs' ∧ Row w' gr 0 (L + n) rs' ∧ valB B64 rs' < valB B64 ds ∧ valB B64 rs' + valB B64 qs' * valB B64 ds = valB B64 rs := by
  have hDn := valB_lt B64_pos hd.dig
  rw [hd.len] at hDn
  have hD : 0 < valB B64 ds := by omega
  have dcap := hd.cap; have dbig := hd.big
  unfold maxLen at dbig
  have HD0 : Hid (At w (some ⟨gd, od, none⟩) n cd ds) := hd
  have HDN : Hid (valB B64 ds < B64 ^ n) := hDn
  have HDP : Hid (0 < valB B64 ds) := hD
  have HR0 : Hid (DigRel w gq gr L n (valB B64 rs) (valB B64 ds) 0 qs rs w) := by
    refine ⟨fun B _ _ => Below.refl _ _, hq, hr, fun _ _ _ _ => rfl, by rw [Nat.sub_zero]; exact hlt, ?_⟩
    rw [Nat.sub_zero, List.drop_of_length_le (by rw [hq.len]; omega)]; simp [valB]
  clear hq hr hd hDn hD hlt
  obtain ⟨m, hm⟩ : ∃ m, m = L + n := ⟨_, rfl⟩
  rw [← hm]
  have hm1 : L + n ≤ m := by omega
  have hm2 : m ≤ L + n := by omega
  have HM : Hid (m = L + n) := hm
  clear hm
  go_enter Tryz.func47, Tryz.ntmps47
  go_wp2
  go_step3
  go_wp2
  go_step3
  go_wp2
  go_loopg [16] L (fun gk i wr => ∃ (k : Nat) (qk rk : List Nat), k + gk = L ∧ i = .int .i64 k ∧ Hid (DigRel w gq gr L n (valB B64 rs) (valB B64 ds) k qk rk wr))
  case atStart => exact ⟨0, qs, rs, by omega, rfl, HR0⟩
  case round =>
    obtain ⟨k, qk, rk, hkg, rfl, HR⟩ := hrel
    cases gk with
    | zero =>
      have hkz : ¬ ((k : Int) < (L : Int)) := by omega
      obtain rfl : k = L := by omega
      clear hkg
      go_wp2
      try rw [Exit.noGoto_ret]
      go_end0
      have hh := HR.out
      have hs := hh.sum; have hlt := hh.lt
      rw [Nat.sub_self, List.drop_zero] at hlt
      rw [Nat.sub_self, List.drop_zero, Nat.pow_zero, Nat.one_mul] at hs
      have hrr := hh.rowr
      rw [← HM.out] at hrr
      exact ⟨qk, rk, rfl, hh.bel, hh.rowq, hrr, hlt, hs⟩
    | succ gg =>
      obtain ⟨wo, hwo⟩ : ∃ wo, wo = wr := ⟨_, rfl⟩
      subst hwo
      have hkz : (k : Int) < (L : Int) := by omega
      obtain ⟨a, ws, ha, hws, hrow, hwlt, hrs, hz⟩ := HR.out.window (by omega) HDN.out
      have HD1 : Hid (At wo (some ⟨gd, od, none⟩) n cd ds) := HD0.out.cells_of (fun o => HR.out.cell gd o hdq hdr)
      have HAW : Hid (a = L - 1 - k) := ha
      have HWS : Hid (valB B64 rk = valB B64 (rk.take a) + B64 ^ a * valB B64 ws) := hrs
      have HZ : Hid (valB B64 (rk.drop (a + (n + 1))) = 0) := hz
      have HROW : Hid (Row wo gr a (n + 1) ws) := hrow
      have HWL : Hid (valB B64 ws < B64 * valB B64 ds) := hwlt
      have hal : a < L := by omega
      have hea : L - 1 - k = a := ha.symm
      have HEA : Hid (L - 1 - k = a) := hea
      clear ha hws hrs hz hrow hwlt hea
      go_wp2_with fail
      rw [show L - 1 - k + n + 1 - (L - 1 - k) = n + 1 by omega, HEA.out]
      refine (trial_any (HROW.out.at_ (Nat.le_refl _) (by unfold maxLen; omega)) HD1.out hn HWL.out).mono ?_
      rintro e w1 ⟨d, rfl, hdb, hqd, r1, hw1⟩
      have HR1 : Hid (Row w1 gr a (n + 1) ws) := by rw [hw1]; exact HROW.out.drewN r1
      have HD2 : Hid (At w1 (some ⟨gd, od, none⟩) n cd ds) := by rw [hw1]; exact HD1.out.drewN r1
      have HW1 : Hid (Wr gr a (n + 1) wo w1) := by rw [hw1]; exact (Wr.refl _ _ _ _).drewN r1
      have HQD : Hid (valB B64 ws / valB B64 ds ≤ d) := hqd
      clear hw1 hqd HROW HD1
      go_wp2_with fail
      refine (takemul_any HR1.out HD2.out hn hn2 hdb hdr).mono ?_
      rintro e w2 ⟨b, ws2, rfl, hb1, hwr2, hrow2, hsum2⟩
      have HWIN : Hid (WinRel wo gr a n (valB B64 ws) (valB B64 ds) d b ws2 w2) := ⟨HW1.out.trans hwr2, hrow2, hdb, hb1, HQD.out, hsum2⟩
      clear hwr2 hrow2 hsum2 HR1 HD2 HW1 HQD
      go_wp2_with fail
      go_loopg [10, 11] d (fun g2 dv bv wy => ∃ (bb : Nat) (wsy : List Nat), dv = U g2 ∧ bv = .bool (decide (bb = 1)) ∧ Hid (WinRel wo gr a n (valB B64 ws) (valB B64 ds) g2 bb wsy wy))
      case atStart => exact ⟨b, ws2, rfl, rfl, HWIN⟩
      case round =>
        obtain ⟨bb, wsy, rfl, rfl, HY⟩ := hrel
        have hob := HY.out.bb
        have hgb := HY.out.db
        rcases Nat.eq_zero_or_pos bb with h0 | h0
        · subst h0
          have hdone := HY.out.done HDP.out
          have HQ : Hid (gk = valB B64 ws / valB B64 ds) := hdone.1
          have HM2 : Hid (valB B64 wsy = valB B64 ws % valB B64 ds) := hdone.2
          have hrq := HR.out.rowq.wr HY.out.wrs hqr
          have hcq : wr.cell? ⟨gq, L - 1 - k, none⟩ = some (U (qk.getD (L - 1 - k) 0)) := by
            have := hrq.cell (L - 1 - k) (by omega)
            rw [Nat.zero_add] at this; exact this
          have hfq : wr.frozen? ⟨gq, L - 1 - k, none⟩ = false := by
            have := hrq.frozen (L - 1 - k) (by omega)
            rw [Nat.zero_add] at this; exact this
          clear hdone hrq
          go_wp2_with fail
          go_roundg gg
          case measure => omega
          case rel =>
            refine ⟨k + 1, qk.set a gk, winPut rk wsy a, by omega, by go_num, ?_⟩
            rw [HEA.out]
            exact HR.out.step (by omega) hqr HAW.out HWS.out HZ.out HDP.out HQ.out hgb HM2.out HY.out.wrs HY.out.row
        · obtain rfl : bb = 1 := by omega
          have HD3 : Hid (At wr (some ⟨gd, od, none⟩) n cd ds) := (HD0.out.cells_of (fun o => HR.out.cell gd o hdq hdr)).wr HY.out.wrs hdr
          go_wp2_with fail
          refine (ladd_any gr a (n + 1) (n + 1) wsy (some ⟨gd, od, none⟩) n cd ds wr HY.out.row (Nat.le_refl _) (by omega) HD3.out (by omega) (fun g2 off2 _ he => by simp only [Option.some.injEq, Addr.mk.injEq, and_true] at he; exact .inl (by omega))).mono ?_
          rintro e w3 ⟨cy, zs, rfl, hcy, hwr3, hrow3, hsum3⟩
          have hmore := HY.out.more hcy hwr3 hrow3 hsum3
          have hge := hmore.1
          have HMO : Hid (WinRel wo gr a n (valB B64 ws) (valB B64 ds) (gk - 1) (1 - cy) zs w3) := hmore.2.2
          clear hmore hwr3 hrow3 hsum3
          go_wp2_with fail
          go_roundg (gk - 1)
          case measure => omega
          case rel =>
            have ew : IntKind.u64.wrap ((gk : Int) - 1) = ((gk - 1 : Nat) : Int) := wrap_mod _ _ (by rw [B64_eq] at hgb; omega)
            refine ⟨1 - cy, zs, by rw [ew], ?_, HMO⟩
            rcases Nat.eq_zero_or_pos cy with h | h
            · subst h; rfl
            · obtain rfl : cy = 1 := by omega
              rfl
theorem no_over {P X c Y : Nat} (h : X + P * c = Y) (hY : Y < P) : X = Y := by
  rcases Nat.eq_zero_or_pos c with e | e
  · subst e; omega
  · have : P * 1 ≤ P * c := Nat.mul_le_mul_left _ e
    omega
theorem moved_any {p : Option Addr} {m c : Nat} {xs : List Nat} {w : World} (h : At w p m c xs) (n s : Nat) (hmn : m ≤ n) (hn : n ≤ 10000) (hs : s < 64) (hfit : 2 ^ s * valB B64 xs < B64 ^ n) :
    Calls Tryz.prog 46 #[.slice p m c, .int .i64 n, .int .i64 s] w fun e w' =>
      ∃ g zs, e = .returned (.slice (some ⟨g, 0, none⟩) n n) ∧ w.heap.size ≤ g ∧ g < w'.heap.size ∧ Row w' g 0 n zs ∧ valB B64 zs = 2 ^ s * valB B64 xs ∧ Below w.heap.size w w' := by
  obtain ⟨i0, hi, hz0, hz1, hz2⟩ := info_parts Tryz.infoU64
  have hl := h.len
  have HF : Hid (2 ^ s * valB B64 xs < B64 ^ n) := hfit
  clear hfit
  go_enter Tryz.func46, Tryz.ntmps46
  go_wp2_with (first
    | (at_make; refine wpList_make_full _ rfl _ _ 22 rfl w.heap.size 28 i0 (.int .u64 0) 1 Tryz.underlying22 hi hz0 hz1 _ _ _ _ n rfl rfl (by omega) (by omega) (by rw [hz2]; omega) (by unfold maxLen; omega) (Nat.le_refl _) ?_; intro w1 hown hgrow; have hb := made_blk hown hgrow; clear hown hgrow)
    | (refine wpList_copy_splice rfl (.tmp 10) (.tmp 11) 22 22 rfl 28 Tryz.underlying22 Tryz.sizeU64 (some ⟨w.heap.size, 0, none⟩) p n n m c rfl rfl w.heap.size 0 (cellsU (List.replicate n 0)) 28 hb.1 (cellsU xs) (by rw [cellsU_length, hl]; exact (Nat.min_eq_left hmn).symm) (fun h0 => ⟨rfl, (h.below hb.2).src (by rw [cellsU_length] at h0; omega)⟩) (by simp [cellsU_length]; omega) (cellsU_one xs) w.heap.size w hb.2 (Nat.le_refl _) ?_; intro w2 hg2 hb2))
  have hg3 : Blk w2 w.heap.size (xs ++ List.replicate (n - m) 0) := by
    have := hg2
    rw [splice_cellsU, hl] at this; exact this
  clear hg2 hb
  have hdz : Dig B64 (xs ++ List.replicate (n - m) 0) := dig_pad h.dig _
  have hr := hg3.row hdz
  have hlz : (xs ++ List.replicate (n - m) 0).length = n := by simp; omega
  rw [hlz] at hr
  refine (sup_gen w.heap.size n n s _ _ hr (Nat.le_refl _) (by omega) hs).mono ?_
  rintro e w3 ⟨zs, rfl, hwr, hrow, hval⟩
  rw [valB_append_zeros] at hval
  have HV : Hid (valB B64 zs = 2 ^ s * valB B64 xs) := no_over hval HF.out
  have hb3 : Below w.heap.size w w3 := hb2.trans (hwr.below (Nat.le_refl _))
  have hlt3 : w.heap.size < w3.heap.size := by rw [hwr.size]; exact hg3.lt
  clear hval hg3 hdz hr hlz hb2 hwr
  go_wp2_with fail
  go_ret
  exact ⟨_, zs, rfl, Nat.le_refl _, hlt3, hrow, HV.out, hb3⟩

theorem top_ne {ys : List Nat} {b n : Nat} (hy : Nf B64 ys b) (hl : ys.length = n) (h0 : 0 < n) : ys.getD (n - 1) 0 ≠ 0 := by
  refine hy.top _ ?_
  rw [List.getLast?_eq_getElem?, hl, List.getD_eq_getElem?_getD, List.getElem?_eq_getElem (by omega)]; rfl
theorem div_fit {ys : List Nat} {b n s : Nat} (hy : Nf B64 ys b) (hl : ys.length = n) (h0 : 0 < n) (hs : s + bitsN (ys.getD (n - 1) 0) = 64) : 2 ^ s * b < B64 ^ n := by
  obtain ⟨k, rfl⟩ : ∃ k, n = k + 1 := ⟨n - 1, by omega⟩
  rw [Nat.add_sub_cancel] at hs
  have h1 := valB_top hl
  have h2 := take_len_lt hy.dig (n := k) (by omega)
  rw [hy.val] at h1
  have h3 := bitsN_lt (ys.getD k 0)
  have h4 : 2 ^ s * (ys.getD k 0 + 1) ≤ 2 ^ s * 2 ^ bitsN (ys.getD k 0) := Nat.mul_le_mul_left _ h3
  rw [← Nat.pow_add, hs, show (2:Nat) ^ 64 = B64 from rfl] at h4
  have h5 : b < B64 ^ k * (ys.getD k 0 + 1) := by rw [Nat.mul_add, Nat.mul_one]; omega
  have h6 : 2 ^ s * b < 2 ^ s * (B64 ^ k * (ys.getD k 0 + 1)) := Nat.mul_lt_mul_of_pos_left h5 (Nat.two_pow_pos s)
  have h7 : B64 ^ k * (2 ^ s * (ys.getD k 0 + 1)) ≤ B64 ^ k * B64 := Nat.mul_le_mul_left _ h4
  rw [Nat.pow_succ]
  rw [Nat.mul_left_comm] at h6
  omega
theorem div_room {xs : List Nat} {a m s : Nat} (hx : Nf B64 xs a) (hl : xs.length = m) (hs : s < 64) : 2 ^ s * a < B64 ^ (m + 1) := by
  have h1 := valB_lt B64_pos hx.dig
  rw [hx.val, hl] at h1
  have h2 : (2:Nat) ^ s ≤ B64 := by rw [show B64 = 2 ^ 64 from rfl]; exact Nat.pow_le_pow_right (by omega) (by omega)
  have h3 : 2 ^ s * a ≤ B64 * a := Nat.mul_le_mul_right _ h2
  have h4 : B64 * a < B64 * B64 ^ m := Nat.mul_lt_mul_of_pos_left h1 B64_pos
  rw [Nat.pow_succ, Nat.mul_comm (B64 ^ m)]
  omega
theorem div_start {xs ys rs : List Nat} {a b m n s L : Nat} (hx : Nf B64 xs a) (hy : Nf B64 ys b) (hl : xs.length = m) (hm : ys.length = n) (h0 : 0 < n) (hL : L + n = m + 1) (hr : rs.length = m + 1) (hv : valB B64 rs = 2 ^ s * a) : valB B64 (rs.drop L) < 2 ^ s * b := by
  have h1 := valB_lt B64_pos hx.dig
  rw [hx.val, hl] at h1
  have h2 := valB_pos B64_pos (show ys ≠ [] by intro e; subst e; simp at hm; omega) hy.top
  rw [hy.val, hm] at h2
  have h3 := valB_split B64 rs L (by omega)
  have h4 : B64 ^ L * B64 ^ (n - 1) ≤ B64 ^ L * b := Nat.mul_le_mul_left _ h2
  rw [← Nat.pow_add, show L + (n - 1) = m by omega] at h4
  have h5 : 2 ^ s * a < 2 ^ s * (B64 ^ L * b) := Nat.mul_lt_mul_of_pos_left (by omega) (Nat.two_pow_pos s)
  rw [Nat.mul_left_comm] at h5
  exact Nat.lt_of_mul_lt_mul_left (a := B64 ^ L) (by omega)
theorem div_end {a b s Q r : Nat} (h : r + Q * (2 ^ s * b) = 2 ^ s * a) (hr : r < 2 ^ s * b) : Q = a / b ∧ r / 2 ^ s = a % b := by
  have hp := Nat.two_pow_pos s
  have e1 : Q * (2 ^ s * b) = 2 ^ s * (Q * b) := by rw [Nat.mul_left_comm]
  rw [e1] at h
  obtain ⟨r', hr'⟩ : ∃ r', r = 2 ^ s * r' := by
    refine ⟨a - Q * b, ?_⟩
    rw [Nat.mul_sub]; omega
  subst hr'
  have h2 : r' + Q * b = a := by
    rw [← Nat.mul_add] at h
    exact Nat.eq_of_mul_eq_mul_left hp h
  have h3 : r' < b := Nat.lt_of_mul_lt_mul_left hr
  have h4 := quo_unique (n := a) (q := Q) (y := b) (r := r') (by omega) h3
  refine ⟨h4.1, ?_⟩
  rw [Nat.mul_div_cancel_left _ hp]; exact h4.2

structure DivTo (w : World) (a b : Nat) (v1 v2 : Value) (w' : World) : Prop where
  quo : ∃ p m zs, v1 = .slice p m m ∧ Own w.heap.size w' p m zs ∧ Nf B64 zs (a / b) ∧ m ≤ 8192
  rem : ∃ p m zs, v2 = .slice p m m ∧ Own w.heap.size w' p m zs ∧ Nf B64 zs (a % b) ∧ m ≤ 8192
  bel : Below w.heap.size w w'

theorem divide_any {gp op gq oq : Nat} {m n c d : Nat} {xs ys : List Nat} {a b : Nat} {w : World} (h : At w (some ⟨gp, op, none⟩) m c xs) (k : At w (some ⟨gq, oq, none⟩) n d ys) (hx : Nf B64 xs a) (hy : Nf B64 ys b) (hm : m ≤ 8192) (hn : 2 ≤ n) (hnm : n ≤ m) :
    Calls Tryz.prog 17 #[.slice (some ⟨gp, op, none⟩) m c, .slice (some ⟨gq, oq, none⟩) n d] w fun e w' => ∃ v1 v2, e = .returned (.tuple #[v1, v2]) ∧ DivTo w a b v1 v2 w' := by
  obtain ⟨y, hyy⟩ : ∃ y, y = ys.getD (n - 1) 0 := ⟨_, rfl⟩
  have hyb : y < B64 := by rw [hyy]; exact hy.dig.getD B64_pos _
  have hy0 : y ≠ 0 := by rw [hyy]; exact top_ne hy k.len (by omega)
  have hb64 := bits64 hyb
  have hbp : 0 < bitsN y := by
    rcases Nat.eq_zero_or_pos (bitsN y) with e | e
    · exfalso
      have := bitsN_lt y
      rw [e] at this; simp at this; omega
    · exact e
  obtain ⟨s, hs⟩ : ∃ s, s + bitsN y = 64 := ⟨64 - bitsN y, by omega⟩
  have hs64 : s < 64 := by omega
  have cy : w.cell? ⟨gq, oq + (n - 1), none⟩ = some (U y) := by rw [hyy]; exact k.cellAt (n - 1) (by omega)
  have F1 : Hid (2 ^ s * valB B64 ys < B64 ^ n) := by
    have := div_fit hy k.len (by omega) (by rw [← hyy]; exact hs)
    rw [← hy.val] at this; exact this
  have F2 : Hid (2 ^ s * valB B64 xs < B64 ^ (m + 1)) := by
    have := div_room hx h.len hs64
    rw [← hx.val] at this; exact this
  have HX : Hid (Nf B64 xs a) := hx
  have HY : Hid (Nf B64 ys b) := hy
  have HS : Hid (s + bitsN y = 64) := hs
  have hlx := h.len; have hly := k.len
  have HLX : Hid (xs.length = m) := hlx
  have HLY : Hid (ys.length = n) := hly
  have kcap := k.cap; have kbig := k.big
  unfold maxLen at kbig
  have hwn : IntKind.i64.wrap ((n : Int) - 1) = (n : Int) - 1 := wrap_sub n 1 (by omega) (by omega)
  clear hx hy hyy hs hbp hb64 hlx hly
  go_enter Tryz.func17, Tryz.ntmps17
  go_wp2_with fail
  refine (lz_any y s w hyb HS.out).mono ?_
  rintro e w' ⟨rfl, hw⟩
  obtain rfl := hw.symm
  clear hw
  go_wp2_with fail
  refine (moved_any k n s (Nat.le_refl _) (by omega) hs64 F1.out).mono ?_
  rintro e w1 ⟨g1, zs1, rfl, hg1, hgl1, hrow1, hv1, hb1⟩
  have h1 := h.below hb1
  have HV1 : Hid (valB B64 zs1 = 2 ^ s * valB B64 ys) := hv1
  clear hv1 h k
  go_wp2_with fail
  rw [show ((m : Int) + 1) = ((m + 1 : Nat) : Int) by omega]
  refine (moved_any h1 (m + 1) s (by omega) (by omega) hs64 F2.out).mono ?_
  rintro e w2 ⟨g2, zs2, rfl, hg2, hgl2, hrow2, hv2, hb2⟩
  have hr1 := hrow1.below hb2 hgl1
  have HV2 : Hid (valB B64 zs2 = 2 ^ s * valB B64 xs) := hv2
  have hw2 := Below.on hb1 hb2
  clear hv2 h1 hrow1 hb1 hb2
  obtain ⟨i0, hi, hz0, hz1, hz2⟩ := info_parts Tryz.infoU64
  obtain ⟨L, hL⟩ : ∃ L, L = m - n + 1 := ⟨_, rfl⟩
  have HL : Hid (L = m - n + 1) := hL
  have hLi : (m : Int) - (n : Int) + 1 = (L : Int) := by omega
  have hLb : L ≤ 8192 := by omega
  clear hL
  go_wp2_with (at_make; refine wpList_make_full _ rfl _ _ 22 rfl w2.heap.size 28 i0 (.int .u64 0) 1 Tryz.underlying22 hi hz0 hz1 _ _ _ _ L rfl rfl (by omega) (by omega) (by rw [hz2]; omega) (by unfold maxLen; omega) (Nat.le_refl _) ?_; intro w3 hown hgrow; have hb := made_blk hown hgrow; clear hown hgrow)
  have hq3 : Row w3 w2.heap.size 0 L (List.replicate L 0) := by
    have := hb.1.row (Dig.replicate B64 L B64_pos)
    rw [List.length_replicate] at this; exact this
  have hlt12 : g1 < w2.heap.size := Nat.lt_of_lt_of_le hgl1 (by have := hw2.size; omega)
  have hr13 := hr1.below hb.2 hlt12
  have hr23 := hrow2.below hb.2 hgl2
  have hw3 := Below.on hw2 hb.2
  have hne12 : g1 ≠ g2 := by omega
  have hLn : L + n = m + 1 := by have := HL.out; omega
  rw [← hLn] at hr23
  have TD := takedig_any hq3 hr23 (hr13.at_ (Nat.le_refl _) (by unfold maxLen; omega)) (by omega) (by omega) hne12 hn (by omega) (by omega) (by
    rw [HV1.out, HY.out.val]
    exact div_start HX.out HY.out HLX.out HLY.out (by omega) hLn (by rw [hrow2.len]) (by rw [HV2.out, HX.out.val]))
  rw [hLn] at TD
  have HLN : Hid (L + n = m + 1) := hLn
  clear hLn hq3 hr13 hr23 hr1 hrow2 hLi
  refine TD.mono ?_
  rintro e w4 ⟨qs, rs, rfl, hbel, hrq, hrr, hlt, hsum⟩
  rw [HV1.out, HY.out.val] at hlt
  rw [HV1.out, HV2.out, HY.out.val, HX.out.val] at hsum
  have hend := div_end hsum hlt
  have hsp := valB_split B64 rs n (by rw [hrr.len]; omega)
  have hfit : valB B64 (rs.take n) = valB B64 rs := no_over hsp.symm (Nat.lt_trans hlt (by have := F1.out; rw [HY.out.val] at this; exact this))
  have HQ : Hid (valB B64 qs = a / b) := hend.1
  have HREM : Hid (valB B64 (rs.take n) / 2 ^ s = a % b) := by rw [hfit]; exact hend.2
  have hrt := hrr.take n (by omega)
  have hw4 : Below w.heap.size w w4 := hw3.trans (hbel w.heap.size (by have := hw2.size; omega) (by omega))
  have hgq4 : w2.heap.size ≠ g2 := by omega
  have hgqb : w.heap.size ≤ w2.heap.size := hw2.size
  generalize w2.heap.size = gz at *
  clear hsum hlt hend hsp hfit hrr hbel TD hw3 hw2 hb hlt12 hne12
  go_wp2_with fail
  refine (cut_row g2 0 (m + 1) (m + 1) n w4 (Nat.le_refl _) (by omega)).mono ?_
  rintro e w5 ⟨rfl, r5, hw5⟩
  have hrt5 : Row w5 g2 0 n (rs.take n) := by rw [hw5]; exact hrt.drewN r5
  have hrq5 : Row w5 gz 0 L qs := by rw [hw5]; exact hrq.drewN r5
  have hbw5 : Below w.heap.size w w5 := by rw [hw5]; exact bDrewN hw4 r5
  clear hw5 hrt hrq hw4
  go_wp2_with fail
  refine (sdn_any g2 n n s (rs.take n) w5 hrt5 (Nat.le_refl _) (by omega) hs64).mono ?_
  rintro e w6 ⟨us, rfl, hwr6, hrow6, hval6⟩
  rw [HREM.out] at hval6
  have hrq6 := hrq5.wr hwr6 hgq4
  have hbw6 : Below w.heap.size w w6 := hbw5.trans (hwr6.below (by omega))
  have AQ := hrq6.at_ (Nat.le_refl _) (by unfold maxLen; omega)
  have AR := hrow6.at_ (Nat.le_refl _) (by unfold maxLen; omega)
  have NQ : Hid (Nf B64 (trimL qs) (a / b)) := by have := Nf.trim hrq6.dig; rw [HQ.out] at this; exact this
  have NR : Hid (Nf B64 (trimL us) (a % b)) := by have := Nf.trim hrow6.dig; rw [hval6] at this; exact this
  clear hval6 hrt5 hrq5 hbw5 hwr6
  go_wp2_with fail
  refine (trim_any AQ).mono ?_
  rintro e w' ⟨p1, m1, rfl, hm1, hp1, hw⟩
  obtain rfl := hw.symm
  have HM1 : Hid (m1 = (trimL qs).length) := hm1
  clear hw hm1
  go_wp2_with fail
  refine (trim_any AR).mono ?_
  rintro e w' ⟨p2, m2, rfl, hm2, hp2, hw⟩
  obtain rfl := hw.symm
  have HM2 : Hid (m2 = (trimL us).length) := hm2
  clear hw hm2
  go_wp2_with fail
  go_ret2
  have hl1 := trimL_length_le qs; have hl2 := trimL_length_le us
  have e1 := HM1.out; have e2 := HM2.out; have e3 := hrq6.len; have e4 := hrow6.len
  exact ⟨_, _, rfl, ⟨p1, m1, _, rfl, hrq6.own hgqb e1 hp1, NQ.out, by omega⟩, ⟨p2, m2, _, rfl, hrow6.own (by omega) e2 hp2, NR.out, by omega⟩, hbw6⟩
theorem Nf.one {ys : List Nat} {b : Nat} (hy : Nf B64 ys b) (hl : ys.length = 1) : ys = [b] := by
  match ys, hl with
  | [y], _ => have := hy.val; simp [valB] at this; rw [this]
theorem Nf.lt_of_len {xs ys : List Nat} {a b n m : Nat} (hx : Nf B64 xs a) (hy : Nf B64 ys b) (hl : xs.length = n) (hm : ys.length = m) (h : n < m) : a < b := by
  have := val_lt_len hx.dig hy.top (by omega)
  rw [hx.val, hy.val] at this; exact this

theorem quorem_any {p q : Option Addr} {n m c d : Nat} {xs ys : List Nat} {a b : Nat} {w : World} (h : At w p n c xs) (k : At w q m d ys) (hx : Nf B64 xs a) (hy : Nf B64 ys b) (hlx : n ≤ 8192) (hly : m ≤ 8192) (hb : b ≠ 0) :
    Calls Tryz.prog 4 #[.slice p n c, .slice q m d] w fun e w' => ∃ v1 v2, e = .returned (.tuple #[v1, v2, .int .i64 0]) ∧ DivTo w a b v1 v2 w' := by
  have fx := hx.form (by rw [h.len]; exact hlx)
  have fy := hy.form (by rw [k.len]; exact hly)
  have hm0 : 0 < m := by
    rcases Nat.eq_zero_or_pos m with e | e
    · exact absurd ((hy.zero_iff B64_one).1 (List.eq_nil_of_length_eq_zero (by rw [k.len]; exact e))) hb
    · exact e
  have HX : Hid (Nf B64 xs a) := hx
  have HY : Hid (Nf B64 ys b) := hy
  clear hx hy
  have hlenx := h.len; have hleny := k.len
  have HLX : Hid (xs.length = n) := hlenx
  have HLY : Hid (ys.length = m) := hleny
  clear hlenx hleny
  go_enter Tryz.func4, Tryz.ntmps4
  go_wp2_with fail
  refine (form_true h fx).mono ?_
  rintro e w' ⟨rfl, hw⟩
  obtain rfl := hw.symm
  clear hw
  go_wp2_with fail
  refine (form_true k fy).mono ?_
  rintro e w' ⟨rfl, hw⟩
  obtain rfl := hw.symm
  clear hw fx fy
  have hm0' : ((m : Int) == 0) = false := by simp; omega
  by_cases h1 : m = 1
  · subst h1
    obtain ⟨gq, oq, rfl, hcq⟩ := k.cells.resolve_left (by omega)
    have hc0 : w.cell? ⟨gq, oq, none⟩ = some (U b) := by
      have := hcq 0 (by omega)
      rw [HY.out.one HLY.out] at this; exact this
    have hbb : b < B64 := by
      have := HY.out.dig b (by rw [HY.out.one HLY.out]; simp)
      exact this
    clear hcq
    go_wp2_with fail
    refine (divw_nf h HX.out hlx b hbb hb).mono ?_
    rintro e w1 ⟨⟨p1, m1, zs1, rfl, ho1, n1, hm1⟩, hb1⟩
    have N1 : Hid (Nf B64 zs1 (a / b)) := n1
    obtain ⟨r, hr⟩ : ∃ r, r = a % b := ⟨_, rfl⟩
    rw [← hr]
    have HR : Hid (r = a % b) := hr
    have hrb : r < B64 := by rw [hr]; exact Nat.lt_trans (Nat.mod_lt _ (by omega)) hbb
    clear n1 hr
    go_wp2_with fail
    refine (word_any r w1 hrb).mono ?_
    rintro e w2 ⟨p2, m2, zs2, rfl, ho2, n2, hm2, hb2⟩
    have N2 : Hid (Nf B64 zs2 r) := n2
    clear n2
    go_wp2_with fail
    go_ret3
    refine ⟨_, _, rfl, ⟨p1, m1, zs1, rfl, ho1.below hb2, N1.out, hm1⟩, ⟨p2, m2, zs2, rfl, ho2.mono hb1.size, ?_, by omega⟩, Below.on hb1 hb2⟩
    rw [← HR.out]; exact N2.out
  · have h1' : ((m : Int) == 1) = false := by simp; omega
    by_cases hlt : n < m
    · have hab := HX.out.lt_of_len HY.out HLX.out HLY.out hlt
      have HQ : Hid (a / b = 0 ∧ a % b = a) := ⟨Nat.div_eq_of_lt hab, Nat.mod_eq_of_lt hab⟩
      clear hab
      go_wp2_with fail
      refine (norm_any h).mono ?_
      rintro e w1 ⟨ha1, hb1⟩
      rw [HX.out.val] at ha1
      have hal : a < LIM := HX.out.lim.1 (by rw [HLX.out]; exact hlx)
      rcases ha1 with ⟨_, p1, m1, zs, rfl, ho, hn1, hm1⟩ | ⟨hge, _⟩
      · have N1 : Hid (Nf B64 zs a) := hn1
        clear hn1 hal
        go_wp2_with fail
        go_ret3
        refine ⟨_, _, rfl, ⟨none, 0, [], rfl, ⟨rfl, Dig.nil _, .inl rfl⟩, ?_, by omega⟩, ⟨p1, m1, zs, rfl, ho, ?_, hm1⟩, hb1⟩
        · rw [HQ.out.1]; exact Nf.nil _
        · rw [HQ.out.2]; exact N1.out
      · omega
    · obtain ⟨gp, op, rfl, _⟩ := h.cells.resolve_left (by omega)
      obtain ⟨gq, oq, rfl, _⟩ := k.cells.resolve_left (by omega)
      go_wp2_with fail
      refine (divide_any h k HX.out HY.out hlx (by omega) (by omega)).mono ?_
      rintro e w1 ⟨v1, v2, rfl, hD⟩
      have HD : Hid (DivTo w a b v1 v2 w1) := hD
      clear hD
      go_wp2_with fail
      go_ret3
      exact ⟨_, _, rfl, HD.out⟩
end Go.Proofs.YtmekccpbcjpddaaGreatDoor
