import Derived.Test.YtkdpafliibclnaaDoorSmall
import Derived.BigRegion
import Derived.Shelf.Spec.BitsCarry
import Derived.Shelf.Strconv.Itoa0
import Derived.Deep.LoopGhost
import Derived.Test.YtkdpafliibclnaaDoorMem
import Derived.Laws.Bits64b
import Derived.Deep.RegionLaw
namespace Go.Proofs.YtkdpafliibclnaaDoor
open Go.RowKit
set_option maxRecDepth 100000
set_option maxHeartbeats 0
def cutOff (off n k : Nat) : Nat := if k = n then off else off + k
theorem cutOff_lt {off n k : Nat} (h : k < n) : cutOff off n k = off + k := if_neg (by omega)
theorem cutOff_eq {off n k : Nat} (h : k = n) : cutOff off n k = off := if_pos h

theorem ret_cut {v : Value} {g o o' m m' : Nat} (h : o = o') (hm : m = m') : Ending.returned (.tuple #[v, .slice (some ⟨g, o, none⟩) m m]) = .returned (.tuple #[v, .slice (some ⟨g, o', none⟩) m' m']) := by rw [h, hm]
theorem cut_row (g off n c k : Nat) (w : World) (hnc : n ≤ c) (hk : k ≤ n) :
    Calls Tryd.prog 53 #[.slice (some ⟨g, off, none⟩) n c, .int .i64 k] w fun e w' =>
      e = .returned (.tuple #[.slice (some ⟨g, off, none⟩) k k, .slice (some ⟨g, cutOff off n k, none⟩) (n - k) (n - k)]) ∧ ∃ r, w' = w.drewN r := by
  obtain ⟨o, ho⟩ : ∃ o, o = cutOff off n k := ⟨_, rfl⟩
  rw [← ho]
  by_cases hkn : k = n
  · have HO : Hid (o = off) := ho.trans (cutOff_eq hkn)
    subst hkn
    clear ho
    go_enter Tryd.func53, Tryd.ntmps53
    go_wp2
    go_quiet (fail)
    go_wp2
    go_ret2
    exact ⟨ret_cut HO.out.symm (Nat.sub_self k).symm, _, rfl⟩
  · have HO : Hid (o = off + k) := ho.trans (cutOff_lt (by omega))
    have hlt : k < n := by omega
    clear ho
    go_enter Tryd.func53, Tryd.ntmps53
    go_wp2
    go_quiet (fail)
    go_wp2
    go_ret2
    exact ⟨ret_cut HO.out.symm rfl, _, rfl⟩
theorem order_any (b : Bool) (w : World) : Calls Tryd.prog 28 #[.bool b] w fun e w' => e = .returned (.int .i64 (if b then -1 else 1)) ∧ w' = w := by
  cases b
  · go_enter Tryd.func28, Tryd.ntmps28
    go_wp2
    go_ret
    exact ⟨rfl, rfl⟩
  · go_enter Tryd.func28, Tryd.ntmps28
    go_wp2
    go_ret
    exact ⟨rfl, rfl⟩

theorem fitted_any {g n c : Nat} {xs : List Nat} {w : World} (h : At w (some ⟨g, 0, none⟩) n c xs) :
    Calls Tryd.prog 24 #[.slice (some ⟨g, 0, none⟩) n c] w fun e w' =>
      ((trimL xs).length ≤ 8192 ∧ (∃ p' m, e = .returned (.tuple #[.slice p' m m, .int .i64 0]) ∧ m = (trimL xs).length ∧ (m ≠ 0 → p' = some ⟨g, 0, none⟩)) ∧ w' = w) ∨
      (8192 < (trimL xs).length ∧ e = .returned (.tuple #[.slice none 0 0, .int .i64 5]) ∧ w' = w) := by
  go_enter Tryd.func24, Tryd.ntmps24
  go_wp2_with (go_at_call 26; refine (trim_any h).mono ?_; rintro e w' ⟨p', m, rfl, hm, hp, rfl⟩; have HM : Hid (m = (trimL xs).length) := hm; clear hm)
  · go_ret2
    have := HM.out
    exact .inr ⟨by omega, rfl, rfl⟩
  · go_ret2
    have := HM.out
    exact .inl ⟨by omega, ⟨_, _, rfl, this, hp⟩, rfl⟩
theorem add64_ex (x y c : Nat) (hx : x < B64) (hy : y < B64) (hc : c ≤ 1) : ∃ s d, (∀ w : World, (callFunc 54 #[U x, U y, U c]).run Tryd.prog w = .ok (.value (.tuple #[U s, U d])) w) ∧ x + y + c = s + B64 * d ∧ s < B64 ∧ d ≤ 1 := by
  refine ⟨(x + y + c) % 18446744073709551616, (x + y + c) / 18446744073709551616, fun w => ?_, ?_, ?_, ?_⟩
  · rw [run_callFunc_extern Tryd.func54 (by kernel_rfl) (by kernel_rfl) (by kernel_rfl) (e := add64Entry) (by kernel_rfl), run_add64 x y c (by omega) (by omega) (by omega) (by omega)]
    simp only [Result.andThen]
    congr 5 <;> omega
  · rw [B64_eq]; omega
  · rw [B64_eq]; omega
  · rw [B64_eq] at hx hy; omega

structure AddRel (w : World) (g off n : Nat) (zs ys : List Nat) (k cy : Nat) (dk : List Nat) (wr : World) : Prop where
  wrs : Wr g off n w wr
  row : Row wr g off n dk
  hi : dk.drop k = zs.drop k
  car : cy ≤ 1
  sum : valB B64 (dk.take k) + B64 ^ k * cy = valB B64 (zs.take k) + valB B64 (ys.take k)

theorem valB_take_any (b : Nat) (xs : List Nat) (k : Nat) : valB b (xs.take (k + 1)) = valB b (xs.take k) + b ^ k * xs.getD k 0 := by
  by_cases h : k < xs.length
  · exact valB_take_succ b xs k h
  · rw [List.take_of_length_le (by omega), List.take_of_length_le (by omega), List.getD_eq_getElem?_getD, List.getElem?_eq_none (by omega)]; simp
theorem drop_set_lt (dk : List Nat) (k y : Nat) : (dk.set k y).drop (k + 1) = dk.drop (k + 1) := by
  rw [List.drop_set]; simp
theorem take_set_succ (dk : List Nat) (k y : Nat) (hk : k < dk.length) : (dk.set k y).take (k + 1) = dk.take k ++ [y] := by
  rw [take_succ_getD _ k (by simpa using hk), getD_set dk k y k hk, if_pos rfl, List.take_set]
  congr 1
  rw [List.set_eq_of_length_le (by simp; omega)]
theorem drop_succ_of_drop {dk zs : List Nat} {k : Nat} (h : dk.drop k = zs.drop k) : dk.drop (k + 1) = zs.drop (k + 1) := by
  have := congrArg (List.drop 1) h
  rw [List.drop_drop, List.drop_drop] at this
  exact this
theorem getD_of_drop {dk zs : List Nat} {k : Nat} (h : dk.drop k = zs.drop k) : dk.getD k 0 = zs.getD k 0 := by
  have := congrArg (fun l : List Nat => l[0]?) h
  simp only [List.getElem?_drop, Nat.add_zero] at this
  rw [List.getD_eq_getElem?_getD, List.getD_eq_getElem?_getD, this]

theorem AddRel.step {w : World} {g off n : Nat} {zs ys : List Nat} {k cy : Nat} {dk : List Nat} {wr : World} (h : AddRel w g off n zs ys k cy dk wr) (hk : k < n)
    {x y s d : Nat} (hx : x = dk.getD k 0) (hy : y = ys.getD k 0) (hs : x + y + cy = s + B64 * d) (hsl : s < B64) (hd : d ≤ 1) (q : Nat) :
    AddRel w g off n zs ys (k + 1) d (dk.set k s) ((wr.setCell ⟨g, off + k, none⟩ (U s)).drewN q) := by
  have hl := h.row.len
  refine ⟨(h.wrs.setCell (off + k) ⟨by omega, by omega⟩ _).drewN q, (h.row.set k s hk hsl).drewN q, ?_, hd, ?_⟩
  · rw [drop_set_lt]; exact drop_succ_of_drop h.hi
  · have hxz : x = zs.getD k 0 := hx.trans (getD_of_drop h.hi)
    rw [take_set_succ dk k s (by omega), valB_snoc, List.length_take, hl, Nat.min_eq_left (by omega), valB_take_any _ zs k, valB_take_any _ ys k, ← hxz, ← hy, Nat.pow_succ]
    have e1 := h.sum
    have e2 : B64 ^ k * (x + y + cy) = B64 ^ k * (s + B64 * d) := by rw [hs]
    rw [Nat.mul_add, Nat.mul_add, Nat.mul_add, ← Nat.mul_assoc] at e2
    omega
theorem AddRel.fin {w : World} {g off n : Nat} {zs ys : List Nat} {k cy : Nat} {dk : List Nat} {wr : World} (h : AddRel w g off n zs ys k cy dk wr) (hz : zs.length = n) (hy : ys.length ≤ k) (hk : k ≤ n) (hf : cy = 0 ∨ k = n) :
    valB B64 dk + B64 ^ n * cy = valB B64 zs + valB B64 ys := by
  have hl := h.row.len
  have e1 := h.sum
  rw [List.take_of_length_le hy] at e1
  rw [valB_split B64 dk k (by omega), valB_split B64 zs k (by omega), h.hi]
  rcases hf with rfl | rfl
  · omega
  · rw [List.drop_of_length_le (by omega)]; simp only [valB_nil]; omega

theorem ladd_any (g off n c : Nat) (zs : List Nat) (p : Option Addr) (m d : Nat) (ys : List Nat) (w : World) (hz : Row w g off n zs) (hnc : n ≤ c) (hbig : c ≤ 9223372036854775807)
    (ha : At w p m d ys) (hmn : m ≤ n) (hap : ∀ g2 off2, 0 < m → p = some ⟨g2, off2, none⟩ → g2 ≠ g ∨ off2 + m ≤ off ∨ off + n ≤ off2) :
    Calls Tryd.prog 23 #[.slice (some ⟨g, off, none⟩) n c, .slice p m d] w fun e w' =>
      ∃ cy zs', e = .returned (U cy) ∧ cy ≤ 1 ∧ Wr g off n w w' ∧ Row w' g off n zs' ∧ valB B64 zs' + B64 ^ n * cy = valB B64 zs + valB B64 ys := by
  have hl := hz.len; have al := ha.len; have acap := ha.cap; have abig := ha.big
  unfold maxLen at abig
  go_enter Tryd.func23, Tryd.ntmps23
  go_wp2_with (go_at_call 53; refine (cut_row g off n c m _ hnc hmn).mono ?_; rintro e w' ⟨rfl, r0, rfl⟩)
  go_loopw [7, 8, 19] (fun cv _ i wr => ∃ (k cy : Nat) (dk : List Nat), k ≤ m ∧ i = .int .i64 k ∧ cv = U cy ∧ AddRel w g off n zs ys k cy dk wr) (fun _ _ i _ => m - (intOf i).toNat)
  case atStart => exact ⟨0, 0, zs, Nat.zero_le _, rfl, rfl, ⟨(Wr.refl _ _ _ _).drewN _, hz.drewN _, rfl, by omega, by simp [valB]⟩⟩
  case round =>
    obtain ⟨k, cy, dk, hk, rfl, rfl, hR⟩ := hrel
    by_cases hlt : k < m
    · obtain ⟨g2, off2, rfl, hc2⟩ := ha.cells.resolve_left (by omega)
      obtain ⟨x, hx⟩ : ∃ x, x = dk.getD k 0 := ⟨_, rfl⟩
      obtain ⟨y, hy⟩ : ∃ y, y = ys.getD k 0 := ⟨_, rfl⟩
      have hcx : wr.cell? ⟨g, off + k, none⟩ = some (U x) := by rw [hx]; exact hR.row.cell k (by omega)
      have hfx : wr.frozen? ⟨g, off + k, none⟩ = false := hR.row.frozen k (by omega)
      have hcy : wr.cell? ⟨g2, off2 + k, none⟩ = some (U y) := by
        rw [hy, hR.wrs.cell g2 (off2 + k) (by have := hap g2 off2 (by omega) rfl; omega)]; exact hc2 k hlt
      obtain ⟨s, d1, hrun, hsum, hsl, hd1⟩ := add64_ex x y cy (by rw [hx]; exact hR.row.dig.getD B64_pos k) (by rw [hy]; exact ha.dig.getD B64_pos k) hR.car
      have HR : Hid (AddRel w g off n zs ys k cy dk wr) := hR
      have HX : Hid (x = dk.getD k 0) := hx
      have HY : Hid (y = ys.getD k 0) := hy
      have HS : Hid (x + y + cy = s + B64 * d1) := hsum
      clear hR hx hy hsum hc2
      go_wp2
      go_region
      go_wp2
      go_roundw
      case rel => exact ⟨k + 1, d1, dk.set k s, by omega, by go_num, rfl, HR.out.step (by omega) HX.out HY.out HS.out hsl hd1 1⟩
      case measure => simp [intOf]; omega
    · obtain rfl : k = m := by omega
      have HR : Hid (AddRel w g off n zs ys k cy dk wr) := hR
      clear hR
      go_wp2
      go_loopw [7, 9, 41] (fun cv _ i wr => ∃ (j cy : Nat) (dk : List Nat), j ≤ n - k ∧ i = .int .i64 j ∧ cv = U cy ∧ AddRel w g off n zs ys (k + j) cy dk wr) (fun _ _ i _ => n - k - (intOf i).toNat)
      case atStart => exact ⟨0, cy, dk, Nat.zero_le _, rfl, rfl, HR.out⟩
      case round =>
        clear HR
        obtain ⟨j, cy, dk, hj, rfl, rfl, hR⟩ := hrel
        by_cases hlt2 : j < n - k
        · have hco : cutOff off n k = off + k := cutOff_lt (by omega)
          obtain ⟨x, hx⟩ : ∃ x, x = dk.getD (k + j) 0 := ⟨_, rfl⟩
          have hcx : wr.cell? ⟨g, cutOff off n k + j, none⟩ = some (U x) := by rw [hx, hco, Nat.add_assoc]; exact hR.row.cell (k + j) (by omega)
          have hfx : wr.frozen? ⟨g, cutOff off n k + j, none⟩ = false := by rw [hco, Nat.add_assoc]; exact hR.row.frozen (k + j) (by omega)
          obtain ⟨s, d1, hrun0, hsum, hsl, hd1⟩ := add64_ex x 0 cy (by rw [hx]; exact hR.row.dig.getD B64_pos _) B64_pos hR.car
          have HR : Hid (AddRel w g off n zs ys (k + j) cy dk wr) := hR
          have HX : Hid (x = dk.getD (k + j) 0) := hx
          have HS : Hid (x + 0 + cy = s + B64 * d1) := hsum
          have HO : Hid (cutOff off n k = off + k) := hco
          have hrun : ∀ w : World, (callFunc 54 #[U x, .int .u64 0, U cy]).run Tryd.prog w = .ok (.value (.tuple #[U s, U d1])) w := hrun0
          clear hR hx hsum hco hrun0
          by_cases hc0 : cy = 0
          · subst hc0
            go_wp2
            go_ret
            exact ⟨0, dk, rfl, by omega, HR.out.wrs, HR.out.row, HR.out.fin hl (by omega) (by omega) (.inl rfl)⟩
          · have hc0' : ((cy : Int) == 0) = false := by simp; omega
            go_wp2
            go_roundw
            case rel =>
              refine ⟨j + 1, d1, dk.set (k + j) s, by omega, by go_num, rfl, ?_⟩
              have st := HR.out.step (by omega) HX.out (y := 0) (by rw [List.getD_eq_getElem?_getD, List.getElem?_eq_none (by omega)]; rfl) HS.out hsl hd1 0
              rw [← Nat.add_assoc off, ← HO.out] at st
              exact st
            case measure => simp [intOf]; omega
        · have hjn : k + j = n := by omega
          have HR : Hid (AddRel w g off n zs ys (k + j) cy dk wr) := hR
          have HJ : Hid (k + j = n) := hjn
          clear hR hjn
          go_wp2
          go_ret
          exact ⟨cy, dk, rfl, HR.out.car, HR.out.wrs, HR.out.row, HR.out.fin hl (by omega) (by have := HJ.out; omega) (.inr HJ.out)⟩
theorem sub64_ex (x y c : Nat) (hx : x < B64) (hy : y < B64) (hc : c ≤ 1) : ∃ s d, (∀ w : World, (callFunc 55 #[U x, U y, U c]).run Tryd.prog w = .ok (.value (.tuple #[U s, U d])) w) ∧ x + B64 * d = s + y + c ∧ s < B64 ∧ d ≤ 1 := by
  refine ⟨(x + 18446744073709551616 - y - c) % 18446744073709551616, if x < y + c then 1 else 0, fun w => ?_, ?_, ?_, ?_⟩
  · rw [run_callFunc_extern Tryd.func55 (by kernel_rfl) (by kernel_rfl) (by kernel_rfl) (e := sub64Entry) (by kernel_rfl), run_sub64 x y c hc]
    rfl
  · rw [B64_eq] at *; split <;> omega
  · rw [B64_eq]; omega
  · split <;> omega

structure SubRel (w : World) (g off n : Nat) (zs ys : List Nat) (k cy : Nat) (dk : List Nat) (wr : World) : Prop where
  wrs : Wr g off n w wr
  row : Row wr g off n dk
  hi : dk.drop k = zs.drop k
  car : cy ≤ 1
  sum : valB B64 (dk.take k) + valB B64 (ys.take k) = valB B64 (zs.take k) + B64 ^ k * cy

theorem SubRel.step {w : World} {g off n : Nat} {zs ys : List Nat} {k cy : Nat} {dk : List Nat} {wr : World} (h : SubRel w g off n zs ys k cy dk wr) (hk : k < n)
    {x y s d : Nat} (hx : x = dk.getD k 0) (hy : y = ys.getD k 0) (hs : x + B64 * d = s + y + cy) (hsl : s < B64) (hd : d ≤ 1) (q : Nat) :
    SubRel w g off n zs ys (k + 1) d (dk.set k s) ((wr.setCell ⟨g, off + k, none⟩ (U s)).drewN q) := by
  have hl := h.row.len
  refine ⟨(h.wrs.setCell (off + k) ⟨by omega, by omega⟩ _).drewN q, (h.row.set k s hk hsl).drewN q, ?_, hd, ?_⟩
  · rw [drop_set_lt]; exact drop_succ_of_drop h.hi
  · have hxz : x = zs.getD k 0 := hx.trans (getD_of_drop h.hi)
    rw [take_set_succ dk k s (by omega), valB_snoc, List.length_take, hl, Nat.min_eq_left (by omega), valB_take_any _ zs k, valB_take_any _ ys k, ← hxz, ← hy, Nat.pow_succ]
    have e1 := h.sum
    have e2 : B64 ^ k * (x + B64 * d) = B64 ^ k * (s + y + cy) := by rw [hs]
    rw [Nat.mul_add, Nat.mul_add, Nat.mul_add, ← Nat.mul_assoc] at e2
    omega
theorem SubRel.fin {w : World} {g off n : Nat} {zs ys : List Nat} {k cy : Nat} {dk : List Nat} {wr : World} (h : SubRel w g off n zs ys k cy dk wr) (hz : zs.length = n) (hy : ys.length ≤ k) (hk : k ≤ n) (hf : cy = 0 ∨ k = n) :
    valB B64 dk + valB B64 ys = valB B64 zs + B64 ^ n * cy := by
  have hl := h.row.len
  have e1 := h.sum
  rw [List.take_of_length_le hy] at e1
  rw [valB_split B64 dk k (by omega), valB_split B64 zs k (by omega), h.hi]
  rcases hf with rfl | rfl
  · omega
  · rw [List.drop_of_length_le (by omega)]; simp only [valB_nil]; omega

theorem lsub_any (g off n c : Nat) (zs : List Nat) (p : Option Addr) (m d : Nat) (ys : List Nat) (w : World) (hz : Row w g off n zs) (hnc : n ≤ c) (hbig : c ≤ 9223372036854775807)
    (ha : At w p m d ys) (hmn : m ≤ n) (hap : ∀ g2 off2, 0 < m → p = some ⟨g2, off2, none⟩ → g2 ≠ g ∨ off2 + m ≤ off ∨ off + n ≤ off2) :
    Calls Tryd.prog 25 #[.slice (some ⟨g, off, none⟩) n c, .slice p m d] w fun e w' =>
      ∃ cy zs', e = .returned (U cy) ∧ cy ≤ 1 ∧ Wr g off n w w' ∧ Row w' g off n zs' ∧ valB B64 zs' + valB B64 ys = valB B64 zs + B64 ^ n * cy := by
  have hl := hz.len; have al := ha.len; have acap := ha.cap; have abig := ha.big
  unfold maxLen at abig
  go_enter Tryd.func25, Tryd.ntmps25
  go_wp2_with (go_at_call 53; refine (cut_row g off n c m _ hnc hmn).mono ?_; rintro e w' ⟨rfl, r0, rfl⟩)
  go_loopw [7, 8, 19] (fun cv _ i wr => ∃ (k cy : Nat) (dk : List Nat), k ≤ m ∧ i = .int .i64 k ∧ cv = U cy ∧ SubRel w g off n zs ys k cy dk wr) (fun _ _ i _ => m - (intOf i).toNat)
  case atStart => exact ⟨0, 0, zs, Nat.zero_le _, rfl, rfl, ⟨(Wr.refl _ _ _ _).drewN _, hz.drewN _, rfl, by omega, by simp [valB]⟩⟩
  case round =>
    obtain ⟨k, cy, dk, hk, rfl, rfl, hR⟩ := hrel
    by_cases hlt : k < m
    · obtain ⟨g2, off2, rfl, hc2⟩ := ha.cells.resolve_left (by omega)
      obtain ⟨x, hx⟩ : ∃ x, x = dk.getD k 0 := ⟨_, rfl⟩
      obtain ⟨y, hy⟩ : ∃ y, y = ys.getD k 0 := ⟨_, rfl⟩
      have hcx : wr.cell? ⟨g, off + k, none⟩ = some (U x) := by rw [hx]; exact hR.row.cell k (by omega)
      have hfx : wr.frozen? ⟨g, off + k, none⟩ = false := hR.row.frozen k (by omega)
      have hcy : wr.cell? ⟨g2, off2 + k, none⟩ = some (U y) := by
        rw [hy, hR.wrs.cell g2 (off2 + k) (by have := hap g2 off2 (by omega) rfl; omega)]; exact hc2 k hlt
      obtain ⟨s, d1, hrun, hsum, hsl, hd1⟩ := sub64_ex x y cy (by rw [hx]; exact hR.row.dig.getD B64_pos k) (by rw [hy]; exact ha.dig.getD B64_pos k) hR.car
      have HR : Hid (SubRel w g off n zs ys k cy dk wr) := hR
      have HX : Hid (x = dk.getD k 0) := hx
      have HY : Hid (y = ys.getD k 0) := hy
      have HS : Hid (x + B64 * d1 = s + y + cy) := hsum
      clear hR hx hy hsum hc2
      go_wp2
      go_region
      go_wp2
      go_roundw
      case rel => exact ⟨k + 1, d1, dk.set k s, by omega, by go_num, rfl, HR.out.step (by omega) HX.out HY.out HS.out hsl hd1 1⟩
      case measure => simp [intOf]; omega
    · obtain rfl : k = m := by omega
      have HR : Hid (SubRel w g off n zs ys k cy dk wr) := hR
      clear hR
      go_wp2
      go_loopw [7, 9, 41] (fun cv _ i wr => ∃ (j cy : Nat) (dk : List Nat), j ≤ n - k ∧ i = .int .i64 j ∧ cv = U cy ∧ SubRel w g off n zs ys (k + j) cy dk wr) (fun _ _ i _ => n - k - (intOf i).toNat)
      case atStart => exact ⟨0, cy, dk, Nat.zero_le _, rfl, rfl, HR.out⟩
      case round =>
        clear HR
        obtain ⟨j, cy, dk, hj, rfl, rfl, hR⟩ := hrel
        by_cases hlt2 : j < n - k
        · have hco : cutOff off n k = off + k := cutOff_lt (by omega)
          obtain ⟨x, hx⟩ : ∃ x, x = dk.getD (k + j) 0 := ⟨_, rfl⟩
          have hcx : wr.cell? ⟨g, cutOff off n k + j, none⟩ = some (U x) := by rw [hx, hco, Nat.add_assoc]; exact hR.row.cell (k + j) (by omega)
          have hfx : wr.frozen? ⟨g, cutOff off n k + j, none⟩ = false := by rw [hco, Nat.add_assoc]; exact hR.row.frozen (k + j) (by omega)
          obtain ⟨s, d1, hrun0, hsum, hsl, hd1⟩ := sub64_ex x 0 cy (by rw [hx]; exact hR.row.dig.getD B64_pos _) B64_pos hR.car
          have HR : Hid (SubRel w g off n zs ys (k + j) cy dk wr) := hR
          have HX : Hid (x = dk.getD (k + j) 0) := hx
          have HS : Hid (x + B64 * d1 = s + 0 + cy) := hsum
          have HO : Hid (cutOff off n k = off + k) := hco
          have hrun : ∀ w : World, (callFunc 55 #[U x, .int .u64 0, U cy]).run Tryd.prog w = .ok (.value (.tuple #[U s, U d1])) w := hrun0
          clear hR hx hsum hco hrun0
          by_cases hc0 : cy = 0
          · subst hc0
            go_wp2
            go_ret
            exact ⟨0, dk, rfl, by omega, HR.out.wrs, HR.out.row, HR.out.fin hl (by omega) (by omega) (.inl rfl)⟩
          · have hc0' : ((cy : Int) == 0) = false := by simp; omega
            go_wp2
            go_roundw
            case rel =>
              refine ⟨j + 1, d1, dk.set (k + j) s, by omega, by go_num, rfl, ?_⟩
              have st := HR.out.step (by omega) HX.out (y := 0) (by rw [List.getD_eq_getElem?_getD, List.getElem?_eq_none (by omega)]; rfl) HS.out hsl hd1 0
              rw [← Nat.add_assoc off, ← HO.out] at st
              exact st
            case measure => simp [intOf]; omega
        · have hjn : k + j = n := by omega
          have HR : Hid (SubRel w g off n zs ys (k + j) cy dk wr) := hR
          have HJ : Hid (k + j = n) := hjn
          clear hR hjn
          go_wp2
          go_ret
          exact ⟨cy, dk, rfl, HR.out.car, HR.out.wrs, HR.out.row, HR.out.fin hl (by omega) (by have := HJ.out; omega) (.inr HJ.out)⟩
def cmpN (a b : Nat) : Int := if a < b then -1 else if a = b then 0 else 1
theorem cmpN_lt {a b : Nat} (h : a < b) : cmpN a b = -1 := if_pos h
theorem cmpN_gt {a b : Nat} (h : b < a) : cmpN a b = 1 := by unfold cmpN; rw [if_neg (by omega), if_neg (by omega)]
theorem cmpN_eq {a b : Nat} (h : a = b) : cmpN a b = 0 := by unfold cmpN; rw [if_neg (by omega), if_pos h]
theorem cmpN_neg (a b : Nat) : cmpN a b < 0 ↔ a < b := by unfold cmpN; split <;> rename_i h; · simp [h]
                                                          · split <;> simp [h]

theorem val_lt_len {xs ys : List Nat} (hx : Dig B64 xs) (ty : Top ys) (h : xs.length < ys.length) : valB B64 xs < valB B64 ys := by
  have h1 := valB_lt B64_pos hx
  have h2 := valB_pos B64_pos (show ys ≠ [] by intro e; subst e; simp at h) ty
  have h3 : B64 ^ xs.length ≤ B64 ^ (ys.length - 1) := Nat.pow_le_pow_right B64_pos (by omega)
  omega
theorem val_lt_top {xs ys : List Nat} (hx : Dig B64 xs) {n t x y : Nat} (lx : xs.length = n) (ly : ys.length = n) (ht : t < n) (hd : xs.drop (t + 1) = ys.drop (t + 1)) (ex : x = xs.getD t 0) (ey : y = ys.getD t 0) (h : x < y) : valB B64 xs < valB B64 ys := by
  have h1 := valB_lt B64_pos (hx.take t)
  rw [List.length_take, lx, Nat.min_eq_left (by omega)] at h1
  rw [valB_split B64 xs t (by omega), valB_split B64 ys t (by omega), valB_drop _ xs t (by omega), valB_drop _ ys t (by omega), hd, ← ex, ← ey]
  have h2 : B64 ^ t * (x + 1) ≤ B64 ^ t * y := Nat.mul_le_mul_left _ h
  rw [Nat.mul_add] at h2
  rw [Nat.mul_add, Nat.mul_add]
  omega
theorem drop_step {xs ys : List Nat} {n t : Nat} (lx : xs.length = n) (ly : ys.length = n) (ht : t < n) (hd : xs.drop (t + 1) = ys.drop (t + 1)) (h : xs.getD t 0 = ys.getD t 0) : xs.drop t = ys.drop t := by
  rw [drop_getD xs t (by omega), drop_getD ys t (by omega), h, hd]

theorem drewN_two (w : World) (a b : Nat) : (w.drewN a).drewN b = w.drewN (a + b) := by simp

theorem cmp_any {p q : Option Addr} {n m c d : Nat} {xs ys : List Nat} {w : World} (h : At w p n c xs) (k : At w q m d ys) :
    Calls Tryd.prog 11 #[.slice p n c, .slice q m d] w fun e w' => e = .returned (.int .i64 (cmpN (valB B64 xs) (valB B64 ys))) ∧ ∃ r, w' = w.drewN r := by
  obtain ⟨res, hres⟩ : ∃ res, res = cmpN (valB B64 xs) (valB B64 ys) := ⟨_, rfl⟩
  rw [← hres]
  have HRES : Hid (res = cmpN (valB B64 (trimL xs)) (valB B64 (trimL ys))) := by rw [valB_trimL, valB_trimL]; exact hres
  clear hres
  go_enter Tryd.func11, Tryd.ntmps11
  go_wp2_with fail
  refine (trim_any h).mono ?_
  rintro e w' ⟨p1, n1, rfl, hn1, hp1, hw⟩
  obtain rfl := hw.symm
  clear hw
  go_wp2_with fail
  refine (trim_any k).mono ?_
  rintro e w' ⟨q1, m1, rfl, hm1, hq1, hw⟩
  obtain rfl := hw.symm
  clear hw
  have A := h.trim hn1 hp1
  have K := k.trim hm1 hq1
  have tx := Top_trimL xs
  have ty := Top_trimL ys
  clear hn1 hm1 hp1 hq1 h k
  generalize trimL xs = us at *
  generalize trimL ys = vs at *
  have al := A.len; have acap := A.cap; have abig := A.big; have adig := A.dig
  have kl := K.len; have kbig := K.big; have kdig := K.dig
  unfold maxLen at abig kbig
  have HX : Hid (Top us) := tx
  have HY : Hid (Top vs) := ty
  have HU : Hid (Dig B64 us) := adig
  have HV : Hid (Dig B64 vs) := kdig
  clear tx ty adig kdig
  by_cases hlt : n1 < m1
  · have hne : ((n1 : Int) != (m1 : Int)) = true := by simp; omega
    have hr : res = -1 := HRES.out.trans (cmpN_lt (val_lt_len HU.out HY.out (by omega)))
    have HR : Hid (res = -1) := hr
    clear hr
    go_wp2_with (go_at_call 28; refine (order_any _ _).mono ?_; rintro e w' ⟨rfl, hw⟩; obtain rfl := hw.symm; clear hw)
    go_ret
    exact ⟨ret_int HR.out.symm, 0, rfl⟩
  · by_cases hgt : m1 < n1
    · have hne : ((n1 : Int) != (m1 : Int)) = true := by simp; omega
      have hr : res = 1 := HRES.out.trans (cmpN_gt (val_lt_len HV.out HX.out (by omega)))
      have HR : Hid (res = 1) := hr
      clear hr
      go_wp2_with (go_at_call 28; refine (order_any _ _).mono ?_; rintro e w' ⟨rfl, hw⟩; obtain rfl := hw.symm; clear hw)
      go_ret
      exact ⟨ret_int HR.out.symm, 0, rfl⟩
    · obtain rfl : n1 = m1 := by omega
      have hne : ((n1 : Int) != (n1 : Int)) = false := by simp
      go_wp2
      go_loopw [6, 7, 24] (fun _ _ i wr => ∃ t r : Nat, t ≤ n1 ∧ i = .int .i64 t ∧ wr = w.drewN r ∧ us.drop (n1 - t) = vs.drop (n1 - t)) (fun _ _ i _ => n1 - (intOf i).toNat)
      case atStart => exact ⟨0, 0, Nat.zero_le _, rfl, rfl, by rw [Nat.sub_zero, List.drop_of_length_le (by omega), List.drop_of_length_le (by omega)]⟩
      case round =>
        obtain ⟨t, r, ht, rfl, rfl, hd⟩ := hrel
        have HD : Hid (us.drop (n1 - t) = vs.drop (n1 - t)) := hd
        clear hd
        by_cases h1 : t < n1
        · obtain ⟨g, off, rfl, hc⟩ := A.cells.resolve_left (by omega)
          obtain ⟨g2, off2, rfl, hc2⟩ := K.cells.resolve_left (by omega)
          obtain ⟨x, hx⟩ : ∃ x, x = us.getD (n1 - 1 - t) 0 := ⟨_, rfl⟩
          obtain ⟨y, hy⟩ : ∃ y, y = vs.getD (n1 - 1 - t) 0 := ⟨_, rfl⟩
          have hcx : w.cell? ⟨g, off + (n1 - 1 - t), none⟩ = some (U x) := by rw [hx]; exact hc _ (by omega)
          have hcy : w.cell? ⟨g2, off2 + (n1 - 1 - t), none⟩ = some (U y) := by rw [hy]; exact hc2 _ (by omega)
          have HX2 : Hid (x = us.getD (n1 - 1 - t) 0) := hx
          have HY2 : Hid (y = vs.getD (n1 - 1 - t) 0) := hy
          have HD2 : Hid (us.drop (n1 - 1 - t + 1) = vs.drop (n1 - 1 - t + 1)) := by
            have e : n1 - 1 - t + 1 = n1 - t := by omega
            rw [e]; exact HD.out
          clear hx hy hc hc2 HD
          by_cases hxy : x = y
          · have hb : ((x : Int) != (y : Int)) = false := by simp; omega
            go_wp2
            go_quiet (fail)
            go_wp2
            go_roundw
            case rel =>
              refine ⟨t + 1, r + nq, by omega, by go_num, rfl, ?_⟩
              have := drop_step (t := n1 - 1 - t) al kl (by omega) HD2.out (by rw [← HX2.out, ← HY2.out]; exact hxy)
              rw [show n1 - (t + 1) = n1 - 1 - t by omega]; exact this
            case measure => simp [intOf]; omega
          · have hb : ((x : Int) != (y : Int)) = true := by simp; omega
            by_cases hl : x < y
            · have hr : res = -1 := HRES.out.trans (cmpN_lt (val_lt_top HU.out al kl (by omega) HD2.out HX2.out HY2.out hl))
              have HR : Hid (res = -1) := hr
              have hl' : (x : Int) < (y : Int) := by omega
              clear hr
              go_wp2
              go_quiet (fail)
              go_wp2
              go_quiet ((go_at_call 28; exact (order_any _ _).mono (fun e w1 h => ⟨h.1, _, h.2⟩)))
              go_wp2
              go_ret
              exact ⟨ret_int HR.out.symm, _, by first | rfl | (rw [drewN_two, drewN_two])⟩
            · have hr : res = 1 := HRES.out.trans (cmpN_gt (val_lt_top HV.out kl al (by omega) HD2.out.symm HY2.out HX2.out (by omega)))
              have HR : Hid (res = 1) := hr
              have hl' : ¬ (x : Int) < (y : Int) := by omega
              clear hr
              go_wp2
              go_quiet (fail)
              go_wp2
              go_quiet ((go_at_call 28; exact (order_any _ _).mono (fun e w1 h => ⟨h.1, _, h.2⟩)))
              go_wp2
              go_ret
              exact ⟨ret_int HR.out.symm, _, by first | rfl | (rw [drewN_two, drewN_two])⟩
        · obtain rfl : t = n1 := by omega
          have hr : res = 0 := HRES.out.trans (cmpN_eq (by have := HD.out; rw [Nat.sub_self, List.drop_zero, List.drop_zero] at this; rw [this]))
          have HR : Hid (res = 0) := hr
          clear hr
          go_wp2
          go_ret
          exact ⟨ret_int HR.out.symm, r, rfl⟩
theorem bDrewN {B : Nat} {a w : World} (h : Below B a w) (q : Nat) : Below B a (w.drewN q) := ⟨h.os, h.tape, h.output, h.size, h.block⟩

theorem dig1 {x : Nat} (h : x < B64) : Dig B64 [x] := Dig.cons h (Dig.nil _)

def LIM : Nat := B64 ^ 8192
theorem LIM_eq (k : Nat) (hk : k = 8192) : LIM = B64 ^ k := by subst hk; unfold LIM; rfl
theorem Nf.lim {xs : List Nat} {n : Nat} (h : Nf B64 xs n) : xs.length ≤ 8192 ↔ n < LIM := by
  have := h.len_le (k := 8192) B64_one
  unfold LIM; exact this

structure Own (B : Nat) (w : World) (p : Option Addr) (m : Nat) (zs : List Nat) : Prop where
  len : zs.length = m
  dig : Dig B64 zs
  mem : m = 0 ∨ ∃ g, p = some ⟨g, 0, none⟩ ∧ B ≤ g ∧ Row w g 0 m zs
theorem Own.at_ {B : Nat} {w : World} {p : Option Addr} {m : Nat} {zs : List Nat} (h : Own B w p m zs) (hm : m ≤ 8192) : At w p m m zs := by
  refine ⟨h.len, Nat.le_refl _, by unfold maxLen; omega, h.dig, ?_⟩
  rcases h.mem with h0 | ⟨g, rfl, _, hr⟩
  · exact .inl h0
  · exact .inr ⟨g, 0, rfl, hr.cell⟩
theorem Row.lt {w : World} {g off n : Nat} {xs : List Nat} (h : Row w g off n xs) (hn : 0 < n) : g < w.heap.size := World.block_lt_of_cell? w _ (h.cell 0 hn)
theorem Own.below {B : Nat} {w w' : World} {p : Option Addr} {m : Nat} {zs : List Nat} (h : Own B w p m zs) (hb : Below w.heap.size w w') : Own B w' p m zs := by
  refine ⟨h.len, h.dig, ?_⟩
  by_cases h0 : m = 0
  · exact .inl h0
  · obtain ⟨g, rfl, hg, hr⟩ := h.mem.resolve_left h0
    exact .inr ⟨g, rfl, hg, hr.below hb (hr.lt (by omega))⟩
theorem Own.mono {B B' : Nat} {w : World} {p : Option Addr} {m : Nat} {zs : List Nat} (h : Own B w p m zs) (hB : B' ≤ B) : Own B' w p m zs := by
  refine ⟨h.len, h.dig, ?_⟩
  rcases h.mem with h0 | ⟨g, hp, hg, hr⟩
  · exact .inl h0
  · exact .inr ⟨g, hp, by omega, hr⟩
theorem Row.take {w : World} {g off n : Nat} {xs : List Nat} (h : Row w g off n xs) (m : Nat) (hm : m ≤ n) : Row w g off m (xs.take m) := by
  refine ⟨by rw [List.length_take, h.len]; omega, h.dig.take m, fun j hj => ?_, fun j hj => h.frozen j (by omega)⟩
  have e : (xs.take m).getD j 0 = xs.getD j 0 := by rw [List.getD_eq_getElem?_getD, List.getD_eq_getElem?_getD, List.getElem?_take, if_pos hj]
  rw [e]; exact h.cell j (by omega)
theorem Row.own {w : World} {g n B : Nat} {xs : List Nat} (h : Row w g 0 n xs) (hB : B ≤ g) {p' : Option Addr} {m : Nat} (hm : m = (trimL xs).length) (hp : m ≠ 0 → p' = some ⟨g, 0, none⟩) : Own B w p' m (trimL xs) := by
  have hle := trimL_length_le xs
  refine ⟨hm.symm, h.dig.trimL, ?_⟩
  by_cases h0 : m = 0
  · exact .inl h0
  · have := h.take m (by have := h.len; omega)
    rw [hm, ← trimL_take, ← hm] at this
    exact .inr ⟨g, hp h0, hB, this⟩
theorem Blk.own {w : World} {g B : Nat} {xs : List Nat} (h : Blk w g xs) (hd : Dig B64 xs) (hB : B ≤ g) : Own B w (some ⟨g, 0, none⟩) xs.length xs :=
  ⟨rfl, hd, .inr ⟨g, rfl, hB, h.row hd⟩⟩
theorem Blk.at_ {w : World} {g : Nat} {xs : List Nat} (h : Blk w g xs) (hd : Dig B64 xs) {n : Nat} (hn : xs.length = n) (hb : n ≤ maxLen) : At w (some ⟨g, 0, none⟩) n n xs := by
  subst hn; exact (h.row hd).at_ (Nat.le_refl _) hb

def Ans (B : Nat) (w' : World) (e : Ending) (n : Nat) : Prop :=
  (n < LIM ∧ ∃ p m zs, e = .returned (.tuple #[.slice p m m, .int .i64 0]) ∧ Own B w' p m zs ∧ Nf B64 zs n ∧ m ≤ 8192) ∨
  (LIM ≤ n ∧ e = .returned (.tuple #[.slice none 0 0, .int .i64 5]))

theorem norm_any {p : Option Addr} {n c : Nat} {xs : List Nat} {w : World} (h : At w p n c xs) :
    Calls Tryd.prog 39 #[.slice p n c] w fun e w' => Ans w.heap.size w' e (valB B64 xs) ∧ Below w.heap.size w w' := by
  have hN := Nf.trim h.dig
  have hlim := hN.lim
  have HN : Hid (Nf B64 (trimL xs) (valB B64 xs)) := hN
  have HL : Hid ((trimL xs).length ≤ 8192 ↔ valB B64 xs < LIM) := hlim
  clear hN hlim
  go_enter Tryd.func39, Tryd.ntmps39
  go_wp2_with fail
  refine (trim_any h).mono ?_
  rintro e w' ⟨p1, m, rfl, hm, hp, hw⟩
  obtain rfl := hw.symm
  have A := h.trim hm hp
  have HM : Hid (m = (trimL xs).length) := hm
  clear hw hm hp
  by_cases hle : m ≤ 8192
  · go_wp2_with fail
    refine (copied_any A m (Nat.le_refl _) (by omega)).mono ?_
    rintro e w1 ⟨g, rfl, hg, hblk, hb⟩
    rw [Nat.sub_self, List.replicate_zero, List.append_nil] at hblk
    go_wp2_with fail
    go_ret2
    have e1 := HM.out
    refine ⟨.inl ⟨HL.out.1 (by omega), _, m, trimL xs, rfl, ?_, HN.out, hle⟩, hb⟩
    have := hblk.own HN.out.dig hg
    rw [← e1] at this; exact this
  · go_wp2_with fail
    go_ret2
    have e1 := HM.out
    refine ⟨.inr ⟨?_, rfl⟩, Below.refl _ _⟩
    have := mt HL.out.2 (by omega)
    omega

theorem form_true {p : Option Addr} {n c : Nat} {xs : List Nat} {w : World} (h : At w p n c xs) (hf : formB xs = true) :
    Calls Tryd.prog 21 #[.slice p n c] w fun e w' => e = .returned (.bool true) ∧ w' = w := by
  have := form_any h; rw [hf] at this; exact this
theorem form_false {p : Option Addr} {n c : Nat} {xs : List Nat} {w : World} (h : At w p n c xs) (hf : formB xs = false) :
    Calls Tryd.prog 21 #[.slice p n c] w fun e w' => e = .returned (.bool false) ∧ w' = w := by
  have := form_any h; rw [hf] at this; exact this
theorem Nf.form {xs : List Nat} {n : Nat} (h : Nf B64 xs n) (hl : xs.length ≤ 8192) : formB xs = true := (formB_iff xs).2 ⟨hl, h.top⟩
theorem formB_nf {xs : List Nat} (h : formB xs = true) (hd : Dig B64 xs) : Nf B64 xs (valB B64 xs) ∧ xs.length ≤ 8192 := ⟨⟨hd, ((formB_iff xs).1 h).2, rfl⟩, ((formB_iff xs).1 h).1⟩

def Ap2 (v1 v2 : Value) : Prop := ∀ p1 m1 c1 p2 m2 c2 g, v1 = .slice p1 m1 c1 → v2 = .slice p2 m2 c2 → m1 ≠ 0 → m2 ≠ 0 → p1 = some ⟨g, 0, none⟩ → p2 = some ⟨g, 0, none⟩ → False
theorem Ap2.symm {v1 v2 : Value} (h : Ap2 v1 v2) : Ap2 v2 v1 := fun p1 m1 c1 p2 m2 c2 g e1 e2 h1 h2 q1 q2 => h p2 m2 c2 p1 m1 c1 g e2 e1 h2 h1 q2 q1
theorem dig_pad {xs : List Nat} (h : Dig B64 xs) (n : Nat) : Dig B64 (xs ++ List.replicate n 0) := h.append (Dig.replicate _ _ B64_pos)

theorem add_abs {P Q R A B Z cy : Nat} (hs : Z + Q * cy = A + B) (h1 : A < P) (h2 : B < R) (h3 : R ≤ P) (h5 : P * 2 ≤ Q) : Z = A + B := by
  by_cases hc : cy = 0
  · subst hc; omega
  · have h6 : Q * 1 ≤ Q * cy := Nat.mul_le_mul_left _ (by omega)
    omega
theorem add_fin {n m : Nat} {zs xs ys : List Nat} {a b cy : Nat} (hx : Nf B64 xs a) (hy : Nf B64 ys b) (hlx : xs.length = n) (hly : ys.length = m) (hmn : m ≤ n)
    (hs : valB B64 zs + B64 ^ (n + 1) * cy = valB B64 (xs ++ List.replicate (n + 1 - n) 0) + valB B64 ys) : valB B64 zs = a + b := by
  rw [valB_append_zeros, hx.val, hy.val] at hs
  have h1 := valB_lt B64_pos hx.dig
  have h2 := valB_lt B64_pos hy.dig
  rw [hx.val, hlx] at h1
  rw [hy.val, hly] at h2
  refine add_abs hs h1 h2 (Nat.pow_le_pow_right B64_pos hmn) ?_
  rw [Nat.pow_succ]; exact Nat.mul_le_mul_left _ B64_two

theorem add_ord {p q : Option Addr} {n m c d : Nat} {xs ys : List Nat} {a b : Nat} {w : World} (h : At w p n c xs) (k : At w q m d ys) (hx : Nf B64 xs a) (hy : Nf B64 ys b) (hlx : n ≤ 8192) (hly : m ≤ 8192) :
    Calls Tryd.prog 7 #[.slice p n c, .slice q m d] w fun e w' => Ans w.heap.size w' e (a + b) ∧ Below w.heap.size w w' := by
  have fx := hx.form (by rw [h.len]; exact hlx)
  have fy := hy.form (by rw [k.len]; exact hly)
  have HX : Hid (Nf B64 xs a) := hx
  have HY : Hid (Nf B64 ys b) := hy
  clear hx hy
  go_enter Tryd.func7, Tryd.ntmps7
  go_wp2_with fail
  refine (form_true h fx).mono ?_
  rintro e w' ⟨rfl, hw⟩
  obtain rfl := hw.symm
  clear hw
  go_wp2_with fail
  refine (form_true k fy).mono ?_
  rintro e w' ⟨rfl, hw⟩
  obtain rfl := hw.symm
  clear hw fx fy
  by_cases hlt : n < m
  · go_wp2_with fail
    rw [show ((m : Int) + 1) = ((m + 1 : Nat) : Int) by omega]
    refine (copied_any k (m + 1) (by omega) (by omega)).mono ?_
    rintro e w1 ⟨g, rfl, hg, hblk, hb⟩
    have hd1 := dig_pad HY.out.dig (m + 1 - m)
    have hr := hblk.row hd1
    have hl1 : (ys ++ List.replicate (m + 1 - m) 0).length = m + 1 := by rw [List.length_append, List.length_replicate, k.len]; omega
    rw [hl1] at hr
    have h1 := h.below hb
    go_wp2_with fail
    refine (ladd_any g 0 (m + 1) (m + 1) _ p n c xs _ hr (Nat.le_refl _) (by omega) h1 (by omega) (fun g2 off2 hn hp => .inl (h.fresh hg g2 off2 hn hp))).mono ?_
    rintro e w2 ⟨cy, zs, rfl, _, hwr, hrow, hsum⟩
    have A2 := hrow.at_ (Nat.le_refl _) (by unfold maxLen; omega)
    have hval := add_fin HY.out HX.out k.len h.len (by omega) hsum
    have hN := Nf.trim hrow.dig
    rw [hval] at hN
    have HV : Hid (Nf B64 (trimL zs) (b + a)) := hN
    have hb2 : Below w.heap.size w w2 := hb.trans (hwr.below hg)
    clear hsum hval hN hd1 hl1 hr hblk
    go_wp2_with fail
    refine (fitted_any A2).mono ?_
    rintro e w3 hres
    rcases hres with ⟨hle, ⟨p', m', rfl, hm', hp'⟩, hw⟩ | ⟨hgt, rfl, hw⟩
    · obtain rfl := hw.symm
      have HM : Hid (m' = (trimL zs).length) := hm'
      clear hw hm'
      go_wp2_with fail
      go_ret2
      have e1 := HM.out
      rw [Nat.add_comm a b]
      exact ⟨.inl ⟨HV.out.lim.1 hle, p', m', trimL zs, rfl, hrow.own hg e1 hp', HV.out, by omega⟩, hb2⟩
    · obtain rfl := hw.symm
      clear hw
      go_wp2_with fail
      go_ret2
      rw [Nat.add_comm a b]
      refine ⟨.inr ⟨?_, rfl⟩, hb2⟩
      have := mt HV.out.lim.2 (by omega)
      omega
  · go_wp2_with fail
    rw [show ((n : Int) + 1) = ((n + 1 : Nat) : Int) by omega]
    refine (copied_any h (n + 1) (by omega) (by omega)).mono ?_
    rintro e w1 ⟨g, rfl, hg, hblk, hb⟩
    have hd1 := dig_pad HX.out.dig (n + 1 - n)
    have hr := hblk.row hd1
    have hl1 : (xs ++ List.replicate (n + 1 - n) 0).length = n + 1 := by rw [List.length_append, List.length_replicate, h.len]; omega
    rw [hl1] at hr
    have h1 := k.below hb
    go_wp2_with fail
    refine (ladd_any g 0 (n + 1) (n + 1) _ q m d ys _ hr (Nat.le_refl _) (by omega) h1 (by omega) (fun g2 off2 hn hp => .inl (k.fresh hg g2 off2 hn hp))).mono ?_
    rintro e w2 ⟨cy, zs, rfl, _, hwr, hrow, hsum⟩
    have A2 := hrow.at_ (Nat.le_refl _) (by unfold maxLen; omega)
    have hval := add_fin HX.out HY.out h.len k.len (by omega) hsum
    have hN := Nf.trim hrow.dig
    rw [hval] at hN
    have HV : Hid (Nf B64 (trimL zs) (a + b)) := hN
    have hb2 : Below w.heap.size w w2 := hb.trans (hwr.below hg)
    clear hsum hval hN hd1 hl1 hr hblk
    go_wp2_with fail
    refine (fitted_any A2).mono ?_
    rintro e w3 hres
    rcases hres with ⟨hle, ⟨p', m', rfl, hm', hp'⟩, hw⟩ | ⟨hgt, rfl, hw⟩
    · obtain rfl := hw.symm
      have HM : Hid (m' = (trimL zs).length) := hm'
      clear hw hm'
      go_wp2_with fail
      go_ret2
      have e1 := HM.out
      exact ⟨.inl ⟨HV.out.lim.1 hle, p', m', trimL zs, rfl, hrow.own hg e1 hp', HV.out, by omega⟩, hb2⟩
    · obtain rfl := hw.symm
      clear hw
      go_wp2_with fail
      go_ret2
      refine ⟨.inr ⟨?_, rfl⟩, hb2⟩
      have := mt HV.out.lim.2 (by omega)
      omega
end Go.Proofs.YtkdpafliibclnaaDoor
namespace Go.Proofs.YtkdpafliibclnaaDoor
open Go.RowKit Go.Shelf
set_option maxRecDepth 100000
set_option maxHeartbeats 0
def renLen : Ren := ⟨fun x => match x with | 129 => 27 | n => n, fun x => match x with | 53 => 23 | 3 => 3 | 4 => 4 | 46 => 70 | 5 => 5 | 9 => 9 | n => n, fun n => n⟩
theorem laysLen : Lays.n129 Tryd.prog renLen :=
  { mixed := by kernel_rfl, f129 := Tryd.func27.trans (congrArg some (by kernel_rfl)),
    t3 := Tryd.underlying3, a3 := Tryd.isAgg3, z3 := Tryd.sizeOf3, v3 := Tryd.zeroValue3, t4 := Tryd.underlying4, a4 := Tryd.isAgg4, z4 := Tryd.sizeOf4, v4 := Tryd.zeroValue4,
    t5 := Tryd.underlying5, a5 := Tryd.isAgg5, z5 := Tryd.sizeOf5, v5 := Tryd.zeroValue5, t9 := Tryd.underlying9, a9 := Tryd.isAgg9, z9 := Tryd.sizeOf9, v9 := Tryd.zeroValue9,
    t46 := Tryd.underlying70, a46 := Tryd.isAgg70, z46 := Tryd.sizeOf70, v46 := Tryd.zeroValue70, t53 := Tryd.underlying23, a53 := Tryd.isAgg23, z53 := Tryd.sizeOf23, v53 := Tryd.zeroValue23 }

def bitsN (n : Nat) : Nat := if n = 0 then 0 else n.log2 + 1
theorem bitsN_zero : bitsN 0 = 0 := rfl
theorem bitsN_lt (n : Nat) : n < 2 ^ bitsN n := by
  unfold bitsN
  split
  · rename_i h; subst h; decide
  · exact Nat.lt_log2_self
theorem bitsN_le (n : Nat) (h : n ≠ 0) : 2 ^ (bitsN n - 1) ≤ n := by
  unfold bitsN
  rw [if_neg h, Nat.add_sub_cancel]
  exact Nat.log2_self_le h
theorem bitsN_unique {n k : Nat} (h1 : n < 2 ^ k) (h2 : n ≠ 0 → 2 ^ (k - 1) ≤ n) (h3 : n = 0 → k = 0) : bitsN n = k := by
  by_cases h0 : n = 0
  · subst h0; rw [h3 rfl]; rfl
  · have a1 := bitsN_lt n
    have a2 := bitsN_le n h0
    have b2 := h2 h0
    have c1 : bitsN n - 1 < k := (Nat.pow_lt_pow_iff_right (by decide : 1 < 2)).1 (Nat.lt_of_le_of_lt a2 h1)
    have c2 : k - 1 < bitsN n := (Nat.pow_lt_pow_iff_right (by decide : 1 < 2)).1 (Nat.lt_of_le_of_lt b2 a1)
    have c3 : bitsN n ≠ 0 := by unfold bitsN; rw [if_neg h0]; omega
    omega
theorem bitsN_half (n : Nat) (h : n ≠ 0) : bitsN n = 1 + bitsN (n / 2) := by
  refine bitsN_unique ?_ ?_ (fun e => absurd e h)
  · have := bitsN_lt (n / 2)
    rw [Nat.add_comm, Nat.pow_succ]; omega
  · intro _
    by_cases h2 : n / 2 = 0
    · rw [h2]; simp [bitsN]; omega
    · have a := bitsN_le _ h2
      have c3 : bitsN (n / 2) ≠ 0 := by unfold bitsN; rw [if_neg h2]; omega
      have e : 1 + bitsN (n / 2) - 1 = bitsN (n / 2) - 1 + 1 := by omega
      rw [e, Nat.pow_succ]; omega
theorem bitLen_eq : ∀ (k n : Nat), n < 2 ^ k → k ≤ 64 → Lib.bitLen n = bitsN n := by
  intro k
  induction k with
  | zero => intro n h _; have : n = 0 := by simpa using h
            subst this; rfl
  | succ k ih =>
    intro n h hk
    by_cases h0 : n = 0
    · subst h0; rfl
    · rw [Lib.bitLen_half n h0 (Nat.lt_of_lt_of_le h (Nat.pow_le_pow_right (by decide) hk)), bitsN_half n h0, ih (n / 2) (by rw [Nat.pow_succ] at h; omega) (by omega)]

theorem B64_two_pow : B64 = 2 ^ 64 := rfl
theorem B64_pow (k : Nat) : B64 ^ k = 2 ^ (64 * k) := by rw [B64_two_pow, ← Nat.pow_mul]
theorem bitsN_top {lo x k l : Nat} (hlo : lo < 2 ^ k) (h1 : x < 2 ^ l) (h2 : 2 ^ (l - 1) ≤ x) (hl : l ≠ 0) : bitsN (lo + 2 ^ k * x) = k + l := by
  have hx : 0 < x := Nat.lt_of_lt_of_le (Nat.two_pow_pos _) h2
  have hp := Nat.two_pow_pos k
  have hk : 2 ^ k * 1 ≤ 2 ^ k * x := Nat.mul_le_mul_left _ hx
  refine bitsN_unique ?_ (fun _ => ?_) (fun e => by omega)
  · have := Nat.mul_le_mul_left (2 ^ k) (show x + 1 ≤ 2 ^ l from h1)
    rw [Nat.mul_add, ← Nat.pow_add] at this; omega
  · have := Nat.mul_le_mul_left (2 ^ k) h2
    rw [← Nat.pow_add] at this
    rw [show k + l - 1 = k + (l - 1) by omega]; omega
theorem bitsN_list {us : List Nat} {m x : Nat} (hd : Dig B64 us) (ht : Top us) (hl : us.length = m) (hm : m ≠ 0) (hx : x = us.getD (m - 1) 0) : bitsN (valB B64 us) = 64 * (m - 1) + bitsN x := by
  have h1 := valB_lt B64_pos (hd.take (m - 1))
  rw [List.length_take, hl, Nat.min_eq_left (by omega), B64_pow] at h1
  have hx0 : x ≠ 0 := by
    rw [hx]
    refine ht _ ?_
    rw [List.getLast?_eq_getElem?, hl, List.getD_eq_getElem?_getD, List.getElem?_eq_getElem (by omega)]; rfl
  have e : valB B64 us = valB B64 (us.take (m - 1)) + B64 ^ (m - 1) * x := by
    have := valB_take_succ B64 us (m - 1) (by omega)
    rw [show m - 1 + 1 = m by omega, List.take_of_length_le (by omega), ← hx] at this
    exact this
  rw [e, B64_pow]
  exact bitsN_top h1 (bitsN_lt x) (bitsN_le x hx0) (by unfold bitsN; rw [if_neg hx0]; omega)

theorem len_any (x : Nat) (w : World) (hx : x < B64) : Calls Tryd.prog 27 #[U x] w fun e w' => e = .returned (.int .i64 (bitsN x)) ∧ w' = w := by
  rw [B64_eq] at hx
  have h := Any.bits_Len64 laysLen (x : Int) w (by omega) (by omega)
  rw [Int.toNat_natCast, bitLen_eq 64 x hx (Nat.le_refl _)] at h
  exact h

theorem bits_any {p : Option Addr} {n c : Nat} {xs : List Nat} {w : World} (h : At w p n c xs) (hn : n ≤ 17592186044416) :
    Calls Tryd.prog 10 #[.slice p n c] w fun e w' => e = .returned (.int .i64 (bitsN (valB B64 xs))) ∧ w' = w := by
  obtain ⟨res, hres⟩ : ∃ res, res = bitsN (valB B64 xs) := ⟨_, rfl⟩
  rw [← hres]
  have HRES : Hid (res = bitsN (valB B64 (trimL xs))) := by rw [valB_trimL]; exact hres
  clear hres
  go_enter Tryd.func10, Tryd.ntmps10
  go_wp2_with fail
  refine (trim_any h).mono ?_
  rintro e w' ⟨p1, m, rfl, hm, hp, hw⟩
  obtain rfl := hw.symm
  have A := h.trim hm hp
  have tx := Top_trimL xs
  have hle := trimL_length_le xs
  rw [h.len, ← hm] at hle
  clear hw hm hp
  generalize trimL xs = us at *
  by_cases h0 : m = 0
  · subst h0
    have hu : us = [] := List.eq_nil_of_length_eq_zero A.len
    have HR : Hid (res = 0) := by have := HRES.out; rw [hu] at this; exact this
    clear hu
    go_wp2_with fail
    go_ret
    exact ⟨ret_int (by have := HR.out; omega), rfl⟩
  · obtain ⟨g, off, rfl, hc⟩ := A.cells.resolve_left h0
    obtain ⟨x, hx⟩ : ∃ x, x = us.getD (m - 1) 0 := ⟨_, rfl⟩
    have hcx : w.cell? ⟨g, off + (m - 1), none⟩ = some (U x) := by rw [hx]; exact hc _ (by omega)
    have h0' : ((m : Int) == 0) = false := by simp; omega
    have hxb : x < B64 := by rw [hx]; exact A.dig.getD B64_pos _
    have HR : Hid (res = 64 * (m - 1) + bitsN x) := HRES.out.trans (bitsN_list A.dig tx A.len h0 hx)
    have hbx : bitsN x ≤ 64 := by
      have h1 : bitsN x - 1 < 64 ∨ x = 0 := by
        by_cases e : x = 0
        · exact .inr e
        · refine .inl ((Nat.pow_lt_pow_iff_right (by decide : 1 < 2)).1 (Nat.lt_of_le_of_lt (bitsN_le x e) ?_))
          rw [B64_two_pow] at hxb; exact hxb
      rcases h1 with h1 | rfl
      · omega
      · simp [bitsN]
    clear hc hx
    go_wp2_with fail
    refine (len_any x _ hxb).mono ?_
    rintro e w' ⟨rfl, hw⟩
    obtain rfl := hw.symm
    clear hw
    go_wp2_with fail
    go_ret
    exact ⟨ret_int (by have := HR.out; omega), rfl⟩
end Go.Proofs.YtkdpafliibclnaaDoor
namespace Go.Proofs.YtkdpafliibclnaaDoor
open Go.RowKit
set_option maxRecDepth 100000
set_option maxHeartbeats 0
theorem sub_abs {P A B Z cy : Nat} (hs : Z + B = A + P * cy) (h1 : Z < P) (hc : cy ≤ 1) (h2 : B ≤ A) : Z = A - B := by
  by_cases h : cy = 0
  · subst h; omega
  · obtain rfl : cy = 1 := by omega
    omega

theorem sub_nf {p q : Option Addr} {n m c d : Nat} {xs ys : List Nat} {a b : Nat} {w : World} (h : At w p n c xs) (k : At w q m d ys) (hx : Nf B64 xs a) (hy : Nf B64 ys b) (hlx : n ≤ 8192) (hly : m ≤ 8192) :
    Calls Tryd.prog 9 #[.slice p n c, .slice q m d] w fun e w' =>
      ((b ≤ a ∧ ∃ p m zs, e = .returned (.tuple #[.slice p m m, .int .i64 0]) ∧ Own w.heap.size w' p m zs ∧ Nf B64 zs (a - b) ∧ m ≤ 8192) ∨
       (a < b ∧ e = .returned (.tuple #[.slice none 0 0, .int .i64 3]))) ∧ Below w.heap.size w w' := by
  have fx := hx.form (by rw [h.len]; exact hlx)
  have fy := hy.form (by rw [k.len]; exact hly)
  have HX : Hid (Nf B64 xs a) := hx
  have HY : Hid (Nf B64 ys b) := hy
  clear hx hy
  go_enter Tryd.func9, Tryd.ntmps9
  go_wp2_with fail
  refine (form_true h fx).mono ?_
  rintro e w' ⟨rfl, hw⟩
  obtain rfl := hw.symm
  clear hw
  go_wp2_with fail
  refine (form_true k fy).mono ?_
  rintro e w' ⟨rfl, hw⟩
  obtain rfl := hw.symm
  clear hw fx fy
  go_wp2_with fail
  refine (cmp_any h k).mono ?_
  rintro e w' ⟨rfl, r, hw⟩
  obtain rfl := hw.symm
  clear hw
  rw [HX.out.val, HY.out.val]
  have hn0 := cmpN_neg a b
  by_cases hlt : a < b
  · have hneg : cmpN a b < 0 := hn0.2 hlt
    clear hn0
    go_wp2_with fail
    go_ret2
    exact ⟨.inr ⟨hlt, rfl⟩, bDrewN (Below.refl _ _) r⟩
  · have hneg : ¬ cmpN a b < 0 := mt hn0.1 hlt
    clear hn0
    go_wp2_with fail
    refine (copied_any (h.drewN r) n (Nat.le_refl _) (by omega)).mono ?_
    rintro e w1 ⟨g, rfl, hg, hblk, hb⟩
    rw [Nat.sub_self, List.replicate_zero, List.append_nil] at hblk
    have hr := hblk.row HX.out.dig
    rw [h.len] at hr
    have h1 := (k.drewN r).below hb
    have hmn : m ≤ n := by
      have l1 := h.len; have l2 := k.len
      by_cases hnm : n < m
      · have := val_lt_len HX.out.dig HY.out.top (by omega)
        rw [HX.out.val, HY.out.val] at this; omega
      · omega
    go_wp2_with fail
    refine (lsub_any g 0 n n _ q m d ys _ hr (Nat.le_refl _) (by omega) h1 hmn (fun g2 off2 hn hp => .inl (k.fresh hg g2 off2 hn hp))).mono ?_
    rintro e w2 ⟨cy, zs, rfl, hcy, hwr, hrow, hsum⟩
    have A2 := hrow.at_ (Nat.le_refl _) (by unfold maxLen; omega)
    have hval : valB B64 zs = a - b := by
      rw [HX.out.val, HY.out.val] at hsum
      have h2 := valB_lt B64_pos hrow.dig
      rw [hrow.len] at h2
      exact sub_abs hsum h2 hcy (by omega)
    have hN := Nf.trim hrow.dig
    rw [hval] at hN
    have HV : Hid (Nf B64 (trimL zs) (a - b)) := hN
    have hb2 : Below w.heap.size w w2 := (bDrewN (Below.refl _ _) r).trans (hb.trans (hwr.below hg))
    clear hsum hval hN hr hblk
    go_wp2_with fail
    refine (trim_any A2).mono ?_
    rintro e w3 ⟨p', m', rfl, hm', hp', hw⟩
    obtain rfl := hw.symm
    have HM : Hid (m' = (trimL zs).length) := hm'
    clear hw hm'
    go_wp2_with fail
    go_ret2
    have e1 := HM.out
    have e2 := trimL_length_le zs
    have e3 := hrow.len
    exact ⟨.inl ⟨by omega, p', m', trimL zs, rfl, hrow.own hg e1 hp', HV.out, by omega⟩, hb2⟩
theorem Ans.ok {B : Nat} {w' : World} {e : Ending} {n : Nat} (h : Ans B w' e n) (hn : n < LIM) : ∃ p m zs, e = .returned (.tuple #[.slice p m m, .int .i64 0]) ∧ Own B w' p m zs ∧ Nf B64 zs n ∧ m ≤ 8192 := by
  rcases h with ⟨_, h⟩ | ⟨h, _⟩
  · exact h
  · omega
theorem Ans.no {B : Nat} {w' : World} {e : Ending} {n : Nat} (h : Ans B w' e n) (hn : LIM ≤ n) : e = .returned (.tuple #[.slice none 0 0, .int .i64 5]) := by
  rcases h with ⟨h, _⟩ | ⟨_, h⟩
  · omega
  · exact h
theorem lit_at (w : World) (cs : Array Value) (xs : List Nat) (n : Nat) (hcs : cs = (cellsU xs).toArray) (hn : xs.length = n) (hd : Dig B64 xs) (hb : n ≤ 1000) : At (w.alloc (.cells cs 23)) (some ⟨w.heap.size, 0, none⟩) n n xs := by
  subst hcs
  have h : Blk (w.alloc (.cells (cellsU xs).toArray 23)) w.heap.size xs := heap_alloc_new w _
  exact h.at_ hd hn (by unfold maxLen; omega)
theorem lit_at1 (w : World) (o : Obj) (cs : Array Value) (xs : List Nat) (n : Nat) (hcs : cs = (cellsU xs).toArray) (hn : xs.length = n) (hd : Dig B64 xs) (hb : n ≤ 1000) : At ((w.alloc o).alloc (.cells cs 23)) (some ⟨w.heap.size + 1, 0, none⟩) n n xs := by
  have := lit_at (w.alloc o) cs xs n hcs hn hd hb
  rw [World.size_alloc] at this; exact this
theorem below1 (w : World) (o : Obj) : Below w.heap.size w (w.alloc o) := (Below.refl _ _).alloc (Nat.le_refl _) o
theorem below2 (w : World) (o o' : Obj) : Below w.heap.size w ((w.alloc o).alloc o') := (below1 w o).alloc (by simp) o'
theorem Below.on {w w1 w2 : World} (h : Below w.heap.size w w1) (k : Below w1.heap.size w1 w2) : Below w.heap.size w w2 := h.trans (k.mono h.size)
def TOP : Nat := 18446744073709551615
theorem dig2 {x y : Nat} (h : x < B64) (k : y < B64) : Dig B64 [x, y] := Dig.cons h (Dig.cons k (Dig.nil _))
theorem nf_top : Nf B64 [TOP] TOP := ⟨dig1 (by decide), by intro x hx; simp at hx; subst hx; decide, by simp [valB]⟩
theorem nf_one {x : Nat} (h : x < B64) (h0 : x ≠ 0) : Nf B64 [x] x := ⟨dig1 h, by intro y hy; simp at hy; omega, by simp [valB]⟩
theorem nf_B64 : Nf B64 [0, 1] (TOP + 1) := ⟨dig2 (by decide) (by decide), by intro x hx; simp at hx; omega, by simp [valB, B64, TOP]⟩
theorem same_t {p q : Option Addr} {n m c d : Nat} {xs : List Nat} {w : World} (h : At w p n c xs) (k : At w q m d xs) :
    Calls Tryd.prog 8 #[.slice p n c, .slice q m d] w fun e w' => e = .returned (.bool true) ∧ Below w.heap.size w w' := by
  refine (same_any h k).mono ?_
  rintro e w' ⟨rfl, r, rfl⟩
  exact ⟨ret_bool (by simp), bDrewN (Below.refl _ _) r⟩
theorem nf_of_form {xs : List Nat} (hd : Dig B64 xs) (hf : formB xs = true) : Nf B64 xs (valB B64 xs) := (formB_nf hf hd).1
theorem cmp_w {p q : Option Addr} {n m c d : Nat} {xs ys : List Nat} {w : World} (h : At w p n c xs) (k : At w q m d ys) :
    Calls Tryd.prog 11 #[.slice p n c, .slice q m d] w fun e w' => e = .returned (.int .i64 (cmpN (valB B64 xs) (valB B64 ys))) ∧ Below w.heap.size w w' := by
  refine (cmp_any h k).mono ?_
  rintro e w' ⟨rfl, r, rfl⟩
  exact ⟨rfl, bDrewN (Below.refl _ _) r⟩

theorem word_any (v : Nat) (w : World) (hv : v < B64) :
    Calls Tryd.prog 40 #[U v] w fun e w' => ∃ p m zs, e = .returned (.slice p m m) ∧ Own w.heap.size w' p m zs ∧ Nf B64 zs v ∧ m ≤ 1 ∧ Below w.heap.size w w' := by
  by_cases h0 : v = 0
  · subst h0
    go_enter Tryd.func40, Tryd.ntmps40
    go_wp2_with fail
    go_ret
    exact ⟨none, 0, [], rfl, ⟨rfl, Dig.nil _, .inl rfl⟩, Nf.nil _, by omega, Below.refl _ _⟩
  · have h0' : ((v : Int) == 0) = false := by simp; omega
    go_enter Tryd.func40, Tryd.ntmps40
    go_wp2_with fail
    go_ret
    have hbk : Blk (w.alloc (.cells #[U v] 23)) w.heap.size [v] := heap_alloc_new w _
    exact ⟨_, 1, [v], rfl, hbk.own (dig1 hv) (Nat.le_refl _), nf_one hv h0, by omega, below1 w _⟩
def B32 : Nat := 4294967296
theorem B32_eq : B32 = 4294967296 := rfl
theorem B32_pos : 0 < B32 := by decide
theorem B32_one : 1 < B32 := by decide
theorem B32_two : B32 * B32 = B64 := by decide
abbrev V (n : Nat) : Value := .int .u32 (n : Int)

structure At32 (w : World) (p : Option Addr) (n c : Nat) (xs : List Nat) : Prop where
  len : xs.length = n
  cap : n ≤ c
  big : c ≤ maxLen
  dig : Dig B32 xs
  cells : n = 0 ∨ ∃ g off, p = some ⟨g, off, none⟩ ∧ ∀ j, j < n → w.cell? ⟨g, off + j, none⟩ = some (V (xs.getD j 0))
theorem At32.below {w w' : World} {p : Option Addr} {n c : Nat} {xs : List Nat} (h : At32 w p n c xs) (hb : Below w.heap.size w w') : At32 w' p n c xs := by
  refine ⟨h.len, h.cap, h.big, h.dig, ?_⟩
  rcases h.cells with h0 | ⟨g, off, rfl, hc⟩
  · exact .inl h0
  · exact .inr ⟨g, off, rfl, fun j hj => (hb.cell (p := ⟨g, off + j, none⟩) (World.block_lt_of_cell? w _ (hc j hj))).trans (hc j hj)⟩
theorem At32.drewN {w : World} {p : Option Addr} {n c : Nat} {xs : List Nat} (h : At32 w p n c xs) (q : Nat) : At32 (w.drewN q) p n c xs := ⟨h.len, h.cap, h.big, h.dig, h.cells⟩
theorem At32.alloc {w : World} {p : Option Addr} {n c : Nat} {xs : List Nat} (h : At32 w p n c xs) (o : Obj) : At32 (w.alloc o) p n c xs :=
  h.below ((Below.refl _ _).alloc (Nat.le_refl _) o)
theorem At32.take {w : World} {p : Option Addr} {n c : Nat} {xs : List Nat} (h : At32 w p n c xs) (m : Nat) (hm : m ≤ n) (c' : Nat) (hc : m ≤ c') (hb : c' ≤ maxLen) : At32 w p m c' (xs.take m) := by
  refine ⟨by rw [List.length_take, h.len]; omega, hc, hb, h.dig.take m, ?_⟩
  rcases h.cells with h0 | ⟨g, off, rfl, hcl⟩
  · exact .inl (by omega)
  · refine .inr ⟨g, off, rfl, fun j hj => ?_⟩
    have e : (xs.take m).getD j 0 = xs.getD j 0 := by rw [List.getD_eq_getElem?_getD, List.getD_eq_getElem?_getD, List.getElem?_take, if_pos hj]
    rw [e]; exact hcl j (by omega)
theorem At32.empty (w : World) (p : Option Addr) (c : Nat) (hb : c ≤ maxLen) : At32 w p 0 c [] := ⟨rfl, Nat.zero_le _, hb, Dig.nil _, .inl rfl⟩
theorem Tryd.infoU32 : (Tryd.prog.info? 87).map (fun i => (i.zero, i.size, i.bytes)) = some (some (.int .u32 0), 1, 4) := by kernel_rfl
theorem Tryd.sizeU32 : (Tryd.prog.info? 87).map (·.size) = some 1 := by kernel_rfl
def cellsV (xs : List Nat) : List Value := xs.map V
theorem madeV (n : Nat) : (madeCells (Value.cells (.int .u32 0)) (n * 1)).toList = cellsV (List.replicate n 0) := by
  unfold madeCells cellsV
  apply List.ext_getElem
  · simp
  · intro i h1 h2
    have e : i % 1 = 0 := Nat.mod_one i
    simp [Value.cells, V, e]
def Blk32 (w : World) (g : Nat) (xs : List Nat) : Prop := w.heap[g]? = some (.cells (cellsV xs).toArray 87 (0, 0))
theorem cellsV_get (xs : List Nat) (j : Nat) (h : j < xs.length) : (cellsV xs)[j]? = some (V (xs.getD j 0)) := by
  unfold cellsV
  rw [List.getElem?_map, List.getElem?_eq_getElem h, List.getD_eq_getElem?_getD, List.getElem?_eq_getElem h]; rfl
theorem Blk32.cell {w : World} {g : Nat} {xs : List Nat} (h : Blk32 w g xs) (j : Nat) (hj : j < xs.length) : w.cell? ⟨g, j, none⟩ = some (V (xs.getD j 0)) := by
  rw [cell_of_row w g j _ _ _ h]
  rw [List.getElem?_toArray]; exact cellsV_get xs j hj
theorem Blk32.lt {w : World} {g : Nat} {xs : List Nat} (h : Blk32 w g xs) : g < w.heap.size := (Array.getElem?_eq_some_iff.1 h).1
theorem own_blk32 {w : World} {base g n : Nat} {xs : List Nat} (h : w.ownsRow base 87 1 (.slice (some ⟨g, 0, none⟩) n n) n (cellsV xs)) : Blk32 w g xs := by
  rcases h.2 with ⟨h', _⟩ | ⟨g', cap', cur, h', _, hg, _, _, hsz, htake⟩
  · simp at h'
  · simp only [Value.slice.injEq, Option.some.injEq, Addr.mk.injEq, and_true, true_and] at h'
    obtain ⟨rfl, rfl⟩ := h'
    have e : cur = (cellsV xs).toArray := by
      rw [← htake, List.take_of_length_le (by rw [Array.length_toList, hsz]; exact Nat.le_refl _)]
    unfold Blk32; rw [← e]; exact hg
theorem splice_cellsV (n : Nat) (xs : List Nat) : splice (cellsV (List.replicate n 0)) 0 (cellsV xs) = cellsV (xs ++ List.replicate (n - xs.length) 0) := by
  unfold splice cellsV
  simp only [List.take_zero, List.nil_append, List.length_map, Nat.zero_add, List.map_append, List.map_replicate, List.drop_replicate]
theorem made_blk32 {w w1 : World} {n : Nat} (hown : w1.ownsRow w.heap.size 87 1 (.slice (some ⟨w.heap.size, 0, none⟩) n n) n (madeCells (Value.cells (.int .u32 0)) (n * 1)).toList) (hgrow : w.grownBy w1 none) :
    Blk32 w1 w.heap.size (List.replicate n 0) ∧ Below w.heap.size w w1 := by
  rw [madeV] at hown
  exact ⟨own_blk32 hown, (Below.refl _ _).grown hgrow (Nat.le_refl _) (fun k hk => by simp at hk)⟩
theorem cellsV_one (xs : List Nat) : ∀ v ∈ cellsV xs, v.oneCell' = true := by
  intro v hv; unfold cellsV at hv; rw [List.mem_map] at hv; obtain ⟨x, _, rfl⟩ := hv; rfl
theorem cellsV_length (xs : List Nat) : (cellsV xs).length = xs.length := by simp [cellsV]
theorem At32.src {w : World} {p : Option Addr} {n c : Nat} {xs : List Nat} (h : At32 w p n c xs) (hn : 0 < n) : ∃ ad, p = some ad ∧ ∀ j v, (cellsV xs)[j]? = some v → w.cell? (ad.add j) = some v := by
  rcases h.cells with h0 | ⟨g, off, rfl, hc⟩
  · omega
  · refine ⟨_, rfl, fun j v hv => ?_⟩
    have hj : j < xs.length := by
      have := (List.getElem?_eq_some_iff.1 hv).1
      rwa [cellsV_length] at this
    have hadd : (⟨g, off, none⟩ : Addr).add j = ⟨g, off + j, none⟩ := by unfold Addr.add; split <;> simp_all
    rw [hadd, hc j (by have := h.len; omega)]
    rw [cellsV_get xs j hj] at hv; exact hv

theorem Blk32.at_ {w : World} {g : Nat} {xs : List Nat} (h : Blk32 w g xs) (hd : Dig B32 xs) {n : Nat} (hn : xs.length = n) (hb : n ≤ maxLen) : At32 w (some ⟨g, 0, none⟩) n n xs := by
  subst hn
  exact ⟨rfl, Nat.le_refl _, hb, hd, .inr ⟨g, 0, rfl, fun j hj => by rw [Nat.zero_add]; exact h.cell j hj⟩⟩
theorem At32.cellAt {w : World} {g off n c : Nat} {xs : List Nat} (h : At32 w (some ⟨g, off, none⟩) n c xs) (j : Nat) (hj : j < n) : w.cell? ⟨g, off + j, none⟩ = some (V (xs.getD j 0)) := by
  obtain ⟨g', o', he, hcell⟩ := h.cells.resolve_left (by omega)
  simp only [Option.some.injEq, Addr.mk.injEq, and_true] at he
  obtain ⟨rfl, rfl⟩ := he
  exact hcell j hj

def dig32 : List Nat → List Nat
  | [] => []
  | x :: xs => x % B32 :: x / B32 :: dig32 xs
theorem dig32_val (xs : List Nat) : valB B32 (dig32 xs) = valB B64 xs := by
  induction xs with
  | nil => rfl
  | cons x xs ih =>
    show x % B32 + B32 * (x / B32 + B32 * valB B32 (dig32 xs)) = x + B64 * valB B64 xs
    rw [ih, Nat.mul_add, ← Nat.mul_assoc, B32_two]
    have := Nat.mod_add_div x B32
    omega
theorem dig32_len (xs : List Nat) : (dig32 xs).length = 2 * xs.length := by
  induction xs with
  | nil => rfl
  | cons x xs ih => show (dig32 xs).length + 1 + 1 = 2 * (xs.length + 1); omega
theorem dig32_dig {xs : List Nat} (h : Dig B64 xs) : Dig B32 (dig32 xs) := by
  induction xs with
  | nil => exact Dig.nil _
  | cons x xs ih =>
    refine Dig.cons (Nat.mod_lt _ B32_pos) (Dig.cons ?_ (ih h.tail))
    refine Nat.div_lt_of_lt_mul ?_
    rw [B32_two]; exact h.head
theorem dig32_append (xs ys : List Nat) : dig32 (xs ++ ys) = dig32 xs ++ dig32 ys := by
  induction xs with
  | nil => rfl
  | cons x xs ih => show _ :: _ :: dig32 (xs ++ ys) = _; rw [ih]; rfl
theorem dig32_snoc (xs : List Nat) (k : Nat) (h : k < xs.length) : dig32 (xs.take (k + 1)) = dig32 (xs.take k) ++ [xs.getD k 0 % B32, xs.getD k 0 / B32] := by
  rw [take_succ_getD xs k h, dig32_append]; rfl

theorem rnorm_any {p : Option Addr} {n c : Nat} {xs : List Nat} {w : World} (h : At32 w p n c xs) (hn : n ≤ 35184372088832) :
    Calls Tryd.prog 77 #[.slice p n c] w fun e w' =>
      ∃ g, e = .returned (.slice (some ⟨g, 0, none⟩) (trimL xs).length (trimL xs).length) ∧ w.heap.size ≤ g ∧ Blk32 w' g (trimL xs) ∧ Below w.heap.size w w' := by
  obtain ⟨i0, hi, hz0, hz1, hz2⟩ := info_parts Tryd.infoU32
  have hl := h.len; have cap := h.cap; have big := h.big
  unfold maxLen at big
  have HL : Hid (xs.length = n) := hl
  clear hl
  go_enter Tryd.func77, Tryd.ntmps77
  go_wp2
  go_loopg [3] n (fun gk nv wr => nv = .int .i64 gk ∧ gk ≤ n ∧ Hid (∀ j, gk ≤ j → j < n → xs.getD j 0 = 0) ∧ wr = w)
  case atStart => exact ⟨rfl, Nat.le_refl _, fun j h1 h2 => absurd h1 (by omega), rfl⟩
  case round =>
    obtain ⟨rfl, hgn, HZ, hwr⟩ := hrel
    obtain rfl := hwr.symm
    clear hwr
    by_cases hg0 : gk = 0
    · have HG0 : Hid (gk = 0) := hg0
      have hng : ¬ 0 < gk := by omega
      have hgc : gk ≤ c := by omega
      clear hg0
      cases p
      · have ht : trimL xs = xs.take gk := trimL_of_take xs gk (by rw [HL.out]; omega) (fun j h1 h2 => HZ.out j h1 (by rw [← HL.out]; exact h2)) (.inl HG0.out)
        have hlt : (trimL xs).length = gk := by rw [ht, List.length_take, HL.out]; omega
        have HT : Hid (trimL xs = xs.take gk) := ht
        have HLT : Hid ((trimL xs).length = gk) := hlt
        have hA := h.take gk (by omega) c (by omega) (by unfold maxLen; omega)
        clear ht hlt h
        go_wp2_with (first
          | (at_make; refine wpList_make_full _ rfl _ _ 72 rfl w.heap.size 87 i0 (.int .u32 0) 1 Tryd.underlying72 hi hz0 hz1 _ _ _ _ gk rfl rfl (by omega) (by omega) (by rw [hz2]; omega) (by unfold maxLen; omega) (Nat.le_refl _) ?_; intro w1 hown hgrow; have hb := made_blk32 hown hgrow; clear hown hgrow)
          | (refine wpList_copy_splice rfl (.tmp 21) (.tmp 24) 72 72 rfl 87 Tryd.underlying72 Tryd.sizeU32 (some ⟨w.heap.size, 0, none⟩) _ gk gk gk c rfl rfl w.heap.size 0 (cellsV (List.replicate gk 0)) 87 hb.1 (cellsV (xs.take gk)) (by rw [cellsV_length, hA.len]; exact (Nat.min_self gk).symm) (fun h0 => ⟨rfl, (hA.below hb.2).src (by rw [cellsV_length, hA.len] at h0; exact h0)⟩) (by simp [cellsV_length]; omega) (cellsV_one _) w.heap.size w hb.2 (Nat.le_refl _) ?_; intro w2 hg2 hb2))
        go_ret
        rw [HLT.out, HT.out]
        refine ⟨_, rfl, Nat.le_refl _, ?_, hb2⟩
        rw [splice_cellsV, hA.len, Nat.sub_self, List.replicate_zero, List.append_nil] at hg2
        exact hg2
      · have ht : trimL xs = xs.take gk := trimL_of_take xs gk (by rw [HL.out]; omega) (fun j h1 h2 => HZ.out j h1 (by rw [← HL.out]; exact h2)) (.inl HG0.out)
        have hlt : (trimL xs).length = gk := by rw [ht, List.length_take, HL.out]; omega
        have HT : Hid (trimL xs = xs.take gk) := ht
        have HLT : Hid ((trimL xs).length = gk) := hlt
        have hA := h.take gk (by omega) c (by omega) (by unfold maxLen; omega)
        clear ht hlt h
        go_wp2_with (first
          | (at_make; refine wpList_make_full _ rfl _ _ 72 rfl w.heap.size 87 i0 (.int .u32 0) 1 Tryd.underlying72 hi hz0 hz1 _ _ _ _ gk rfl rfl (by omega) (by omega) (by rw [hz2]; omega) (by unfold maxLen; omega) (Nat.le_refl _) ?_; intro w1 hown hgrow; have hb := made_blk32 hown hgrow; clear hown hgrow)
          | (refine wpList_copy_splice rfl (.tmp 21) (.tmp 24) 72 72 rfl 87 Tryd.underlying72 Tryd.sizeU32 (some ⟨w.heap.size, 0, none⟩) _ gk gk gk c rfl rfl w.heap.size 0 (cellsV (List.replicate gk 0)) 87 hb.1 (cellsV (xs.take gk)) (by rw [cellsV_length, hA.len]; exact (Nat.min_self gk).symm) (fun h0 => ⟨rfl, (hA.below hb.2).src (by rw [cellsV_length, hA.len] at h0; exact h0)⟩) (by simp [cellsV_length]; omega) (cellsV_one _) w.heap.size w hb.2 (Nat.le_refl _) ?_; intro w2 hg2 hb2))
        go_ret
        rw [HLT.out, HT.out]
        refine ⟨_, rfl, Nat.le_refl _, ?_, hb2⟩
        rw [splice_cellsV, hA.len, Nat.sub_self, List.replicate_zero, List.append_nil] at hg2
        exact hg2
    · obtain ⟨g, off, rfl, hc⟩ := h.cells.resolve_left (by omega)
      obtain ⟨x, hx⟩ : ∃ x, x = xs.getD (gk - 1) 0 := ⟨_, rfl⟩
      have hcx : w.cell? ⟨g, off + (gk - 1), none⟩ = some (V x) := by rw [hx]; exact hc (gk - 1) (by omega)
      have hdg : decide ((0 : Int) < (gk : Int)) = true := decide_eq_true (by omega)
      have HX : Hid (x = xs.getD (gk - 1) 0) := hx
      clear hc hx
      by_cases h0 : x = 0
      · subst h0
        go_wp2_with fail
        go_roundg (gk - 1)
        case measure => omega
        case rel =>
          refine ⟨by go_num, by omega, fun j h1 h2 => ?_, rfl⟩
          by_cases hj : j = gk - 1
          · subst hj; exact HX.out.symm
          · exact HZ.out j (by omega) h2
      · have h0' : ((x : Int) == 0) = false := by simp; omega
        have hgc : gk ≤ c := by omega
        have HXN : Hid (xs.getD (gk - 1) 0 ≠ 0) := by rw [← HX.out]; exact h0
        clear h0
        have ht : trimL xs = xs.take gk := trimL_of_take xs gk (by rw [HL.out]; omega) (fun j h1 h2 => HZ.out j h1 (by rw [← HL.out]; exact h2)) (.inr HXN.out)
        have hlt : (trimL xs).length = gk := by rw [ht, List.length_take, HL.out]; omega
        have HT : Hid (trimL xs = xs.take gk) := ht
        have HLT : Hid ((trimL xs).length = gk) := hlt
        have hA := h.take gk (by omega) c (by omega) (by unfold maxLen; omega)
        clear ht hlt h
        go_wp2_with (first
          | (at_make; refine wpList_make_full _ rfl _ _ 72 rfl w.heap.size 87 i0 (.int .u32 0) 1 Tryd.underlying72 hi hz0 hz1 _ _ _ _ gk rfl rfl (by omega) (by omega) (by rw [hz2]; omega) (by unfold maxLen; omega) (Nat.le_refl _) ?_; intro w1 hown hgrow; have hb := made_blk32 hown hgrow; clear hown hgrow)
          | (refine wpList_copy_splice rfl (.tmp 21) (.tmp 24) 72 72 rfl 87 Tryd.underlying72 Tryd.sizeU32 (some ⟨w.heap.size, 0, none⟩) _ gk gk gk c rfl rfl w.heap.size 0 (cellsV (List.replicate gk 0)) 87 hb.1 (cellsV (xs.take gk)) (by rw [cellsV_length, hA.len]; exact (Nat.min_self gk).symm) (fun h0 => ⟨rfl, (hA.below hb.2).src (by rw [cellsV_length, hA.len] at h0; exact h0)⟩) (by simp [cellsV_length]; omega) (cellsV_one _) w.heap.size w hb.2 (Nat.le_refl _) ?_; intro w2 hg2 hb2))
        go_ret
        rw [HLT.out, HT.out]
        refine ⟨_, rfl, Nat.le_refl _, ?_, hb2⟩
        rw [splice_cellsV, hA.len, Nat.sub_self, List.replicate_zero, List.append_nil] at hg2
        exact hg2
theorem B64_p : B64 = 2 ^ 64 := rfl
theorem pow_split (s : Nat) (hs : s ≤ 64) : 2 ^ s * 2 ^ (64 - s) = B64 := by rw [← Nat.pow_add, show s + (64 - s) = 64 by omega]; rfl

def shlW (x s : Nat) : Nat := x * 2 ^ s % B64
theorem shlW_lt (x s : Nat) : shlW x s < B64 := Nat.mod_lt _ B64_pos
theorem shlW_eq (x s : Nat) (hs : s ≤ 64) : shlW x s = 2 ^ s * (x % 2 ^ (64 - s)) := by
  unfold shlW
  rw [← pow_split s hs, Nat.mul_comm x, Nat.mul_mod_mul_left]
theorem shrW_eq (y s : Nat) (hs : s ≤ 64) : y / 2 ^ (64 - s) = y * 2 ^ s / B64 := by
  rw [← pow_split s hs, Nat.mul_comm y, Nat.mul_div_mul_left _ _ (Nat.two_pow_pos s)]
theorem shrW_lt (y s : Nat) (hs : s ≤ 64) (hy : y < B64) : y / 2 ^ (64 - s) < 2 ^ s := by
  rw [Nat.div_lt_iff_lt_mul (Nat.two_pow_pos _), pow_split s hs]; exact hy
theorem or_low (s A b : Nat) (hb : b < 2 ^ s) : (2 ^ s * A) ||| b = 2 ^ s * A + b := (Nat.two_pow_add_eq_or_of_lt hb A).symm

theorem int_pow (s : Nat) : ((2 : Int) ^ s) = ((2 ^ s : Nat) : Int) := by
  induction s with
  | zero => rfl
  | succ s ih => rw [Int.pow_succ, ih, Nat.pow_succ]; simp
theorem walk_shl (x s : Nat) : Value.int .u64 (IntKind.u64.wrap ((x : Int) * 2 ^ s)) = U (shlW x s) := by
  unfold U shlW
  rw [int_pow, IntKind.wrap_u64, B64_eq, ← Int.natCast_mul]
  congr 1
theorem walk_shr (y s : Nat) : Value.int .u64 ((y : Int) / 2 ^ s) = U (y / 2 ^ s) := by
  unfold U
  rw [int_pow]
  congr 1
theorem walk_or (a b : Nat) (ha : a < B64) (hb : b < B64) : bits .or .u64 (a : Int) (b : Int) = ((a ||| b : Nat) : Int) := by
  rw [B64_eq] at ha hb
  exact bits_or_u64_nat a b ha hb
theorem wrap_nat (x s : Nat) : IntKind.u64.wrap ((x : Int) * 2 ^ s) = ((shlW x s : Nat) : Int) := by
  have := walk_shl x s
  simpa [U] using this
theorem div_nat (y s : Nat) : (y : Int) / 2 ^ s = ((y / 2 ^ s : Nat) : Int) := by
  simp
theorem walk_up (x y s : Nat) (hs : s ≤ 64) (hy : y < B64) : Value.int .u64 (bits .or .u64 (IntKind.u64.wrap ((x : Int) * 2 ^ s)) ((y : Int) / 2 ^ (64 - s))) = U (shlW x s + y * 2 ^ s / B64) := by
  have h1 := shrW_lt y s hs hy
  have h2 : 2 ^ s ≤ B64 := by rw [B64_p]; exact Nat.pow_le_pow_right (by decide) hs
  rw [wrap_nat, div_nat, walk_or _ _ (shlW_lt x s) (by omega), shlW_eq x s hs, or_low s _ _ h1, shrW_eq y s hs]
theorem up_lt (x y s : Nat) (hs : s ≤ 64) (hy : y < B64) : shlW x s + y * 2 ^ s / B64 < B64 := by
  have h1 := shrW_lt y s hs hy
  rw [← shrW_eq y s hs, shlW_eq x s hs]
  have h2 : x % 2 ^ (64 - s) + 1 ≤ 2 ^ (64 - s) := Nat.mod_lt _ (Nat.two_pow_pos _)
  have h3 := Nat.mul_le_mul_left (2 ^ s) h2
  rw [pow_split s hs, Nat.mul_add] at h3
  omega
theorem walk_down (x z s : Nat) (hs : s ≤ 64) (hx : x < B64) : Value.int .u64 (bits .or .u64 ((x : Int) / 2 ^ s) (IntKind.u64.wrap ((z : Int) * 2 ^ (64 - s)))) = U (x / 2 ^ s + 2 ^ (64 - s) * (z % 2 ^ s)) := by
  have e : 64 - (64 - s) = s := by omega
  have h1 := shrW_lt x (64 - s) (by omega) hx
  rw [e] at h1
  have h2 : 2 ^ (64 - s) ≤ B64 := by rw [B64_p]; exact Nat.pow_le_pow_right (by decide) (by omega)
  rw [wrap_nat, div_nat, walk_or _ _ (by omega) (shlW_lt _ _), shlW_eq z (64 - s) (by omega), e, Nat.or_comm, or_low (64 - s) _ _ h1, Nat.add_comm]
theorem down_lt (x z s : Nat) (hs : s ≤ 64) (hx : x < B64) : x / 2 ^ s + 2 ^ (64 - s) * (z % 2 ^ s) < B64 := by
  have e : 64 - (64 - s) = s := by omega
  have h1 := shrW_lt x (64 - s) (by omega) hx
  rw [e] at h1
  have h2 : z % 2 ^ s + 1 ≤ 2 ^ s := Nat.mod_lt _ (Nat.two_pow_pos _)
  have h3 := Nat.mul_le_mul_left (2 ^ (64 - s)) h2
  rw [Nat.mul_comm (2 ^ (64 - s)) (2 ^ s), pow_split s hs, Nat.mul_add] at h3
  omega

def cin (zs : List Nat) (s j : Nat) : Nat := if j = 0 then 0 else zs.getD (j - 1) 0 * 2 ^ s / B64
theorem up_step {zs T : List Nat} {s a ov k d : Nat} (ha : a < zs.length) (hd : d = shlW (zs.getD a 0) s + cin zs s a) (h : valB B64 T + B64 ^ k * ov = 2 ^ s * valB B64 (zs.drop (a + 1)) + cin zs s (a + 1)) :
    valB B64 (d :: T) + B64 ^ (k + 1) * ov = 2 ^ s * valB B64 (zs.drop a) + cin zs s a := by
  have e1 : cin zs s (a + 1) = zs.getD a 0 * 2 ^ s / B64 := by unfold cin; rw [if_neg (by omega), Nat.add_sub_cancel]
  have e2 := Nat.mod_add_div (zs.getD a 0 * 2 ^ s) B64
  rw [valB_cons, valB_drop _ zs a ha, hd]
  unfold shlW
  rw [e1] at h
  have e3 : B64 * (valB B64 T + B64 ^ k * ov) = B64 * (2 ^ s * valB B64 (zs.drop (a + 1)) + zs.getD a 0 * 2 ^ s / B64) := by rw [h]
  rw [Nat.mul_add, Nat.mul_add] at e3
  rw [Nat.pow_succ, Nat.mul_add]
  have e4 : B64 ^ k * B64 * ov = B64 * (B64 ^ k * ov) := by rw [Nat.mul_comm (B64 ^ k) B64, Nat.mul_assoc]
  have e5 : 2 ^ s * (B64 * valB B64 (zs.drop (a + 1))) = B64 * (2 ^ s * valB B64 (zs.drop (a + 1))) := by rw [← Nat.mul_assoc, ← Nat.mul_assoc, Nat.mul_comm (2 ^ s) B64]
  rw [e4, e5, Nat.mul_comm (2 ^ s) (zs.getD a 0)]
  generalize B64 * (B64 ^ k * ov) = X1 at *
  generalize B64 * (2 ^ s * valB B64 (zs.drop (a + 1))) = X2 at *
  generalize B64 * valB B64 T = X3 at *
  generalize B64 * (zs.getD a 0 * 2 ^ s / B64) = X4 at *
  generalize zs.getD a 0 * 2 ^ s = X5 at *
  omega

def cout (zs : List Nat) (s j : Nat) : Nat := zs.getD j 0 % 2 ^ s
theorem down_step {zs dk : List Nat} {s i rem d : Nat} (hs : s ≤ 64) (hd : d = zs.getD i 0 / 2 ^ s + 2 ^ (64 - s) * cout zs s (i + 1)) (h : 2 ^ s * valB B64 (dk.take i) + rem = valB B64 (zs.take i) + B64 ^ i * cout zs s i) (hi : i < zs.length) :
    2 ^ s * (valB B64 (dk.take i) + B64 ^ i * d) + rem = valB B64 (zs.take (i + 1)) + B64 ^ (i + 1) * cout zs s (i + 1) := by
  have e1 := Nat.mod_add_div (zs.getD i 0) (2 ^ s)
  rw [valB_take_succ _ zs i hi, Nat.pow_succ, hd, Nat.mul_add (2 ^ s)]
  have e2 : 2 ^ s * (B64 ^ i * (zs.getD i 0 / 2 ^ s + 2 ^ (64 - s) * cout zs s (i + 1))) = B64 ^ i * (2 ^ s * (zs.getD i 0 / 2 ^ s)) + B64 ^ i * B64 * cout zs s (i + 1) := by
    rw [← Nat.mul_assoc, Nat.mul_comm (2 ^ s) (B64 ^ i), Nat.mul_assoc, Nat.mul_add, Nat.mul_add, ← Nat.mul_assoc (2 ^ s) (2 ^ (64 - s)), pow_split s hs, Nat.mul_assoc]
  have e3 : B64 ^ i * (zs.getD i 0 % 2 ^ s) + B64 ^ i * (2 ^ s * (zs.getD i 0 / 2 ^ s)) = B64 ^ i * zs.getD i 0 := by rw [← Nat.mul_add, e1]
  rw [e2]
  have e4 : cout zs s i = zs.getD i 0 % 2 ^ s := rfl
  rw [e4] at h
  generalize B64 ^ i * (2 ^ s * (zs.getD i 0 / 2 ^ s)) = X1 at *
  generalize B64 ^ i * (zs.getD i 0 % 2 ^ s) = X2 at *
  generalize B64 ^ i * B64 * cout zs s (i + 1) = X3 at *
  omega
end Go.Proofs.YtkdpafliibclnaaDoor
namespace Go.Proofs.YtkdpafliibclnaaDoor
set_option maxRecDepth 100000
set_option maxHeartbeats 0
theorem kn_init {b y1 y0 u d : Nat} (hd : d < b) (hu : u < y1 * b + y0) (h0 : y0 < b) (h1 : b ≤ 2 * y1) : (u * b + d) / (y1 * b + y0) ≤ u / y1 ∧ u / y1 ≤ b + 1 := by
  have hy1 : 0 < y1 := by omega
  have hY : 0 < y1 * b + y0 := by
    have := Nat.mul_pos hy1 (show 0 < b by omega)
    omega
  have hm := Nat.div_add_mod u y1
  have hl := Nat.mod_lt u hy1
  refine ⟨?_, ?_⟩
  · refine Nat.le_of_lt_succ ((Nat.div_lt_iff_lt_mul hY).2 ?_)
    have a1 : (u + 1) * b ≤ (u / y1 + 1) * y1 * b := by
      refine Nat.mul_le_mul_right b ?_
      rw [Nat.add_mul, Nat.one_mul, Nat.mul_comm (u / y1) y1]; omega
    have a2 : (u / y1 + 1) * (y1 * b + y0) = (u / y1 + 1) * y1 * b + (u / y1 + 1) * y0 := by rw [Nat.mul_add, Nat.mul_assoc]
    rw [Nat.succ_eq_add_one, a2]
    rw [Nat.add_mul, Nat.one_mul] at a1
    omega
  · refine Nat.le_of_lt_succ ((Nat.div_lt_iff_lt_mul hy1).2 ?_)
    have : (b + 1).succ * y1 = y1 * b + 2 * y1 := by rw [Nat.succ_eq_add_one, show b + 1 + 1 = b + 2 by omega, Nat.add_mul, Nat.mul_comm b y1]
    rw [this]; omega
theorem kn_more {b y1 y0 u d q r : Nat} (hd : d < b) (hu : u < y1 * b + y0) (hq : q * y1 + r = u) (hc : b ≤ q ∨ b * r + d < q * y0) : (u * b + d) / (y1 * b + y0) + 1 ≤ q := by
  refine (Nat.div_lt_iff_lt_mul (by omega)).2 ?_
  rcases hc with hc | hc
  · have a1 : b * (y1 * b + y0) ≤ q * (y1 * b + y0) := Nat.mul_le_mul_right _ hc
    have a2 : b * (u + 1) ≤ b * (y1 * b + y0) := Nat.mul_le_mul_left _ hu
    rw [Nat.mul_add, Nat.mul_one, Nat.mul_comm b u] at a2
    omega
  · have a1 : q * (y1 * b + y0) = q * y1 * b + q * y0 := by rw [Nat.mul_add, Nat.mul_assoc]
    have a2 : u * b = q * y1 * b + r * b := by rw [← hq, Nat.add_mul]
    rw [Nat.mul_comm b r] at hc
    omega
theorem kn_exit {b y1 y0 u d q r : Nat} (hu : u < y1 * b + y0) (hq : q * y1 + r = u) (hQ : (u * b + d) / (y1 * b + y0) ≤ q) (hc : q * y0 ≤ b * r + d) : q = (u * b + d) / (y1 * b + y0) := by
  refine Nat.le_antisymm ((Nat.le_div_iff_mul_le (by omega)).2 ?_) hQ
  have a1 : q * (y1 * b + y0) = q * y1 * b + q * y0 := by rw [Nat.mul_add, Nat.mul_assoc]
  have a2 : u * b = q * y1 * b + r * b := by rw [← hq, Nat.add_mul]
  rw [Nat.mul_comm b r] at hc
  omega
theorem kn_far {b y0 d q r : Nat} (h0 : y0 < b) (hq : q ≤ b) (hr : b ≤ r) : q * y0 ≤ b * r + d := by
  have a1 : q * y0 ≤ b * b := Nat.mul_le_mul hq (by omega)
  have a2 : b * b ≤ b * r := Nat.mul_le_mul_left b hr
  omega
theorem kn_lt {b y1 y0 u d : Nat} (hd : d < b) (hu : u < y1 * b + y0) : (u * b + d) / (y1 * b + y0) < b := by
  refine (Nat.div_lt_iff_lt_mul (by omega)).2 ?_
  have a2 : b * (u + 1) ≤ b * (y1 * b + y0) := Nat.mul_le_mul_left _ hu
  rw [Nat.mul_add, Nat.mul_one, Nat.mul_comm b u] at a2
  omega

theorem kn_join {b Y u un1 un0 q1 q0 r1 r0 : Nat} (h1 : u * b + un1 = q1 * Y + r1) (h0 : r1 * b + un0 = q0 * Y + r0) : u * (b * b) + (un1 * b + un0) = (q1 * b + q0) * Y + r0 := by
  have e1 : (u * b + un1) * b = (q1 * Y + r1) * b := by rw [h1]
  rw [Nat.add_mul, Nat.add_mul] at e1
  have e2 : u * b * b = u * (b * b) := Nat.mul_assoc _ _ _
  have e3 : q1 * Y * b = q1 * b * Y := by rw [Nat.mul_assoc, Nat.mul_comm Y b, ← Nat.mul_assoc]
  rw [Nat.add_mul]
  omega
theorem kn_scale {P y n q r0 : Nat} (hP : 0 < P) (h : P * n = q * (y * P) + r0) (hr : r0 < y * P) : n = q * y + r0 / P ∧ r0 / P < y := by
  have e : q * (y * P) = P * (q * y) := by rw [← Nat.mul_assoc, Nat.mul_comm]
  rw [e] at h
  have hd : P ∣ r0 := by
    have : r0 = P * n - P * (q * y) := by omega
    rw [this, ← Nat.mul_sub]; exact Nat.dvd_mul_right _ _
  obtain ⟨t, rfl⟩ := hd
  rw [Nat.mul_div_cancel_left _ hP]
  rw [← Nat.mul_add] at h
  refine ⟨Nat.eq_of_mul_eq_mul_left hP h, ?_⟩
  rw [Nat.mul_comm y P] at hr
  exact Nat.lt_of_mul_lt_mul_left hr
end Go.Proofs.YtkdpafliibclnaaDoor
namespace Go.Proofs.YtkdpafliibclnaaDoor
open Go.RowKit
set_option maxRecDepth 100000
set_option maxHeartbeats 0
theorem lz_any (x s : Nat) (w : World) (hx : x < B64) (hs : s + bitsN x = 64) : Calls Tryd.prog 82 #[U x] w fun e w' => e = .returned (.int .i64 s) ∧ w' = w := by
  go_enter Tryd.func82, Tryd.ntmps82
  go_wp2_with fail
  refine (len_any x _ hx).mono ?_
  rintro e w' ⟨rfl, hw⟩
  obtain rfl := hw.symm
  clear hw
  go_wp2_with fail
  go_ret
  exact ⟨ret_int (by omega), rfl⟩

theorem wrap_mod (n : Int) (m : Nat) (h : n % 18446744073709551616 = (m : Int)) : IntKind.u64.wrap n = (m : Int) := by rw [IntKind.wrap_u64]; exact h
theorem u_quo (lo y : Nat) (hlo : lo < B64) : IntKind.u64.wrap ((lo : Int) / (y : Int)) = ((lo / y : Nat) : Int) := by
  have := Nat.div_le_self lo y
  rw [B64_eq] at hlo
  refine wrap_mod _ _ ?_
  rw [← Int.natCast_ediv]
  generalize lo / y = Q at *
  omega

theorem div64_zero (lo y : Nat) (w : World) (hy0 : ((y : Int) == 0) = false) (hlo : lo < B64) :
    Calls Tryd.prog 72 #[U 0, U lo, U y] w fun e w' => e = .returned (.tuple #[U (lo / y), U (lo % y)]) ∧ ∃ r, w' = w.drewN r := by
  have hy : 0 < y := by simp at hy0; omega
  have hq := u_quo lo y hlo
  generalize lo / y = Q at *
  go_enter Tryd.func72, Tryd.ntmps72
  go_wp2_with fail
  go_quiet (fail)
  go_wp2_with fail
  go_ret2
  exact ⟨rfl, _, rfl⟩

structure Kn (y1 y0 u d q r : Nat) : Prop where
  eq : q * y1 + r = u
  ge : (u * 4294967296 + d) / (y1 * 4294967296 + y0) ≤ q
  le : q ≤ 4294967297
def jq (a b : Nat) : Nat := a * 4294967296 + b
structure KnB (r : Nat) : Prop where
  lt : r < 4294967296
structure KnC (y1 y0 u d : Nat) : Prop where
  hy0 : y0 < 4294967296
  hd : d < 4294967296
  hu : u < y1 * 4294967296 + y0
  hy1 : 4294967296 ≤ 2 * y1
theorem Kn.init {y1 y0 u d : Nat} (h : KnC y1 y0 u d) : Kn y1 y0 u d (u / y1) (u - u / y1 * y1) := by
  have := kn_init h.hd h.hu h.hy0 h.hy1
  have h2 := Nat.div_mul_le_self u y1
  exact ⟨by omega, this.1, this.2⟩
theorem Kn.down {y1 y0 u d q r : Nat} (k : Kn y1 y0 u d q r) (h : KnC y1 y0 u d) (hc : 4294967296 ≤ q ∨ 4294967296 * r + d < q * y0) : 1 ≤ q ∧ Kn y1 y0 u d (q - 1) (r + y1) := by
  have h1 := kn_more h.hd h.hu k.eq hc
  have h2 := k.le
  have h3 := k.eq
  refine ⟨by generalize (u * 4294967296 + d) / (y1 * 4294967296 + y0) = T at *; omega, ?_, by generalize (u * 4294967296 + d) / (y1 * 4294967296 + y0) = T at *; omega, by omega⟩
  have h4 : 1 ≤ q := by generalize (u * 4294967296 + d) / (y1 * 4294967296 + y0) = T at *; omega
  obtain ⟨t, rfl⟩ : ∃ t, q = t + 1 := ⟨q - 1, by omega⟩
  rw [Nat.add_sub_cancel]
  rw [Nat.add_mul, Nat.one_mul] at h3
  omega
theorem dm (N M : Nat) : N = N / M * M + N % M := by rw [Nat.mul_comm]; exact (Nat.div_add_mod N M).symm
structure KnD (y1 y0 u d q : Nat) (rest : Nat) : Prop where
  lt : q < 4294967296
  eq : u * 4294967296 + d = q * (y1 * 4294967296 + y0) + rest
  rlt : rest < y1 * 4294967296 + y0
theorem Kn.done {y1 y0 u d q r : Nat} (k : Kn y1 y0 u d q r) (h : KnC y1 y0 u d) (hc : q * y0 ≤ 4294967296 * r + d) : KnD y1 y0 u d q ((u * 4294967296 + d) % (y1 * 4294967296 + y0)) := by
  have h1 := kn_exit h.hu k.eq k.ge hc
  have h2 := kn_lt h.hd h.hu
  refine ⟨by omega, ?_, Nat.mod_lt _ (by have := h.hu; omega)⟩
  rw [h1]; exact dm _ _
theorem Kn.far {y1 y0 u d q r : Nat} (k : Kn y1 y0 u d q r) (h : KnC y1 y0 u d) (hq : q ≤ 4294967296) (hr : 4294967296 ≤ r) : KnD y1 y0 u d q ((u * 4294967296 + d) % (y1 * 4294967296 + y0)) :=
  k.done h (kn_far h.hy0 hq hr)
theorem kn_words {y1 y0 u d q rest Y : Nat} (k : KnD y1 y0 u d q rest) (hY : Y = y1 * 4294967296 + y0) (hYb : Y < 18446744073709551616) :
    ∃ a1 a2 a3, IntKind.u64.wrap ((u : Int) * 4294967296) = (a1 : Nat) ∧ IntKind.u64.wrap ((a1 : Nat) + (d : Int)) = (a2 : Nat) ∧ IntKind.u64.wrap ((q : Int) * (Y : Int)) = (a3 : Nat) ∧ IntKind.u64.wrap (((a2 : Nat) : Int) - ((a3 : Nat) : Int)) = (rest : Nat) := by
  have h1 := k.eq
  have h2 := k.rlt
  rw [← hY] at h1 h2
  refine ⟨u * 4294967296 % 18446744073709551616, (u * 4294967296 % 18446744073709551616 + d) % 18446744073709551616, q * Y % 18446744073709551616, ?_, ?_, ?_, ?_⟩
  · exact wrap_mod _ _ (by omega)
  · exact wrap_mod _ _ (by omega)
  · refine wrap_mod _ _ ?_
    rw [← Int.natCast_mul]; omega
  · refine wrap_mod _ _ ?_
    generalize q * Y = Z at *
    omega

theorem ret_two {a b c d : Int} (h : a = c) (k : b = d) : Ending.returned (.tuple #[.int .u64 a, .int .u64 b]) = .returned (.tuple #[.int .u64 c, .int .u64 d]) := by rw [h, k]
theorem norm_y {y s : Nat} (hy : y ≠ 0) (hs : s + bitsN y = 64) : y * 2 ^ s < 18446744073709551616 ∧ 9223372036854775808 ≤ y * 2 ^ s := by
  have h1 := bitsN_lt y
  have h2 := bitsN_le y hy
  have hp := Nat.two_pow_pos s
  constructor
  · have := Nat.mul_lt_mul_of_pos_right h1 hp
    rw [← Nat.pow_add, show bitsN y + s = 64 by omega] at this; exact this
  · have h3 := Nat.mul_le_mul_right (2 ^ s) h2
    have h4 : bitsN y ≠ 0 := by unfold bitsN; rw [if_neg hy]; omega
    rw [← Nat.pow_add, show bitsN y - 1 + s = 63 by omega] at h3; exact h3
theorem and32 (v : Nat) (h : v < 18446744073709551616) : bits .and .u64 (v : Int) 4294967295 = ((v % 4294967296 : Nat) : Int) := by
  have h1 := bits_and_u64_nat v 4294967295 h (by omega)
  rw [show v &&& 4294967295 = v % 4294967296 from Nat.and_two_pow_sub_one_eq_mod v 32] at h1
  exact h1
theorem div32 (v : Nat) : (v : Int) / 4294967296 = ((v / 4294967296 : Nat) : Int) := by omega

theorem div64_walk (hi lo y s Y y1 y0 hs ls u v un1 un0 qi qy ri : Nat) (w : World) (hh0 : ((hi : Int) == 0) = false) (hy0 : ((y : Int) == 0) = false) (hhy : hi < y) (hyb : y < B64) (HSB : Hid (s + bitsN y = 64)) (hs64 : s < 64)
    (eY : IntKind.u64.wrap ((y : Int) * 2 ^ s) = (Y : Int)) (ey1 : (Y : Int) / 4294967296 = (y1 : Int)) (ey0 : bits .and .u64 (Y : Int) 4294967295 = (y0 : Int))
    (ehs : IntKind.u64.wrap ((hi : Int) * 2 ^ s) = (hs : Int)) (els : (lo : Int) / 2 ^ (64 - s) = (ls : Int)) (eu : bits .or .u64 (hs : Int) (ls : Int) = (u : Int))
    (ev : IntKind.u64.wrap ((lo : Int) * 2 ^ s) = (v : Int)) (eun1 : (v : Int) / 4294967296 = (un1 : Int)) (eun0 : bits .and .u64 (v : Int) 4294967295 = (un0 : Int))
    (eqi : (u : Int) / (y1 : Int) = (qi : Int)) (eqy : (qi : Int) * (y1 : Int) = (qy : Int)) (eri : (u : Int) - (qy : Int) = (ri : Int)) (hqi : qi ≤ 4294967297) (hqy : qy ≤ 18446744073709551615) (hri : ri < 4294967296)
    (hy1 : 1 ≤ y1) (hy1b : y1 < 4294967296) (hy0b : y0 < 4294967296) (hun1 : un1 < 4294967296) (hun0 : un0 < 4294967296)
    (HC : Hid (KnC y1 y0 u un1)) (HK : Hid (Kn y1 y0 u un1 qi ri)) (HY : Hid (Y = y1 * 4294967296 + y0)) (HYB : Hid (Y < 18446744073709551616)) :
    Calls Tryd.prog 72 #[U hi, U lo, U y] w fun e w' => ∃ q1 q0 r1 r0, e = .returned (.tuple #[U (jq q1 q0), U (r0 / 2 ^ s)]) ∧ w' = w ∧ KnD y1 y0 u un1 q1 r1 ∧ KnD y1 y0 r1 un0 q0 r0 := by
  go_enter Tryd.func72, Tryd.ntmps72
  go_wp2_with fail
  refine (lz_any y s _ hyb HSB.out).mono ?_
  rintro e w' ⟨rfl, hw⟩
  obtain rfl := hw.symm
  clear hw
  go_wp2_with fail
  go_loop [15, 16] (fun a b => ∃ q r : Nat, a = U q ∧ b = U r ∧ KnB r ∧ Kn y1 y0 u un1 q r) (fun a _ => (intOf a).toNat)
  case atStart => exact ⟨qi, ri, rfl, rfl, ⟨hri⟩, HK.out⟩
  case round =>
    obtain ⟨q, r, rfl, rfl, hrb, hk⟩ := hrel
    have hr := hrb.lt
    have hq := hk.le
    have HK2 : Hid (Kn y1 y0 u un1 q r) := hk
    clear hk HK eY ey1 ey0 ehs els eu ev eun1 eun0 eqi eqy eri hyb hqi hqy hri hh0 hy0 hhy
    obtain ⟨pq, epq⟩ : ∃ pq : Nat, (q : Int) * (y0 : Int) = (pq : Int) := ⟨q * y0, by simp⟩
    have HPQ : Hid (pq = q * y0) := by have := epq; rw [← Int.natCast_mul] at this; exact (Int.ofNat.inj this).symm
    have hpb : q < 4294967296 → pq ≤ 18446744073709551615 := by
      intro hlt
      rw [HPQ.out]
      have := Nat.mul_le_mul (show q ≤ 4294967295 by omega) (show y0 ≤ 4294967295 by omega)
      omega
    by_cases c1 : 4294967296 ≤ q
    · have c1b : decide ((4294967296 : Int) ≤ (q : Int)) = true := decide_eq_true (by omega)
      obtain ⟨hq1, hk2⟩ := HK2.out.down HC.out (.inl c1)
      clear hpb epq HPQ c1
      by_cases c3 : 4294967296 ≤ r + y1
      · have HD : Hid (KnD y1 y0 u un1 (q - 1) ((u * 4294967296 + un1) % (y1 * 4294967296 + y0))) := hk2.far HC.out (by omega) c3
        generalize (u * 4294967296 + un1) % (y1 * 4294967296 + y0) = R1 at HD
        obtain ⟨q', hq'⟩ : ∃ q', q' = q - 1 := ⟨_, rfl⟩
        have eq' : (q : Int) - 1 = (q' : Int) := by omega
        rw [← hq'] at HD
        have c3b : decide ((4294967296 : Int) ≤ (r : Int) + (y1 : Int)) = true := decide_eq_true (by omega)
        clear hk2 hq'
        have hqb : q' < 4294967296 := HD.out.lt
        have hrlt := HD.out.rlt
        obtain ⟨a1, a2, a3, e1, e2, e3, e4⟩ := kn_words HD.out HY.out HYB.out
        have HC2 : Hid (KnC y1 y0 R1 un0) := ⟨hy0b, hun0, hrlt, HC.out.hy1⟩
        have hin := Kn.init HC2.out
        have hrb2 : R1 ≤ 18446744073709551615 := by have h1 := HY.out; have h2 := HYB.out; omega
        obtain ⟨qj, hqj⟩ : ∃ qj, qj = R1 / y1 := ⟨_, rfl⟩
        obtain ⟨qjy, hqjy⟩ : ∃ qjy, qjy = R1 / y1 * y1 := ⟨_, rfl⟩
        obtain ⟨rj, hrj⟩ : ∃ rj, rj = R1 - R1 / y1 * y1 := ⟨_, rfl⟩
        have hle := Nat.div_mul_le_self R1 y1
        have hml := Nat.mod_lt R1 (show 0 < y1 by omega)
        have hdm := Nat.div_add_mod R1 y1
        rw [Nat.mul_comm] at hdm
        rw [← hrj, ← hqj] at hin
        have g1 : (R1 : Int) / (y1 : Int) = (qj : Int) := by rw [hqj]; exact (Int.natCast_ediv _ _).symm
        have g2 : (qj : Int) * (y1 : Int) = (qjy : Int) := by rw [hqjy, hqj]; exact (Int.natCast_mul _ _).symm
        have g3 : (R1 : Int) - (qjy : Int) = (rj : Int) := by rw [hqjy, hrj]; omega
        have hqjb : qj ≤ 4294967297 := hin.le
        have hqjyb : qjy ≤ R1 := by rw [hqjy]; exact hle
        have hrjb : rj < 4294967296 := by rw [hrj]; omega
        have HIN : Hid (Kn y1 y0 R1 un0 qj rj) := hin
        clear hin hle hml hdm hqj hqjy hrj hrlt
        go_wp2_with fail
        go_loop [18, 16] (fun a b => ∃ t z : Nat, a = U t ∧ b = U z ∧ KnB z ∧ Kn y1 y0 R1 un0 t z) (fun a _ => (intOf a).toNat)
        case atStart => exact ⟨qj, rj, rfl, rfl, ⟨hrjb⟩, HIN.out⟩
        case round =>
          obtain ⟨t, z, rfl, rfl, hzb, hkt⟩ := hrel
          have hz := hzb.lt
          have ht := hkt.le
          have HKT : Hid (Kn y1 y0 R1 un0 t z) := hkt
          clear hkt HIN e1 e2 e3 e4 g1 g2 g3 hqjb hqjyb hrjb
          obtain ⟨pt, ept⟩ : ∃ pt : Nat, (t : Int) * (y0 : Int) = (pt : Int) := ⟨t * y0, by simp⟩
          have HPT : Hid (pt = t * y0) := by have := ept; rw [← Int.natCast_mul] at this; exact (Int.ofNat.inj this).symm
          have hptb : t < 4294967296 → pt ≤ 18446744073709551615 := by
            intro hlt
            rw [HPT.out]
            have := Nat.mul_le_mul (show t ≤ 4294967295 by omega) (show y0 ≤ 4294967295 by omega)
            omega
          by_cases d1 : 4294967296 ≤ t
          · have d1b : decide ((4294967296 : Int) ≤ (t : Int)) = true := decide_eq_true (by omega)
            obtain ⟨ht1, hk3⟩ := HKT.out.down HC2.out (.inl d1)
            clear hptb ept HPT
            by_cases d3 : 4294967296 ≤ z + y1
            · have HE : Hid (KnD y1 y0 R1 un0 (t - 1) ((R1 * 4294967296 + un0) % (y1 * 4294967296 + y0))) := hk3.far HC2.out (by omega) d3
              generalize (R1 * 4294967296 + un0) % (y1 * 4294967296 + y0) = R0 at HE
              obtain ⟨t', ht'⟩ : ∃ t', t' = t - 1 := ⟨_, rfl⟩
              have et' : (t : Int) - 1 = (t' : Int) := by omega
              rw [← ht'] at HE
              have d3b : decide ((4294967296 : Int) ≤ (z : Int) + (y1 : Int)) = true := decide_eq_true (by omega)
              clear hk3 ht'
              have htb : t' < 4294967296 := HE.out.lt
              have hqb2 : q' < 4294967296 := HD.out.lt
              obtain ⟨b1, b2, b3, f1, f2, f3, f4⟩ := kn_words HE.out HY.out HYB.out
              go_wp2_with fail
              go_ret2
              refine ⟨q', t', R1, R0, ?_, rfl, HD.out, HE.out⟩
              exact ret_two (by unfold jq; omega) (by rw [div_nat])
            · have HK4 : Hid (Kn y1 y0 R1 un0 (t - 1) (z + y1)) := hk3
              have d3b : decide ((4294967296 : Int) ≤ (z : Int) + (y1 : Int)) = false := decide_eq_false (by omega)
              clear hk3
              go_wp2_with fail
              go_round
              case rel => exact ⟨t - 1, z + y1, by go_num, by go_num, ⟨by omega⟩, HK4.out⟩
              case measure => simp [intOf]; omega
          · have hptb' := hptb (by omega)
            have d1b : decide ((4294967296 : Int) ≤ (t : Int)) = false := decide_eq_false (by omega)
            by_cases d2 : 4294967296 * z + un0 < pt
            · obtain ⟨ht1, hk3⟩ := HKT.out.down HC2.out (.inr (by rw [← HPT.out]; exact d2))
              have d2b : decide (4294967296 * (z : Int) + (un0 : Int) < (pt : Int)) = true := decide_eq_true (by omega)
              clear hptb
              by_cases d3 : 4294967296 ≤ z + y1
              · have HE : Hid (KnD y1 y0 R1 un0 (t - 1) ((R1 * 4294967296 + un0) % (y1 * 4294967296 + y0))) := hk3.far HC2.out (by omega) d3
                generalize (R1 * 4294967296 + un0) % (y1 * 4294967296 + y0) = R0 at HE
                obtain ⟨t', ht'⟩ : ∃ t', t' = t - 1 := ⟨_, rfl⟩
                have et' : (t : Int) - 1 = (t' : Int) := by omega
                rw [← ht'] at HE
                have d3b : decide ((4294967296 : Int) ≤ (z : Int) + (y1 : Int)) = true := decide_eq_true (by omega)
                clear hk3 ht'
                have htb : t' < 4294967296 := HE.out.lt
                have hqb2 : q' < 4294967296 := HD.out.lt
                obtain ⟨b1, b2, b3, f1, f2, f3, f4⟩ := kn_words HE.out HY.out HYB.out
                go_wp2_with fail
                go_ret2
                refine ⟨q', t', R1, R0, ?_, rfl, HD.out, HE.out⟩
                exact ret_two (by unfold jq; omega) (by rw [div_nat])
              · have HK4 : Hid (Kn y1 y0 R1 un0 (t - 1) (z + y1)) := hk3
                have d3b : decide ((4294967296 : Int) ≤ (z : Int) + (y1 : Int)) = false := decide_eq_false (by omega)
                clear hk3
                go_wp2_with fail
                go_round
                case rel => exact ⟨t - 1, z + y1, by go_num, by go_num, ⟨by omega⟩, HK4.out⟩
                case measure => simp [intOf]; omega
            · have HE : Hid (KnD y1 y0 R1 un0 t ((R1 * 4294967296 + un0) % (y1 * 4294967296 + y0))) := HKT.out.done HC2.out (by rw [← HPT.out]; omega)
              have d2b : decide (4294967296 * (z : Int) + (un0 : Int) < (pt : Int)) = false := decide_eq_false (by omega)
              clear hptb
              generalize (R1 * 4294967296 + un0) % (y1 * 4294967296 + y0) = R0 at HE
              have htb : t < 4294967296 := HE.out.lt
              have hqb2 : q' < 4294967296 := HD.out.lt
              obtain ⟨b1, b2, b3, f1, f2, f3, f4⟩ := kn_words HE.out HY.out HYB.out
              go_wp2_with fail
              go_ret2
              refine ⟨q', t, R1, R0, ?_, rfl, HD.out, HE.out⟩
              exact ret_two (by unfold jq; omega) (by rw [div_nat])
      · have HK3 : Hid (Kn y1 y0 u un1 (q - 1) (r + y1)) := hk2
        have c3b : decide ((4294967296 : Int) ≤ (r : Int) + (y1 : Int)) = false := decide_eq_false (by omega)
        clear hk2
        go_wp2_with fail
        go_round
        case rel => exact ⟨q - 1, r + y1, by go_num, by go_num, ⟨by omega⟩, HK3.out⟩
        case measure => simp [intOf]; omega
    · have hpb' := hpb (by omega)
      have c1b : decide ((4294967296 : Int) ≤ (q : Int)) = false := decide_eq_false (by omega)
      by_cases c2 : 4294967296 * r + un1 < pq
      · obtain ⟨hq1, hk2⟩ := HK2.out.down HC.out (.inr (by rw [← HPQ.out]; exact c2))
        have c2b : decide (4294967296 * (r : Int) + (un1 : Int) < (pq : Int)) = true := decide_eq_true (by omega)
        clear hpb
        by_cases c3 : 4294967296 ≤ r + y1
        · have HD : Hid (KnD y1 y0 u un1 (q - 1) ((u * 4294967296 + un1) % (y1 * 4294967296 + y0))) := hk2.far HC.out (by omega) c3
          generalize (u * 4294967296 + un1) % (y1 * 4294967296 + y0) = R1 at HD
          obtain ⟨q', hq'⟩ : ∃ q', q' = q - 1 := ⟨_, rfl⟩
          have eq' : (q : Int) - 1 = (q' : Int) := by omega
          rw [← hq'] at HD
          have c3b : decide ((4294967296 : Int) ≤ (r : Int) + (y1 : Int)) = true := decide_eq_true (by omega)
          clear hk2 hq'
          have hqb : q' < 4294967296 := HD.out.lt
          have hrlt := HD.out.rlt
          obtain ⟨a1, a2, a3, e1, e2, e3, e4⟩ := kn_words HD.out HY.out HYB.out
          have HC2 : Hid (KnC y1 y0 R1 un0) := ⟨hy0b, hun0, hrlt, HC.out.hy1⟩
          have hin := Kn.init HC2.out
          have hrb2 : R1 ≤ 18446744073709551615 := by have h1 := HY.out; have h2 := HYB.out; omega
          obtain ⟨qj, hqj⟩ : ∃ qj, qj = R1 / y1 := ⟨_, rfl⟩
          obtain ⟨qjy, hqjy⟩ : ∃ qjy, qjy = R1 / y1 * y1 := ⟨_, rfl⟩
          obtain ⟨rj, hrj⟩ : ∃ rj, rj = R1 - R1 / y1 * y1 := ⟨_, rfl⟩
          have hle := Nat.div_mul_le_self R1 y1
          have hml := Nat.mod_lt R1 (show 0 < y1 by omega)
          have hdm := Nat.div_add_mod R1 y1
          rw [Nat.mul_comm] at hdm
          rw [← hrj, ← hqj] at hin
          have g1 : (R1 : Int) / (y1 : Int) = (qj : Int) := by rw [hqj]; exact (Int.natCast_ediv _ _).symm
          have g2 : (qj : Int) * (y1 : Int) = (qjy : Int) := by rw [hqjy, hqj]; exact (Int.natCast_mul _ _).symm
          have g3 : (R1 : Int) - (qjy : Int) = (rj : Int) := by rw [hqjy, hrj]; omega
          have hqjb : qj ≤ 4294967297 := hin.le
          have hqjyb : qjy ≤ R1 := by rw [hqjy]; exact hle
          have hrjb : rj < 4294967296 := by rw [hrj]; omega
          have HIN : Hid (Kn y1 y0 R1 un0 qj rj) := hin
          clear hin hle hml hdm hqj hqjy hrj hrlt
          go_wp2_with fail
          go_loop [18, 16] (fun a b => ∃ t z : Nat, a = U t ∧ b = U z ∧ KnB z ∧ Kn y1 y0 R1 un0 t z) (fun a _ => (intOf a).toNat)
          case atStart => exact ⟨qj, rj, rfl, rfl, ⟨hrjb⟩, HIN.out⟩
          case round =>
            obtain ⟨t, z, rfl, rfl, hzb, hkt⟩ := hrel
            have hz := hzb.lt
            have ht := hkt.le
            have HKT : Hid (Kn y1 y0 R1 un0 t z) := hkt
            clear hkt HIN e1 e2 e3 e4 g1 g2 g3 hqjb hqjyb hrjb
            obtain ⟨pt, ept⟩ : ∃ pt : Nat, (t : Int) * (y0 : Int) = (pt : Int) := ⟨t * y0, by simp⟩
            have HPT : Hid (pt = t * y0) := by have := ept; rw [← Int.natCast_mul] at this; exact (Int.ofNat.inj this).symm
            have hptb : t < 4294967296 → pt ≤ 18446744073709551615 := by
              intro hlt
              rw [HPT.out]
              have := Nat.mul_le_mul (show t ≤ 4294967295 by omega) (show y0 ≤ 4294967295 by omega)
              omega
            by_cases d1 : 4294967296 ≤ t
            · have d1b : decide ((4294967296 : Int) ≤ (t : Int)) = true := decide_eq_true (by omega)
              obtain ⟨ht1, hk3⟩ := HKT.out.down HC2.out (.inl d1)
              clear hptb ept HPT
              by_cases d3 : 4294967296 ≤ z + y1
              · have HE : Hid (KnD y1 y0 R1 un0 (t - 1) ((R1 * 4294967296 + un0) % (y1 * 4294967296 + y0))) := hk3.far HC2.out (by omega) d3
                generalize (R1 * 4294967296 + un0) % (y1 * 4294967296 + y0) = R0 at HE
                obtain ⟨t', ht'⟩ : ∃ t', t' = t - 1 := ⟨_, rfl⟩
                have et' : (t : Int) - 1 = (t' : Int) := by omega
                rw [← ht'] at HE
                have d3b : decide ((4294967296 : Int) ≤ (z : Int) + (y1 : Int)) = true := decide_eq_true (by omega)
                clear hk3 ht'
                have htb : t' < 4294967296 := HE.out.lt
                have hqb2 : q' < 4294967296 := HD.out.lt
                obtain ⟨b1, b2, b3, f1, f2, f3, f4⟩ := kn_words HE.out HY.out HYB.out
                go_wp2_with fail
                go_ret2
                refine ⟨q', t', R1, R0, ?_, rfl, HD.out, HE.out⟩
                exact ret_two (by unfold jq; omega) (by rw [div_nat])
              · have HK4 : Hid (Kn y1 y0 R1 un0 (t - 1) (z + y1)) := hk3
                have d3b : decide ((4294967296 : Int) ≤ (z : Int) + (y1 : Int)) = false := decide_eq_false (by omega)
                clear hk3
                go_wp2_with fail
                go_round
                case rel => exact ⟨t - 1, z + y1, by go_num, by go_num, ⟨by omega⟩, HK4.out⟩
                case measure => simp [intOf]; omega
            · have hptb' := hptb (by omega)
              have d1b : decide ((4294967296 : Int) ≤ (t : Int)) = false := decide_eq_false (by omega)
              by_cases d2 : 4294967296 * z + un0 < pt
              · obtain ⟨ht1, hk3⟩ := HKT.out.down HC2.out (.inr (by rw [← HPT.out]; exact d2))
                have d2b : decide (4294967296 * (z : Int) + (un0 : Int) < (pt : Int)) = true := decide_eq_true (by omega)
                clear hptb
                by_cases d3 : 4294967296 ≤ z + y1
                · have HE : Hid (KnD y1 y0 R1 un0 (t - 1) ((R1 * 4294967296 + un0) % (y1 * 4294967296 + y0))) := hk3.far HC2.out (by omega) d3
                  generalize (R1 * 4294967296 + un0) % (y1 * 4294967296 + y0) = R0 at HE
                  obtain ⟨t', ht'⟩ : ∃ t', t' = t - 1 := ⟨_, rfl⟩
                  have et' : (t : Int) - 1 = (t' : Int) := by omega
                  rw [← ht'] at HE
                  have d3b : decide ((4294967296 : Int) ≤ (z : Int) + (y1 : Int)) = true := decide_eq_true (by omega)
                  clear hk3 ht'
                  have htb : t' < 4294967296 := HE.out.lt
                  have hqb2 : q' < 4294967296 := HD.out.lt
                  obtain ⟨b1, b2, b3, f1, f2, f3, f4⟩ := kn_words HE.out HY.out HYB.out
                  go_wp2_with fail
                  go_ret2
                  refine ⟨q', t', R1, R0, ?_, rfl, HD.out, HE.out⟩
                  exact ret_two (by unfold jq; omega) (by rw [div_nat])
                · have HK4 : Hid (Kn y1 y0 R1 un0 (t - 1) (z + y1)) := hk3
                  have d3b : decide ((4294967296 : Int) ≤ (z : Int) + (y1 : Int)) = false := decide_eq_false (by omega)
                  clear hk3
                  go_wp2_with fail
                  go_round
                  case rel => exact ⟨t - 1, z + y1, by go_num, by go_num, ⟨by omega⟩, HK4.out⟩
                  case measure => simp [intOf]; omega
              · have HE : Hid (KnD y1 y0 R1 un0 t ((R1 * 4294967296 + un0) % (y1 * 4294967296 + y0))) := HKT.out.done HC2.out (by rw [← HPT.out]; omega)
                have d2b : decide (4294967296 * (z : Int) + (un0 : Int) < (pt : Int)) = false := decide_eq_false (by omega)
                clear hptb
                generalize (R1 * 4294967296 + un0) % (y1 * 4294967296 + y0) = R0 at HE
                have htb : t < 4294967296 := HE.out.lt
                have hqb2 : q' < 4294967296 := HD.out.lt
                obtain ⟨b1, b2, b3, f1, f2, f3, f4⟩ := kn_words HE.out HY.out HYB.out
                go_wp2_with fail
                go_ret2
                refine ⟨q', t, R1, R0, ?_, rfl, HD.out, HE.out⟩
                exact ret_two (by unfold jq; omega) (by rw [div_nat])
        · have HK3 : Hid (Kn y1 y0 u un1 (q - 1) (r + y1)) := hk2
          have c3b : decide ((4294967296 : Int) ≤ (r : Int) + (y1 : Int)) = false := decide_eq_false (by omega)
          clear hk2
          go_wp2_with fail
          go_round
          case rel => exact ⟨q - 1, r + y1, by go_num, by go_num, ⟨by omega⟩, HK3.out⟩
          case measure => simp [intOf]; omega
      · have HD : Hid (KnD y1 y0 u un1 q ((u * 4294967296 + un1) % (y1 * 4294967296 + y0))) := HK2.out.done HC.out (by rw [← HPQ.out]; omega)
        have c2b : decide (4294967296 * (r : Int) + (un1 : Int) < (pq : Int)) = false := decide_eq_false (by omega)
        clear hpb
        generalize (u * 4294967296 + un1) % (y1 * 4294967296 + y0) = R1 at HD
        have hqb : q < 4294967296 := HD.out.lt
        have hrlt := HD.out.rlt
        obtain ⟨a1, a2, a3, e1, e2, e3, e4⟩ := kn_words HD.out HY.out HYB.out
        have HC2 : Hid (KnC y1 y0 R1 un0) := ⟨hy0b, hun0, hrlt, HC.out.hy1⟩
        have hin := Kn.init HC2.out
        have hrb2 : R1 ≤ 18446744073709551615 := by have h1 := HY.out; have h2 := HYB.out; omega
        obtain ⟨qj, hqj⟩ : ∃ qj, qj = R1 / y1 := ⟨_, rfl⟩
        obtain ⟨qjy, hqjy⟩ : ∃ qjy, qjy = R1 / y1 * y1 := ⟨_, rfl⟩
        obtain ⟨rj, hrj⟩ : ∃ rj, rj = R1 - R1 / y1 * y1 := ⟨_, rfl⟩
        have hle := Nat.div_mul_le_self R1 y1
        have hml := Nat.mod_lt R1 (show 0 < y1 by omega)
        have hdm := Nat.div_add_mod R1 y1
        rw [Nat.mul_comm] at hdm
        rw [← hrj, ← hqj] at hin
        have g1 : (R1 : Int) / (y1 : Int) = (qj : Int) := by rw [hqj]; exact (Int.natCast_ediv _ _).symm
        have g2 : (qj : Int) * (y1 : Int) = (qjy : Int) := by rw [hqjy, hqj]; exact (Int.natCast_mul _ _).symm
        have g3 : (R1 : Int) - (qjy : Int) = (rj : Int) := by rw [hqjy, hrj]; omega
        have hqjb : qj ≤ 4294967297 := hin.le
        have hqjyb : qjy ≤ R1 := by rw [hqjy]; exact hle
        have hrjb : rj < 4294967296 := by rw [hrj]; omega
        have HIN : Hid (Kn y1 y0 R1 un0 qj rj) := hin
        clear hin hle hml hdm hqj hqjy hrj hrlt
        go_wp2_with fail
        go_loop [18, 16] (fun a b => ∃ t z : Nat, a = U t ∧ b = U z ∧ KnB z ∧ Kn y1 y0 R1 un0 t z) (fun a _ => (intOf a).toNat)
        case atStart => exact ⟨qj, rj, rfl, rfl, ⟨hrjb⟩, HIN.out⟩
        case round =>
          obtain ⟨t, z, rfl, rfl, hzb, hkt⟩ := hrel
          have hz := hzb.lt
          have ht := hkt.le
          have HKT : Hid (Kn y1 y0 R1 un0 t z) := hkt
          clear hkt HIN e1 e2 e3 e4 g1 g2 g3 hqjb hqjyb hrjb
          obtain ⟨pt, ept⟩ : ∃ pt : Nat, (t : Int) * (y0 : Int) = (pt : Int) := ⟨t * y0, by simp⟩
          have HPT : Hid (pt = t * y0) := by have := ept; rw [← Int.natCast_mul] at this; exact (Int.ofNat.inj this).symm
          have hptb : t < 4294967296 → pt ≤ 18446744073709551615 := by
            intro hlt
            rw [HPT.out]
            have := Nat.mul_le_mul (show t ≤ 4294967295 by omega) (show y0 ≤ 4294967295 by omega)
            omega
          by_cases d1 : 4294967296 ≤ t
          · have d1b : decide ((4294967296 : Int) ≤ (t : Int)) = true := decide_eq_true (by omega)
            obtain ⟨ht1, hk3⟩ := HKT.out.down HC2.out (.inl d1)
            clear hptb ept HPT
            by_cases d3 : 4294967296 ≤ z + y1
            · have HE : Hid (KnD y1 y0 R1 un0 (t - 1) ((R1 * 4294967296 + un0) % (y1 * 4294967296 + y0))) := hk3.far HC2.out (by omega) d3
              generalize (R1 * 4294967296 + un0) % (y1 * 4294967296 + y0) = R0 at HE
              obtain ⟨t', ht'⟩ : ∃ t', t' = t - 1 := ⟨_, rfl⟩
              have et' : (t : Int) - 1 = (t' : Int) := by omega
              rw [← ht'] at HE
              have d3b : decide ((4294967296 : Int) ≤ (z : Int) + (y1 : Int)) = true := decide_eq_true (by omega)
              clear hk3 ht'
              have htb : t' < 4294967296 := HE.out.lt
              have hqb2 : q < 4294967296 := HD.out.lt
              obtain ⟨b1, b2, b3, f1, f2, f3, f4⟩ := kn_words HE.out HY.out HYB.out
              go_wp2_with fail
              go_ret2
              refine ⟨q, t', R1, R0, ?_, rfl, HD.out, HE.out⟩
              exact ret_two (by unfold jq; omega) (by rw [div_nat])
            · have HK4 : Hid (Kn y1 y0 R1 un0 (t - 1) (z + y1)) := hk3
              have d3b : decide ((4294967296 : Int) ≤ (z : Int) + (y1 : Int)) = false := decide_eq_false (by omega)
              clear hk3
              go_wp2_with fail
              go_round
              case rel => exact ⟨t - 1, z + y1, by go_num, by go_num, ⟨by omega⟩, HK4.out⟩
              case measure => simp [intOf]; omega
          · have hptb' := hptb (by omega)
            have d1b : decide ((4294967296 : Int) ≤ (t : Int)) = false := decide_eq_false (by omega)
            by_cases d2 : 4294967296 * z + un0 < pt
            · obtain ⟨ht1, hk3⟩ := HKT.out.down HC2.out (.inr (by rw [← HPT.out]; exact d2))
              have d2b : decide (4294967296 * (z : Int) + (un0 : Int) < (pt : Int)) = true := decide_eq_true (by omega)
              clear hptb
              by_cases d3 : 4294967296 ≤ z + y1
              · have HE : Hid (KnD y1 y0 R1 un0 (t - 1) ((R1 * 4294967296 + un0) % (y1 * 4294967296 + y0))) := hk3.far HC2.out (by omega) d3
                generalize (R1 * 4294967296 + un0) % (y1 * 4294967296 + y0) = R0 at HE
                obtain ⟨t', ht'⟩ : ∃ t', t' = t - 1 := ⟨_, rfl⟩
                have et' : (t : Int) - 1 = (t' : Int) := by omega
                rw [← ht'] at HE
                have d3b : decide ((4294967296 : Int) ≤ (z : Int) + (y1 : Int)) = true := decide_eq_true (by omega)
                clear hk3 ht'
                have htb : t' < 4294967296 := HE.out.lt
                have hqb2 : q < 4294967296 := HD.out.lt
                obtain ⟨b1, b2, b3, f1, f2, f3, f4⟩ := kn_words HE.out HY.out HYB.out
                go_wp2_with fail
                go_ret2
                refine ⟨q, t', R1, R0, ?_, rfl, HD.out, HE.out⟩
                exact ret_two (by unfold jq; omega) (by rw [div_nat])
              · have HK4 : Hid (Kn y1 y0 R1 un0 (t - 1) (z + y1)) := hk3
                have d3b : decide ((4294967296 : Int) ≤ (z : Int) + (y1 : Int)) = false := decide_eq_false (by omega)
                clear hk3
                go_wp2_with fail
                go_round
                case rel => exact ⟨t - 1, z + y1, by go_num, by go_num, ⟨by omega⟩, HK4.out⟩
                case measure => simp [intOf]; omega
            · have HE : Hid (KnD y1 y0 R1 un0 t ((R1 * 4294967296 + un0) % (y1 * 4294967296 + y0))) := HKT.out.done HC2.out (by rw [← HPT.out]; omega)
              have d2b : decide (4294967296 * (z : Int) + (un0 : Int) < (pt : Int)) = false := decide_eq_false (by omega)
              clear hptb
              generalize (R1 * 4294967296 + un0) % (y1 * 4294967296 + y0) = R0 at HE
              have htb : t < 4294967296 := HE.out.lt
              have hqb2 : q < 4294967296 := HD.out.lt
              obtain ⟨b1, b2, b3, f1, f2, f3, f4⟩ := kn_words HE.out HY.out HYB.out
              go_wp2_with fail
              go_ret2
              refine ⟨q, t, R1, R0, ?_, rfl, HD.out, HE.out⟩
              exact ret_two (by unfold jq; omega) (by rw [div_nat])
theorem step_append_own {P : Program} {ops : Array Oper} {o : Oper} {a : Act} {w : World} {K : Act → World → Prop} {Q : Exit → Act → World → Prop} {E : Prop}
    (hg : o.guard = none) (s x : Operand) (t : TypeId) (hop : o.op = Op.call { callee := Callee.builtin Builtin.append, args := #[s, x], argTypes := #[t, t] })
    (base : Nat) (e : TypeId) (i : TypeInfo) (size : Nat) (h1 : P.underlying t = some (.slice e)) (h2 : P.info? e = some i) (h4 : i.size = size)
    (g k cap : Nat) (xs : List Value) (hs : a.eval s = .slice (some ⟨g, 0, none⟩) k cap) (hown : w.ownsRow base e size (.slice (some ⟨g, 0, none⟩) k cap) k xs) (ad : Addr) (m c : Nat) (news : List Value) (hx : a.eval x = .slice (some ad) m c) (hn : news.length = m * size)
    (hc : ∀ j u, news[j]? = some u → w.cell? (ad.add j) = some u) (h1c : ∀ u ∈ news, u.oneCell' = true) (b1 : k + m ≤ cap)
    (hK : ∀ w', w'.ownsRow base e size (.slice (some ⟨g, 0, none⟩) (k + m) cap) (k + m) (xs ++ news) → w.grownBy w' (some g) → K (a.put o.dst (.slice (some ⟨g, 0, none⟩) (k + m) cap)) w') :
    if Region.wanted o (yielded ops a.tmps) = true then Oper.wp P o a w K Q else E := by
  have hw : Region.wanted o (yielded ops a.tmps) = true := by simp [Region.wanted, hg]
  rw [if_pos hw]
  obtain ⟨w', hrun, r1, r2⟩ := run_append_fits (P := P) w base t o.type e i size h1 h2 h4 g k cap xs hown ad m c news hn hc h1c b1
  unfold Oper.wp
  simp [execOp, hop, resolve, invoke, builtin, hs, hx, hrun, Result.andThen]
  exact hK _ r1 r2
theorem bDrew {B : Nat} {a w : World} (h : Below B a w) : Below B a w.drew := ⟨h.os, h.tape, h.output, h.size, h.block⟩
theorem wrap32 (v : Nat) (h : v < B32) : IntKind.u32.wrap (v : Int) = (v : Int) := by
  rw [B32_eq] at h
  simp [IntKind.wrap, IntKind.signed, IntKind.bits]
  omega
theorem two_cells (w : World) (x y : Nat) : ∀ (j : Nat) (u : Value), [V x, V y][j]? = some u → (w.alloc (.cells #[V x, V y] 87)).cell? ((⟨w.heap.size, 0, none⟩ : Addr).add j) = some u := by
  intro j u h
  have hb : Blk32 (w.alloc (.cells #[V x, V y] 87)) w.heap.size [x, y] := heap_alloc_new w _
  have hj : j < 2 := by
    have := (List.getElem?_eq_some_iff.1 h).1
    simpa using this
  have hadd : (⟨w.heap.size, 0, none⟩ : Addr).add j = ⟨w.heap.size, j, none⟩ := by unfold Addr.add; split <;> simp_all
  rw [hadd, hb.cell j (by simpa using hj)]
  rcases Nat.lt_or_ge j 1 with h1 | h1
  · obtain rfl : j = 0 := by omega
    simpa using h
  · obtain rfl : j = 1 := by omega
    simpa using h

theorem from_any {p : Option Addr} {n c : Nat} {xs : List Nat} {w : World} (h : At w p n c xs) (hn : n ≤ 17592186044416) :
    Calls Tryd.prog 57 #[.slice p n c] w fun e w' =>
      ∃ g zs, e = .returned (.slice (some ⟨g, 0, none⟩) zs.length zs.length) ∧ w.heap.size ≤ g ∧ Blk32 w' g zs ∧ Nf B32 zs (valB B64 xs) ∧ zs.length ≤ 2 * n ∧ Below w.heap.size w w' := by
  obtain ⟨i0, hi, hz0, hz1, hz2⟩ := info_parts Tryd.infoU32
  have hl := h.len; have cap := h.cap; have big := h.big
  unfold maxLen at big
  have HL : Hid (xs.length = n) := hl
  clear hl
  go_enter Tryd.func57, Tryd.ntmps57
  go_wp2_with (at_make; refine wpList_make_own _ rfl _ _ 72 rfl w.heap.size 87 i0 (.int .u32 0) 1 Tryd.underlying72 hi hz0 hz1 _ _ _ (2 * n) rfl rfl (by omega) (by rw [hz2]; omega) (by unfold maxLen; omega) (Nat.le_refl _) ?_; intro w1 hown hgrow)
  have HO : Hid (w1.ownsRow w.heap.size 87 1 (.slice (some ⟨w.heap.size, 0, none⟩) 0 (2 * n)) 0 []) := hown
  have hb1 : Below w.heap.size w w1 := (Below.refl _ _).grown hgrow (Nat.le_refl _) (fun k hk => by simp at hk)
  clear hown hgrow
  obtain ⟨N, hN⟩ : ∃ N, N = 2 * n := ⟨_, rfl⟩
  rw [← hN] at HO ⊢
  have HN : Hid (N = 2 * n) := hN
  clear hN
  go_loopg [3, 4] n (fun gk dv iv wr => ∃ k K2 : Nat, k + gk = n ∧ iv = .int .i64 k ∧ Hid (K2 = 2 * k) ∧ dv = .slice (some ⟨w.heap.size, 0, none⟩) K2 N ∧ Hid (wr.ownsRow w.heap.size 87 1 (.slice (some ⟨w.heap.size, 0, none⟩) K2 N) K2 (cellsV (dig32 (xs.take k)))) ∧ Below w.heap.size w wr)
  case atStart => exact ⟨0, 0, by omega, rfl, rfl, rfl, HO, hb1⟩
  case round =>
    obtain ⟨k, K2, hkg, rfl, HK2, rfl, HOW, hbx⟩ := hrel
    cases gk with
    | zero =>
      obtain rfl : k = n := by omega
      have hO := HOW.out
      rcases hO.2 with ⟨h', _⟩ | ⟨g', cap', cur, h', hbase, hgc, hcap', hmx, hsz, htake⟩
      · simp at h'
      simp only [Value.slice.injEq, Option.some.injEq, Addr.mk.injEq, and_true, true_and] at h'
      obtain ⟨rfl, rfl⟩ := h'
      have hK := HK2.out
      have hNN := HN.out
      have hdl : (dig32 xs).length = K2 := by rw [dig32_len, HL.out, hK]
      have etk : xs.take k = xs := List.take_of_length_le (by rw [HL.out]; omega)
      rw [etk] at htake
      have A32 : At32 wr (some ⟨w.heap.size, 0, none⟩) K2 N (dig32 xs) := by
        refine ⟨hdl, hcap', hmx, dig32_dig h.dig, .inr ⟨w.heap.size, 0, rfl, fun jj hj => ?_⟩⟩
        rw [Nat.zero_add, cell_of_row wr w.heap.size jj _ _ _ hgc]
        have e1 := cellsV_get (dig32 xs) jj (by omega)
        rw [← htake, Nat.mul_one, List.getElem?_take, if_pos hj] at e1
        rw [← Array.getElem?_toList]; exact e1
      have hle := trimL_length_le (dig32 xs)
      have HNF : Hid (Nf B32 (trimL (dig32 xs)) (valB B64 xs)) := by
        have := Nf.trim (dig32_dig h.dig)
        rw [dig32_val] at this; exact this
      have HLE : Hid ((trimL (dig32 xs)).length ≤ 2 * k) := by show _ ≤ _; omega
      clear hO hbase hgc hcap' hmx hsz htake hK hNN hle hdl
      go_wp2_with fail
      refine (rnorm_any A32 (by have := HK2.out; omega)).mono ?_
      rintro e w5 ⟨g5, rfl, hg5, hblk5, hb5⟩
      generalize trimL (dig32 xs) = zs at *
      go_wp2_with fail
      go_ret
      exact ⟨g5, zs, rfl, by have := hbx.size; omega, hblk5, HNF.out, HLE.out, Below.on hbx hb5⟩
    | succ gg =>
      obtain ⟨g, off, rfl, hc⟩ := h.cells.resolve_left (by omega)
      obtain ⟨x, hx⟩ : ∃ x, x = xs.getD k 0 := ⟨_, rfl⟩
      have hcx0 : w.cell? ⟨g, off + k, none⟩ = some (U x) := by rw [hx]; exact hc k (by omega)
      have hcx : wr.cell? ⟨g, off + k, none⟩ = some (U x) := (hbx.cell (p := ⟨g, off + k, none⟩) (World.block_lt_of_cell? w _ hcx0)).trans hcx0
      have hxb : x < B64 := by rw [hx]; exact h.dig.getD B64_pos k
      have HX : Hid (x = xs.getD k 0) := hx
      clear hc hx hcx0
      obtain ⟨lo, hlo⟩ : ∃ lo, lo = x % B32 := ⟨_, rfl⟩
      obtain ⟨hh, hhi⟩ : ∃ hh, hh = x / B32 := ⟨_, rfl⟩
      have hlob : lo < B32 := by rw [hlo]; exact Nat.mod_lt _ B32_pos
      have hhib : hh < B32 := by rw [hhi]; exact Nat.div_lt_of_lt_mul (by rw [B32_two]; exact hxb)
      have e1 : bits .and .u64 (x : Int) 4294967295 = (lo : Int) := by rw [hlo, B32_eq]; exact and32 x (by rw [← B64_eq]; exact hxb)
      have e2 : (x : Int) / 4294967296 = (hh : Int) := by rw [hhi, B32_eq]; exact div32 x
      have e3 : IntKind.u32.wrap (lo : Int) = (lo : Int) := wrap32 lo hlob
      have e4 : IntKind.u32.wrap (hh : Int) = (hh : Int) := wrap32 hh hhib
      have HLO : Hid (lo = x % B32) := hlo
      have HHI : Hid (hh = x / B32) := hhi
      have hsp : K2 + 2 ≤ N := by have := HK2.out; have := HN.out; omega
      have HOA : Hid ((wr.drew.alloc (.cells #[V lo, V hh] 87)).ownsRow w.heap.size 87 1 (.slice (some ⟨w.heap.size, 0, none⟩) K2 N) K2 (cellsV (dig32 (xs.take k)))) := by
        have h0 : wr.drew.ownsRow w.heap.size 87 1 (.slice (some ⟨w.heap.size, 0, none⟩) K2 N) K2 (cellsV (dig32 (xs.take k))) := HOW.out
        exact h0.alloc _
      clear hlo hhi
      go_wp2_with fail
      go_region_law (refine step_append_own rfl (.tmp 15) (.tmp 28) 72 rfl w.heap.size 87 i0 1 Tryd.underlying72 hi hz1 w.heap.size K2 N (cellsV (dig32 (xs.take k))) (by simp [Act.eval]) HOA.out ⟨wr.heap.size, 0, none⟩ 2 2 [V lo, V hh] (by simp [Act.eval]) rfl (two_cells wr.drew lo hh) (by intro u hu; simp at hu; rcases hu with rfl | rfl <;> rfl) hsp ?_; intro w3 hw3 hgr3)
      all_goals
        (have hbx3 : Below w.heap.size w w3 := ((bDrew hbx).alloc (by have := hbx.size; exact this) _).grown hgr3 (by have := hbx.size; simp; omega) (fun q hq => by simp at hq; omega)
         have HW3 : Hid (w3.ownsRow w.heap.size 87 1 (.slice (some ⟨w.heap.size, 0, none⟩) (K2 + 2) N) (K2 + 2) (cellsV (dig32 (xs.take (k + 1))))) := by
           have e0 : cellsV (dig32 (xs.take (k + 1))) = cellsV (dig32 (xs.take k)) ++ [V lo, V hh] := by
             rw [dig32_snoc xs k (by rw [HL.out]; omega), ← HX.out, ← HLO.out, ← HHI.out]; unfold cellsV; rw [List.map_append]; rfl
           rw [e0]; exact hw3
         clear hw3 hgr3
         go_wp2_with fail
         go_roundg gg
         case measure => omega
         case rel => exact ⟨k + 1, K2 + 2, by omega, by go_num, by have := HK2.out; show _ = _; omega, rfl, HW3, hbx3⟩)
end Go.Proofs.YtkdpafliibclnaaDoor
