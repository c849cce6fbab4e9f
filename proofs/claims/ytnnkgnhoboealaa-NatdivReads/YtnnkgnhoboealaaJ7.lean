import Derived.Test.YtnnkgnhoboealaaSmall
import Derived.BigRegion
import Derived.Shelf.Spec.BitsCarry
import Derived.Shelf.Bits.Mul64
import Derived.Shelf.Strconv.Itoa0
import Derived.Test.YtnnkgnhoboealaaMem
import Derived.Laws.Bits64b
import Derived.Deep.LoopGhost
import Derived.WalkMore
import Derived.Lib.SliceRun
import Derived.Sort.Row
import Derived.Deep.RegionWith
import Derived.Laws.ResultCell
import Derived.Deep.DeepCutAuto
import Derived.Deep.RegionLaw
import Derived.Shelf.Spec.TrailingZeros
namespace Go.Proofs.Ytnnkgnhoboealaa
open Go.RowKit
set_option maxRecDepth 20000
set_option maxHeartbeats 0
def cutOff (off n k : Nat) : Nat := if k = n then off else off + k
theorem cutOff_lt {off n k : Nat} (h : k < n) : cutOff off n k = off + k := if_neg (by omega)
theorem cutOff_eq {off n k : Nat} (h : k = n) : cutOff off n k = off := if_pos h

theorem ret_cut {v : Value} {g o o' m m' : Nat} (h : o = o') (hm : m = m') : Ending.returned (.tuple #[v, .slice (some ⟨g, o, none⟩) m m]) = .returned (.tuple #[v, .slice (some ⟨g, o', none⟩) m' m']) := by rw [h, hm]
theorem cut_row (g off n c k : Nat) (w : World) (hnc : n ≤ c) (hk : k ≤ n) :
    Calls Try.prog 25 #[.slice (some ⟨g, off, none⟩) n c, .int .i64 k] w fun e w' =>
      e = .returned (.tuple #[.slice (some ⟨g, off, none⟩) k k, .slice (some ⟨g, cutOff off n k, none⟩) (n - k) (n - k)]) ∧ ∃ r, w' = w.drewN r := by
  obtain ⟨o, ho⟩ : ∃ o, o = cutOff off n k := ⟨_, rfl⟩
  rw [← ho]
  by_cases hkn : k = n
  · have HO : Hid (o = off) := ho.trans (cutOff_eq hkn)
    subst hkn
    clear ho
    go_enter Try.func25, Try.ntmps25
    go_wp2
    go_quiet (fail)
    go_wp2
    go_ret2
    exact ⟨ret_cut HO.out.symm (Nat.sub_self k).symm, _, rfl⟩
  · have HO : Hid (o = off + k) := ho.trans (cutOff_lt (by omega))
    have hlt : k < n := by omega
    clear ho
    go_enter Try.func25, Try.ntmps25
    go_wp2
    go_quiet (fail)
    go_wp2
    go_ret2
    exact ⟨ret_cut HO.out.symm rfl, _, rfl⟩
theorem fitted_any {g n c : Nat} {xs : List Nat} {w : World} (h : At w (some ⟨g, 0, none⟩) n c xs) :
    Calls Try.prog 16 #[.slice (some ⟨g, 0, none⟩) n c] w fun e w' =>
      ((trimL xs).length ≤ 8192 ∧ (∃ p' m, e = .returned (.tuple #[.slice p' m m, .int .i64 0]) ∧ m = (trimL xs).length ∧ (m ≠ 0 → p' = some ⟨g, 0, none⟩)) ∧ w' = w) ∨
      (8192 < (trimL xs).length ∧ e = .returned (.tuple #[.slice none 0 0, .int .i64 5]) ∧ w' = w) := by
  go_enter Try.func16, Try.ntmps16
  go_wp2_with (go_at_call 24; refine (trim_any h).mono ?_; rintro e w' ⟨p', m, rfl, hm, hp, rfl⟩; have HM : Hid (m = (trimL xs).length) := hm; clear hm)
  · go_ret2
    have := HM.out
    exact .inr ⟨by omega, rfl, rfl⟩
  · go_ret2
    have := HM.out
    exact .inl ⟨by omega, ⟨_, _, rfl, this, hp⟩, rfl⟩
theorem add64_ex (x y c : Nat) (hx : x < B64) (hy : y < B64) (hc : c ≤ 1) : ∃ s d, (∀ w : World, (callFunc 23 #[U x, U y, U c]).run Try.prog w = .ok (.value (.tuple #[U s, U d])) w) ∧ x + y + c = s + B64 * d ∧ s < B64 ∧ d ≤ 1 := by
  refine ⟨(x + y + c) % 18446744073709551616, (x + y + c) / 18446744073709551616, fun w => ?_, ?_, ?_, ?_⟩
  · rw [run_callFunc_extern Try.func23 (by kernel_rfl) (by kernel_rfl) (by kernel_rfl) (e := add64Entry) (by kernel_rfl), run_add64 x y c (by omega) (by omega) (by omega) (by omega)]
    simp only [Result.andThen]
    congr 5 <;> omega
  · rw [B64_eq]; omega
  · rw [B64_eq]; omega
  · rw [B64_eq] at hx hy; omega

structure AddRel (w : World) (g off n : Nat) (zs ys : List Nat) (k cy : Nat) (dk : List Nat) (wr : World) : Prop where
  wrs : Wr g off n w wr
  row : Row wr g off n dk
  hi : dk.drop k = zs.drop k
  car : cy ≤ 1
  sum : valB B64 (dk.take k) + B64 ^ k * cy = valB B64 (zs.take k) + valB B64 (ys.take k)

theorem valB_take_any (b : Nat) (xs : List Nat) (k : Nat) : valB b (xs.take (k + 1)) = valB b (xs.take k) + b ^ k * xs.getD k 0 := by
  by_cases h : k < xs.length
  · exact valB_take_succ b xs k h
  · rw [List.take_of_length_le (by omega), List.take_of_length_le (by omega), List.getD_eq_getElem?_getD, List.getElem?_eq_none (by omega)]; simp
theorem drop_set_lt (dk : List Nat) (k y : Nat) : (dk.set k y).drop (k + 1) = dk.drop (k + 1) := by
  rw [List.drop_set]; simp
theorem take_set_succ (dk : List Nat) (k y : Nat) (hk : k < dk.length) : (dk.set k y).take (k + 1) = dk.take k ++ [y] := by
  rw [take_succ_getD _ k (by simpa using hk), getD_set dk k y k hk, if_pos rfl, List.take_set]
  congr 1
  rw [List.set_eq_of_length_le (by simp; omega)]
theorem drop_succ_of_drop {dk zs : List Nat} {k : Nat} (h : dk.drop k = zs.drop k) : dk.drop (k + 1) = zs.drop (k + 1) := by
  have := congrArg (List.drop 1) h
  rw [List.drop_drop, List.drop_drop] at this
  exact this
theorem getD_of_drop {dk zs : List Nat} {k : Nat} (h : dk.drop k = zs.drop k) : dk.getD k 0 = zs.getD k 0 := by
  have := congrArg (fun l : List Nat => l[0]?) h
  simp only [List.getElem?_drop, Nat.add_zero] at this
  rw [List.getD_eq_getElem?_getD, List.getD_eq_getElem?_getD, this]

theorem AddRel.step {w : World} {g off n : Nat} {zs ys : List Nat} {k cy : Nat} {dk : List Nat} {wr : World} (h : AddRel w g off n zs ys k cy dk wr) (hk : k < n)
    {x y s d : Nat} (hx : x = dk.getD k 0) (hy : y = ys.getD k 0) (hs : x + y + cy = s + B64 * d) (hsl : s < B64) (hd : d ≤ 1) (q : Nat) :
    AddRel w g off n zs ys (k + 1) d (dk.set k s) ((wr.setCell ⟨g, off + k, none⟩ (U s)).drewN q) := by
  have hl := h.row.len
  refine ⟨(h.wrs.setCell (off + k) ⟨by omega, by omega⟩ _).drewN q, (h.row.set k s hk hsl).drewN q, ?_, hd, ?_⟩
  · rw [drop_set_lt]; exact drop_succ_of_drop h.hi
  · have hxz : x = zs.getD k 0 := hx.trans (getD_of_drop h.hi)
    rw [take_set_succ dk k s (by omega), valB_snoc, List.length_take, hl, Nat.min_eq_left (by omega), valB_take_any _ zs k, valB_take_any _ ys k, ← hxz, ← hy, Nat.pow_succ]
    have e1 := h.sum
    have e2 : B64 ^ k * (x + y + cy) = B64 ^ k * (s + B64 * d) := by rw [hs]
    rw [Nat.mul_add, Nat.mul_add, Nat.mul_add, ← Nat.mul_assoc] at e2
    omega
theorem AddRel.fin {w : World} {g off n : Nat} {zs ys : List Nat} {k cy : Nat} {dk : List Nat} {wr : World} (h : AddRel w g off n zs ys k cy dk wr) (hz : zs.length = n) (hy : ys.length ≤ k) (hk : k ≤ n) (hf : cy = 0 ∨ k = n) :
    valB B64 dk + B64 ^ n * cy = valB B64 zs + valB B64 ys := by
  have hl := h.row.len
  have e1 := h.sum
  rw [List.take_of_length_le hy] at e1
  rw [valB_split B64 dk k (by omega), valB_split B64 zs k (by omega), h.hi]
  rcases hf with rfl | rfl
  · omega
  · rw [List.drop_of_length_le (by omega)]; simp only [valB_nil]; omega

theorem ladd_any (g off n c : Nat) (zs : List Nat) (p : Option Addr) (m d : Nat) (ys : List Nat) (w : World) (hz : Row w g off n zs) (hnc : n ≤ c) (hbig : c ≤ 9223372036854775807)
    (ha : At w p m d ys) (hmn : m ≤ n) (hap : ∀ g2 off2, 0 < m → p = some ⟨g2, off2, none⟩ → g2 ≠ g ∨ off2 + m ≤ off ∨ off + n ≤ off2) :
    Calls Try.prog 18 #[.slice (some ⟨g, off, none⟩) n c, .slice p m d] w fun e w' =>
      ∃ cy zs', e = .returned (U cy) ∧ cy ≤ 1 ∧ Wr g off n w w' ∧ Row w' g off n zs' ∧ valB B64 zs' + B64 ^ n * cy = valB B64 zs + valB B64 ys := by
  have hl := hz.len; have al := ha.len; have acap := ha.cap; have abig := ha.big
  unfold maxLen at abig
  go_enter Try.func18, Try.ntmps18
  go_wp2_with (go_at_call 25; refine (cut_row g off n c m _ hnc hmn).mono ?_; rintro e w' ⟨rfl, r0, rfl⟩)
  go_loopw [7, 8, 19] (fun cv _ i wr => ∃ (k cy : Nat) (dk : List Nat), k ≤ m ∧ i = .int .i64 k ∧ cv = U cy ∧ AddRel w g off n zs ys k cy dk wr) (fun _ _ i _ => m - (intOf i).toNat)
  case atStart => exact ⟨0, 0, zs, Nat.zero_le _, rfl, rfl, ⟨(Wr.refl _ _ _ _).drewN _, hz.drewN _, rfl, by omega, by simp [valB]⟩⟩
  case round =>
    obtain ⟨k, cy, dk, hk, rfl, rfl, hR⟩ := hrel
    by_cases hlt : k < m
    · obtain ⟨g2, off2, rfl, hc2⟩ := ha.cells.resolve_left (by omega)
      obtain ⟨x, hx⟩ : ∃ x, x = dk.getD k 0 := ⟨_, rfl⟩
      obtain ⟨y, hy⟩ : ∃ y, y = ys.getD k 0 := ⟨_, rfl⟩
      have hcx : wr.cell? ⟨g, off + k, none⟩ = some (U x) := by rw [hx]; exact hR.row.cell k (by omega)
      have hfx : wr.frozen? ⟨g, off + k, none⟩ = false := hR.row.frozen k (by omega)
      have hcy : wr.cell? ⟨g2, off2 + k, none⟩ = some (U y) := by
        rw [hy, hR.wrs.cell g2 (off2 + k) (by have := hap g2 off2 (by omega) rfl; omega)]; exact hc2 k hlt
      obtain ⟨s, d1, hrun, hsum, hsl, hd1⟩ := add64_ex x y cy (by rw [hx]; exact hR.row.dig.getD B64_pos k) (by rw [hy]; exact ha.dig.getD B64_pos k) hR.car
      have HR : Hid (AddRel w g off n zs ys k cy dk wr) := hR
      have HX : Hid (x = dk.getD k 0) := hx
      have HY : Hid (y = ys.getD k 0) := hy
      have HS : Hid (x + y + cy = s + B64 * d1) := hsum
      clear hR hx hy hsum hc2
      go_wp2
      go_region
      go_wp2
      go_roundw
      case rel => exact ⟨k + 1, d1, dk.set k s, by omega, by go_num, rfl, HR.out.step (by omega) HX.out HY.out HS.out hsl hd1 1⟩
      case measure => simp [intOf]; omega
    · obtain rfl : k = m := by omega
      have HR : Hid (AddRel w g off n zs ys k cy dk wr) := hR
      clear hR
      go_wp2
      go_loopw [7, 9, 41] (fun cv _ i wr => ∃ (j cy : Nat) (dk : List Nat), j ≤ n - k ∧ i = .int .i64 j ∧ cv = U cy ∧ AddRel w g off n zs ys (k + j) cy dk wr) (fun _ _ i _ => n - k - (intOf i).toNat)
      case atStart => exact ⟨0, cy, dk, Nat.zero_le _, rfl, rfl, HR.out⟩
      case round =>
        clear HR
        obtain ⟨j, cy, dk, hj, rfl, rfl, hR⟩ := hrel
        by_cases hlt2 : j < n - k
        · have hco : cutOff off n k = off + k := cutOff_lt (by omega)
          obtain ⟨x, hx⟩ : ∃ x, x = dk.getD (k + j) 0 := ⟨_, rfl⟩
          have hcx : wr.cell? ⟨g, cutOff off n k + j, none⟩ = some (U x) := by rw [hx, hco, Nat.add_assoc]; exact hR.row.cell (k + j) (by omega)
          have hfx : wr.frozen? ⟨g, cutOff off n k + j, none⟩ = false := by rw [hco, Nat.add_assoc]; exact hR.row.frozen (k + j) (by omega)
          obtain ⟨s, d1, hrun0, hsum, hsl, hd1⟩ := add64_ex x 0 cy (by rw [hx]; exact hR.row.dig.getD B64_pos _) B64_pos hR.car
          have HR : Hid (AddRel w g off n zs ys (k + j) cy dk wr) := hR
          have HX : Hid (x = dk.getD (k + j) 0) := hx
          have HS : Hid (x + 0 + cy = s + B64 * d1) := hsum
          have HO : Hid (cutOff off n k = off + k) := hco
          have hrun : ∀ w : World, (callFunc 23 #[U x, .int .u64 0, U cy]).run Try.prog w = .ok (.value (.tuple #[U s, U d1])) w := hrun0
          clear hR hx hsum hco hrun0
          by_cases hc0 : cy = 0
          · subst hc0
            go_wp2
            go_ret
            exact ⟨0, dk, rfl, by omega, HR.out.wrs, HR.out.row, HR.out.fin hl (by omega) (by omega) (.inl rfl)⟩
          · have hc0' : ((cy : Int) == 0) = false := by simp; omega
            go_wp2
            go_roundw
            case rel =>
              refine ⟨j + 1, d1, dk.set (k + j) s, by omega, by go_num, rfl, ?_⟩
              have st := HR.out.step (by omega) HX.out (y := 0) (by rw [List.getD_eq_getElem?_getD, List.getElem?_eq_none (by omega)]; rfl) HS.out hsl hd1 0
              rw [← Nat.add_assoc off, ← HO.out] at st
              exact st
            case measure => simp [intOf]; omega
        · have hjn : k + j = n := by omega
          have HR : Hid (AddRel w g off n zs ys (k + j) cy dk wr) := hR
          have HJ : Hid (k + j = n) := hjn
          clear hR hjn
          go_wp2
          go_ret
          exact ⟨cy, dk, rfl, HR.out.car, HR.out.wrs, HR.out.row, HR.out.fin hl (by omega) (by have := HJ.out; omega) (.inr HJ.out)⟩
structure SubRel (w : World) (g off n : Nat) (zs ys : List Nat) (k cy : Nat) (dk : List Nat) (wr : World) : Prop where
  wrs : Wr g off n w wr
  row : Row wr g off n dk
  hi : dk.drop k = zs.drop k
  car : cy ≤ 1
  sum : valB B64 (dk.take k) + valB B64 (ys.take k) = valB B64 (zs.take k) + B64 ^ k * cy

theorem SubRel.step {w : World} {g off n : Nat} {zs ys : List Nat} {k cy : Nat} {dk : List Nat} {wr : World} (h : SubRel w g off n zs ys k cy dk wr) (hk : k < n)
    {x y s d : Nat} (hx : x = dk.getD k 0) (hy : y = ys.getD k 0) (hs : x + B64 * d = s + y + cy) (hsl : s < B64) (hd : d ≤ 1) (q : Nat) :
    SubRel w g off n zs ys (k + 1) d (dk.set k s) ((wr.setCell ⟨g, off + k, none⟩ (U s)).drewN q) := by
  have hl := h.row.len
  refine ⟨(h.wrs.setCell (off + k) ⟨by omega, by omega⟩ _).drewN q, (h.row.set k s hk hsl).drewN q, ?_, hd, ?_⟩
  · rw [drop_set_lt]; exact drop_succ_of_drop h.hi
  · have hxz : x = zs.getD k 0 := hx.trans (getD_of_drop h.hi)
    rw [take_set_succ dk k s (by omega), valB_snoc, List.length_take, hl, Nat.min_eq_left (by omega), valB_take_any _ zs k, valB_take_any _ ys k, ← hxz, ← hy, Nat.pow_succ]
    have e1 := h.sum
    have e2 : B64 ^ k * (x + B64 * d) = B64 ^ k * (s + y + cy) := by rw [hs]
    rw [Nat.mul_add, Nat.mul_add, Nat.mul_add, ← Nat.mul_assoc] at e2
    omega
theorem SubRel.fin {w : World} {g off n : Nat} {zs ys : List Nat} {k cy : Nat} {dk : List Nat} {wr : World} (h : SubRel w g off n zs ys k cy dk wr) (hz : zs.length = n) (hy : ys.length ≤ k) (hk : k ≤ n) (hf : cy = 0 ∨ k = n) :
    valB B64 dk + valB B64 ys = valB B64 zs + B64 ^ n * cy := by
  have hl := h.row.len
  have e1 := h.sum
  rw [List.take_of_length_le hy] at e1
  rw [valB_split B64 dk k (by omega), valB_split B64 zs k (by omega), h.hi]
  rcases hf with rfl | rfl
  · omega
  · rw [List.drop_of_length_le (by omega)]; simp only [valB_nil]; omega
theorem bDrewN {B : Nat} {a w : World} (h : Below B a w) (q : Nat) : Below B a (w.drewN q) := ⟨h.os, h.tape, h.output, h.size, h.block⟩

theorem dig1 {x : Nat} (h : x < B64) : Dig B64 [x] := Dig.cons h (Dig.nil _)

def LIM : Nat := B64 ^ 8192
theorem LIM_eq (k : Nat) (hk : k = 8192) : LIM = B64 ^ k := by subst hk; unfold LIM; rfl
theorem Nf.lim {xs : List Nat} {n : Nat} (h : Nf B64 xs n) : xs.length ≤ 8192 ↔ n < LIM := by
  have := h.len_le (k := 8192) B64_one
  unfold LIM; exact this

structure Own (B : Nat) (w : World) (p : Option Addr) (m : Nat) (zs : List Nat) : Prop where
  len : zs.length = m
  dig : Dig B64 zs
  mem : m = 0 ∨ ∃ g, p = some ⟨g, 0, none⟩ ∧ B ≤ g ∧ Row w g 0 m zs
theorem Own.at_ {B : Nat} {w : World} {p : Option Addr} {m : Nat} {zs : List Nat} (h : Own B w p m zs) (hm : m ≤ 8192) : At w p m m zs := by
  refine ⟨h.len, Nat.le_refl _, by unfold maxLen; omega, h.dig, ?_⟩
  rcases h.mem with h0 | ⟨g, rfl, _, hr⟩
  · exact .inl h0
  · exact .inr ⟨g, 0, rfl, hr.cell⟩
theorem Row.lt {w : World} {g off n : Nat} {xs : List Nat} (h : Row w g off n xs) (hn : 0 < n) : g < w.heap.size := World.block_lt_of_cell? w _ (h.cell 0 hn)
theorem Own.below {B : Nat} {w w' : World} {p : Option Addr} {m : Nat} {zs : List Nat} (h : Own B w p m zs) (hb : Below w.heap.size w w') : Own B w' p m zs := by
  refine ⟨h.len, h.dig, ?_⟩
  by_cases h0 : m = 0
  · exact .inl h0
  · obtain ⟨g, rfl, hg, hr⟩ := h.mem.resolve_left h0
    exact .inr ⟨g, rfl, hg, hr.below hb (hr.lt (by omega))⟩
theorem Own.mono {B B' : Nat} {w : World} {p : Option Addr} {m : Nat} {zs : List Nat} (h : Own B w p m zs) (hB : B' ≤ B) : Own B' w p m zs := by
  refine ⟨h.len, h.dig, ?_⟩
  rcases h.mem with h0 | ⟨g, hp, hg, hr⟩
  · exact .inl h0
  · exact .inr ⟨g, hp, by omega, hr⟩
theorem Row.take {w : World} {g off n : Nat} {xs : List Nat} (h : Row w g off n xs) (m : Nat) (hm : m ≤ n) : Row w g off m (xs.take m) := by
  refine ⟨by rw [List.length_take, h.len]; omega, h.dig.take m, fun j hj => ?_, fun j hj => h.frozen j (by omega)⟩
  have e : (xs.take m).getD j 0 = xs.getD j 0 := by rw [List.getD_eq_getElem?_getD, List.getD_eq_getElem?_getD, List.getElem?_take, if_pos hj]
  rw [e]; exact h.cell j (by omega)
theorem Row.own {w : World} {g n B : Nat} {xs : List Nat} (h : Row w g 0 n xs) (hB : B ≤ g) {p' : Option Addr} {m : Nat} (hm : m = (trimL xs).length) (hp : m ≠ 0 → p' = some ⟨g, 0, none⟩) : Own B w p' m (trimL xs) := by
  have hle := trimL_length_le xs
  refine ⟨hm.symm, h.dig.trimL, ?_⟩
  by_cases h0 : m = 0
  · exact .inl h0
  · have := h.take m (by have := h.len; omega)
    rw [hm, ← trimL_take, ← hm] at this
    exact .inr ⟨g, hp h0, hB, this⟩
theorem Blk.own {w : World} {g B : Nat} {xs : List Nat} (h : Blk w g xs) (hd : Dig B64 xs) (hB : B ≤ g) : Own B w (some ⟨g, 0, none⟩) xs.length xs :=
  ⟨rfl, hd, .inr ⟨g, rfl, hB, h.row hd⟩⟩
theorem Blk.at_ {w : World} {g : Nat} {xs : List Nat} (h : Blk w g xs) (hd : Dig B64 xs) {n : Nat} (hn : xs.length = n) (hb : n ≤ maxLen) : At w (some ⟨g, 0, none⟩) n n xs := by
  subst hn; exact (h.row hd).at_ (Nat.le_refl _) hb

def Ans (B : Nat) (w' : World) (e : Ending) (n : Nat) : Prop :=
  (n < LIM ∧ ∃ p m zs, e = .returned (.tuple #[.slice p m m, .int .i64 0]) ∧ Own B w' p m zs ∧ Nf B64 zs n ∧ m ≤ 8192) ∨
  (LIM ≤ n ∧ e = .returned (.tuple #[.slice none 0 0, .int .i64 5]))

theorem form_true {p : Option Addr} {n c : Nat} {xs : List Nat} {w : World} (h : At w p n c xs) (hf : formB xs = true) :
    Calls Try.prog 14 #[.slice p n c] w fun e w' => e = .returned (.bool true) ∧ w' = w := by
  have := form_any h; rw [hf] at this; exact this
theorem Nf.form {xs : List Nat} {n : Nat} (h : Nf B64 xs n) (hl : xs.length ≤ 8192) : formB xs = true := (formB_iff xs).2 ⟨hl, h.top⟩
theorem dig_pad {xs : List Nat} (h : Dig B64 xs) (n : Nat) : Dig B64 (xs ++ List.replicate n 0) := h.append (Dig.replicate _ _ B64_pos)

theorem add_abs {P Q R A B Z cy : Nat} (hs : Z + Q * cy = A + B) (h1 : A < P) (h2 : B < R) (h3 : R ≤ P) (h5 : P * 2 ≤ Q) : Z = A + B := by
  by_cases hc : cy = 0
  · subst hc; omega
  · have h6 : Q * 1 ≤ Q * cy := Nat.mul_le_mul_left _ (by omega)
    omega
theorem add_fin {n m : Nat} {zs xs ys : List Nat} {a b cy : Nat} (hx : Nf B64 xs a) (hy : Nf B64 ys b) (hlx : xs.length = n) (hly : ys.length = m) (hmn : m ≤ n)
    (hs : valB B64 zs + B64 ^ (n + 1) * cy = valB B64 (xs ++ List.replicate (n + 1 - n) 0) + valB B64 ys) : valB B64 zs = a + b := by
  rw [valB_append_zeros, hx.val, hy.val] at hs
  have h1 := valB_lt B64_pos hx.dig
  have h2 := valB_lt B64_pos hy.dig
  rw [hx.val, hlx] at h1
  rw [hy.val, hly] at h2
  refine add_abs hs h1 h2 (Nat.pow_le_pow_right B64_pos hmn) ?_
  rw [Nat.pow_succ]; exact Nat.mul_le_mul_left _ B64_two

theorem add_ord {p q : Option Addr} {n m c d : Nat} {xs ys : List Nat} {a b : Nat} {w : World} (h : At w p n c xs) (k : At w q m d ys) (hx : Nf B64 xs a) (hy : Nf B64 ys b) (hlx : n ≤ 8192) (hly : m ≤ 8192) :
    Calls Try.prog 10 #[.slice p n c, .slice q m d] w fun e w' => Ans w.heap.size w' e (a + b) ∧ Below w.heap.size w w' := by
  have fx := hx.form (by rw [h.len]; exact hlx)
  have fy := hy.form (by rw [k.len]; exact hly)
  have HX : Hid (Nf B64 xs a) := hx
  have HY : Hid (Nf B64 ys b) := hy
  clear hx hy
  go_enter Try.func10, Try.ntmps10
  go_wp2_with fail
  refine (form_true h fx).mono ?_
  rintro e w' ⟨rfl, hw⟩
  obtain rfl := hw.symm
  clear hw
  go_wp2_with fail
  refine (form_true k fy).mono ?_
  rintro e w' ⟨rfl, hw⟩
  obtain rfl := hw.symm
  clear hw fx fy
  by_cases hlt : n < m
  · go_wp2_with fail
    rw [show ((m : Int) + 1) = ((m + 1 : Nat) : Int) by omega]
    refine (copied_any k (m + 1) (by omega) (by omega)).mono ?_
    rintro e w1 ⟨g, rfl, hg, hblk, hb⟩
    have hd1 := dig_pad HY.out.dig (m + 1 - m)
    have hr := hblk.row hd1
    have hl1 : (ys ++ List.replicate (m + 1 - m) 0).length = m + 1 := by rw [List.length_append, List.length_replicate, k.len]; omega
    rw [hl1] at hr
    have h1 := h.below hb
    go_wp2_with fail
    refine (ladd_any g 0 (m + 1) (m + 1) _ p n c xs _ hr (Nat.le_refl _) (by omega) h1 (by omega) (fun g2 off2 hn hp => .inl (h.fresh hg g2 off2 hn hp))).mono ?_
    rintro e w2 ⟨cy, zs, rfl, _, hwr, hrow, hsum⟩
    have A2 := hrow.at_ (Nat.le_refl _) (by unfold maxLen; omega)
    have hval := add_fin HY.out HX.out k.len h.len (by omega) hsum
    have hN := Nf.trim hrow.dig
    rw [hval] at hN
    have HV : Hid (Nf B64 (trimL zs) (b + a)) := hN
    have hb2 : Below w.heap.size w w2 := hb.trans (hwr.below hg)
    clear hsum hval hN hd1 hl1 hr hblk
    go_wp2_with fail
    refine (fitted_any A2).mono ?_
    rintro e w3 hres
    rcases hres with ⟨hle, ⟨p', m', rfl, hm', hp'⟩, hw⟩ | ⟨hgt, rfl, hw⟩
    · obtain rfl := hw.symm
      have HM : Hid (m' = (trimL zs).length) := hm'
      clear hw hm'
      go_wp2_with fail
      go_ret2
      have e1 := HM.out
      rw [Nat.add_comm a b]
      exact ⟨.inl ⟨HV.out.lim.1 hle, p', m', trimL zs, rfl, hrow.own hg e1 hp', HV.out, by omega⟩, hb2⟩
    · obtain rfl := hw.symm
      clear hw
      go_wp2_with fail
      go_ret2
      rw [Nat.add_comm a b]
      refine ⟨.inr ⟨?_, rfl⟩, hb2⟩
      have := mt HV.out.lim.2 (by omega)
      omega
  · go_wp2_with fail
    rw [show ((n : Int) + 1) = ((n + 1 : Nat) : Int) by omega]
    refine (copied_any h (n + 1) (by omega) (by omega)).mono ?_
    rintro e w1 ⟨g, rfl, hg, hblk, hb⟩
    have hd1 := dig_pad HX.out.dig (n + 1 - n)
    have hr := hblk.row hd1
    have hl1 : (xs ++ List.replicate (n + 1 - n) 0).length = n + 1 := by rw [List.length_append, List.length_replicate, h.len]; omega
    rw [hl1] at hr
    have h1 := k.below hb
    go_wp2_with fail
    refine (ladd_any g 0 (n + 1) (n + 1) _ q m d ys _ hr (Nat.le_refl _) (by omega) h1 (by omega) (fun g2 off2 hn hp => .inl (k.fresh hg g2 off2 hn hp))).mono ?_
    rintro e w2 ⟨cy, zs, rfl, _, hwr, hrow, hsum⟩
    have A2 := hrow.at_ (Nat.le_refl _) (by unfold maxLen; omega)
    have hval := add_fin HX.out HY.out h.len k.len (by omega) hsum
    have hN := Nf.trim hrow.dig
    rw [hval] at hN
    have HV : Hid (Nf B64 (trimL zs) (a + b)) := hN
    have hb2 : Below w.heap.size w w2 := hb.trans (hwr.below hg)
    clear hsum hval hN hd1 hl1 hr hblk
    go_wp2_with fail
    refine (fitted_any A2).mono ?_
    rintro e w3 hres
    rcases hres with ⟨hle, ⟨p', m', rfl, hm', hp'⟩, hw⟩ | ⟨hgt, rfl, hw⟩
    · obtain rfl := hw.symm
      have HM : Hid (m' = (trimL zs).length) := hm'
      clear hw hm'
      go_wp2_with fail
      go_ret2
      have e1 := HM.out
      exact ⟨.inl ⟨HV.out.lim.1 hle, p', m', trimL zs, rfl, hrow.own hg e1 hp', HV.out, by omega⟩, hb2⟩
    · obtain rfl := hw.symm
      clear hw
      go_wp2_with fail
      go_ret2
      refine ⟨.inr ⟨?_, rfl⟩, hb2⟩
      have := mt HV.out.lim.2 (by omega)
      omega
end Go.Proofs.Ytnnkgnhoboealaa
namespace Go.Proofs.Ytnnkgnhoboealaa
open Go.RowKit Go.Shelf
set_option maxRecDepth 20000
set_option maxHeartbeats 0
def renMul : Ren := ⟨fun x => match x with | 264 => 22 | n => n, fun x => match x with | 53 => 27 | 46 => 45 | n => n, fun n => n⟩
theorem laysMul : Lays.n264 Try.prog renMul :=
  { mixed := by kernel_rfl, f264 := Try.func22.trans (congrArg some (by kernel_rfl)),
    t46 := Try.underlying45, a46 := Try.isAgg45, z46 := Try.sizeOf45, v46 := Try.zeroValue45, t53 := Try.underlying27, a53 := Try.isAgg27, z53 := Try.sizeOf27, v53 := Try.zeroValue27 }

theorem mul64_ex (x y : Nat) (hx : x < B64) (hy : y < B64) : ∃ hi lo, (∀ w : World, Calls Try.prog 22 #[U x, U y] w fun e w' => e = .returned (.tuple #[U hi, U lo]) ∧ w' = w) ∧ x * y = lo + B64 * hi ∧ lo < B64 := by
  refine ⟨x * y / 18446744073709551616, x * y % 18446744073709551616, fun w => ?_, ?_, ?_⟩
  · rw [B64_eq] at hx hy
    exact Any.bits_Mul64 laysMul x y hx hy w
  · rw [B64_eq]; exact (Nat.mod_add_div _ _).symm
  · rw [B64_eq]; exact Nat.mod_lt _ (by decide)

theorem Row.snoc {w : World} {g off m : Nat} {zs : List Nat} (h : Row w g off m zs) {y : Nat} (hc : w.cell? ⟨g, off + m, none⟩ = some (U y)) (hf : w.frozen? ⟨g, off + m, none⟩ = false) (hy : y < B64) : Row w g off (m + 1) (zs ++ [y]) := by
  have hl := h.len
  refine ⟨by simp; omega, h.dig.append (dig1 hy), fun j hj => ?_, fun j hj => ?_⟩
  · by_cases e : j = m
    · subst e
      rw [List.getD_eq_getElem?_getD, List.getElem?_append_right (by omega)]
      simpa [hl] using hc
    · rw [List.getD_eq_getElem?_getD, List.getElem?_append_left (by omega), ← List.getD_eq_getElem?_getD]
      exact h.cell j (by omega)
  · by_cases e : j = m
    · subst e; exact hf
    · exact h.frozen j (by omega)

theorem amul_limb {x y z cy hi lo l1 c1 l2 c2 : Nat} (hx : x < B64) (hy : y < B64) (hz : z < B64) (hc : cy < B64) (h1 : x * y = lo + B64 * hi) (h2 : lo + z + 0 = l1 + B64 * c1) (h3 : l1 + cy + 0 = l2 + B64 * c2) :
    hi + c1 + c2 < B64 ∧ x * y + z + cy = l2 + B64 * (hi + c1 + c2) := by
  have e : x * y + z + cy = l2 + B64 * (hi + c1 + c2) := by rw [Nat.mul_add, Nat.mul_add]; omega
  refine ⟨?_, e⟩
  have a1 : x * y ≤ (B64 - 1) * (B64 - 1) := Nat.mul_le_mul (by omega) (by omega)
  have a2 : (B64 - 1) * (B64 - 1) + 2 * (B64 - 1) < B64 * B64 := by decide
  have a3 : B64 * (hi + c1 + c2) < B64 * B64 := by omega
  exact Nat.lt_of_mul_lt_mul_left a3

structure MulRel (w : World) (g off m : Nat) (zs ys : List Nat) (v k cy : Nat) (dk : List Nat) (wr : World) : Prop where
  wrs : Wr g off m w wr
  row : Row wr g off m dk
  hi : dk.drop k = zs.drop k
  car : cy < B64
  sum : valB B64 (dk.take k) + B64 ^ k * cy = valB B64 (zs.take k) + valB B64 (ys.take k) * v

theorem MulRel.step {w : World} {g off m : Nat} {zs ys : List Nat} {v k cy : Nat} {dk : List Nat} {wr : World} (h : MulRel w g off m zs ys v k cy dk wr) (hk : k < m)
    {x z l d : Nat} (hz : z = dk.getD k 0) (hx : x = ys.getD k 0) (hs : x * v + z + cy = l + B64 * d) (hl : l < B64) (hd : d < B64) :
    MulRel w g off m zs ys v (k + 1) d (dk.set k l) (wr.setCell ⟨g, off + k, none⟩ (U l)) := by
  have hlen := h.row.len
  refine ⟨h.wrs.setCell (off + k) ⟨by omega, by omega⟩ _, h.row.set k l hk hl, ?_, hd, ?_⟩
  · rw [drop_set_lt]; exact drop_succ_of_drop h.hi
  · have hzz : z = zs.getD k 0 := hz.trans (getD_of_drop h.hi)
    rw [take_set_succ dk k l (by omega), valB_snoc, List.length_take, hlen, Nat.min_eq_left (by omega), valB_take_any _ zs k, valB_take_any _ ys k, ← hzz, ← hx, Nat.pow_succ, Nat.add_mul]
    have e1 := h.sum
    have e2 : B64 ^ k * (x * v + z + cy) = B64 ^ k * (l + B64 * d) := by rw [hs]
    rw [Nat.mul_add, Nat.mul_add, Nat.mul_add, ← Nat.mul_assoc] at e2
    have e3 : B64 ^ k * x * v = B64 ^ k * (x * v) := Nat.mul_assoc _ _ _
    have e4 : B64 ^ k * B64 * d = B64 ^ k * (B64 * d) := Nat.mul_assoc _ _ _
    rw [e3, e4]
    rw [← Nat.mul_assoc] at e2
    generalize B64 ^ k * x * v = X0 at *
    generalize B64 ^ k * (x * v) = X1 at *
    generalize B64 ^ k * B64 * d = X2 at *
    generalize B64 ^ k * (B64 * d) = X3 at *
    generalize B64 ^ k * z = X4 at *
    generalize B64 ^ k * cy = X5 at *
    generalize B64 ^ k * l = X6 at *
    omega

theorem amul_any (g off n c : Nat) (zs : List Nat) (p : Option Addr) (m d : Nat) (ys : List Nat) (v : Nat) (w : World) (hz : Row w g off m zs) (hmn : m ≤ n) (hnc : n ≤ c) (_hbig : c ≤ 9223372036854775807)
    (ha : At w p m d ys) (hv : v < B64) (hap : ∀ g2 off2, 0 < m → p = some ⟨g2, off2, none⟩ → g2 ≠ g ∨ off2 + m ≤ off ∨ off + m ≤ off2) :
    Calls Try.prog 15 #[.slice (some ⟨g, off, none⟩) n c, .slice p m d, U v] w fun e w' =>
      ∃ cy zs', e = .returned (U cy) ∧ cy < B64 ∧ Wr g off m w w' ∧ Row w' g off m zs' ∧ valB B64 zs' + B64 ^ m * cy = valB B64 zs + valB B64 ys * v := by
  have hl := hz.len; have al := ha.len; have acap := ha.cap; have abig := ha.big
  unfold maxLen at abig
  go_enter Try.func15, Try.ntmps15
  go_wp2_with fail
  go_loopw [7, 8, 9, 10, 11, 18] (fun cv _ _ _ _ i wr => ∃ (k cy : Nat) (dk : List Nat), k ≤ m ∧ i = .int .i64 k ∧ cv = U cy ∧ MulRel w g off m zs ys v k cy dk wr) (fun _ _ _ _ _ i _ => m - (intOf i).toNat)
  case atStart => exact ⟨0, 0, zs, Nat.zero_le _, rfl, rfl, ⟨Wr.refl _ _ _ _, hz, rfl, B64_pos, by simp [valB]⟩⟩
  case round =>
    obtain ⟨k, cy, dk, hk, rfl, rfl, hR⟩ := hrel
    by_cases hlt : k < m
    · obtain ⟨g2, off2, rfl, hc2⟩ := ha.cells.resolve_left (by omega)
      obtain ⟨z, hzz⟩ : ∃ z, z = dk.getD k 0 := ⟨_, rfl⟩
      obtain ⟨x, hx⟩ : ∃ x, x = ys.getD k 0 := ⟨_, rfl⟩
      have hcz : wr.cell? ⟨g, off + k, none⟩ = some (U z) := by rw [hzz]; exact hR.row.cell k (by omega)
      have hfz : wr.frozen? ⟨g, off + k, none⟩ = false := hR.row.frozen k (by omega)
      have hcx : wr.cell? ⟨g2, off2 + k, none⟩ = some (U x) := by
        rw [hx, hR.wrs.cell g2 (off2 + k) (by have := hap g2 off2 (by omega) rfl; omega)]; exact hc2 k hlt
      have hzb : z < B64 := by rw [hzz]; exact hR.row.dig.getD B64_pos k
      have hxb : x < B64 := by rw [hx]; exact ha.dig.getD B64_pos k
      obtain ⟨hi, lo, hmul, em, hlo⟩ := mul64_ex x v hxb hv
      obtain ⟨l1, c1, hrun10, e1, hl1, hc1⟩ := add64_ex lo z 0 hlo hzb (by omega)
      obtain ⟨l2, c2, hrun20, e2, hl2, hc2'⟩ := add64_ex l1 cy 0 hl1 hR.car (by omega)
      obtain ⟨hfit, hsum⟩ := amul_limb hxb hv hzb hR.car em e1 e2
      have hrun1 : ∀ w : World, (callFunc 23 #[U lo, U z, .int .u64 0]).run Try.prog w = .ok (.value (.tuple #[U l1, U c1])) w := hrun10
      have hrun2 : ∀ w : World, (callFunc 23 #[U l1, U cy, .int .u64 0]).run Try.prog w = .ok (.value (.tuple #[U l2, U c2])) w := hrun20
      have hf1 : hi + c1 + c2 ≤ 18446744073709551615 := by rw [B64_eq] at hfit; omega
      have HR : Hid (MulRel w g off m zs ys v k cy dk wr) := hR
      have HX : Hid (x = ys.getD k 0) := hx
      have HZ : Hid (z = dk.getD k 0) := hzz
      have HS : Hid (x * v + z + cy = l2 + B64 * (hi + c1 + c2)) := hsum
      have HM : Hid (∀ w : World, Calls Try.prog 22 #[U x, U v] w fun e w' => e = .returned (.tuple #[U hi, U lo]) ∧ w' = w) := hmul
      clear hR hx hzz hsum hmul hc2 hrun10 hrun20 em e1 e2 hc1 hc2'
      go_wp2_with (go_at_call 22; refine (HM.out _).mono ?_; rintro e w' ⟨rfl, hw⟩; obtain rfl := hw.symm; clear hw)
      go_roundw
      case rel => exact ⟨k + 1, hi + c1 + c2, dk.set k l2, by omega, by go_num, by go_num, HR.out.step hlt HZ.out HX.out HS.out hl2 hfit⟩
      case measure => simp [intOf]; omega
    · obtain rfl : k = m := by omega
      have HR : Hid (MulRel w g off k zs ys v k cy dk wr) := hR
      clear hR
      go_wp2_with fail
      go_ret
      have hh := HR.out
      have h1 := hh.sum
      have h2 := hh.row.len
      rw [List.take_of_length_le (by omega), List.take_of_length_le (by omega), List.take_of_length_le (by omega)] at h1
      exact ⟨cy, dk, rfl, hh.car, hh.wrs, hh.row, h1⟩
structure SubMulRel (w : World) (g off m : Nat) (zs ys : List Nat) (v k cy : Nat) (dk : List Nat) (wr : World) : Prop where
  wrs : Wr g off m w wr
  row : Row wr g off m dk
  hi : dk.drop k = zs.drop k
  car : cy < B64
  sum : valB B64 (zs.take k) + B64 ^ k * cy = valB B64 (dk.take k) + valB B64 (ys.take k) * v

theorem SubMulRel.step {w : World} {g off m : Nat} {zs ys : List Nat} {v k cy : Nat} {dk : List Nat} {wr : World} (h : SubMulRel w g off m zs ys v k cy dk wr) (hk : k < m)
    {x z l d : Nat} (hz : z = dk.getD k 0) (hx : x = ys.getD k 0) (hs : l + x * v + cy = z + B64 * d) (hl : l < B64) (hd : d < B64) :
    SubMulRel w g off m zs ys v (k + 1) d (dk.set k l) (wr.setCell ⟨g, off + k, none⟩ (U l)) := by
  have hlen := h.row.len
  refine ⟨h.wrs.setCell (off + k) ⟨by omega, by omega⟩ _, h.row.set k l hk hl, ?_, hd, ?_⟩
  · rw [drop_set_lt]; exact drop_succ_of_drop h.hi
  · have hzz : z = zs.getD k 0 := hz.trans (getD_of_drop h.hi)
    rw [take_set_succ dk k l (by omega), valB_snoc, List.length_take, hlen, Nat.min_eq_left (by omega), valB_take_any _ zs k, valB_take_any _ ys k, ← hzz, ← hx, Nat.pow_succ, Nat.add_mul]
    have e1 := h.sum
    have e2 : B64 ^ k * (l + x * v + cy) = B64 ^ k * (z + B64 * d) := by rw [hs]
    rw [Nat.mul_add, Nat.mul_add, Nat.mul_add, ← Nat.mul_assoc] at e2
    have e3 : B64 ^ k * x * v = B64 ^ k * (x * v) := Nat.mul_assoc _ _ _
    have e4 : B64 ^ k * B64 * d = B64 ^ k * (B64 * d) := Nat.mul_assoc _ _ _
    rw [e3, e4]
    rw [← Nat.mul_assoc] at e2
    generalize B64 ^ k * x * v = X0 at *
    generalize B64 ^ k * (x * v) = X1 at *
    generalize B64 ^ k * B64 * d = X2 at *
    generalize B64 ^ k * (B64 * d) = X3 at *
    generalize B64 ^ k * z = X4 at *
    generalize B64 ^ k * cy = X5 at *
    generalize B64 ^ k * l = X6 at *
    omega
end Go.Proofs.Ytnnkgnhoboealaa
namespace Go.Proofs.Ytnnkgnhoboealaa
open Go.RowKit
set_option maxRecDepth 20000
set_option maxHeartbeats 0
theorem pow_split (s : Nat) (hs : s ≤ 64) : 2 ^ s * 2 ^ (64 - s) = B64 := by rw [← Nat.pow_add, show s + (64 - s) = 64 by omega]; rfl

def shlW (x s : Nat) : Nat := x * 2 ^ s % B64
def cin (zs : List Nat) (s j : Nat) : Nat := if j = 0 then 0 else zs.getD (j - 1) 0 * 2 ^ s / B64
theorem up_step {zs T : List Nat} {s a ov k d : Nat} (ha : a < zs.length) (hd : d = shlW (zs.getD a 0) s + cin zs s a) (h : valB B64 T + B64 ^ k * ov = 2 ^ s * valB B64 (zs.drop (a + 1)) + cin zs s (a + 1)) :
    valB B64 (d :: T) + B64 ^ (k + 1) * ov = 2 ^ s * valB B64 (zs.drop a) + cin zs s a := by
  have e1 : cin zs s (a + 1) = zs.getD a 0 * 2 ^ s / B64 := by unfold cin; rw [if_neg (by omega), Nat.add_sub_cancel]
  have e2 := Nat.mod_add_div (zs.getD a 0 * 2 ^ s) B64
  rw [valB_cons, valB_drop _ zs a ha, hd]
  unfold shlW
  rw [e1] at h
  have e3 : B64 * (valB B64 T + B64 ^ k * ov) = B64 * (2 ^ s * valB B64 (zs.drop (a + 1)) + zs.getD a 0 * 2 ^ s / B64) := by rw [h]
  rw [Nat.mul_add, Nat.mul_add] at e3
  rw [Nat.pow_succ, Nat.mul_add]
  have e4 : B64 ^ k * B64 * ov = B64 * (B64 ^ k * ov) := by rw [Nat.mul_comm (B64 ^ k) B64, Nat.mul_assoc]
  have e5 : 2 ^ s * (B64 * valB B64 (zs.drop (a + 1))) = B64 * (2 ^ s * valB B64 (zs.drop (a + 1))) := by rw [← Nat.mul_assoc, ← Nat.mul_assoc, Nat.mul_comm (2 ^ s) B64]
  rw [e4, e5, Nat.mul_comm (2 ^ s) (zs.getD a 0)]
  generalize B64 * (B64 ^ k * ov) = X1 at *
  generalize B64 * (2 ^ s * valB B64 (zs.drop (a + 1))) = X2 at *
  generalize B64 * valB B64 T = X3 at *
  generalize B64 * (zs.getD a 0 * 2 ^ s / B64) = X4 at *
  generalize zs.getD a 0 * 2 ^ s = X5 at *
  omega

def cout (zs : List Nat) (s j : Nat) : Nat := zs.getD j 0 % 2 ^ s
theorem down_step {zs dk : List Nat} {s i rem d : Nat} (hs : s ≤ 64) (hd : d = zs.getD i 0 / 2 ^ s + 2 ^ (64 - s) * cout zs s (i + 1)) (h : 2 ^ s * valB B64 (dk.take i) + rem = valB B64 (zs.take i) + B64 ^ i * cout zs s i) (hi : i < zs.length) :
    2 ^ s * (valB B64 (dk.take i) + B64 ^ i * d) + rem = valB B64 (zs.take (i + 1)) + B64 ^ (i + 1) * cout zs s (i + 1) := by
  have e1 := Nat.mod_add_div (zs.getD i 0) (2 ^ s)
  rw [valB_take_succ _ zs i hi, Nat.pow_succ, hd, Nat.mul_add (2 ^ s)]
  have e2 : 2 ^ s * (B64 ^ i * (zs.getD i 0 / 2 ^ s + 2 ^ (64 - s) * cout zs s (i + 1))) = B64 ^ i * (2 ^ s * (zs.getD i 0 / 2 ^ s)) + B64 ^ i * B64 * cout zs s (i + 1) := by
    rw [← Nat.mul_assoc, Nat.mul_comm (2 ^ s) (B64 ^ i), Nat.mul_assoc, Nat.mul_add, Nat.mul_add, ← Nat.mul_assoc (2 ^ s) (2 ^ (64 - s)), pow_split s hs, Nat.mul_assoc]
  have e3 : B64 ^ i * (zs.getD i 0 % 2 ^ s) + B64 ^ i * (2 ^ s * (zs.getD i 0 / 2 ^ s)) = B64 ^ i * zs.getD i 0 := by rw [← Nat.mul_add, e1]
  rw [e2]
  have e4 : cout zs s i = zs.getD i 0 % 2 ^ s := rfl
  rw [e4] at h
  generalize B64 ^ i * (2 ^ s * (zs.getD i 0 / 2 ^ s)) = X1 at *
  generalize B64 ^ i * (zs.getD i 0 % 2 ^ s) = X2 at *
  generalize B64 ^ i * B64 * cout zs s (i + 1) = X3 at *
  omega
end Go.Proofs.Ytnnkgnhoboealaa
namespace Go.Proofs.Ytnnkgnhoboealaa
set_option maxRecDepth 20000
set_option maxHeartbeats 0
theorem kn_more {b y1 y0 u d q r : Nat} (hd : d < b) (hu : u < y1 * b + y0) (hq : q * y1 + r = u) (hc : b ≤ q ∨ b * r + d < q * y0) : (u * b + d) / (y1 * b + y0) + 1 ≤ q := by
  refine (Nat.div_lt_iff_lt_mul (by omega)).2 ?_
  rcases hc with hc | hc
  · have a1 : b * (y1 * b + y0) ≤ q * (y1 * b + y0) := Nat.mul_le_mul_right _ hc
    have a2 : b * (u + 1) ≤ b * (y1 * b + y0) := Nat.mul_le_mul_left _ hu
    rw [Nat.mul_add, Nat.mul_one, Nat.mul_comm b u] at a2
    omega
  · have a1 : q * (y1 * b + y0) = q * y1 * b + q * y0 := by rw [Nat.mul_add, Nat.mul_assoc]
    have a2 : u * b = q * y1 * b + r * b := by rw [← hq, Nat.add_mul]
    rw [Nat.mul_comm b r] at hc
    omega
theorem kn_exit {b y1 y0 u d q r : Nat} (hu : u < y1 * b + y0) (hq : q * y1 + r = u) (hQ : (u * b + d) / (y1 * b + y0) ≤ q) (hc : q * y0 ≤ b * r + d) : q = (u * b + d) / (y1 * b + y0) := by
  refine Nat.le_antisymm ((Nat.le_div_iff_mul_le (by omega)).2 ?_) hQ
  have a1 : q * (y1 * b + y0) = q * y1 * b + q * y0 := by rw [Nat.mul_add, Nat.mul_assoc]
  have a2 : u * b = q * y1 * b + r * b := by rw [← hq, Nat.add_mul]
  rw [Nat.mul_comm b r] at hc
  omega
theorem kn_lt {b y1 y0 u d : Nat} (hd : d < b) (hu : u < y1 * b + y0) : (u * b + d) / (y1 * b + y0) < b := by
  refine (Nat.div_lt_iff_lt_mul (by omega)).2 ?_
  have a2 : b * (u + 1) ≤ b * (y1 * b + y0) := Nat.mul_le_mul_left _ hu
  rw [Nat.mul_add, Nat.mul_one, Nat.mul_comm b u] at a2
  omega
end Go.Proofs.Ytnnkgnhoboealaa
namespace Go.Proofs.Ytnnkgnhoboealaa
open Go.RowKit
set_option maxRecDepth 20000
set_option maxHeartbeats 0
theorem wrap_mod (n : Int) (m : Nat) (h : n % 18446744073709551616 = (m : Int)) : IntKind.u64.wrap n = (m : Int) := by rw [IntKind.wrap_u64]; exact h
structure Kn (y1 y0 u d q r : Nat) : Prop where
  eq : q * y1 + r = u
  ge : (u * 4294967296 + d) / (y1 * 4294967296 + y0) ≤ q
  le : q ≤ 4294967297
structure KnC (y1 y0 u d : Nat) : Prop where
  hy0 : y0 < 4294967296
  hd : d < 4294967296
  hu : u < y1 * 4294967296 + y0
  hy1 : 4294967296 ≤ 2 * y1
theorem Kn.down {y1 y0 u d q r : Nat} (k : Kn y1 y0 u d q r) (h : KnC y1 y0 u d) (hc : 4294967296 ≤ q ∨ 4294967296 * r + d < q * y0) : 1 ≤ q ∧ Kn y1 y0 u d (q - 1) (r + y1) := by
  have h1 := kn_more h.hd h.hu k.eq hc
  have h2 := k.le
  have h3 := k.eq
  refine ⟨by generalize (u * 4294967296 + d) / (y1 * 4294967296 + y0) = T at *; omega, ?_, by generalize (u * 4294967296 + d) / (y1 * 4294967296 + y0) = T at *; omega, by omega⟩
  have h4 : 1 ≤ q := by generalize (u * 4294967296 + d) / (y1 * 4294967296 + y0) = T at *; omega
  obtain ⟨t, rfl⟩ : ∃ t, q = t + 1 := ⟨q - 1, by omega⟩
  rw [Nat.add_sub_cancel]
  rw [Nat.add_mul, Nat.one_mul] at h3
  omega
theorem dm (N M : Nat) : N = N / M * M + N % M := by rw [Nat.mul_comm]; exact (Nat.div_add_mod N M).symm
structure KnD (y1 y0 u d q : Nat) (rest : Nat) : Prop where
  lt : q < 4294967296
  eq : u * 4294967296 + d = q * (y1 * 4294967296 + y0) + rest
  rlt : rest < y1 * 4294967296 + y0
theorem Kn.done {y1 y0 u d q r : Nat} (k : Kn y1 y0 u d q r) (h : KnC y1 y0 u d) (hc : q * y0 ≤ 4294967296 * r + d) : KnD y1 y0 u d q ((u * 4294967296 + d) % (y1 * 4294967296 + y0)) := by
  have h1 := kn_exit h.hu k.eq k.ge hc
  have h2 := kn_lt h.hd h.hu
  refine ⟨by omega, ?_, Nat.mod_lt _ (by have := h.hu; omega)⟩
  rw [h1]; exact dm _ _
theorem and32 (v : Nat) (h : v < 18446744073709551616) : bits .and .u64 (v : Int) 4294967295 = ((v % 4294967296 : Nat) : Int) := by
  have h1 := bits_and_u64_nat v 4294967295 h (by omega)
  rw [show v &&& 4294967295 = v % 4294967296 from Nat.and_two_pow_sub_one_eq_mod v 32] at h1
  exact h1
theorem div32 (v : Nat) : (v : Int) / 4294967296 = ((v / 4294967296 : Nat) : Int) := by omega
theorem Ans.ok {B : Nat} {w' : World} {e : Ending} {n : Nat} (h : Ans B w' e n) (hn : n < LIM) : ∃ p m zs, e = .returned (.tuple #[.slice p m m, .int .i64 0]) ∧ Own B w' p m zs ∧ Nf B64 zs n ∧ m ≤ 8192 := by
  rcases h with ⟨_, h⟩ | ⟨h, _⟩
  · exact h
  · omega
theorem Ans.no {B : Nat} {w' : World} {e : Ending} {n : Nat} (h : Ans B w' e n) (hn : LIM ≤ n) : e = .returned (.tuple #[.slice none 0 0, .int .i64 5]) := by
  rcases h with ⟨h, _⟩ | ⟨_, h⟩
  · omega
  · exact h
theorem lit_at (w : World) (cs : Array Value) (xs : List Nat) (n : Nat) (hcs : cs = (cellsU xs).toArray) (hn : xs.length = n) (hd : Dig B64 xs) (hb : n ≤ 1000) : At (w.alloc (.cells cs 27)) (some ⟨w.heap.size, 0, none⟩) n n xs := by
  subst hcs
  have h : Blk (w.alloc (.cells (cellsU xs).toArray 27)) w.heap.size xs := heap_alloc_new w _
  exact h.at_ hd hn (by unfold maxLen; omega)
theorem below1 (w : World) (o : Obj) : Below w.heap.size w (w.alloc o) := (Below.refl _ _).alloc (Nat.le_refl _) o
theorem Below.on {w w1 w2 : World} (h : Below w.heap.size w w1) (k : Below w1.heap.size w1 w2) : Below w.heap.size w w2 := h.trans (k.mono h.size)
theorem dig2 {x y : Nat} (h : x < B64) (k : y < B64) : Dig B64 [x, y] := Dig.cons h (Dig.cons k (Dig.nil _))
theorem nf_one {x : Nat} (h : x < B64) (h0 : x ≠ 0) : Nf B64 [x] x := ⟨dig1 h, by intro y hy; simp at hy; omega, by simp [valB]⟩
theorem same_t {p q : Option Addr} {n m c d : Nat} {xs : List Nat} {w : World} (h : At w p n c xs) (k : At w q m d xs) :
    Calls Try.prog 5 #[.slice p n c, .slice q m d] w fun e w' => e = .returned (.bool true) ∧ Below w.heap.size w w' := by
  refine (same_any h k).mono ?_
  rintro e w' ⟨rfl, r, rfl⟩
  exact ⟨ret_bool (by simp), bDrewN (Below.refl _ _) r⟩
theorem word_any (v : Nat) (w : World) (hv : v < B64) :
    Calls Try.prog 11 #[U v] w fun e w' => ∃ p m zs, e = .returned (.slice p m m) ∧ Own w.heap.size w' p m zs ∧ Nf B64 zs v ∧ m ≤ 1 ∧ Below w.heap.size w w' := by
  by_cases h0 : v = 0
  · subst h0
    go_enter Try.func11, Try.ntmps11
    go_wp2_with fail
    go_ret
    exact ⟨none, 0, [], rfl, ⟨rfl, Dig.nil _, .inl rfl⟩, Nf.nil _, by omega, Below.refl _ _⟩
  · have h0' : ((v : Int) == 0) = false := by simp; omega
    go_enter Try.func11, Try.ntmps11
    go_wp2_with fail
    go_ret
    have hbk : Blk (w.alloc (.cells #[U v] 27)) w.heap.size [v] := heap_alloc_new w _
    exact ⟨_, 1, [v], rfl, hbk.own (dig1 hv) (Nat.le_refl _), nf_one hv h0, by omega, below1 w _⟩
end Go.Proofs.Ytnnkgnhoboealaa
namespace Go.Proofs.Ytnnkgnhoboealaa
open Go.RowKit Go.Shelf
set_option maxRecDepth 20000
set_option maxHeartbeats 0
theorem trial_step {q d l f s w0 w1 w2 : Nat} (h : q * (s + B64 * f) ≤ w0 + B64 * (w1 + B64 * w2)) (hi : d * f + l = w1 + B64 * w2) (hg : l * B64 + w0 < d * s) : q < d := by
  have h1 : d * (s + B64 * f) = d * s + B64 * (d * f) := by rw [Nat.mul_add, Nat.mul_left_comm]
  have h2 : B64 * (d * f) + B64 * l = B64 * (w1 + B64 * w2) := by rw [← Nat.mul_add, hi]
  have h3 : l * B64 = B64 * l := Nat.mul_comm _ _
  have h4 : q * (s + B64 * f) < d * (s + B64 * f) := by omega
  exact Nat.lt_of_mul_lt_mul_right h4
structure TrialC (ws ds : List Nat) (n w0 w1 w2 s f q : Nat) : Prop where
  e0 : w0 = ws.getD (n - 2) 0
  e1 : w1 = ws.getD (n - 1) 0
  e2 : w2 = ws.getD n 0
  es : s = ds.getD (n - 2) 0
  ef : f = ds.getD (n - 1) 0
  b0 : w0 < B64
  b1 : w1 < B64
  b2 : w2 < B64
  bs : s < B64
  bf : f < B64
  top : q * (s + B64 * f) ≤ w0 + B64 * (w1 + B64 * w2)
  le : w2 ≤ f
  qb : q < B64
theorem At.cellAt {w : World} {g off n c : Nat} {xs : List Nat} (h : At w (some ⟨g, off, none⟩) n c xs) (j : Nat) (hj : j < n) : w.cell? ⟨g, off + j, none⟩ = some (U (xs.getD j 0)) := by
  obtain ⟨g', o', he, hcell⟩ := h.cells.resolve_left (by omega)
  simp only [Option.some.injEq, Addr.mk.injEq, and_true] at he
  obtain ⟨rfl, rfl⟩ := he
  exact hcell j hj

structure TrialR (w1 w2 f q d l o : Nat) : Prop where
  qd : q ≤ d
  db : d < B64
  lb : l < B64
  ob : o ≤ 1
  sum : o = 0 → d * f + l = w1 + B64 * w2
theorem TrialR.down {w0 w1 w2 s f q d l o l' o' : Nat} (h : TrialR w1 w2 f q d l o) {ws ds : List Nat} {n : Nat} (c : TrialC ws ds n w0 w1 w2 s f q) (ho : o = 0) (hg : l * B64 + w0 < d * s) (ha : l + f + 0 = l' + B64 * o') (hl' : l' < B64) (ho' : o' ≤ 1) : 1 ≤ d ∧ TrialR w1 w2 f q (d - 1) l' o' := by
  have h1 := trial_step c.top (h.sum ho) hg
  have h2 := h.db
  refine ⟨by omega, by omega, by omega, hl', ho', fun h0 => ?_⟩
  subst h0
  have h3 := h.sum ho
  have h4 : d * f = (d - 1) * f + f := by rw [← Nat.succ_mul, show (d - 1).succ = d by omega]
  omega
structure WinRel (w : World) (g off n : Nat) (W D d b : Nat) (ws : List Nat) (wr : World) : Prop where
  wrs : Wr g off (n + 1) w wr
  row : Row wr g off (n + 1) ws
  db : d < B64
  bb : b ≤ 1
  ge : W / D ≤ d
  sum : valB B64 ws + D * d = W + B64 ^ (n + 1) * b
theorem WinRel.done {w : World} {g off n W D d : Nat} {ws : List Nat} {wr : World} (h : WinRel w g off n W D d 0 ws wr) (hD : 0 < D) : d = W / D ∧ valB B64 ws = W % D := by
  have h1 := h.sum; have h2 := h.ge
  rw [Nat.mul_zero, Nat.add_zero] at h1
  have h3 : d ≤ W / D := (Nat.le_div_iff_mul_le hD).2 (by rw [Nat.mul_comm]; omega)
  have h4 : d = W / D := by omega
  refine ⟨h4, ?_⟩
  have h5 := Nat.div_add_mod W D
  rw [← h4] at h5
  omega
structure DigRel (w : World) (gq gr L n : Nat) (A D : Nat) (k : Nat) (qs rs : List Nat) (wr : World) : Prop where
  bel : ∀ B, B ≤ gq → B ≤ gr → Below B w wr
  rowq : Row wr gq 0 L qs
  rowr : Row wr gr 0 (L + n) rs
  cell : ∀ b o, b ≠ gq → b ≠ gr → wr.cell? ⟨b, o, none⟩ = w.cell? ⟨b, o, none⟩
  lt : valB B64 (rs.drop (L - k)) < D
  sum : valB B64 rs + B64 ^ (L - k) * valB B64 (qs.drop (L - k)) * D = A

theorem win_take (rs : List Nat) (a m : Nat) (h : a + m ≤ rs.length) : valB B64 rs = valB B64 (rs.take a) + B64 ^ a * (valB B64 ((rs.drop a).take m) + B64 ^ m * valB B64 (rs.drop (a + m))) := by
  rw [valB_split B64 rs a (by omega), valB_split B64 (rs.drop a) m (by rw [List.length_drop]; omega), List.drop_drop]
def winPut (rs ws : List Nat) (a : Nat) : List Nat := rs.take a ++ ws ++ rs.drop (a + ws.length)
theorem winPut_len (rs ws : List Nat) (a : Nat) (h : a + ws.length ≤ rs.length) : (winPut rs ws a).length = rs.length := by
  unfold winPut; simp; omega
theorem winPut_drop (rs ws : List Nat) (a : Nat) (h : a + ws.length ≤ rs.length) : (winPut rs ws a).drop a = ws ++ rs.drop (a + ws.length) := by
  unfold winPut
  rw [List.append_assoc, List.drop_append_of_le_length (by simp; omega), List.drop_of_length_le (by simp; omega), List.nil_append]
theorem winPut_take (rs ws : List Nat) (a : Nat) (h : a + ws.length ≤ rs.length) : (winPut rs ws a).take a = rs.take a := by
  unfold winPut
  rw [List.append_assoc, List.take_append_of_le_length (by simp; omega), List.take_take, Nat.min_self]
theorem winPut_get (rs ws : List Nat) (a j : Nat) (h : a + ws.length ≤ rs.length) : (winPut rs ws a).getD j 0 = if a ≤ j ∧ j < a + ws.length then ws.getD (j - a) 0 else rs.getD j 0 := by
  unfold winPut
  rw [List.getD_eq_getElem?_getD, List.getElem?_append, List.getElem?_append]
  simp only [List.length_append, List.length_take, Nat.min_eq_left (by omega : a ≤ rs.length)]
  by_cases h1 : j < a
  · rw [if_pos (by omega), if_pos (by omega), List.getElem?_take, if_pos h1, if_neg (by omega), List.getD_eq_getElem?_getD]
  · by_cases h2 : j < a + ws.length
    · rw [if_pos h2, if_neg h1, if_pos ⟨by omega, h2⟩, List.getD_eq_getElem?_getD]
    · rw [if_neg h2, if_neg (by omega), List.getElem?_drop, List.getD_eq_getElem?_getD]
      congr 2; omega
end Go.Proofs.Ytnnkgnhoboealaa
namespace Go.Proofs.Ytnnkgnhoboealaa
open Go.RowKit
set_option maxRecDepth 20000
set_option maxHeartbeats 0
structure UpRel (w : World) (g n : Nat) (zs : List Nat) (s ov k : Nat) (dk : List Nat) (wr : World) : Prop where
  wrs : Wr g 0 n w wr
  row : Row wr g 0 n dk
  lo : dk.take (n - k) = zs.take (n - k)
  sum : valB B64 (dk.drop (n - k)) + B64 ^ k * ov = 2 ^ s * valB B64 (zs.drop (n - k)) + cin zs s (n - k)

theorem getD_of_take {dk zs : List Nat} {m j : Nat} (h : dk.take m = zs.take m) (hj : j < m) : dk.getD j 0 = zs.getD j 0 := by
  have := congrArg (fun l : List Nat => l[j]?) h
  simp only [List.getElem?_take, hj, if_true] at this
  rw [List.getD_eq_getElem?_getD, List.getD_eq_getElem?_getD, this]
theorem drop_set_at (dk : List Nat) (a y : Nat) (ha : a < dk.length) : (dk.set a y).drop a = y :: dk.drop (a + 1) := by
  rw [drop_getD _ a (by simpa using ha), getD_set dk a y a ha, if_pos rfl, drop_set_lt]
theorem take_set_at (dk : List Nat) (a y : Nat) : (dk.set a y).take a = dk.take a := by
  rw [List.take_set, List.set_eq_of_length_le (by simp; omega)]
theorem take_of_take {dk zs : List Nat} {m j : Nat} (h : dk.take m = zs.take m) (hj : j ≤ m) : dk.take j = zs.take j := by
  have := congrArg (List.take j) h
  rw [List.take_take, List.take_take, Nat.min_eq_left hj] at this
  exact this

theorem UpRel.step {w : World} {g n : Nat} {zs : List Nat} {s ov k : Nat} {dk : List Nat} {wr wr' : World} (h : UpRel w g n zs s ov k dk wr) (hk : k < n) (hz : zs.length = n) {d : Nat}
    (hd : d = shlW (dk.getD (n - 1 - k) 0) s + cin zs s (n - 1 - k)) (hw : Wr g 0 n w wr') (hr : Row wr' g 0 n (dk.set (n - 1 - k) d)) : UpRel w g n zs s ov (k + 1) (dk.set (n - 1 - k) d) wr' := by
  have hl := h.row.len
  have e : n - (k + 1) = n - 1 - k := by omega
  have e2 : n - 1 - k + 1 = n - k := by omega
  refine ⟨hw, hr, ?_, ?_⟩
  · rw [e, take_set_at]; exact take_of_take h.lo (by omega)
  · rw [e, drop_set_at dk _ d (by omega), e2]
    have h1 := h.sum
    rw [← e2] at h1
    have hdz : d = shlW (zs.getD (n - 1 - k) 0) s + cin zs s (n - 1 - k) := by rw [hd, getD_of_take h.lo (by omega)]
    rw [← e2]
    exact up_step (by omega) hdz h1
end Go.Proofs.Ytnnkgnhoboealaa
namespace Go.Proofs.Ytnnkgnhoboealaa
open Go.RowKit Go.Shelf
set_option maxRecDepth 20000
set_option maxHeartbeats 0
theorem Row.win {w : World} {g m : Nat} {rs : List Nat} (h : Row w g 0 m rs) (a l : Nat) (ha : a + l ≤ m) : Row w g a l ((rs.drop a).take l) := by
  have hl := h.len
  refine ⟨by simp; omega, (h.dig.drop a).take l, fun j hj => ?_, fun j hj => ?_⟩
  · have e : ((rs.drop a).take l).getD j 0 = rs.getD (a + j) 0 := by
      rw [List.getD_eq_getElem?_getD, List.getD_eq_getElem?_getD, List.getElem?_take, if_pos hj, List.getElem?_drop]
    rw [e]
    have := h.cell (a + j) (by omega)
    rw [Nat.zero_add] at this; exact this
  · have := h.frozen (a + j) (by omega)
    rw [Nat.zero_add] at this; exact this
theorem Row.put {w w' : World} {g m a l : Nat} {rs ws : List Nat} (h : Row w g 0 m rs) (hwr : Wr g a l w w') (hr : Row w' g a l ws) (ha : a + l ≤ m) : Row w' g 0 m (winPut rs ws a) := by
  have hl := h.len; have hwl := hr.len
  have hle : a + ws.length ≤ rs.length := by omega
  refine ⟨by rw [winPut_len rs ws a hle]; exact hl, ?_, fun j hj => ?_, fun j hj => ?_⟩
  · unfold winPut; exact ((h.dig.take a).append hr.dig).append (h.dig.drop _)
  · rw [winPut_get rs ws a j hle, Nat.zero_add]
    by_cases hc : a ≤ j ∧ j < a + ws.length
    · rw [if_pos hc]
      have := hr.cell (j - a) (by omega)
      rw [show a + (j - a) = j by omega] at this; exact this
    · rw [if_neg hc, hwr.cell g j (by omega)]
      have := h.cell j hj
      rw [Nat.zero_add] at this; exact this
  · rw [hwr.frozen]; exact h.frozen j hj
theorem Row.other {w : World} {g off n : Nat} {xs : List Nat} (h : Row w g off n xs) (g2 o2 : Nat) (v : Value) (hne : g ≠ g2) : Row (w.setCell ⟨g2, o2, none⟩ v) g off n xs := by
  refine ⟨h.len, h.dig, fun j hj => ?_, fun j hj => by rw [World.frozen?_setCell]; exact h.frozen j hj⟩
  exact (World.cell?_setCell_other _ _ _ _ (by intro e; apply hne; have := congrArg Addr.block e; simp at this; omega)).trans (h.cell j hj)
theorem Row.wr {w w' : World} {g off n g2 o2 l2 : Nat} {xs : List Nat} (h : Row w g off n xs) (hwr : Wr g2 o2 l2 w w') (hne : g ≠ g2) : Row w' g off n xs :=
  ⟨h.len, h.dig, fun j hj => (hwr.cell g (off + j) (.inl hne)).trans (h.cell j hj), fun j hj => (hwr.frozen _).trans (h.frozen j hj)⟩
theorem At.wr {w w' : World} {g off n c g2 o2 l2 : Nat} {xs : List Nat} (h : At w (some ⟨g, off, none⟩) n c xs) (hwr : Wr g2 o2 l2 w w') (hne : g ≠ g2) : At w' (some ⟨g, off, none⟩) n c xs :=
  ⟨h.len, h.cap, h.big, h.dig, by
    rcases h.cells with h0 | ⟨g', o', he, hc⟩
    · exact .inl h0
    · refine .inr ⟨g', o', he, fun j hj => ?_⟩
      simp only [Option.some.injEq, Addr.mk.injEq, and_true] at he
      rw [← he.1, ← he.2] at hc ⊢
      exact (hwr.cell g (off + j) (.inl hne)).trans (hc j hj)⟩
theorem dig_abs {P W q r D T Q A : Nat} (hW : q * D + r = W) (h : T + P * W + P * B64 * Q * D = A) : T + P * r + P * (q + B64 * Q) * D = A := by
  subst hW
  have e1 : P * (q + B64 * Q) * D = P * (q * D) + P * B64 * Q * D := by
    rw [Nat.mul_add, Nat.add_mul, Nat.mul_assoc P q D, ← Nat.mul_assoc P B64 Q]
  rw [e1]
  rw [Nat.mul_add] at h
  omega
theorem DigRel.window {w : World} {gq gr L n A D k : Nat} {qs rs : List Nat} {wr : World} (h : DigRel w gq gr L n A D k qs rs wr) (hk : k < L) (hDn : D < B64 ^ n) :
    ∃ a ws, a = L - 1 - k ∧ ws = (rs.drop a).take (n + 1) ∧ Row wr gr a (n + 1) ws ∧ valB B64 ws < B64 * D ∧ valB B64 rs = valB B64 (rs.take a) + B64 ^ a * valB B64 ws ∧ valB B64 (rs.drop (a + (n + 1))) = 0 := by
  have hl := h.rowr.len
  obtain ⟨a, ha⟩ : ∃ a, a = L - 1 - k := ⟨_, rfl⟩
  have hlt := h.lt
  rw [show L - k = a + 1 by omega] at hlt
  have hz : valB B64 (rs.drop (a + (n + 1))) = 0 := by
    have hs := valB_split B64 (rs.drop (a + 1)) n (by rw [List.length_drop]; omega)
    rw [List.drop_drop, show a + 1 + n = a + (n + 1) by omega] at hs
    rcases Nat.eq_zero_or_pos (valB B64 (rs.drop (a + (n + 1)))) with e | e
    · exact e
    · exfalso
      have : B64 ^ n * 1 ≤ B64 ^ n * valB B64 (rs.drop (a + (n + 1))) := Nat.mul_le_mul_left _ e
      omega
  have hw := win_take rs a (n + 1) (by omega)
  rw [hz, Nat.mul_zero, Nat.add_zero] at hw
  refine ⟨a, _, ha, rfl, h.rowr.win a (n + 1) (by omega), ?_, hw, hz⟩
  have hs := valB_split B64 (rs.drop a) (n + 1) (by rw [List.length_drop]; omega)
  rw [List.drop_drop, hz, Nat.mul_zero, Nat.add_zero] at hs
  rw [← hs, valB_drop B64 rs a (by omega)]
  have hb := h.rowr.dig.getD B64_pos a
  have : B64 * (valB B64 (rs.drop (a + 1)) + 1) ≤ B64 * D := Nat.mul_le_mul_left _ hlt
  rw [Nat.mul_add] at this
  omega
theorem DigRel.step {w : World} {gq gr L n A D k : Nat} {qs rs : List Nat} {wr wr' : World} (h : DigRel w gq gr L n A D k qs rs wr) (hk : k < L) (hne : gq ≠ gr) {a q : Nat} {ws ws' : List Nat} (ha : a = L - 1 - k)
    (hrs : valB B64 rs = valB B64 (rs.take a) + B64 ^ a * valB B64 ws) (hz : valB B64 (rs.drop (a + (n + 1))) = 0) (hD : 0 < D) (hq : q = valB B64 ws / D) (hqb : q < B64) (hr : valB B64 ws' = valB B64 ws % D)
    (hwr : Wr gr a (n + 1) wr wr') (hrow : Row wr' gr a (n + 1) ws') : DigRel w gq gr L n A D (k + 1) (qs.set a q) (winPut rs ws' a) (wr'.setCell ⟨gq, a, none⟩ (U q)) := by
  have hl := h.rowr.len; have hql := h.rowq.len; have hwl := hrow.len
  have hle : a + ws'.length ≤ rs.length := by omega
  have e1 : L - (k + 1) = a := by omega
  have e2 : L - k = a + 1 := by omega
  have hdrop : valB B64 ((winPut rs ws' a).drop a) = valB B64 ws % D := by
    rw [winPut_drop rs ws' a hle, valB_append, hwl, hz, Nat.mul_zero, Nat.add_zero, hr]
  refine ⟨fun B h1 h2 => ?_, ?_, ?_, fun b o h1 h2 => ?_, ?_, ?_⟩
  · exact ((h.bel B h1 h2).trans (hwr.below h2)).trans ((Wr.refl gq 0 L wr').setCell a ⟨by omega, by omega⟩ (U q) |>.below h1)
  · have := (h.rowq.wr hwr hne).set a q (by omega) hqb
    rw [Nat.zero_add] at this; exact this
  · exact (h.rowr.put hwr hrow (by omega)).other gq a _ (Ne.symm hne)
  · rw [World.cell?_setCell_other _ _ _ _ (by intro e; apply h1; have := congrArg Addr.block e; simp at this; omega), hwr.cell b o (.inl h2)]
    exact h.cell b o h1 h2
  · rw [e1, hdrop]; exact Nat.mod_lt _ hD
  · have hs := h.sum
    rw [e2, hrs, Nat.pow_succ] at hs
    rw [e1, valB_split B64 (winPut rs ws' a) a (by rw [winPut_len rs ws' a hle]; omega), winPut_take rs ws' a hle, hdrop, drop_set_at qs a q (by omega), valB_cons]
    refine dig_abs (W := valB B64 ws) (q := q) ?_ hs
    rw [hq, Nat.mul_comm]; exact Nat.div_add_mod _ _
end Go.Proofs.Ytnnkgnhoboealaa
namespace Go.Proofs.Ytnnkgnhoboealaa
open Go.RowKit
set_option maxRecDepth 20000
set_option maxHeartbeats 0
structure DnRel (w : World) (g n : Nat) (zs : List Nat) (s k : Nat) (dk : List Nat) (wr : World) : Prop where
  wrs : Wr g 0 n w wr
  row : Row wr g 0 n dk
  hi : dk.drop k = zs.drop k
  sum : 2 ^ s * valB B64 (dk.take k) + cout zs s 0 = valB B64 (zs.take k) + B64 ^ k * cout zs s k

theorem DnRel.step {w : World} {g n : Nat} {zs : List Nat} {s k : Nat} {dk : List Nat} {wr wr' : World} (h : DnRel w g n zs s k dk wr) (hk : k < n) (hz : zs.length = n) (hs : s ≤ 64) {d : Nat}
    (hd : d = dk.getD k 0 / 2 ^ s + 2 ^ (64 - s) * cout zs s (k + 1)) (hw : Wr g 0 n w wr') (hr : Row wr' g 0 n (dk.set k d)) : DnRel w g n zs s (k + 1) (dk.set k d) wr' := by
  have hl := h.row.len
  refine ⟨hw, hr, ?_, ?_⟩
  · rw [drop_set_lt]; exact drop_succ_of_drop h.hi
  · rw [take_set_succ dk k d (by omega), valB_snoc, List.length_take, hl, Nat.min_eq_left (by omega)]
    exact down_step hs (by rw [hd, getD_of_drop h.hi]) h.sum (by omega)
structure DivRel (w : World) (g n : Nat) (zs : List Nat) (v k re : Nat) (dk : List Nat) (wr : World) : Prop where
  wrs : ∀ B, B ≤ g → Below B w wr
  row : Row wr g 0 n dk
  lo : dk.take (n - k) = zs.take (n - k)
  rlt : re < v
  sum : valB B64 (zs.drop (n - k)) = valB B64 (dk.drop (n - k)) * v + re
theorem DivRel.step {w : World} {g n : Nat} {zs : List Nat} {v k re : Nat} {dk : List Nat} {wr wr' : World} (h : DivRel w g n zs v k re dk wr) (hk : k < n) (hz : zs.length = n) {x q r : Nat}
    (hx : x = dk.getD (n - 1 - k) 0) (hq : re * B64 + x = q * v + r) (hr : r < v) (hw : ∀ B, B ≤ g → Below B w wr') (hrow : Row wr' g 0 n (dk.set (n - 1 - k) q)) : DivRel w g n zs v (k + 1) r (dk.set (n - 1 - k) q) wr' := by
  have hl := h.row.len
  have e : n - (k + 1) = n - 1 - k := by omega
  have e2 : n - 1 - k + 1 = n - k := by omega
  have hxz : x = zs.getD (n - 1 - k) 0 := hx.trans (getD_of_take h.lo (by omega))
  refine ⟨hw, hrow, ?_, hr, ?_⟩
  · rw [e, take_set_at]; exact take_of_take h.lo (by omega)
  · rw [e, drop_set_at dk _ q (by omega), valB_drop _ zs (n - 1 - k) (by omega), ← hxz, valB_cons, e2, h.sum, Nat.add_mul, Nat.mul_add]
    have e3 : B64 * (valB B64 (dk.drop (n - k)) * v) = B64 * valB B64 (dk.drop (n - k)) * v := by rw [Nat.mul_assoc]
    rw [e3, Nat.mul_comm B64 re]
    omega
end Go.Proofs.Ytnnkgnhoboealaa
namespace Go.Proofs.Ytnnkgnhoboealaa
open Go.RowKit Go.Shelf
set_option maxRecDepth 20000
set_option maxHeartbeats 0
theorem Nf.one {ys : List Nat} {b : Nat} (hy : Nf B64 ys b) (hl : ys.length = 1) : ys = [b] := by
  match ys, hl with
  | [y], _ => have := hy.val; simp [valB] at this; rw [this]
end Go.Proofs.Ytnnkgnhoboealaa
namespace Go.Proofs.Ytnnkgnhoboealaa
open Go.RowKit
set_option maxRecDepth 20000
set_option maxHeartbeats 0
theorem Wr.row_above {w w' : World} {g m n : Nat} {xs : List Nat} (hb : Blk w g xs) (h : Wr g 0 m w w') (hn : xs.length = n) (hm : m < n) : w'.cell? ⟨g, m, none⟩ = some (U (xs.getD m 0)) ∧ w'.frozen? ⟨g, m, none⟩ = false := by
  constructor
  · rw [h.cell g m (by omega)]; exact hb.cell m (by omega)
  · rw [h.frozen]; exact hb.frozen m
theorem Blk.row_take {w : World} {g : Nat} {xs : List Nat} (h : Blk w g xs) (hd : Dig B64 xs) (m : Nat) (hm : m ≤ xs.length) : Row w g 0 m (xs.take m) := (h.row hd).take m hm

theorem mulw_nf {p : Option Addr} {m c : Nat} {xs : List Nat} {a : Nat} {w : World} (h : At w p m c xs) (hx : Nf B64 xs a) (hm : m ≤ 8192) (v : Nat) (hv : v < B64) :
    Calls Try.prog 9 #[.slice p m c, U v] w fun e w' => Ans w.heap.size w' e (a * v) ∧ Below w.heap.size w w' := by
  have fx := hx.form (by rw [h.len]; exact hm)
  have hl := h.len
  have HX : Hid (Nf B64 xs a) := hx
  clear hx
  go_enter Try.func9, Try.ntmps9
  go_wp2_with fail
  refine (form_true h fx).mono ?_
  rintro e w' ⟨rfl, hw⟩
  obtain rfl := hw.symm
  clear hw fx
  obtain ⟨i0, hi, hz0, hz1, hz2⟩ := info_parts Try.infoU64
  go_wp2_with (at_make; refine wpList_make_full _ rfl _ _ 22 rfl w.heap.size 27 i0 (.int .u64 0) 1 Try.underlying22 hi hz0 hz1 _ _ _ _ (m + 1) rfl rfl (by omega) (by omega) (by rw [hz2]; omega) (by unfold maxLen; omega) (Nat.le_refl _) ?_; intro w1 hown hgrow; have hb := made_blk hown hgrow; clear hown hgrow)
  obtain ⟨hblk, hb1⟩ := hb
  have hdz : Dig B64 (List.replicate (m + 1) 0) := Dig.replicate _ _ B64_pos
  have hr := hblk.row_take hdz m (by simp)
  rw [List.take_replicate, Nat.min_eq_left (by omega)] at hr
  refine (amul_any w.heap.size 0 (m + 1) (m + 1) _ p m c xs v _ hr (by omega) (Nat.le_refl _) (by omega) (h.below hb1) hv (fun g2 off2 hn hp => .inl (h.fresh (Nat.le_refl _) g2 off2 hn hp))).mono ?_
  rintro e w2 ⟨cy, zs, rfl, hcy, hwr, hrow, hsum⟩
  obtain ⟨hcm, hfm⟩ := hwr.row_above hblk (n := m + 1) (by simp) (by omega)
  have hb2 : Below w.heap.size w w2 := hb1.trans (hwr.below (Nat.le_refl _))
  rw [valB_replicate, Nat.zero_add, HX.out.val] at hsum
  have HS : Hid (valB B64 zs + B64 ^ m * cy = a * v) := hsum
  clear hsum hwr hb1 hblk hr hdz
  go_wp2_with fail
  have hrow3 : Row (w2.setCell ⟨w.heap.size, m, none⟩ (U cy)) w.heap.size 0 (m + 1) (zs ++ [cy]) := by
    have hW : Wr w.heap.size (0 + m) 1 w2 (w2.setCell ⟨w.heap.size, m, none⟩ (U cy)) := (Wr.refl w.heap.size (0 + m) 1 w2).setCell m ⟨by omega, by omega⟩ _
    have hrow' : Row (w2.setCell ⟨w.heap.size, m, none⟩ (U cy)) w.heap.size 0 m zs :=
      ⟨hrow.len, hrow.dig, fun j hj => by rw [hW.cell _ _ (by omega)]; exact hrow.cell j hj, fun j hj => by rw [World.frozen?_setCell]; exact hrow.frozen j hj⟩
    refine hrow'.snoc ?_ ?_ hcy
    · rw [Nat.zero_add]; exact World.cell?_setCell_same _ _ _ hcm
    · rw [Nat.zero_add, World.frozen?_setCell]; exact hfm
  have hb3 : Below w.heap.size w (w2.setCell ⟨w.heap.size, m, none⟩ (U cy)) := hb2.setCell (Nat.le_refl _) _
  generalize w2.setCell ⟨w.heap.size, m, none⟩ (U cy) = w3 at *
  have A3 := hrow3.at_ (Nat.le_refl _) (by unfold maxLen; omega)
  have hval : valB B64 (zs ++ [cy]) = a * v := by rw [valB_snoc, hrow.len]; exact HS.out
  have hN := Nf.trim hrow3.dig
  rw [hval] at hN
  have HV : Hid (Nf B64 (trimL (zs ++ [cy])) (a * v)) := hN
  clear hval hN hcm hfm hrow
  generalize zs ++ [cy] = us at *
  refine (fitted_any A3).mono ?_
  rintro e w4 hres
  rcases hres with ⟨hle, ⟨p', m', rfl, hm', hp'⟩, hw⟩ | ⟨hgt, rfl, hw⟩
  · obtain rfl := hw.symm
    have HM : Hid (m' = (trimL us).length) := hm'
    clear hw hm'
    go_wp2_with fail
    go_ret2
    have e1 := HM.out
    exact ⟨.inl ⟨HV.out.lim.1 hle, p', m', trimL us, rfl, hrow3.own (Nat.le_refl _) e1 hp', HV.out, by omega⟩, hb3⟩
  · obtain rfl := hw.symm
    clear hw
    go_wp2_with fail
    go_ret2
    refine ⟨.inr ⟨?_, rfl⟩, hb3⟩
    have := mt HV.out.lim.2 (by omega)
    omega
structure Chg (S : Nat → Nat → Prop) (w w' : World) : Prop where
  os : w'.os = w.os
  tape : w'.tape = w.tape
  output : w'.output = w.output
  size : w.heap.size ≤ w'.heap.size
  row : ∀ k cur t fr, w.heap[k]? = some (.cells cur t fr) → ∃ cur', w'.heap[k]? = some (.cells cur' t fr) ∧ cur'.size = cur.size ∧ ∀ j, ¬ S k j → cur'[j]? = cur[j]?
  other : ∀ k, k < w.heap.size → (∀ cur t fr, w.heap[k]? ≠ some (.cells cur t fr)) → w'.heap[k]? = w.heap[k]?

def Rg (g off n : Nat) : Nat → Nat → Prop := fun b o => b = g ∧ off ≤ o ∧ o < off + n
def Dj (g off n g' off' n' : Nat) : Prop := g ≠ g' ∨ off + n ≤ off' ∨ off' + n' ≤ off
theorem Dj.symm {g off n g' off' n' : Nat} (h : Dj g off n g' off' n') : Dj g' off' n' g off n := by unfold Dj at *; omega
theorem Dj.sub {g off n g' off' n' o m : Nat} (h : Dj g off n g' off' n') (h1 : off ≤ o) (h2 : o + m ≤ off + n) : Dj g o m g' off' n' := by unfold Dj at *; omega
theorem Dj.not {g off n g' off' n' j : Nat} (h : Dj g off n g' off' n') (hj : j < n) : ¬ Rg g' off' n' g (off + j) := by unfold Dj Rg at *; omega

theorem Chg.refl (S : Nat → Nat → Prop) (w : World) : Chg S w w := ⟨rfl, rfl, rfl, Nat.le_refl _, fun _ cur _ _ h => ⟨cur, h, rfl, fun _ _ => rfl⟩, fun _ _ _ => rfl⟩
theorem Chg.mono {S S' : Nat → Nat → Prop} {w w' : World} (h : Chg S w w') (hS : ∀ b o, S b o → S' b o) : Chg S' w w' := by
  refine ⟨h.os, h.tape, h.output, h.size, fun k cur t fr hk => ?_, h.other⟩
  obtain ⟨c, h1, h2, h3⟩ := h.row k cur t fr hk
  exact ⟨c, h1, h2, fun j hj => h3 j (fun hs => hj (hS k j hs))⟩
theorem Chg.trans {S : Nat → Nat → Prop} {a b c : World} (h : Chg S a b) (k : Chg S b c) : Chg S a c := by
  refine ⟨k.os.trans h.os, k.tape.trans h.tape, k.output.trans h.output, Nat.le_trans h.size k.size, fun i cur t fr hi => ?_, fun i hi hn => ?_⟩
  · obtain ⟨c1, g1, s1, e1⟩ := h.row i cur t fr hi
    obtain ⟨c2, g2, s2, e2⟩ := k.row i c1 t fr g1
    exact ⟨c2, g2, s2.trans s1, fun j hj => (e2 j hj).trans (e1 j hj)⟩
  · have e1 := h.other i hi hn
    rw [← e1]
    exact k.other i (Nat.lt_of_lt_of_le hi h.size) (by rw [e1]; exact hn)
theorem Wr.chg {g off n : Nat} {w w' : World} (h : Wr g off n w w') : Chg (Rg g off n) w w' := by
  refine ⟨h.os, h.tape, h.output, by rw [h.size]; exact Nat.le_refl _, fun k cur t fr hk => ?_, fun k _ hn => ?_⟩
  · by_cases e : k = g
    · subst e
      obtain ⟨c, h1, h2, h3⟩ := h.row cur t fr hk
      exact ⟨c, h1, h2, fun j hj => h3 j (by unfold Rg at hj; omega)⟩
    · exact ⟨cur, by rw [h.block k e]; exact hk, rfl, fun _ _ => rfl⟩
  · by_cases e : k = g
    · subst e; exact h.other hn
    · exact h.block k e
theorem Chg.drewN {S : Nat → Nat → Prop} {w w' : World} (h : Chg S w w') (q : Nat) : Chg S w (w'.drewN q) := ⟨h.os, h.tape, h.output, h.size, h.row, h.other⟩
theorem Chg.drew {S : Nat → Nat → Prop} {w w' : World} (h : Chg S w w') : Chg S w w'.drew := ⟨h.os, h.tape, h.output, h.size, h.row, h.other⟩
theorem Chg.cell {S : Nat → Nat → Prop} {w w' : World} (h : Chg S w w') {b o : Nat} {v : Value} (hn : ¬ S b o) (hc : w.cell? ⟨b, o, none⟩ = some v) : w'.cell? ⟨b, o, none⟩ = some v := by
  obtain ⟨c, e, fr, hb, hv⟩ := Sort.cells_of_cell? hc
  obtain ⟨c', h1, _, h3⟩ := h.row b c e fr hb
  rw [cell_of_row w' b o c' e fr h1, h3 o hn]; exact hv
theorem Chg.frozen {S : Nat → Nat → Prop} {w w' : World} (h : Chg S w w') {b o : Nat} {v : Value} (hc : w.cell? ⟨b, o, none⟩ = some v) : w'.frozen? ⟨b, o, none⟩ = w.frozen? ⟨b, o, none⟩ := by
  obtain ⟨c, e, fr, hb, hv⟩ := Sort.cells_of_cell? hc
  obtain ⟨c', h1, _, h3⟩ := h.row b c e fr hb
  simp [World.frozen?, hb, h1]
theorem Chg.below {S : Nat → Nat → Prop} {w w' : World} (h : Chg S w w') {B : Nat} (hS : ∀ b o, S b o → B ≤ b) (hB : B ≤ w.heap.size) : Below B w w' := by
  refine ⟨h.os, h.tape, h.output, h.size, fun k hk => ?_⟩
  by_cases hc : ∃ cur t fr, w.heap[k]? = some (.cells cur t fr)
  · obtain ⟨cur, t, fr, hcur⟩ := hc
    obtain ⟨c', h1, h2, h3⟩ := h.row k cur t fr hcur
    have e : c' = cur := by
      apply Array.ext_getElem?
      intro j
      exact h3 j (fun hs => by have := hS k j hs; omega)
    rw [h1, hcur, e]
  · exact h.other k (by omega) (fun cur t fr e => hc ⟨cur, t, fr, e⟩)
theorem Below.chg {w w' : World} (h : Below w.heap.size w w') (S : Nat → Nat → Prop) : Chg S w w' := by
  refine ⟨h.os, h.tape, h.output, h.size, fun k cur t fr hk => ?_, fun k hk _ => h.block k hk⟩
  have hlt : k < w.heap.size := (Array.getElem?_eq_some_iff.1 hk).1
  exact ⟨cur, by rw [h.block k hlt]; exact hk, rfl, fun _ _ => rfl⟩

structure Rd (w : World) (g off n : Nat) (xs : List Nat) : Prop where
  len : xs.length = n
  dig : Dig B64 xs
  cell : ∀ j, j < n → w.cell? ⟨g, off + j, none⟩ = some (U (xs.getD j 0))
theorem Rd.at_ {w : World} {g off n c : Nat} {xs : List Nat} (h : Rd w g off n xs) (hc : n ≤ c) (hb : c ≤ maxLen) : At w (some ⟨g, off, none⟩) n c xs := ⟨h.len, hc, hb, h.dig, .inr ⟨g, off, rfl, h.cell⟩⟩
theorem Rd.chg {w w' : World} {S : Nat → Nat → Prop} {g off n : Nat} {xs : List Nat} (h : Rd w g off n xs) (hc : Chg S w w') (hd : ∀ j, j < n → ¬ S g (off + j)) : Rd w' g off n xs :=
  ⟨h.len, h.dig, fun j hj => hc.cell (hd j hj) (h.cell j hj)⟩
theorem Row.chg {w w' : World} {S : Nat → Nat → Prop} {g off n : Nat} {xs : List Nat} (h : Row w g off n xs) (hc : Chg S w w') (hd : ∀ j, j < n → ¬ S g (off + j)) : Row w' g off n xs :=
  ⟨h.len, h.dig, fun j hj => hc.cell (hd j hj) (h.cell j hj), fun j hj => by rw [hc.frozen (h.cell j hj)]; exact h.frozen j hj⟩
theorem Row.sub {w : World} {g off n : Nat} {xs : List Nat} (h : Row w g off n xs) (k m : Nat) (hkm : k + m ≤ n) : Row w g (off + k) m ((xs.drop k).take m) := by
  have hl := h.len
  refine ⟨by simp; omega, (h.dig.drop k).take m, fun j hj => ?_, fun j hj => by rw [Nat.add_assoc]; exact h.frozen (k + j) (by omega)⟩
  have e : ((xs.drop k).take m).getD j 0 = xs.getD (k + j) 0 := by rw [List.getD_eq_getElem?_getD, List.getD_eq_getElem?_getD, List.getElem?_take, if_pos hj, List.getElem?_drop]
  rw [e, Nat.add_assoc]; exact h.cell (k + j) (by omega)
theorem Rd.sub {w : World} {g off n : Nat} {xs : List Nat} (h : Rd w g off n xs) (k m : Nat) (hkm : k + m ≤ n) : Rd w g (off + k) m ((xs.drop k).take m) := by
  have hl := h.len
  refine ⟨by simp; omega, (h.dig.drop k).take m, fun j hj => ?_⟩
  have e : ((xs.drop k).take m).getD j 0 = xs.getD (k + j) 0 := by rw [List.getD_eq_getElem?_getD, List.getD_eq_getElem?_getD, List.getElem?_take, if_pos hj, List.getElem?_drop]
  rw [e, Nat.add_assoc]; exact h.cell (k + j) (by omega)
theorem Row.join {w : World} {g off n m : Nat} {xs ys : List Nat} (h : Row w g off n xs) (k : Row w g (off + n) m ys) : Row w g off (n + m) (xs ++ ys) := by
  have hl := h.len
  have kl := k.len
  refine ⟨by simp; omega, h.dig.append k.dig, fun j hj => ?_, fun j hj => ?_⟩
  · by_cases e : j < n
    · rw [List.getD_eq_getElem?_getD, List.getElem?_append_left (by omega), ← List.getD_eq_getElem?_getD]; exact h.cell j e
    · rw [List.getD_eq_getElem?_getD, List.getElem?_append_right (by omega), ← List.getD_eq_getElem?_getD, hl]
      have := k.cell (j - n) (by omega)
      rw [Nat.add_assoc, show n + (j - n) = j by omega] at this; exact this
  · by_cases e : j < n
    · exact h.frozen j e
    · have := k.frozen (j - n) (by omega)
      rw [Nat.add_assoc, show n + (j - n) = j by omega] at this; exact this
theorem Wr.setCells {g : Nat} : ∀ (vs : List Value) (off : Nat) (w : World), Wr g off vs.length w (w.setCells g off vs)
  | [], off, w => Wr.refl _ _ _ _
  | v :: r, off, w => by
    have h1 : Wr g off (r.length + 1) w (w.setCell ⟨g, off, none⟩ v) := (Wr.refl g off (r.length + 1) w).setCell off ⟨by omega, by omega⟩ v
    have h2 := Wr.setCells (g := g) r (off + 1) (w.setCell ⟨g, off, none⟩ v)
    exact h1.trans (h2.mono (by omega) (by omega))
structure RowsRel (w : World) (g off n m : Nat) (xs ys : List Nat) (i : Nat) (dk : List Nat) (wr : World) : Prop where
  wrs : Wr g off (n + m) w wr
  row : Row wr g off (n + m) dk
  val : valB B64 dk = valB B64 xs * valB B64 (ys.take i)
  top : dk.drop (i + n) = List.replicate (m - i) 0

theorem rows_val {xs ys dk zs2 : List Nat} {n m k cy y : Nat} (hl : dk.length = n + m) (hk : k < m) (hy : y = ys.getD k 0) (hv : valB B64 dk = valB B64 xs * valB B64 (ys.take k)) (ht : dk.drop (k + n) = List.replicate (m - k) 0)
    (hz : zs2.length = n) (hs : valB B64 zs2 + B64 ^ n * cy = valB B64 ((dk.drop k).take n) + valB B64 xs * y) : valB B64 (dk.take k ++ (zs2 ++ [cy] ++ List.replicate (m - k - 1) 0)) = valB B64 xs * valB B64 (ys.take (k + 1)) := by
  have e1 : valB B64 dk = valB B64 (dk.take k) + B64 ^ k * valB B64 ((dk.drop k).take n) := by
    rw [valB_split B64 dk k (by omega), valB_split B64 (dk.drop k) n (by simp; omega), List.drop_drop, ht, valB_replicate]; simp
  rw [valB_append, List.length_take, Nat.min_eq_left (by omega), valB_append_zeros, valB_snoc, hz, hs, valB_take_any _ ys k, ← hy, Nat.mul_add, Nat.mul_add, ← Nat.add_assoc, ← e1, hv]
  rw [show B64 ^ k * (valB B64 xs * y) = valB B64 xs * (B64 ^ k * y) by rw [← Nat.mul_assoc, ← Nat.mul_assoc, Nat.mul_comm (B64 ^ k)]]
theorem RowsRel.step {w : World} {g off n m : Nat} {xs ys : List Nat} {k : Nat} {dk : List Nat} {wr w2 w3 : World} (h : RowsRel w g off n m xs ys k dk wr) (hk : k < m) {y cy : Nat} (hy : y = ys.getD k 0) {zs2 : List Nat} (hcy : cy < B64)
    (hw2 : Wr g (off + k) n wr.drew w2) (hr2 : Row w2 g (off + k) n zs2) (hs : valB B64 zs2 + B64 ^ n * cy = valB B64 ((dk.drop k).take n) + valB B64 xs * y) (hc : w2.cell? ⟨g, off + (k + n), none⟩ = some (U 0)) (hf : w2.frozen? ⟨g, off + (k + n), none⟩ = false)
    (hw3 : w3 = w2.setCell ⟨g, off + (k + n), none⟩ (U cy)) : RowsRel w g off n m xs ys (k + 1) (dk.take k ++ (zs2 ++ [cy] ++ List.replicate (m - k - 1) 0)) w3 := by
  have hl := h.row.len
  have hW23 : Wr g (off + (k + n)) 1 w2 w3 := by rw [hw3]; exact (Wr.refl g (off + (k + n)) 1 w2).setCell _ ⟨by omega, by omega⟩ _
  have hlen2 : (dk.take k ++ (zs2 ++ [cy] ++ List.replicate (m - k - 1) 0)).length = n + m := by simp [hr2.len]; omega
  have lo : Row w3 g off k (dk.take k) := by
    have h0 := (h.row.take k (by omega)).drew
    exact (h0.chg hw2.chg (fun j hj => by unfold Rg; omega)).chg hW23.chg (fun j hj => by unfold Rg; omega)
  have mid : Row w3 g (off + k) n zs2 := hr2.chg hW23.chg (fun j hj => by unfold Rg; omega)
  have one : Row w3 g (off + k) (n + 1) (zs2 ++ [cy]) := by
    refine mid.snoc ?_ ?_ hcy
    · rw [hw3, Nat.add_assoc]; exact World.cell?_setCell_same _ _ _ hc
    · rw [hw3, Nat.add_assoc, World.frozen?_setCell]; exact hf
  have hi : Row w3 g (off + k + (n + 1)) (m - k - 1) (List.replicate (m - k - 1) 0) := by
    have h0 := (h.row.sub (k + n + 1) (m - k - 1) (by omega)).drew
    have e : (dk.drop (k + n + 1)).take (m - k - 1) = List.replicate (m - k - 1) 0 := by
      rw [← List.drop_drop, h.top, List.drop_replicate, List.take_replicate]; simp
    rw [e] at h0
    have h1 := (h0.chg hw2.chg (fun j hj => by unfold Rg; omega)).chg hW23.chg (fun j hj => by unfold Rg; omega)
    rw [show off + (k + n + 1) = off + k + (n + 1) by omega] at h1; exact h1
  have all := lo.join (one.join hi)
  rw [show k + (n + 1 + (m - k - 1)) = n + m by omega] at all
  have hWd : Wr g off (n + m) w wr.drew := h.wrs.drew
  refine ⟨(hWd.trans (hw2.mono (by omega) (by omega))).trans (hW23.mono (by omega) (by omega)), all, rows_val hl hk hy h.val h.top hr2.len hs, ?_⟩
  rw [show k + 1 + n = k + (n + 1) by omega, List.drop_append, List.drop_eq_nil_of_le (by simp; omega), List.nil_append, List.length_take, hl, Nat.min_eq_left (by omega), Nat.add_sub_cancel_left, List.drop_append, List.drop_eq_nil_of_le (by simp [hr2.len]), List.nil_append]
  simp [hr2.len]; omega
theorem Row.copied {w : World} {g off n : Nat} {zs : List Nat} (h : Row w g off n zs) (xs : List Nat) (hd : Dig B64 xs) (hx : xs.length ≤ n) : Row (w.setCells g off (cellsU xs)) g off n (xs ++ zs.drop xs.length) := by
  have hl := h.len
  refine ⟨by simp; omega, hd.append (h.dig.drop _), fun j hj => ?_, fun j hj => by rw [World.frozen?_setCells]; exact h.frozen j hj⟩
  by_cases e : j < xs.length
  · have h1 := World.cell?_setCells_in g (cellsU xs) off w (fun i hi => by rw [h.cell i (by rw [cellsU_length] at hi; omega)]; rfl) j (by rw [cellsU_length]; exact e)
    rw [h1, List.getD_eq_getElem?_getD, List.getElem?_append_left e, ← List.getD_eq_getElem?_getD]
    have := cellsU_get xs j e
    rw [List.getElem?_eq_getElem (by rw [cellsU_length]; exact e)] at this
    exact this
  · rw [World.cell?_setCells_out g (cellsU xs) off w _ (fun _ _ => .inr (by rw [cellsU_length]; simp; omega)), List.getD_eq_getElem?_getD, List.getElem?_append_right (by omega), List.getElem?_drop, show xs.length + (j - xs.length) = j by omega, ← List.getD_eq_getElem?_getD]
    exact h.cell j hj
theorem nb {P Z A L cy : Nat} (hs : Z + L = A + P * cy) (hz : Z < P) (hle : L ≤ A) (hc : cy ≤ 1) : Z + L = A := by
  by_cases h : cy = 0
  · subst h; omega
  · obtain rfl : cy = 1 := by omega
    omega
theorem At.chg {w w' : World} {S : Nat → Nat → Prop} {p : Option Addr} {n c : Nat} {xs : List Nat} (h : At w p n c xs) (hc : Chg S w w') (hd : ∀ g off, p = some ⟨g, off, none⟩ → ∀ j, j < n → g < w.heap.size → ¬ S g (off + j)) : At w' p n c xs := by
  refine ⟨h.len, h.cap, h.big, h.dig, ?_⟩
  rcases h.cells with h0 | ⟨g, off, rfl, hcl⟩
  · exact .inl h0
  · exact .inr ⟨g, off, rfl, fun j hj => hc.cell (hd g off rfl j hj (World.block_lt_of_cell? w _ (hcl j hj))) (hcl j hj)⟩
theorem Nf.big {us : List Nat} {a n : Nat} (h : Nf B64 us a) (hl : us.length = n) (h0 : 0 < n) : B64 ^ (n - 1) ≤ a := by
  have := mt (h.len_le (k := n - 1) B64_one).2 (by omega)
  omega
theorem Nf.zero {us : List Nat} {a : Nat} (h : Nf B64 us a) (hl : us.length = 0) : a = 0 := by
  obtain rfl := List.eq_nil_of_length_eq_zero hl
  have := h.val; simp [valB] at this; omega
theorem Own.empty (B : Nat) (w : World) (p : Option Addr) : Own B w p 0 [] := ⟨rfl, Dig.nil _, .inl rfl⟩
theorem At.drop {w : World} {g off n c : Nat} {xs : List Nat} (h : At w (some ⟨g, off, none⟩) n c xs) (k : Nat) (hk : k < n) : At w (some ⟨g, off + k, none⟩) (n - k) (n - k) (xs.drop k) := by
  have h1 := h.len; have h2 := h.cap; have h3 := h.big
  refine ⟨by rw [List.length_drop, h1], Nat.le_refl _, by omega, h.dig.drop k, .inr ⟨g, off + k, rfl, fun j hj => ?_⟩⟩
  obtain ⟨g', off', hp, hc⟩ := h.cells.resolve_left (by omega)
  simp only [Option.some.injEq, Addr.mk.injEq, and_true] at hp
  obtain ⟨rfl, rfl⟩ := hp
  have e : (xs.drop k).getD j 0 = xs.getD (k + j) 0 := by rw [List.getD_eq_getElem?_getD, List.getD_eq_getElem?_getD, List.getElem?_drop]
  rw [e, Nat.add_assoc]; exact hc (k + j) (by omega)
structure Num (w : World) (p : Option Addr) (m c : Nat) (xs : List Nat) (a : Nat) : Prop where
  at_ : At w p m c xs
  nf : Nf B64 xs a
  le : m ≤ 8192
theorem Num.below {w w' : World} {p : Option Addr} {m c : Nat} {xs : List Nat} {a : Nat} (h : Num w p m c xs a) (hb : Below w.heap.size w w') : Num w' p m c xs a := ⟨h.at_.below hb, h.nf, h.le⟩
theorem Num.lim {w : World} {p : Option Addr} {m c : Nat} {xs : List Nat} {a : Nat} (h : Num w p m c xs a) : a < LIM := h.nf.lim.1 (by rw [h.at_.len]; exact h.le)
theorem Num.of {B : Nat} {w : World} {p : Option Addr} {m : Nat} {xs : List Nat} {a : Nat} (ho : Own B w p m xs) (hn : Nf B64 xs a) (hm : m ≤ 8192) : Num w p m m xs a := ⟨ho.at_ hm, hn, hm⟩
end Go.Proofs.Ytnnkgnhoboealaa
namespace Go.Proofs.Ytnnkgnhoboealaa
open Go.RowKit Go.Shelf
set_option maxRecDepth 20000
set_option maxHeartbeats 0
def iv (s : Bool) (a : Nat) : Int := if s then -(a : Int) else (a : Int)
abbrev ZV (s : Bool) (p : Option Addr) (n c : Nat) : Value := .agg #[.bool s, .slice p n c]
def AnsI (B : Nat) (w' : World) (e : Ending) (z : Int) : Prop :=
  (z.natAbs < LIM ∧ ∃ p m zs, e = .returned (.tuple #[ZV (decide (z < 0)) p m m, .int .i64 0]) ∧ Own B w' p m zs ∧ Nf B64 zs z.natAbs ∧ m ≤ 8192) ∨
  (LIM ≤ z.natAbs ∧ e = .returned (.tuple #[ZV false none 0 0, .int .i64 5]))
theorem AnsI.ok {B : Nat} {w' : World} {e : Ending} {z : Int} (h : AnsI B w' e z) (hz : z.natAbs < LIM) : ∃ p m zs, e = .returned (.tuple #[ZV (decide (z < 0)) p m m, .int .i64 0]) ∧ Own B w' p m zs ∧ Nf B64 zs z.natAbs ∧ m ≤ 8192 := by
  rcases h with ⟨_, h⟩ | ⟨h, _⟩
  · exact h
  · omega
theorem AnsI.no {B : Nat} {w' : World} {e : Ending} {z : Int} (h : AnsI B w' e z) (hz : LIM ≤ z.natAbs) : e = .returned (.tuple #[ZV false none 0 0, .int .i64 5]) := by
  rcases h with ⟨h, _⟩ | ⟨_, h⟩
  · omega
  · exact h
theorem Num.zero {w : World} {p : Option Addr} {m c : Nat} {xs : List Nat} {a : Nat} (h : Num w p m c xs a) : m = 0 ↔ a = 0 := by
  rw [← h.nf.zero_iff B64_one, ← h.at_.len]
  exact ⟨List.eq_nil_of_length_eq_zero, fun e => by rw [e]; rfl⟩

theorem Row.oth {w : World} {g off n : Nat} {xs : List Nat} (h : Row w g off n xs) (g2 o2 : Nat) (v : Value) (hne : g ≠ g2) : Row (w.setCell ⟨g2, o2, none⟩ v) g off n xs := by
  refine ⟨h.len, h.dig, fun j hj => ?_, fun j hj => by rw [World.frozen?_setCell]; exact h.frozen j hj⟩
  exact (World.cell?_setCell_other _ _ _ _ (by intro e; apply hne; have := congrArg Addr.block e; simp at this; omega)).trans (h.cell j hj)
theorem Nf.lenpos {zs : List Nat} {n m : Nat} (h : Nf B64 zs n) (hl : zs.length = m) : decide (0 < m) = decide (0 < n) := by
  refine decide_eq_decide.2 ?_
  have := h.zero_iff B64_one
  constructor
  · intro hm
    rcases Nat.eq_zero_or_pos n with e | e
    · have := this.2 e; rw [this] at hl; simp at hl; omega
    · exact e
  · intro hn
    rcases Nat.eq_zero_or_pos m with e | e
    · have := this.1 (List.eq_nil_of_length_eq_zero (by omega)); omega
    · exact e
end Go.Proofs.Ytnnkgnhoboealaa
namespace Go.Proofs.Ytnnkgnhoboealaa
open Go.RowKit
set_option maxRecDepth 20000
set_option maxHeartbeats 0
variable {P : Program} {md : Region.Mode} {ops : Array Oper} {Q : Exit → Act → World → Prop} {J : World → Prop}
variable {P : Program} {md : Region.Mode} {ops : Array Oper} {Q : Exit → Act → World → Prop} {J : World → Prop}
variable {P : Program} {md : Region.Mode} {ops : Array Oper} {Q : Exit → Act → World → Prop} {J : World → Prop}
end Go.Proofs.Ytnnkgnhoboealaa
namespace Go.Proofs.Ytnnkgnhoboealaa
open Go.RowKit Go.Shelf
set_option maxRecDepth 20000
set_option maxHeartbeats 0
structure Box (W : World) (g : Nat) (v0 v1 : Value) : Prop where
  c0 : W.cell? ⟨g, 0, none⟩ = some v0
  c1 : W.cell? ⟨g, 1, none⟩ = some v1
  f0 : W.frozen? ⟨g, 0, none⟩ = false
  f1 : W.frozen? ⟨g, 1, none⟩ = false
theorem Box.below {W W' : World} {g : Nat} {v0 v1 : Value} (h : Box W g v0 v1) (hb : Below W.heap.size W W') : Box W' g v0 v1 := by
  have hl : g < W.heap.size := World.block_lt_of_cell? W _ h.c0
  exact ⟨(hb.cell (p := ⟨g, 0, none⟩) hl).trans h.c0, (hb.cell (p := ⟨g, 1, none⟩) hl).trans h.c1, (hb.frozen (p := ⟨g, 0, none⟩) hl).trans h.f0, (hb.frozen (p := ⟨g, 1, none⟩) hl).trans h.f1⟩
theorem Box.new (w : World) (ty : TypeId) (v0 v1 : Value) : Box (w.alloc (.cells #[v0, v1] ty)) w.heap.size v0 v1 := ⟨by go_simp, by go_simp, by go_simp, by go_simp⟩
end Go.Proofs.Ytnnkgnhoboealaa
namespace Go.Proofs.Ytnnkgnhoboealaa
open Go.RowKit
set_option maxRecDepth 20000
set_option maxHeartbeats 0
def B32 : Nat := 4294967296
theorem B32_eq : B32 = 4294967296 := rfl
theorem B32_pos : 0 < B32 := by decide
theorem B32_two : B32 * B32 = B64 := by decide
abbrev V (n : Nat) : Value := .int .u32 (n : Int)

structure At32 (w : World) (p : Option Addr) (n c : Nat) (xs : List Nat) : Prop where
  len : xs.length = n
  cap : n ≤ c
  big : c ≤ maxLen
  dig : Dig B32 xs
  cells : n = 0 ∨ ∃ g off, p = some ⟨g, off, none⟩ ∧ ∀ j, j < n → w.cell? ⟨g, off + j, none⟩ = some (V (xs.getD j 0))
theorem At32.below {w w' : World} {p : Option Addr} {n c : Nat} {xs : List Nat} (h : At32 w p n c xs) (hb : Below w.heap.size w w') : At32 w' p n c xs := by
  refine ⟨h.len, h.cap, h.big, h.dig, ?_⟩
  rcases h.cells with h0 | ⟨g, off, rfl, hc⟩
  · exact .inl h0
  · exact .inr ⟨g, off, rfl, fun j hj => (hb.cell (p := ⟨g, off + j, none⟩) (World.block_lt_of_cell? w _ (hc j hj))).trans (hc j hj)⟩
theorem At32.drewN {w : World} {p : Option Addr} {n c : Nat} {xs : List Nat} (h : At32 w p n c xs) (q : Nat) : At32 (w.drewN q) p n c xs := ⟨h.len, h.cap, h.big, h.dig, h.cells⟩
theorem At32.alloc {w : World} {p : Option Addr} {n c : Nat} {xs : List Nat} (h : At32 w p n c xs) (o : Obj) : At32 (w.alloc o) p n c xs :=
  h.below ((Below.refl _ _).alloc (Nat.le_refl _) o)
theorem At32.take {w : World} {p : Option Addr} {n c : Nat} {xs : List Nat} (h : At32 w p n c xs) (m : Nat) (hm : m ≤ n) (c' : Nat) (hc : m ≤ c') (hb : c' ≤ maxLen) : At32 w p m c' (xs.take m) := by
  refine ⟨by rw [List.length_take, h.len]; omega, hc, hb, h.dig.take m, ?_⟩
  rcases h.cells with h0 | ⟨g, off, rfl, hcl⟩
  · exact .inl (by omega)
  · refine .inr ⟨g, off, rfl, fun j hj => ?_⟩
    have e : (xs.take m).getD j 0 = xs.getD j 0 := by rw [List.getD_eq_getElem?_getD, List.getD_eq_getElem?_getD, List.getElem?_take, if_pos hj]
    rw [e]; exact hcl j (by omega)
theorem At32.empty (w : World) (p : Option Addr) (c : Nat) (hb : c ≤ maxLen) : At32 w p 0 c [] := ⟨rfl, Nat.zero_le _, hb, Dig.nil _, .inl rfl⟩
theorem Try.infoU32 : (Try.prog.info? 44).map (fun i => (i.zero, i.size, i.bytes)) = some (some (.int .u32 0), 1, 4) := by kernel_rfl
theorem Try.sizeU32 : (Try.prog.info? 44).map (·.size) = some 1 := by kernel_rfl
def cellsV (xs : List Nat) : List Value := xs.map V
theorem madeV (n : Nat) : (madeCells (Value.cells (.int .u32 0)) (n * 1)).toList = cellsV (List.replicate n 0) := by
  unfold madeCells cellsV
  apply List.ext_getElem
  · simp
  · intro i h1 h2
    have e : i % 1 = 0 := Nat.mod_one i
    simp [Value.cells, V, e]
def Blk32 (w : World) (g : Nat) (xs : List Nat) : Prop := w.heap[g]? = some (.cells (cellsV xs).toArray 44 (0, 0))
theorem cellsV_get (xs : List Nat) (j : Nat) (h : j < xs.length) : (cellsV xs)[j]? = some (V (xs.getD j 0)) := by
  unfold cellsV
  rw [List.getElem?_map, List.getElem?_eq_getElem h, List.getD_eq_getElem?_getD, List.getElem?_eq_getElem h]; rfl
theorem Blk32.cell {w : World} {g : Nat} {xs : List Nat} (h : Blk32 w g xs) (j : Nat) (hj : j < xs.length) : w.cell? ⟨g, j, none⟩ = some (V (xs.getD j 0)) := by
  rw [cell_of_row w g j _ _ _ h]
  rw [List.getElem?_toArray]; exact cellsV_get xs j hj
theorem Blk32.lt {w : World} {g : Nat} {xs : List Nat} (h : Blk32 w g xs) : g < w.heap.size := (Array.getElem?_eq_some_iff.1 h).1
theorem own_blk32 {w : World} {base g n : Nat} {xs : List Nat} (h : w.ownsRow base 44 1 (.slice (some ⟨g, 0, none⟩) n n) n (cellsV xs)) : Blk32 w g xs := by
  rcases h.2 with ⟨h', _⟩ | ⟨g', cap', cur, h', _, hg, _, _, hsz, htake⟩
  · simp at h'
  · simp only [Value.slice.injEq, Option.some.injEq, Addr.mk.injEq, and_true, true_and] at h'
    obtain ⟨rfl, rfl⟩ := h'
    have e : cur = (cellsV xs).toArray := by
      rw [← htake, List.take_of_length_le (by rw [Array.length_toList, hsz]; exact Nat.le_refl _)]
    unfold Blk32; rw [← e]; exact hg
theorem splice_cellsV (n : Nat) (xs : List Nat) : splice (cellsV (List.replicate n 0)) 0 (cellsV xs) = cellsV (xs ++ List.replicate (n - xs.length) 0) := by
  unfold splice cellsV
  simp only [List.take_zero, List.nil_append, List.length_map, Nat.zero_add, List.map_append, List.map_replicate, List.drop_replicate]
theorem made_blk32 {w w1 : World} {n : Nat} (hown : w1.ownsRow w.heap.size 44 1 (.slice (some ⟨w.heap.size, 0, none⟩) n n) n (madeCells (Value.cells (.int .u32 0)) (n * 1)).toList) (hgrow : w.grownBy w1 none) :
    Blk32 w1 w.heap.size (List.replicate n 0) ∧ Below w.heap.size w w1 := by
  rw [madeV] at hown
  exact ⟨own_blk32 hown, (Below.refl _ _).grown hgrow (Nat.le_refl _) (fun k hk => by simp at hk)⟩
theorem cellsV_one (xs : List Nat) : ∀ v ∈ cellsV xs, v.oneCell' = true := by
  intro v hv; unfold cellsV at hv; rw [List.mem_map] at hv; obtain ⟨x, _, rfl⟩ := hv; rfl
theorem cellsV_length (xs : List Nat) : (cellsV xs).length = xs.length := by simp [cellsV]
theorem At32.src {w : World} {p : Option Addr} {n c : Nat} {xs : List Nat} (h : At32 w p n c xs) (hn : 0 < n) : ∃ ad, p = some ad ∧ ∀ j v, (cellsV xs)[j]? = some v → w.cell? (ad.add j) = some v := by
  rcases h.cells with h0 | ⟨g, off, rfl, hc⟩
  · omega
  · refine ⟨_, rfl, fun j v hv => ?_⟩
    have hj : j < xs.length := by
      have := (List.getElem?_eq_some_iff.1 hv).1
      rwa [cellsV_length] at this
    have hadd : (⟨g, off, none⟩ : Addr).add j = ⟨g, off + j, none⟩ := by unfold Addr.add; split <;> simp_all
    rw [hadd, hc j (by have := h.len; omega)]
    rw [cellsV_get xs j hj] at hv; exact hv

theorem Blk32.at_ {w : World} {g : Nat} {xs : List Nat} (h : Blk32 w g xs) (hd : Dig B32 xs) {n : Nat} (hn : xs.length = n) (hb : n ≤ maxLen) : At32 w (some ⟨g, 0, none⟩) n n xs := by
  subst hn
  exact ⟨rfl, Nat.le_refl _, hb, hd, .inr ⟨g, 0, rfl, fun j hj => by rw [Nat.zero_add]; exact h.cell j hj⟩⟩
theorem At32.cellAt {w : World} {g off n c : Nat} {xs : List Nat} (h : At32 w (some ⟨g, off, none⟩) n c xs) (j : Nat) (hj : j < n) : w.cell? ⟨g, off + j, none⟩ = some (V (xs.getD j 0)) := by
  obtain ⟨g', o', he, hcell⟩ := h.cells.resolve_left (by omega)
  simp only [Option.some.injEq, Addr.mk.injEq, and_true] at he
  obtain ⟨rfl, rfl⟩ := he
  exact hcell j hj

theorem rnorm_any {p : Option Addr} {n c : Nat} {xs : List Nat} {w : World} (h : At32 w p n c xs) (hn : n ≤ 35184372088832) :
    Calls Try.prog 19 #[.slice p n c] w fun e w' =>
      ∃ g, e = .returned (.slice (some ⟨g, 0, none⟩) (trimL xs).length (trimL xs).length) ∧ w.heap.size ≤ g ∧ Blk32 w' g (trimL xs) ∧ Below w.heap.size w w' := by
  obtain ⟨i0, hi, hz0, hz1, hz2⟩ := info_parts Try.infoU32
  have hl := h.len; have cap := h.cap; have big := h.big
  unfold maxLen at big
  have HL : Hid (xs.length = n) := hl
  clear hl
  go_enter Try.func19, Try.ntmps19
  go_wp2
  go_loopg [3] n (fun gk nv wr => nv = .int .i64 gk ∧ gk ≤ n ∧ Hid (∀ j, gk ≤ j → j < n → xs.getD j 0 = 0) ∧ wr = w)
  case atStart => exact ⟨rfl, Nat.le_refl _, fun j h1 h2 => absurd h1 (by omega), rfl⟩
  case round =>
    obtain ⟨rfl, hgn, HZ, hwr⟩ := hrel
    obtain rfl := hwr.symm
    clear hwr
    by_cases hg0 : gk = 0
    · have HG0 : Hid (gk = 0) := hg0
      have hng : ¬ 0 < gk := by omega
      have hgc : gk ≤ c := by omega
      clear hg0
      cases p
      · have ht : trimL xs = xs.take gk := trimL_of_take xs gk (by rw [HL.out]; omega) (fun j h1 h2 => HZ.out j h1 (by rw [← HL.out]; exact h2)) (.inl HG0.out)
        have hlt : (trimL xs).length = gk := by rw [ht, List.length_take, HL.out]; omega
        have HT : Hid (trimL xs = xs.take gk) := ht
        have HLT : Hid ((trimL xs).length = gk) := hlt
        have hA := h.take gk (by omega) c (by omega) (by unfold maxLen; omega)
        clear ht hlt h
        go_wp2_with (first
          | (at_make; refine wpList_make_full _ rfl _ _ 36 rfl w.heap.size 44 i0 (.int .u32 0) 1 Try.underlying36 hi hz0 hz1 _ _ _ _ gk rfl rfl (by omega) (by omega) (by rw [hz2]; omega) (by unfold maxLen; omega) (Nat.le_refl _) ?_; intro w1 hown hgrow; have hb := made_blk32 hown hgrow; clear hown hgrow)
          | (refine wpList_copy_splice rfl (.tmp 21) (.tmp 24) 36 36 rfl 44 Try.underlying36 Try.sizeU32 (some ⟨w.heap.size, 0, none⟩) _ gk gk gk c rfl rfl w.heap.size 0 (cellsV (List.replicate gk 0)) 44 hb.1 (cellsV (xs.take gk)) (by rw [cellsV_length, hA.len]; exact (Nat.min_self gk).symm) (fun h0 => ⟨rfl, (hA.below hb.2).src (by rw [cellsV_length, hA.len] at h0; exact h0)⟩) (by simp [cellsV_length]; omega) (cellsV_one _) w.heap.size w hb.2 (Nat.le_refl _) ?_; intro w2 hg2 hb2))
        go_ret
        rw [HLT.out, HT.out]
        refine ⟨_, rfl, Nat.le_refl _, ?_, hb2⟩
        rw [splice_cellsV, hA.len, Nat.sub_self, List.replicate_zero, List.append_nil] at hg2
        exact hg2
      · have ht : trimL xs = xs.take gk := trimL_of_take xs gk (by rw [HL.out]; omega) (fun j h1 h2 => HZ.out j h1 (by rw [← HL.out]; exact h2)) (.inl HG0.out)
        have hlt : (trimL xs).length = gk := by rw [ht, List.length_take, HL.out]; omega
        have HT : Hid (trimL xs = xs.take gk) := ht
        have HLT : Hid ((trimL xs).length = gk) := hlt
        have hA := h.take gk (by omega) c (by omega) (by unfold maxLen; omega)
        clear ht hlt h
        go_wp2_with (first
          | (at_make; refine wpList_make_full _ rfl _ _ 36 rfl w.heap.size 44 i0 (.int .u32 0) 1 Try.underlying36 hi hz0 hz1 _ _ _ _ gk rfl rfl (by omega) (by omega) (by rw [hz2]; omega) (by unfold maxLen; omega) (Nat.le_refl _) ?_; intro w1 hown hgrow; have hb := made_blk32 hown hgrow; clear hown hgrow)
          | (refine wpList_copy_splice rfl (.tmp 21) (.tmp 24) 36 36 rfl 44 Try.underlying36 Try.sizeU32 (some ⟨w.heap.size, 0, none⟩) _ gk gk gk c rfl rfl w.heap.size 0 (cellsV (List.replicate gk 0)) 44 hb.1 (cellsV (xs.take gk)) (by rw [cellsV_length, hA.len]; exact (Nat.min_self gk).symm) (fun h0 => ⟨rfl, (hA.below hb.2).src (by rw [cellsV_length, hA.len] at h0; exact h0)⟩) (by simp [cellsV_length]; omega) (cellsV_one _) w.heap.size w hb.2 (Nat.le_refl _) ?_; intro w2 hg2 hb2))
        go_ret
        rw [HLT.out, HT.out]
        refine ⟨_, rfl, Nat.le_refl _, ?_, hb2⟩
        rw [splice_cellsV, hA.len, Nat.sub_self, List.replicate_zero, List.append_nil] at hg2
        exact hg2
    · obtain ⟨g, off, rfl, hc⟩ := h.cells.resolve_left (by omega)
      obtain ⟨x, hx⟩ : ∃ x, x = xs.getD (gk - 1) 0 := ⟨_, rfl⟩
      have hcx : w.cell? ⟨g, off + (gk - 1), none⟩ = some (V x) := by rw [hx]; exact hc (gk - 1) (by omega)
      have hdg : decide ((0 : Int) < (gk : Int)) = true := decide_eq_true (by omega)
      have HX : Hid (x = xs.getD (gk - 1) 0) := hx
      clear hc hx
      by_cases h0 : x = 0
      · subst h0
        go_wp2_with fail
        go_roundg (gk - 1)
        case measure => omega
        case rel =>
          refine ⟨by go_num, by omega, fun j h1 h2 => ?_, rfl⟩
          by_cases hj : j = gk - 1
          · subst hj; exact HX.out.symm
          · exact HZ.out j (by omega) h2
      · have h0' : ((x : Int) == 0) = false := by simp; omega
        have hgc : gk ≤ c := by omega
        have HXN : Hid (xs.getD (gk - 1) 0 ≠ 0) := by rw [← HX.out]; exact h0
        clear h0
        have ht : trimL xs = xs.take gk := trimL_of_take xs gk (by rw [HL.out]; omega) (fun j h1 h2 => HZ.out j h1 (by rw [← HL.out]; exact h2)) (.inr HXN.out)
        have hlt : (trimL xs).length = gk := by rw [ht, List.length_take, HL.out]; omega
        have HT : Hid (trimL xs = xs.take gk) := ht
        have HLT : Hid ((trimL xs).length = gk) := hlt
        have hA := h.take gk (by omega) c (by omega) (by unfold maxLen; omega)
        clear ht hlt h
        go_wp2_with (first
          | (at_make; refine wpList_make_full _ rfl _ _ 36 rfl w.heap.size 44 i0 (.int .u32 0) 1 Try.underlying36 hi hz0 hz1 _ _ _ _ gk rfl rfl (by omega) (by omega) (by rw [hz2]; omega) (by unfold maxLen; omega) (Nat.le_refl _) ?_; intro w1 hown hgrow; have hb := made_blk32 hown hgrow; clear hown hgrow)
          | (refine wpList_copy_splice rfl (.tmp 21) (.tmp 24) 36 36 rfl 44 Try.underlying36 Try.sizeU32 (some ⟨w.heap.size, 0, none⟩) _ gk gk gk c rfl rfl w.heap.size 0 (cellsV (List.replicate gk 0)) 44 hb.1 (cellsV (xs.take gk)) (by rw [cellsV_length, hA.len]; exact (Nat.min_self gk).symm) (fun h0 => ⟨rfl, (hA.below hb.2).src (by rw [cellsV_length, hA.len] at h0; exact h0)⟩) (by simp [cellsV_length]; omega) (cellsV_one _) w.heap.size w hb.2 (Nat.le_refl _) ?_; intro w2 hg2 hb2))
        go_ret
        rw [HLT.out, HT.out]
        refine ⟨_, rfl, Nat.le_refl _, ?_, hb2⟩
        rw [splice_cellsV, hA.len, Nat.sub_self, List.replicate_zero, List.append_nil] at hg2
        exact hg2
theorem wrap32 (v : Nat) (h : v < B32) : IntKind.u32.wrap (v : Int) = (v : Int) := by
  rw [B32_eq] at h
  simp [IntKind.wrap, IntKind.signed, IntKind.bits]
  omega
end Go.Proofs.Ytnnkgnhoboealaa
namespace Go.Proofs.Ytnnkgnhoboealaa
open Go.RowKit Go.Shelf
set_option maxRecDepth 20000
set_option maxHeartbeats 0
theorem B64_sq (k : Nat) : B64 ^ k = B32 ^ (2 * k) := by rw [Nat.pow_mul, show B32 ^ 2 = B64 from rfl]
structure RToR (w : World) (g N m : Nat) (ds : List Nat) (k : Nat) (us : List Nat) (wr : World) : Prop where
  bel : Below g w wr
  own : wr.ownsRow g 27 1 (.slice (some ⟨g, 0, none⟩) k N) k (cellsU us)
  len : us.length = k
  dig : Dig B64 us
  top : m ≤ 2 * k → Top us
  val : valB B64 us = valB B32 (ds.take (2 * k))
theorem rto_val {us ds : List Nat} {k x y : Nat} (h : valB B64 us = valB B32 (ds.take (2 * k))) (hl : us.length = k) (ex : x = ds.getD (2 * k) 0) (ey : y = ds.getD (2 * k + 1) 0) : valB B64 (us ++ [x + B32 * y]) = valB B32 (ds.take (2 * (k + 1))) := by
  rw [valB_snoc, hl, h, B64_sq, show 2 * (k + 1) = 2 * k + 1 + 1 by omega, valB_take_any _ ds (2 * k + 1), valB_take_any _ ds (2 * k), ← ex, ← ey, Nat.pow_succ, Nat.mul_add, Nat.mul_assoc]
  omega
theorem top_snoc (us : List Nat) {x : Nat} (h : x ≠ 0) : Top (us ++ [x]) := by
  intro z hz; simp at hz; omega
theorem own_at {wr : World} {g i N : Nat} {ss : List Nat} (ho : wr.ownsRow g 27 1 (.slice (some ⟨g, 0, none⟩) i N) i (cellsU ss)) (hl : ss.length = i) (hd : Dig B64 ss) : At wr (some ⟨g, 0, none⟩) i N ss := by
  rcases ho.2 with ⟨h', _⟩ | ⟨g', cap', cur, h', hbase, hgc, hcap', hmx, hsz, htake⟩
  · simp at h'
  · simp only [Value.slice.injEq, Option.some.injEq, Addr.mk.injEq, and_true, true_and] at h'
    obtain ⟨rfl, rfl⟩ := h'
    refine ⟨hl, hcap', hmx, hd, .inr ⟨g, 0, rfl, fun jj hj => ?_⟩⟩
    rw [Nat.zero_add, cell_of_row wr g jj _ _ _ hgc]
    have e1 := cellsU_get ss jj (by rw [hl]; exact hj)
    rw [← htake, Nat.mul_one, List.getElem?_take, if_pos hj] at e1
    rw [← Array.getElem?_toList]; exact e1
theorem one_cellU (w : World) (x : Nat) : ∀ (j : Nat) (u : Value), [U x][j]? = some u → (w.alloc (.cells #[U x] 27)).cell? ((⟨w.heap.size, 0, none⟩ : Addr).add j) = some u := by
  intro j u h
  have hb : Blk (w.alloc (.cells #[U x] 27)) w.heap.size [x] := heap_alloc_new w _
  have hj : j < 1 := by
    have := (List.getElem?_eq_some_iff.1 h).1
    simpa using this
  have hadd : (⟨w.heap.size, 0, none⟩ : Addr).add j = ⟨w.heap.size, j, none⟩ := by unfold Addr.add; split <;> simp_all
  rw [hadd, hb.cell j (by simpa using hj)]
  obtain rfl : j = 0 := by omega
  simpa using h

theorem rto_any {p : Option Addr} {n c : Nat} {xs : List Nat} {w : World} (h : At32 w p n c xs) (hn : n ≤ 35184372088832) :
    Calls Try.prog 12 #[.slice p n c] w fun e w' => ∃ g k N us, e = .returned (.slice (some ⟨g, 0, none⟩) k N) ∧ w.heap.size ≤ g ∧ At w' (some ⟨g, 0, none⟩) k N us ∧ Nf B64 us (valB B32 xs) ∧ Below w.heap.size w w' := by
  obtain ⟨i0, hi, hz0, hz1, hz2⟩ := info_parts Try.infoU64
  have HDG : Hid (Dig B32 xs) := h.dig
  have hlx := h.len
  have hle := trimL_length_le xs
  have hm0 : (trimL xs).length ≤ 35184372088832 := by omega
  have HV : Hid (valB B32 (trimL xs) = valB B32 xs) := valB_trimL _ _
  have HTOP : Hid (Top (trimL xs)) := Top_trimL xs
  have HDT : Hid (Dig B32 (trimL xs)) := h.dig.trimL
  clear hlx hle
  go_enter Try.func12, Try.ntmps12
  go_wp2_with fail
  refine (rnorm_any h (by omega)).mono ?_
  rintro e w0 ⟨gd, rfl, hgd, hblk, hb0⟩
  have A0 := hblk.at_ HDT.out rfl (by unfold maxLen; omega)
  generalize trimL xs = ds at *
  obtain ⟨m, hm⟩ : ∃ m, m = ds.length := ⟨_, rfl⟩
  rw [← hm] at A0 hm0 ⊢
  have HM : Hid (m = ds.length) := hm
  clear hm hblk h
  have hNi : (m : Int).tdiv 2 = ((m / 2 : Nat) : Int) := by rw [Int.tdiv_eq_ediv_of_nonneg (by omega)]; omega
  go_wp2_with (at_make; refine wpList_make_own _ rfl _ _ 22 rfl w0.heap.size 27 i0 (.int .u64 0) 1 Try.underlying22 hi hz0 hz1 _ _ _ (m / 2 + 1) rfl rfl (by omega) (by rw [hz2]; omega) (by unfold maxLen; omega) (Nat.le_refl _) ?_; intro w1 hown hgrow)
  have hb1 : Below w0.heap.size w0 w1 := (Below.refl _ _).grown hgrow (Nat.le_refl _) (fun k hk => by simp at hk)
  have HO : Hid (RToR w0 w0.heap.size (m / 2 + 1) m ds 0 [] w1) := ⟨hb1, hown, rfl, Dig.nil _, fun _ => by intro x hx; simp at hx, by simp [valB]⟩
  clear hown hgrow hb1 hNi
  obtain ⟨N, hN⟩ : ∃ N, N = m / 2 + 1 := ⟨_, rfl⟩
  rw [← hN] at HO ⊢
  have HN : Hid (N = m / 2 + 1) := hN
  have hNb : N ≤ 17592186044417 := by omega
  clear hN
  go_loopg [4, 5] N (fun gk lv iv wr => ∃ (k i : Nat) (us : List Nat), k + gk = N ∧ Hid (i = 2 * k) ∧ iv = .int .i64 i ∧ lv = .slice (some ⟨w0.heap.size, 0, none⟩) k N ∧ Hid (RToR w0 w0.heap.size N m ds k us wr))
  case atStart => exact ⟨0, 0, [], by omega, rfl, rfl, rfl, HO⟩
  case round =>
    obtain ⟨k, i, us, hkg, HI, rfl, rfl, HR⟩ := hrel
    by_cases him : i < m
    · have hsp : k + 1 ≤ N := by have := HI.out; have := HN.out; omega
      obtain ⟨x, hx⟩ : ∃ x, x = ds.getD i 0 := ⟨_, rfl⟩
      obtain ⟨y, hy⟩ : ∃ y, y = ds.getD (i + 1) 0 := ⟨_, rfl⟩
      have hxb : x < B32 := by rw [hx]; exact HDT.out.getD B32_pos i
      have hyb : y < B32 := by rw [hy]; exact HDT.out.getD B32_pos (i + 1)
      rw [B32_eq] at hxb hyb
      have c0 : w0.cell? ⟨gd, i, none⟩ = some (V x) := by
        have := A0.cellAt i (by omega)
        rw [Nat.zero_add] at this
        rw [hx]; exact this
      have c1 : wr.cell? ⟨gd, i, none⟩ = some (V x) := (HR.out.bel.cell (p := ⟨gd, i, none⟩) (World.block_lt_of_cell? w0 _ c0)).trans c0
      have hxw : IntKind.u64.wrap (x : Int) = (x : Int) := wrap_mod _ _ (by omega)
      have hyw : IntKind.u64.wrap (y : Int) = (y : Int) := wrap_mod _ _ (by omega)
      obtain ⟨yh, eyh⟩ : ∃ yh, yh = 4294967296 * y := ⟨_, rfl⟩
      have f1 : IntKind.u64.wrap ((y : Int) * 4294967296) = (yh : Int) := wrap_mod _ _ (by omega)
      obtain ⟨ww, eww⟩ : ∃ ww, ww = x + yh := ⟨_, rfl⟩
      have f2 : IntKind.u64.wrap ((x : Int) + (yh : Int)) = (ww : Int) := wrap_mod _ _ (by omega)
      have hwb : ww < B64 := by rw [B64_eq]; omega
      have EW : Hid (ww = x + B32 * y) := by show _ = _; rw [B32_eq]; omega
      have HXE : Hid (x = ds.getD (2 * k) 0) := by rw [← HI.out]; exact hx
      have HYE : Hid (y = ds.getD (2 * k + 1) 0) := by rw [← HI.out]; exact hy
      have HTT : Hid (m ≤ 2 * (k + 1) → ww ≠ 0) := by
        intro hle
        have hi2 := HI.out
        by_cases h1 : i + 1 < m
        · have : y ≠ 0 := by
            refine HTOP.out y ?_
            rw [List.getLast?_eq_getElem?, ← HM.out, show m - 1 = i + 1 by omega, hy, List.getD_eq_getElem?_getD, List.getElem?_eq_getElem (by have := HM.out; omega)]; rfl
          omega
        · have : x ≠ 0 := by
            refine HTOP.out x ?_
            rw [List.getLast?_eq_getElem?, ← HM.out, show m - 1 = i by omega, hx, List.getD_eq_getElem?_getD, List.getElem?_eq_getElem (by have := HM.out; omega)]; rfl
          omega
      have HOA : Hid ((wr.alloc (.cells #[U ww] 27)).ownsRow w0.heap.size 27 1 (.slice (some ⟨w0.heap.size, 0, none⟩) k N) k (cellsU us)) := HR.out.own.alloc _
      by_cases h1 : i + 1 < m
      · have d0 : w0.cell? ⟨gd, i + 1, none⟩ = some (V y) := by
          have := A0.cellAt (i + 1) (by omega)
          rw [Nat.zero_add] at this
          rw [hy]; exact this
        have d1 : wr.cell? ⟨gd, i + 1, none⟩ = some (V y) := (HR.out.bel.cell (p := ⟨gd, i + 1, none⟩) (World.block_lt_of_cell? w0 _ d0)).trans d0
        clear hx hy c0 d0 eyh eww hxb hyb
        go_wp2_with (at_builtin; refine wpList_append_fits _ rfl (.tmp 39) (.tmp 41) 22 rfl w0.heap.size 27 i0 1 Try.underlying22 hi hz1 w0.heap.size k N (cellsU us) rfl HOA.out ⟨wr.heap.size, 0, none⟩ 1 1 [U ww] rfl rfl (one_cellU wr ww) (by intro u hu; simp at hu; subst hu; rfl) hsp ?_; intro w3 hw3 hgr3)
        have HR3 : Hid (RToR w0 w0.heap.size N m ds (k + 1) (us ++ [ww]) w3) := by
          have hR := HR.out
          refine ⟨(hR.bel.alloc hR.bel.size _).grown hgr3 (by have := hR.bel.size; simp; omega) (fun q hq => by simp at hq; omega), ?_, by simp [hR.len], hR.dig.append (dig1 hwb), fun hle => top_snoc us (HTT.out hle), ?_⟩
          · have e0 : cellsU (us ++ [ww]) = cellsU us ++ [U ww] := by unfold cellsU; rw [List.map_append]; rfl
            rw [e0]; exact hw3
          · rw [EW.out]; exact rto_val hR.val hR.len HXE.out HYE.out
        clear hw3 hgr3
        go_roundg (gk - 1)
        case measure => omega
        case rel => exact ⟨k + 1, i + 2, us ++ [ww], by omega, by have := HI.out; show _ = _; omega, by go_num, rfl, HR3⟩
      · have hy0 : y = 0 := by rw [hy, List.getD_eq_getElem?_getD, List.getElem?_eq_none (by have := HM.out; omega)]; rfl
        have eyx : ww = x := by omega
        subst eyx
        clear hx hy c0 eyh eww hxb hyb f1 f2 hyw
        go_wp2_with (at_builtin; refine wpList_append_fits _ rfl (.tmp 39) (.tmp 41) 22 rfl w0.heap.size 27 i0 1 Try.underlying22 hi hz1 w0.heap.size k N (cellsU us) rfl HOA.out ⟨wr.heap.size, 0, none⟩ 1 1 [U ww] rfl rfl (one_cellU wr ww) (by intro u hu; simp at hu; subst hu; rfl) hsp ?_; intro w3 hw3 hgr3)
        have HR3 : Hid (RToR w0 w0.heap.size N m ds (k + 1) (us ++ [ww]) w3) := by
          have hR := HR.out
          refine ⟨(hR.bel.alloc hR.bel.size _).grown hgr3 (by have := hR.bel.size; simp; omega) (fun q hq => by simp at hq; omega), ?_, by simp [hR.len], hR.dig.append (dig1 hwb), fun hle => top_snoc us (HTT.out hle), ?_⟩
          · have e0 : cellsU (us ++ [ww]) = cellsU us ++ [U ww] := by unfold cellsU; rw [List.map_append]; rfl
            rw [e0]; exact hw3
          · rw [EW.out]; exact rto_val hR.val hR.len HXE.out HYE.out
        clear hw3 hgr3
        go_roundg (gk - 1)
        case measure => omega
        case rel => exact ⟨k + 1, i + 2, us ++ [ww], by omega, by have := HI.out; show _ = _; omega, by go_num, rfl, HR3⟩
    · have hR := HR.out
      have hi2 := HI.out
      have AT := own_at hR.own hR.len hR.dig
      have HNF : Hid (Nf B64 us (valB B32 xs)) := by
        refine ⟨hR.dig, hR.top (by omega), ?_⟩
        have hv := hR.val
        rw [List.take_of_length_le (by have := HM.out; omega), HV.out] at hv; exact hv
      have hbx := Below.on hb0 hR.bel
      have hgz := hb0.size
      clear hR hi2
      go_wp2_with fail
      go_ret
      exact ⟨_, k, N, us, rfl, by omega, AT, HNF.out, hbx⟩
def Told (z : Int) (s : Bool) (m : Nat) (zs : List Nat) (er : Int) : Prop :=
  (z.natAbs < LIM ∧ s = decide (z < 0) ∧ Nf B64 zs z.natAbs ∧ m ≤ 8192 ∧ er = 0) ∨ (LIM ≤ z.natAbs ∧ s = false ∧ zs = [] ∧ m = 0 ∧ er = 5)
theorem AnsI.any {B : Nat} {w' : World} {e : Ending} {z : Int} (h : AnsI B w' e z) : ∃ s p m zs er, e = .returned (.tuple #[ZV s p m m, .int .i64 er]) ∧ At w' p m m zs ∧ Told z s m zs er := by
  rcases h with ⟨hz, p, m, zs, rfl, ho, hn, hm⟩ | ⟨hz, rfl⟩
  · exact ⟨_, p, m, zs, 0, rfl, ho.at_ hm, .inl ⟨hz, rfl, hn, hm, rfl⟩⟩
  · exact ⟨false, none, 0, [], 5, rfl, At.empty _ none 0 (by decide), .inr ⟨hz, rfl, rfl, rfl, rfl⟩⟩
theorem Told.inj {z : Int} {s s' : Bool} {m m' : Nat} {zs zs' : List Nat} {er er' : Int} (h : Told z s m zs er) (k : Told z s' m' zs' er') : s = s' ∧ zs = zs' ∧ er = er' := by
  rcases h with ⟨hz, rfl, hn, hm, rfl⟩ | ⟨hz, rfl, rfl, rfl, rfl⟩ <;> rcases k with ⟨kz, rfl, kn, km, rfl⟩ | ⟨kz, rfl, rfl, rfl, rfl⟩
  · exact ⟨rfl, hn.inj B64_one kn, rfl⟩
  · omega
  · omega
  · exact ⟨rfl, rfl, rfl⟩
theorem Told.er {z : Int} {s : Bool} {m : Nat} {zs : List Nat} {er : Int} (h : Told z s m zs er) : er = 0 ∨ er = 5 := by
  rcases h with ⟨_, _, _, _, rfl⟩ | ⟨_, _, _, _, rfl⟩
  · exact .inl rfl
  · exact .inr rfl
theorem Told.ok {z : Int} {s : Bool} {m : Nat} {zs : List Nat} {w : World} {p : Option Addr} (h : Told z s m zs 0) (a : At w p m m zs) : Num w p m m zs z.natAbs ∧ s = decide (z < 0) := by
  rcases h with ⟨_, h1, h2, h3, _⟩ | ⟨_, _, _, _, h⟩
  · exact ⟨⟨a, h2, h3⟩, h1⟩
  · exact absurd h (by decide)
theorem Told.no {z : Int} {s : Bool} {m : Nat} {zs : List Nat} (h : Told z s m zs 5) : LIM ≤ z.natAbs := by
  rcases h with ⟨_, _, _, _, h⟩ | ⟨h, _⟩
  · exact absurd h (by decide)
  · exact h
theorem iv_natAbs (s : Bool) (a : Nat) : (iv s a).natAbs = a := by cases s <;> simp [iv]
-- the document's side
def DocIs (v : Nat) (us : List Nat) (f : Int) : Prop := (v < LIM ∧ Nf B64 us v ∧ f = 0) ∨ (LIM ≤ v ∧ us = [] ∧ f = 5)
def TzIs (v k : Nat) : Prop := v % 2 ^ k = 0 ∧ v / 2 ^ k % 2 = 1
theorem TzIs.inj {v k l : Nat} (h : TzIs v k) (h' : TzIs v l) : k = l := by
  have aux : ∀ {a b : Nat}, TzIs v a → TzIs v b → ¬ a < b := by
    intro a b ha hb hab
    obtain ⟨d, hd⟩ : ∃ d, b = a + (d + 1) := ⟨b - a - 1, by omega⟩
    have h1 := Nat.dvd_of_mod_eq_zero hb.1
    obtain ⟨q, hq⟩ := h1
    have h2 := ha.2
    rw [hq, hd, Nat.pow_add, Nat.mul_assoc, Nat.mul_div_cancel_left _ (Nat.pow_pos (by decide)), Nat.pow_succ, Nat.mul_comm (2 ^ d) 2, Nat.mul_assoc, Nat.mul_mod_right] at h2
    exact absurd h2 (by decide)
  rcases Nat.lt_trichotomy k l with e | e | e
  · exact absurd e (aux h h')
  · exact e
  · exact absurd e (aux h' h)
theorem TzIs.ex : ∀ (v : Nat), 0 < v → ∃ k, TzIs v k := by
  intro v
  induction v using Nat.strongRecOn with
  | _ v ih =>
    intro hv
    rcases Nat.mod_two_eq_zero_or_one v with h | h
    · obtain ⟨k, h1, h2⟩ := ih (v / 2) (by omega) (by omega)
      refine ⟨k + 1, ?_, ?_⟩
      · rw [Nat.pow_succ, Nat.mul_comm, Nat.mod_mul, h, h1]
      · rw [Nat.pow_succ, Nat.mul_comm, ← Nat.div_div_eq_div_mul]; exact h2
    · exact ⟨0, by rw [Nat.pow_zero, Nat.mod_one], by rw [Nat.pow_zero, Nat.div_one]; exact h⟩
theorem TzIs.ge {v k n : Nat} (h : TzIs v k) (hn : v % 2 ^ n = 0) : n ≤ k := by
  rcases Nat.lt_or_ge k n with e | e
  · exfalso
    obtain ⟨d, hd⟩ : ∃ d, n = k + (d + 1) := ⟨n - k - 1, by omega⟩
    obtain ⟨q, hq⟩ := Nat.dvd_of_mod_eq_zero hn
    have h2 := h.2
    rw [hq, hd, Nat.pow_add, Nat.mul_assoc, Nat.mul_div_cancel_left _ (Nat.pow_pos (by decide)), Nat.pow_succ, Nat.mul_comm (2 ^ d) 2, Nat.mul_assoc, Nat.mul_mod_right] at h2
    exact absurd h2 (by decide)
  · exact e
def TzO (v k : Nat) : Prop := (v = 0 ∧ k = 0) ∨ (v ≠ 0 ∧ TzIs v k)
theorem TzO.inj {v k l : Nat} (h : TzO v k) (h' : TzO v l) : k = l := by
  rcases h with ⟨h1, rfl⟩ | ⟨h1, h2⟩ <;> rcases h' with ⟨h3, rfl⟩ | ⟨h3, h4⟩
  · rfl
  · exact absurd h1 h3
  · exact absurd h3 h1
  · exact h2.inj h4
theorem TzO.ex (v : Nat) : ∃ k, TzO v k := by
  by_cases h : v = 0
  · exact ⟨0, .inl ⟨h, rfl⟩⟩
  · obtain ⟨k, hk⟩ := TzIs.ex v (by omega)
    exact ⟨k, .inr ⟨h, hk⟩⟩
end Go.Proofs.Ytnnkgnhoboealaa
