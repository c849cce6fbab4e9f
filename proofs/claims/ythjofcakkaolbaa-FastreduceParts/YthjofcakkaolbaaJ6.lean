import Derived.Test.YthjofcakkaolbaaSmall
import Derived.BigRegion
import Derived.Shelf.Spec.BitsCarry
import Derived.Shelf.Strconv.Itoa0
import Derived.Deep.LoopGhost
import Derived.Test.YthjofcakkaolbaaMem
import Derived.Laws.Bits64b
import Derived.Deep.RegionLaw
import Derived.Shelf.Bits.Mul64
import Derived.WalkMore
import Derived.Laws.Cover1
import Derived.Deep.RegionWith
namespace Go.Proofs.Ythjofcakkaolbaa
open Go.RowKit
set_option maxRecDepth 20000
set_option maxHeartbeats 0
structure AddRel (w : World) (g off n : Nat) (zs ys : List Nat) (k cy : Nat) (dk : List Nat) (wr : World) : Prop where
  wrs : Wr g off n w wr
  row : Row wr g off n dk
  hi : dk.drop k = zs.drop k
  car : cy ≤ 1
  sum : valB B64 (dk.take k) + B64 ^ k * cy = valB B64 (zs.take k) + valB B64 (ys.take k)

theorem valB_take_any (b : Nat) (xs : List Nat) (k : Nat) : valB b (xs.take (k + 1)) = valB b (xs.take k) + b ^ k * xs.getD k 0 := by
  by_cases h : k < xs.length
  · exact valB_take_succ b xs k h
  · rw [List.take_of_length_le (by omega), List.take_of_length_le (by omega), List.getD_eq_getElem?_getD, List.getElem?_eq_none (by omega)]; simp
theorem AddRel.fin {w : World} {g off n : Nat} {zs ys : List Nat} {k cy : Nat} {dk : List Nat} {wr : World} (h : AddRel w g off n zs ys k cy dk wr) (hz : zs.length = n) (hy : ys.length ≤ k) (hk : k ≤ n) (hf : cy = 0 ∨ k = n) :
    valB B64 dk + B64 ^ n * cy = valB B64 zs + valB B64 ys := by
  have hl := h.row.len
  have e1 := h.sum
  rw [List.take_of_length_le hy] at e1
  rw [valB_split B64 dk k (by omega), valB_split B64 zs k (by omega), h.hi]
  rcases hf with rfl | rfl
  · omega
  · rw [List.drop_of_length_le (by omega)]; simp only [valB_nil]; omega
structure SubRel (w : World) (g off n : Nat) (zs ys : List Nat) (k cy : Nat) (dk : List Nat) (wr : World) : Prop where
  wrs : Wr g off n w wr
  row : Row wr g off n dk
  hi : dk.drop k = zs.drop k
  car : cy ≤ 1
  sum : valB B64 (dk.take k) + valB B64 (ys.take k) = valB B64 (zs.take k) + B64 ^ k * cy

theorem SubRel.fin {w : World} {g off n : Nat} {zs ys : List Nat} {k cy : Nat} {dk : List Nat} {wr : World} (h : SubRel w g off n zs ys k cy dk wr) (hz : zs.length = n) (hy : ys.length ≤ k) (hk : k ≤ n) (hf : cy = 0 ∨ k = n) :
    valB B64 dk + valB B64 ys = valB B64 zs + B64 ^ n * cy := by
  have hl := h.row.len
  have e1 := h.sum
  rw [List.take_of_length_le hy] at e1
  rw [valB_split B64 dk k (by omega), valB_split B64 zs k (by omega), h.hi]
  rcases hf with rfl | rfl
  · omega
  · rw [List.drop_of_length_le (by omega)]; simp only [valB_nil]; omega
def cmpN (a b : Nat) : Int := if a < b then -1 else if a = b then 0 else 1
theorem cmpN_lt {a b : Nat} (h : a < b) : cmpN a b = -1 := if_pos h
theorem cmpN_gt {a b : Nat} (h : b < a) : cmpN a b = 1 := by unfold cmpN; rw [if_neg (by omega), if_neg (by omega)]
theorem cmpN_eq {a b : Nat} (h : a = b) : cmpN a b = 0 := by unfold cmpN; rw [if_neg (by omega), if_pos h]
theorem drop_step {xs ys : List Nat} {n t : Nat} (lx : xs.length = n) (ly : ys.length = n) (ht : t < n) (hd : xs.drop (t + 1) = ys.drop (t + 1)) (h : xs.getD t 0 = ys.getD t 0) : xs.drop t = ys.drop t := by
  rw [drop_getD xs t (by omega), drop_getD ys t (by omega), h, hd]

theorem drewN_two (w : World) (a b : Nat) : (w.drewN a).drewN b = w.drewN (a + b) := by simp
theorem bDrewN {B : Nat} {a w : World} (h : Below B a w) (q : Nat) : Below B a (w.drewN q) := ⟨h.os, h.tape, h.output, h.size, h.block⟩

theorem dig1 {x : Nat} (h : x < B64) : Dig B64 [x] := Dig.cons h (Dig.nil _)

def LIM : Nat := B64 ^ 8192
theorem Nf.lim {xs : List Nat} {n : Nat} (h : Nf B64 xs n) : xs.length ≤ 8192 ↔ n < LIM := by
  have := h.len_le (k := 8192) B64_one
  unfold LIM; exact this

structure Own (B : Nat) (w : World) (p : Option Addr) (m : Nat) (zs : List Nat) : Prop where
  len : zs.length = m
  dig : Dig B64 zs
  mem : m = 0 ∨ ∃ g, p = some ⟨g, 0, none⟩ ∧ B ≤ g ∧ Row w g 0 m zs
theorem Own.at_ {B : Nat} {w : World} {p : Option Addr} {m : Nat} {zs : List Nat} (h : Own B w p m zs) (hm : m ≤ 8192) : At w p m m zs := by
  refine ⟨h.len, Nat.le_refl _, by unfold maxLen; omega, h.dig, ?_⟩
  rcases h.mem with h0 | ⟨g, rfl, _, hr⟩
  · exact .inl h0
  · exact .inr ⟨g, 0, rfl, hr.cell⟩
theorem Row.lt {w : World} {g off n : Nat} {xs : List Nat} (h : Row w g off n xs) (hn : 0 < n) : g < w.heap.size := World.block_lt_of_cell? w _ (h.cell 0 hn)
theorem Own.below {B : Nat} {w w' : World} {p : Option Addr} {m : Nat} {zs : List Nat} (h : Own B w p m zs) (hb : Below w.heap.size w w') : Own B w' p m zs := by
  refine ⟨h.len, h.dig, ?_⟩
  by_cases h0 : m = 0
  · exact .inl h0
  · obtain ⟨g, rfl, hg, hr⟩ := h.mem.resolve_left h0
    exact .inr ⟨g, rfl, hg, hr.below hb (hr.lt (by omega))⟩
theorem Own.mono {B B' : Nat} {w : World} {p : Option Addr} {m : Nat} {zs : List Nat} (h : Own B w p m zs) (hB : B' ≤ B) : Own B' w p m zs := by
  refine ⟨h.len, h.dig, ?_⟩
  rcases h.mem with h0 | ⟨g, hp, hg, hr⟩
  · exact .inl h0
  · exact .inr ⟨g, hp, by omega, hr⟩
theorem Row.take {w : World} {g off n : Nat} {xs : List Nat} (h : Row w g off n xs) (m : Nat) (hm : m ≤ n) : Row w g off m (xs.take m) := by
  refine ⟨by rw [List.length_take, h.len]; omega, h.dig.take m, fun j hj => ?_, fun j hj => h.frozen j (by omega)⟩
  have e : (xs.take m).getD j 0 = xs.getD j 0 := by rw [List.getD_eq_getElem?_getD, List.getD_eq_getElem?_getD, List.getElem?_take, if_pos hj]
  rw [e]; exact h.cell j (by omega)
theorem Row.own {w : World} {g n B : Nat} {xs : List Nat} (h : Row w g 0 n xs) (hB : B ≤ g) {p' : Option Addr} {m : Nat} (hm : m = (trimL xs).length) (hp : m ≠ 0 → p' = some ⟨g, 0, none⟩) : Own B w p' m (trimL xs) := by
  have hle := trimL_length_le xs
  refine ⟨hm.symm, h.dig.trimL, ?_⟩
  by_cases h0 : m = 0
  · exact .inl h0
  · have := h.take m (by have := h.len; omega)
    rw [hm, ← trimL_take, ← hm] at this
    exact .inr ⟨g, hp h0, hB, this⟩
theorem Blk.own {w : World} {g B : Nat} {xs : List Nat} (h : Blk w g xs) (hd : Dig B64 xs) (hB : B ≤ g) : Own B w (some ⟨g, 0, none⟩) xs.length xs :=
  ⟨rfl, hd, .inr ⟨g, rfl, hB, h.row hd⟩⟩
theorem Blk.at_ {w : World} {g : Nat} {xs : List Nat} (h : Blk w g xs) (hd : Dig B64 xs) {n : Nat} (hn : xs.length = n) (hb : n ≤ maxLen) : At w (some ⟨g, 0, none⟩) n n xs := by
  subst hn; exact (h.row hd).at_ (Nat.le_refl _) hb

def Ans (B : Nat) (w' : World) (e : Ending) (n : Nat) : Prop :=
  (n < LIM ∧ ∃ p m zs, e = .returned (.tuple #[.slice p m m, .int .i64 0]) ∧ Own B w' p m zs ∧ Nf B64 zs n ∧ m ≤ 8192) ∨
  (LIM ≤ n ∧ e = .returned (.tuple #[.slice none 0 0, .int .i64 5]))

theorem Nf.form {xs : List Nat} {n : Nat} (h : Nf B64 xs n) (hl : xs.length ≤ 8192) : formB xs = true := (formB_iff xs).2 ⟨hl, h.top⟩
end Go.Proofs.Ythjofcakkaolbaa
namespace Go.Proofs.Ythjofcakkaolbaa
open Go.RowKit Go.Shelf
set_option maxRecDepth 20000
set_option maxHeartbeats 0
def bitsN (n : Nat) : Nat := if n = 0 then 0 else n.log2 + 1
theorem bitsN_zero : bitsN 0 = 0 := rfl
theorem bitsN_lt (n : Nat) : n < 2 ^ bitsN n := by
  unfold bitsN
  split
  · rename_i h; subst h; decide
  · exact Nat.lt_log2_self
theorem bitsN_le (n : Nat) (h : n ≠ 0) : 2 ^ (bitsN n - 1) ≤ n := by
  unfold bitsN
  rw [if_neg h, Nat.add_sub_cancel]
  exact Nat.log2_self_le h
theorem bitsN_unique {n k : Nat} (h1 : n < 2 ^ k) (h2 : n ≠ 0 → 2 ^ (k - 1) ≤ n) (h3 : n = 0 → k = 0) : bitsN n = k := by
  by_cases h0 : n = 0
  · subst h0; rw [h3 rfl]; rfl
  · have a1 := bitsN_lt n
    have a2 := bitsN_le n h0
    have b2 := h2 h0
    have c1 : bitsN n - 1 < k := (Nat.pow_lt_pow_iff_right (by decide : 1 < 2)).1 (Nat.lt_of_le_of_lt a2 h1)
    have c2 : k - 1 < bitsN n := (Nat.pow_lt_pow_iff_right (by decide : 1 < 2)).1 (Nat.lt_of_le_of_lt b2 a1)
    have c3 : bitsN n ≠ 0 := by unfold bitsN; rw [if_neg h0]; omega
    omega
theorem bitsN_half (n : Nat) (h : n ≠ 0) : bitsN n = 1 + bitsN (n / 2) := by
  refine bitsN_unique ?_ ?_ (fun e => absurd e h)
  · have := bitsN_lt (n / 2)
    rw [Nat.add_comm, Nat.pow_succ]; omega
  · intro _
    by_cases h2 : n / 2 = 0
    · rw [h2]; simp [bitsN]; omega
    · have a := bitsN_le _ h2
      have c3 : bitsN (n / 2) ≠ 0 := by unfold bitsN; rw [if_neg h2]; omega
      have e : 1 + bitsN (n / 2) - 1 = bitsN (n / 2) - 1 + 1 := by omega
      rw [e, Nat.pow_succ]; omega
theorem bitsN_top {lo x k l : Nat} (hlo : lo < 2 ^ k) (h1 : x < 2 ^ l) (h2 : 2 ^ (l - 1) ≤ x) (hl : l ≠ 0) : bitsN (lo + 2 ^ k * x) = k + l := by
  have hx : 0 < x := Nat.lt_of_lt_of_le (Nat.two_pow_pos _) h2
  have hp := Nat.two_pow_pos k
  have hk : 2 ^ k * 1 ≤ 2 ^ k * x := Nat.mul_le_mul_left _ hx
  refine bitsN_unique ?_ (fun _ => ?_) (fun e => by omega)
  · have := Nat.mul_le_mul_left (2 ^ k) (show x + 1 ≤ 2 ^ l from h1)
    rw [Nat.mul_add, ← Nat.pow_add] at this; omega
  · have := Nat.mul_le_mul_left (2 ^ k) h2
    rw [← Nat.pow_add] at this
    rw [show k + l - 1 = k + (l - 1) by omega]; omega
end Go.Proofs.Ythjofcakkaolbaa
namespace Go.Proofs.Ythjofcakkaolbaa
open Go.RowKit
set_option maxRecDepth 20000
set_option maxHeartbeats 0
theorem sub_abs {P A B Z cy : Nat} (hs : Z + B = A + P * cy) (h1 : Z < P) (hc : cy ≤ 1) (h2 : B ≤ A) : Z = A - B := by
  by_cases h : cy = 0
  · subst h; omega
  · obtain rfl : cy = 1 := by omega
    omega
theorem Ans.ok {B : Nat} {w' : World} {e : Ending} {n : Nat} (h : Ans B w' e n) (hn : n < LIM) : ∃ p m zs, e = .returned (.tuple #[.slice p m m, .int .i64 0]) ∧ Own B w' p m zs ∧ Nf B64 zs n ∧ m ≤ 8192 := by
  rcases h with ⟨_, h⟩ | ⟨h, _⟩
  · exact h
  · omega
theorem Ans.no {B : Nat} {w' : World} {e : Ending} {n : Nat} (h : Ans B w' e n) (hn : LIM ≤ n) : e = .returned (.tuple #[.slice none 0 0, .int .i64 5]) := by
  rcases h with ⟨h, _⟩ | ⟨_, h⟩
  · omega
  · exact h
theorem below1 (w : World) (o : Obj) : Below w.heap.size w (w.alloc o) := (Below.refl _ _).alloc (Nat.le_refl _) o
theorem below2 (w : World) (o o' : Obj) : Below w.heap.size w ((w.alloc o).alloc o') := (below1 w o).alloc (by simp) o'
theorem Below.on {w w1 w2 : World} (h : Below w.heap.size w w1) (k : Below w1.heap.size w1 w2) : Below w.heap.size w w2 := h.trans (k.mono h.size)
def B32 : Nat := 4294967296
theorem B32_eq : B32 = 4294967296 := rfl
theorem B32_pos : 0 < B32 := by decide
theorem B32_one : 1 < B32 := by decide
theorem B32_two : B32 * B32 = B64 := by decide
abbrev V (n : Nat) : Value := .int .u32 (n : Int)

structure At32 (w : World) (p : Option Addr) (n c : Nat) (xs : List Nat) : Prop where
  len : xs.length = n
  cap : n ≤ c
  big : c ≤ maxLen
  dig : Dig B32 xs
  cells : n = 0 ∨ ∃ g off, p = some ⟨g, off, none⟩ ∧ ∀ j, j < n → w.cell? ⟨g, off + j, none⟩ = some (V (xs.getD j 0))
theorem At32.below {w w' : World} {p : Option Addr} {n c : Nat} {xs : List Nat} (h : At32 w p n c xs) (hb : Below w.heap.size w w') : At32 w' p n c xs := by
  refine ⟨h.len, h.cap, h.big, h.dig, ?_⟩
  rcases h.cells with h0 | ⟨g, off, rfl, hc⟩
  · exact .inl h0
  · exact .inr ⟨g, off, rfl, fun j hj => (hb.cell (p := ⟨g, off + j, none⟩) (World.block_lt_of_cell? w _ (hc j hj))).trans (hc j hj)⟩
theorem At32.drewN {w : World} {p : Option Addr} {n c : Nat} {xs : List Nat} (h : At32 w p n c xs) (q : Nat) : At32 (w.drewN q) p n c xs := ⟨h.len, h.cap, h.big, h.dig, h.cells⟩
theorem At32.alloc {w : World} {p : Option Addr} {n c : Nat} {xs : List Nat} (h : At32 w p n c xs) (o : Obj) : At32 (w.alloc o) p n c xs :=
  h.below ((Below.refl _ _).alloc (Nat.le_refl _) o)
theorem At32.take {w : World} {p : Option Addr} {n c : Nat} {xs : List Nat} (h : At32 w p n c xs) (m : Nat) (hm : m ≤ n) (c' : Nat) (hc : m ≤ c') (hb : c' ≤ maxLen) : At32 w p m c' (xs.take m) := by
  refine ⟨by rw [List.length_take, h.len]; omega, hc, hb, h.dig.take m, ?_⟩
  rcases h.cells with h0 | ⟨g, off, rfl, hcl⟩
  · exact .inl (by omega)
  · refine .inr ⟨g, off, rfl, fun j hj => ?_⟩
    have e : (xs.take m).getD j 0 = xs.getD j 0 := by rw [List.getD_eq_getElem?_getD, List.getD_eq_getElem?_getD, List.getElem?_take, if_pos hj]
    rw [e]; exact hcl j (by omega)
theorem At32.empty (w : World) (p : Option Addr) (c : Nat) (hb : c ≤ maxLen) : At32 w p 0 c [] := ⟨rfl, Nat.zero_le _, hb, Dig.nil _, .inl rfl⟩
theorem Try.infoU32 : (Try.prog.info? 42).map (fun i => (i.zero, i.size, i.bytes)) = some (some (.int .u32 0), 1, 4) := by kernel_rfl
theorem Try.sizeU32 : (Try.prog.info? 42).map (·.size) = some 1 := by kernel_rfl
def cellsV (xs : List Nat) : List Value := xs.map V
theorem madeV (n : Nat) : (madeCells (Value.cells (.int .u32 0)) (n * 1)).toList = cellsV (List.replicate n 0) := by
  unfold madeCells cellsV
  apply List.ext_getElem
  · simp
  · intro i h1 h2
    have e : i % 1 = 0 := Nat.mod_one i
    simp [Value.cells, V, e]
def Blk32 (w : World) (g : Nat) (xs : List Nat) : Prop := w.heap[g]? = some (.cells (cellsV xs).toArray 42 (0, 0))
theorem cellsV_get (xs : List Nat) (j : Nat) (h : j < xs.length) : (cellsV xs)[j]? = some (V (xs.getD j 0)) := by
  unfold cellsV
  rw [List.getElem?_map, List.getElem?_eq_getElem h, List.getD_eq_getElem?_getD, List.getElem?_eq_getElem h]; rfl
theorem Blk32.cell {w : World} {g : Nat} {xs : List Nat} (h : Blk32 w g xs) (j : Nat) (hj : j < xs.length) : w.cell? ⟨g, j, none⟩ = some (V (xs.getD j 0)) := by
  rw [cell_of_row w g j _ _ _ h]
  rw [List.getElem?_toArray]; exact cellsV_get xs j hj
theorem Blk32.lt {w : World} {g : Nat} {xs : List Nat} (h : Blk32 w g xs) : g < w.heap.size := (Array.getElem?_eq_some_iff.1 h).1
theorem own_blk32 {w : World} {base g n : Nat} {xs : List Nat} (h : w.ownsRow base 42 1 (.slice (some ⟨g, 0, none⟩) n n) n (cellsV xs)) : Blk32 w g xs := by
  rcases h.2 with ⟨h', _⟩ | ⟨g', cap', cur, h', _, hg, _, _, hsz, htake⟩
  · simp at h'
  · simp only [Value.slice.injEq, Option.some.injEq, Addr.mk.injEq, and_true, true_and] at h'
    obtain ⟨rfl, rfl⟩ := h'
    have e : cur = (cellsV xs).toArray := by
      rw [← htake, List.take_of_length_le (by rw [Array.length_toList, hsz]; exact Nat.le_refl _)]
    unfold Blk32; rw [← e]; exact hg
theorem splice_cellsV (n : Nat) (xs : List Nat) : splice (cellsV (List.replicate n 0)) 0 (cellsV xs) = cellsV (xs ++ List.replicate (n - xs.length) 0) := by
  unfold splice cellsV
  simp only [List.take_zero, List.nil_append, List.length_map, Nat.zero_add, List.map_append, List.map_replicate, List.drop_replicate]
theorem made_blk32 {w w1 : World} {n : Nat} (hown : w1.ownsRow w.heap.size 42 1 (.slice (some ⟨w.heap.size, 0, none⟩) n n) n (madeCells (Value.cells (.int .u32 0)) (n * 1)).toList) (hgrow : w.grownBy w1 none) :
    Blk32 w1 w.heap.size (List.replicate n 0) ∧ Below w.heap.size w w1 := by
  rw [madeV] at hown
  exact ⟨own_blk32 hown, (Below.refl _ _).grown hgrow (Nat.le_refl _) (fun k hk => by simp at hk)⟩
theorem cellsV_one (xs : List Nat) : ∀ v ∈ cellsV xs, v.oneCell' = true := by
  intro v hv; unfold cellsV at hv; rw [List.mem_map] at hv; obtain ⟨x, _, rfl⟩ := hv; rfl
theorem cellsV_length (xs : List Nat) : (cellsV xs).length = xs.length := by simp [cellsV]
theorem At32.src {w : World} {p : Option Addr} {n c : Nat} {xs : List Nat} (h : At32 w p n c xs) (hn : 0 < n) : ∃ ad, p = some ad ∧ ∀ j v, (cellsV xs)[j]? = some v → w.cell? (ad.add j) = some v := by
  rcases h.cells with h0 | ⟨g, off, rfl, hc⟩
  · omega
  · refine ⟨_, rfl, fun j v hv => ?_⟩
    have hj : j < xs.length := by
      have := (List.getElem?_eq_some_iff.1 hv).1
      rwa [cellsV_length] at this
    have hadd : (⟨g, off, none⟩ : Addr).add j = ⟨g, off + j, none⟩ := by unfold Addr.add; split <;> simp_all
    rw [hadd, hc j (by have := h.len; omega)]
    rw [cellsV_get xs j hj] at hv; exact hv

theorem Blk32.at_ {w : World} {g : Nat} {xs : List Nat} (h : Blk32 w g xs) (hd : Dig B32 xs) {n : Nat} (hn : xs.length = n) (hb : n ≤ maxLen) : At32 w (some ⟨g, 0, none⟩) n n xs := by
  subst hn
  exact ⟨rfl, Nat.le_refl _, hb, hd, .inr ⟨g, 0, rfl, fun j hj => by rw [Nat.zero_add]; exact h.cell j hj⟩⟩
theorem At32.cellAt {w : World} {g off n c : Nat} {xs : List Nat} (h : At32 w (some ⟨g, off, none⟩) n c xs) (j : Nat) (hj : j < n) : w.cell? ⟨g, off + j, none⟩ = some (V (xs.getD j 0)) := by
  obtain ⟨g', o', he, hcell⟩ := h.cells.resolve_left (by omega)
  simp only [Option.some.injEq, Addr.mk.injEq, and_true] at he
  obtain ⟨rfl, rfl⟩ := he
  exact hcell j hj

theorem rnorm_any {p : Option Addr} {n c : Nat} {xs : List Nat} {w : World} (h : At32 w p n c xs) (hn : n ≤ 35184372088832) :
    Calls Try.prog 18 #[.slice p n c] w fun e w' =>
      ∃ g, e = .returned (.slice (some ⟨g, 0, none⟩) (trimL xs).length (trimL xs).length) ∧ w.heap.size ≤ g ∧ Blk32 w' g (trimL xs) ∧ Below w.heap.size w w' := by
  obtain ⟨i0, hi, hz0, hz1, hz2⟩ := info_parts Try.infoU32
  have hl := h.len; have cap := h.cap; have big := h.big
  unfold maxLen at big
  have HL : Hid (xs.length = n) := hl
  clear hl
  go_enter Try.func18, Try.ntmps18
  go_wp2
  go_loopg [3] n (fun gk nv wr => nv = .int .i64 gk ∧ gk ≤ n ∧ Hid (∀ j, gk ≤ j → j < n → xs.getD j 0 = 0) ∧ wr = w)
  case atStart => exact ⟨rfl, Nat.le_refl _, fun j h1 h2 => absurd h1 (by omega), rfl⟩
  case round =>
    obtain ⟨rfl, hgn, HZ, hwr⟩ := hrel
    obtain rfl := hwr.symm
    clear hwr
    by_cases hg0 : gk = 0
    · have HG0 : Hid (gk = 0) := hg0
      have hng : ¬ 0 < gk := by omega
      have hgc : gk ≤ c := by omega
      clear hg0
      cases p
      · have ht : trimL xs = xs.take gk := trimL_of_take xs gk (by rw [HL.out]; omega) (fun j h1 h2 => HZ.out j h1 (by rw [← HL.out]; exact h2)) (.inl HG0.out)
        have hlt : (trimL xs).length = gk := by rw [ht, List.length_take, HL.out]; omega
        have HT : Hid (trimL xs = xs.take gk) := ht
        have HLT : Hid ((trimL xs).length = gk) := hlt
        have hA := h.take gk (by omega) c (by omega) (by unfold maxLen; omega)
        clear ht hlt h
        go_wp2_with (first
          | (at_make; refine wpList_make_full _ rfl _ _ 30 rfl w.heap.size 42 i0 (.int .u32 0) 1 Try.underlying30 hi hz0 hz1 _ _ _ _ gk rfl rfl (by omega) (by omega) (by rw [hz2]; omega) (by unfold maxLen; omega) (Nat.le_refl _) ?_; intro w1 hown hgrow; have hb := made_blk32 hown hgrow; clear hown hgrow)
          | (refine wpList_copy_splice rfl (.tmp 21) (.tmp 24) 30 30 rfl 42 Try.underlying30 Try.sizeU32 (some ⟨w.heap.size, 0, none⟩) _ gk gk gk c rfl rfl w.heap.size 0 (cellsV (List.replicate gk 0)) 42 hb.1 (cellsV (xs.take gk)) (by rw [cellsV_length, hA.len]; exact (Nat.min_self gk).symm) (fun h0 => ⟨rfl, (hA.below hb.2).src (by rw [cellsV_length, hA.len] at h0; exact h0)⟩) (by simp [cellsV_length]; omega) (cellsV_one _) w.heap.size w hb.2 (Nat.le_refl _) ?_; intro w2 hg2 hb2))
        go_ret
        rw [HLT.out, HT.out]
        refine ⟨_, rfl, Nat.le_refl _, ?_, hb2⟩
        rw [splice_cellsV, hA.len, Nat.sub_self, List.replicate_zero, List.append_nil] at hg2
        exact hg2
      · have ht : trimL xs = xs.take gk := trimL_of_take xs gk (by rw [HL.out]; omega) (fun j h1 h2 => HZ.out j h1 (by rw [← HL.out]; exact h2)) (.inl HG0.out)
        have hlt : (trimL xs).length = gk := by rw [ht, List.length_take, HL.out]; omega
        have HT : Hid (trimL xs = xs.take gk) := ht
        have HLT : Hid ((trimL xs).length = gk) := hlt
        have hA := h.take gk (by omega) c (by omega) (by unfold maxLen; omega)
        clear ht hlt h
        go_wp2_with (first
          | (at_make; refine wpList_make_full _ rfl _ _ 30 rfl w.heap.size 42 i0 (.int .u32 0) 1 Try.underlying30 hi hz0 hz1 _ _ _ _ gk rfl rfl (by omega) (by omega) (by rw [hz2]; omega) (by unfold maxLen; omega) (Nat.le_refl _) ?_; intro w1 hown hgrow; have hb := made_blk32 hown hgrow; clear hown hgrow)
          | (refine wpList_copy_splice rfl (.tmp 21) (.tmp 24) 30 30 rfl 42 Try.underlying30 Try.sizeU32 (some ⟨w.heap.size, 0, none⟩) _ gk gk gk c rfl rfl w.heap.size 0 (cellsV (List.replicate gk 0)) 42 hb.1 (cellsV (xs.take gk)) (by rw [cellsV_length, hA.len]; exact (Nat.min_self gk).symm) (fun h0 => ⟨rfl, (hA.below hb.2).src (by rw [cellsV_length, hA.len] at h0; exact h0)⟩) (by simp [cellsV_length]; omega) (cellsV_one _) w.heap.size w hb.2 (Nat.le_refl _) ?_; intro w2 hg2 hb2))
        go_ret
        rw [HLT.out, HT.out]
        refine ⟨_, rfl, Nat.le_refl _, ?_, hb2⟩
        rw [splice_cellsV, hA.len, Nat.sub_self, List.replicate_zero, List.append_nil] at hg2
        exact hg2
    · obtain ⟨g, off, rfl, hc⟩ := h.cells.resolve_left (by omega)
      obtain ⟨x, hx⟩ : ∃ x, x = xs.getD (gk - 1) 0 := ⟨_, rfl⟩
      have hcx : w.cell? ⟨g, off + (gk - 1), none⟩ = some (V x) := by rw [hx]; exact hc (gk - 1) (by omega)
      have hdg : decide ((0 : Int) < (gk : Int)) = true := decide_eq_true (by omega)
      have HX : Hid (x = xs.getD (gk - 1) 0) := hx
      clear hc hx
      by_cases h0 : x = 0
      · subst h0
        go_wp2_with fail
        go_roundg (gk - 1)
        case measure => omega
        case rel =>
          refine ⟨by go_num, by omega, fun j h1 h2 => ?_, rfl⟩
          by_cases hj : j = gk - 1
          · subst hj; exact HX.out.symm
          · exact HZ.out j (by omega) h2
      · have h0' : ((x : Int) == 0) = false := by simp; omega
        have hgc : gk ≤ c := by omega
        have HXN : Hid (xs.getD (gk - 1) 0 ≠ 0) := by rw [← HX.out]; exact h0
        clear h0
        have ht : trimL xs = xs.take gk := trimL_of_take xs gk (by rw [HL.out]; omega) (fun j h1 h2 => HZ.out j h1 (by rw [← HL.out]; exact h2)) (.inr HXN.out)
        have hlt : (trimL xs).length = gk := by rw [ht, List.length_take, HL.out]; omega
        have HT : Hid (trimL xs = xs.take gk) := ht
        have HLT : Hid ((trimL xs).length = gk) := hlt
        have hA := h.take gk (by omega) c (by omega) (by unfold maxLen; omega)
        clear ht hlt h
        go_wp2_with (first
          | (at_make; refine wpList_make_full _ rfl _ _ 30 rfl w.heap.size 42 i0 (.int .u32 0) 1 Try.underlying30 hi hz0 hz1 _ _ _ _ gk rfl rfl (by omega) (by omega) (by rw [hz2]; omega) (by unfold maxLen; omega) (Nat.le_refl _) ?_; intro w1 hown hgrow; have hb := made_blk32 hown hgrow; clear hown hgrow)
          | (refine wpList_copy_splice rfl (.tmp 21) (.tmp 24) 30 30 rfl 42 Try.underlying30 Try.sizeU32 (some ⟨w.heap.size, 0, none⟩) _ gk gk gk c rfl rfl w.heap.size 0 (cellsV (List.replicate gk 0)) 42 hb.1 (cellsV (xs.take gk)) (by rw [cellsV_length, hA.len]; exact (Nat.min_self gk).symm) (fun h0 => ⟨rfl, (hA.below hb.2).src (by rw [cellsV_length, hA.len] at h0; exact h0)⟩) (by simp [cellsV_length]; omega) (cellsV_one _) w.heap.size w hb.2 (Nat.le_refl _) ?_; intro w2 hg2 hb2))
        go_ret
        rw [HLT.out, HT.out]
        refine ⟨_, rfl, Nat.le_refl _, ?_, hb2⟩
        rw [splice_cellsV, hA.len, Nat.sub_self, List.replicate_zero, List.append_nil] at hg2
        exact hg2
end Go.Proofs.Ythjofcakkaolbaa
namespace Go.Proofs.Ythjofcakkaolbaa
set_option maxRecDepth 20000
set_option maxHeartbeats 0
theorem kn_more {b y1 y0 u d q r : Nat} (hd : d < b) (hu : u < y1 * b + y0) (hq : q * y1 + r = u) (hc : b ≤ q ∨ b * r + d < q * y0) : (u * b + d) / (y1 * b + y0) + 1 ≤ q := by
  refine (Nat.div_lt_iff_lt_mul (by omega)).2 ?_
  rcases hc with hc | hc
  · have a1 : b * (y1 * b + y0) ≤ q * (y1 * b + y0) := Nat.mul_le_mul_right _ hc
    have a2 : b * (u + 1) ≤ b * (y1 * b + y0) := Nat.mul_le_mul_left _ hu
    rw [Nat.mul_add, Nat.mul_one, Nat.mul_comm b u] at a2
    omega
  · have a1 : q * (y1 * b + y0) = q * y1 * b + q * y0 := by rw [Nat.mul_add, Nat.mul_assoc]
    have a2 : u * b = q * y1 * b + r * b := by rw [← hq, Nat.add_mul]
    rw [Nat.mul_comm b r] at hc
    omega
theorem kn_exit {b y1 y0 u d q r : Nat} (hu : u < y1 * b + y0) (hq : q * y1 + r = u) (hQ : (u * b + d) / (y1 * b + y0) ≤ q) (hc : q * y0 ≤ b * r + d) : q = (u * b + d) / (y1 * b + y0) := by
  refine Nat.le_antisymm ((Nat.le_div_iff_mul_le (by omega)).2 ?_) hQ
  have a1 : q * (y1 * b + y0) = q * y1 * b + q * y0 := by rw [Nat.mul_add, Nat.mul_assoc]
  have a2 : u * b = q * y1 * b + r * b := by rw [← hq, Nat.add_mul]
  rw [Nat.mul_comm b r] at hc
  omega
theorem kn_far {b y0 d q r : Nat} (h0 : y0 < b) (hq : q ≤ b) (hr : b ≤ r) : q * y0 ≤ b * r + d := by
  have a1 : q * y0 ≤ b * b := Nat.mul_le_mul hq (by omega)
  have a2 : b * b ≤ b * r := Nat.mul_le_mul_left b hr
  omega
theorem kn_lt {b y1 y0 u d : Nat} (hd : d < b) (hu : u < y1 * b + y0) : (u * b + d) / (y1 * b + y0) < b := by
  refine (Nat.div_lt_iff_lt_mul (by omega)).2 ?_
  have a2 : b * (u + 1) ≤ b * (y1 * b + y0) := Nat.mul_le_mul_left _ hu
  rw [Nat.mul_add, Nat.mul_one, Nat.mul_comm b u] at a2
  omega
end Go.Proofs.Ythjofcakkaolbaa
namespace Go.Proofs.Ythjofcakkaolbaa
open Go.RowKit
set_option maxRecDepth 20000
set_option maxHeartbeats 0
theorem wrap_mod (n : Int) (m : Nat) (h : n % 18446744073709551616 = (m : Int)) : IntKind.u64.wrap n = (m : Int) := by rw [IntKind.wrap_u64]; exact h
structure Kn (y1 y0 u d q r : Nat) : Prop where
  eq : q * y1 + r = u
  ge : (u * 4294967296 + d) / (y1 * 4294967296 + y0) ≤ q
  le : q ≤ 4294967297
structure KnC (y1 y0 u d : Nat) : Prop where
  hy0 : y0 < 4294967296
  hd : d < 4294967296
  hu : u < y1 * 4294967296 + y0
  hy1 : 4294967296 ≤ 2 * y1
theorem Kn.down {y1 y0 u d q r : Nat} (k : Kn y1 y0 u d q r) (h : KnC y1 y0 u d) (hc : 4294967296 ≤ q ∨ 4294967296 * r + d < q * y0) : 1 ≤ q ∧ Kn y1 y0 u d (q - 1) (r + y1) := by
  have h1 := kn_more h.hd h.hu k.eq hc
  have h2 := k.le
  have h3 := k.eq
  refine ⟨by generalize (u * 4294967296 + d) / (y1 * 4294967296 + y0) = T at *; omega, ?_, by generalize (u * 4294967296 + d) / (y1 * 4294967296 + y0) = T at *; omega, by omega⟩
  have h4 : 1 ≤ q := by generalize (u * 4294967296 + d) / (y1 * 4294967296 + y0) = T at *; omega
  obtain ⟨t, rfl⟩ : ∃ t, q = t + 1 := ⟨q - 1, by omega⟩
  rw [Nat.add_sub_cancel]
  rw [Nat.add_mul, Nat.one_mul] at h3
  omega
theorem dm (N M : Nat) : N = N / M * M + N % M := by rw [Nat.mul_comm]; exact (Nat.div_add_mod N M).symm
structure KnD (y1 y0 u d q : Nat) (rest : Nat) : Prop where
  lt : q < 4294967296
  eq : u * 4294967296 + d = q * (y1 * 4294967296 + y0) + rest
  rlt : rest < y1 * 4294967296 + y0
theorem Kn.done {y1 y0 u d q r : Nat} (k : Kn y1 y0 u d q r) (h : KnC y1 y0 u d) (hc : q * y0 ≤ 4294967296 * r + d) : KnD y1 y0 u d q ((u * 4294967296 + d) % (y1 * 4294967296 + y0)) := by
  have h1 := kn_exit h.hu k.eq k.ge hc
  have h2 := kn_lt h.hd h.hu
  refine ⟨by omega, ?_, Nat.mod_lt _ (by have := h.hu; omega)⟩
  rw [h1]; exact dm _ _
theorem Kn.far {y1 y0 u d q r : Nat} (k : Kn y1 y0 u d q r) (h : KnC y1 y0 u d) (hq : q ≤ 4294967296) (hr : 4294967296 ≤ r) : KnD y1 y0 u d q ((u * 4294967296 + d) % (y1 * 4294967296 + y0)) :=
  k.done h (kn_far h.hy0 hq hr)
theorem and32 (v : Nat) (h : v < 18446744073709551616) : bits .and .u64 (v : Int) 4294967295 = ((v % 4294967296 : Nat) : Int) := by
  have h1 := bits_and_u64_nat v 4294967295 h (by omega)
  rw [show v &&& 4294967295 = v % 4294967296 from Nat.and_two_pow_sub_one_eq_mod v 32] at h1
  exact h1
theorem div32 (v : Nat) : (v : Int) / 4294967296 = ((v / 4294967296 : Nat) : Int) := by omega
theorem bDrew {B : Nat} {a w : World} (h : Below B a w) : Below B a w.drew := ⟨h.os, h.tape, h.output, h.size, h.block⟩
theorem wrap32 (v : Nat) (h : v < B32) : IntKind.u32.wrap (v : Int) = (v : Int) := by
  rw [B32_eq] at h
  simp [IntKind.wrap, IntKind.signed, IntKind.bits]
  omega
end Go.Proofs.Ythjofcakkaolbaa
namespace Go.Proofs.Ythjofcakkaolbaa
open Go.RowKit Go.Shelf
set_option maxRecDepth 20000
set_option maxHeartbeats 0
theorem trial_step {q d l f s w0 w1 w2 : Nat} (h : q * (s + B64 * f) ≤ w0 + B64 * (w1 + B64 * w2)) (hi : d * f + l = w1 + B64 * w2) (hg : l * B64 + w0 < d * s) : q < d := by
  have h1 : d * (s + B64 * f) = d * s + B64 * (d * f) := by rw [Nat.mul_add, Nat.mul_left_comm]
  have h2 : B64 * (d * f) + B64 * l = B64 * (w1 + B64 * w2) := by rw [← Nat.mul_add, hi]
  have h3 : l * B64 = B64 * l := Nat.mul_comm _ _
  have h4 : q * (s + B64 * f) < d * (s + B64 * f) := by omega
  exact Nat.lt_of_mul_lt_mul_right h4
structure TrialC (ws ds : List Nat) (n w0 w1 w2 s f q : Nat) : Prop where
  e0 : w0 = ws.getD (n - 2) 0
  e1 : w1 = ws.getD (n - 1) 0
  e2 : w2 = ws.getD n 0
  es : s = ds.getD (n - 2) 0
  ef : f = ds.getD (n - 1) 0
  b0 : w0 < B64
  b1 : w1 < B64
  b2 : w2 < B64
  bs : s < B64
  bf : f < B64
  top : q * (s + B64 * f) ≤ w0 + B64 * (w1 + B64 * w2)
  le : w2 ≤ f
  qb : q < B64
theorem At.cellAt {w : World} {g off n c : Nat} {xs : List Nat} (h : At w (some ⟨g, off, none⟩) n c xs) (j : Nat) (hj : j < n) : w.cell? ⟨g, off + j, none⟩ = some (U (xs.getD j 0)) := by
  obtain ⟨g', o', he, hcell⟩ := h.cells.resolve_left (by omega)
  simp only [Option.some.injEq, Addr.mk.injEq, and_true] at he
  obtain ⟨rfl, rfl⟩ := he
  exact hcell j hj

structure TrialR (w1 w2 f q d l o : Nat) : Prop where
  qd : q ≤ d
  db : d < B64
  lb : l < B64
  ob : o ≤ 1
  sum : o = 0 → d * f + l = w1 + B64 * w2
theorem TrialR.down {w0 w1 w2 s f q d l o l' o' : Nat} (h : TrialR w1 w2 f q d l o) {ws ds : List Nat} {n : Nat} (c : TrialC ws ds n w0 w1 w2 s f q) (ho : o = 0) (hg : l * B64 + w0 < d * s) (ha : l + f + 0 = l' + B64 * o') (hl' : l' < B64) (ho' : o' ≤ 1) : 1 ≤ d ∧ TrialR w1 w2 f q (d - 1) l' o' := by
  have h1 := trial_step c.top (h.sum ho) hg
  have h2 := h.db
  refine ⟨by omega, by omega, by omega, hl', ho', fun h0 => ?_⟩
  subst h0
  have h3 := h.sum ho
  have h4 : d * f = (d - 1) * f + f := by rw [← Nat.succ_mul, show (d - 1).succ = d by omega]
  omega
end Go.Proofs.Ythjofcakkaolbaa
namespace Go.Proofs.Ythjofcakkaolbaa
open Go.RowKit
set_option maxRecDepth 20000
set_option maxHeartbeats 0
theorem val_lt_len32 {xs ys : List Nat} (hx : Dig B32 xs) (ty : Top ys) (h : xs.length < ys.length) : valB B32 xs < valB B32 ys := by
  have h1 := valB_lt B32_pos hx
  have h2 := valB_pos B32_pos (show ys ≠ [] by intro e; subst e; simp at h) ty
  have h3 : B32 ^ xs.length ≤ B32 ^ (ys.length - 1) := Nat.pow_le_pow_right B32_pos (by omega)
  omega
theorem val_lt_top32 {xs ys : List Nat} (hx : Dig B32 xs) {n t x y : Nat} (lx : xs.length = n) (ly : ys.length = n) (ht : t < n) (hd : xs.drop (t + 1) = ys.drop (t + 1)) (ex : x = xs.getD t 0) (ey : y = ys.getD t 0) (h : x < y) : valB B32 xs < valB B32 ys := by
  have h1 := valB_lt B32_pos (hx.take t)
  rw [List.length_take, lx, Nat.min_eq_left (by omega)] at h1
  rw [valB_split B32 xs t (by omega), valB_split B32 ys t (by omega), valB_drop _ xs t (by omega), valB_drop _ ys t (by omega), hd, ← ex, ← ey]
  have h2 : B32 ^ t * (x + 1) ≤ B32 ^ t * y := Nat.mul_le_mul_left _ h
  rw [Nat.mul_add] at h2
  rw [Nat.mul_add, Nat.mul_add]
  omega

theorem rcmp_any {p q : Option Addr} {n m c d : Nat} {xs ys : List Nat} {a b : Nat} {w : World} (h : At32 w p n c xs) (k : At32 w q m d ys) (hx : Nf B32 xs a) (hy : Nf B32 ys b) :
    Calls Try.prog 16 #[.slice p n c, .slice q m d] w fun e w' => e = .returned (.int .i64 (cmpN a b)) ∧ ∃ r, w' = w.drewN r := by
  obtain ⟨res, hres⟩ : ∃ res, res = cmpN a b := ⟨_, rfl⟩
  rw [← hres]
  have HRES : Hid (res = cmpN a b) := hres
  have HX : Hid (Nf B32 xs a) := hx
  have HY : Hid (Nf B32 ys b) := hy
  have HLX : Hid (xs.length = n) := h.len
  have HLY : Hid (ys.length = m) := k.len
  have cap := h.cap; have big := h.big; have kcap := k.cap; have kbig := k.big
  unfold maxLen at big kbig
  clear hres hx hy
  by_cases hnm : n = m
  · subst hnm
    go_enter Try.func16, Try.ntmps16
    go_wp2_with fail
    go_loopg [5] n (fun gk iv wr => iv = .int .i64 ((gk : Int) - 1) ∧ gk ≤ n ∧ Hid (xs.drop gk = ys.drop gk) ∧ ∃ r, wr = w.drewN r)
    case atStart => exact ⟨rfl, Nat.le_refl _, by show _ = _; rw [List.drop_of_length_le (by rw [HLX.out]; omega), List.drop_of_length_le (by rw [HLY.out]; omega)], 0, by first | rfl | simp⟩
    case round =>
      obtain ⟨rfl, hgn, HD, r, rfl⟩ := hrel
      by_cases hg0 : gk = 0
      · have hr : res = 0 := HRES.out.trans (cmpN_eq (by have h0 := HD.out; rw [hg0, List.drop_zero, List.drop_zero] at h0; rw [← HX.out.val, ← HY.out.val, h0]))
        have HR : Hid (res = 0) := hr
        have hdec : decide ((0 : Int) ≤ (gk : Int) - 1) = false := decide_eq_false (by omega)
        have hdec' : ¬ 1 ≤ gk := by omega
        clear hr
        go_wp2_with fail
        go_ret
        exact ⟨ret_int HR.out.symm, r, rfl⟩
      · obtain ⟨g, off, rfl, hc⟩ := h.cells.resolve_left (by omega)
        obtain ⟨g2, off2, rfl, hc2⟩ := k.cells.resolve_left (by omega)
        obtain ⟨x, hx⟩ : ∃ x, x = xs.getD (gk - 1) 0 := ⟨_, rfl⟩
        obtain ⟨y, hy⟩ : ∃ y, y = ys.getD (gk - 1) 0 := ⟨_, rfl⟩
        have cx : w.cell? ⟨g, off + (gk - 1), none⟩ = some (V x) := by rw [hx]; exact hc _ (by omega)
        have cy : w.cell? ⟨g2, off2 + (gk - 1), none⟩ = some (V y) := by rw [hy]; exact hc2 _ (by omega)
        have hdec : decide ((0 : Int) ≤ (gk : Int) - 1) = true := decide_eq_true (by omega)
        have hdec' : 1 ≤ gk := by omega
        have hix : 1 ≤ (gk : Int) ∧ (gk : Int) - 1 < (n : Int) := by omega
        have HXE : Hid (x = xs.getD (gk - 1) 0) := hx
        have HYE : Hid (y = ys.getD (gk - 1) 0) := hy
        have HD1 : Hid (xs.drop (gk - 1 + 1) = ys.drop (gk - 1 + 1)) := by rw [show gk - 1 + 1 = gk by omega]; exact HD.out
        clear hc hc2 hx hy
        rcases Nat.lt_trichotomy x y with hlt | heq | hgt
        · have hr : res = -1 := HRES.out.trans (cmpN_lt (by have := val_lt_top32 HX.out.dig HLX.out HLY.out (t := gk - 1) (by omega) HD1.out HXE.out HYE.out hlt; rw [HX.out.val, HY.out.val] at this; exact this))
          have HR : Hid (res = -1) := hr
          have hl' : (x : Int) < (y : Int) := by omega
          clear hr
          go_wp2_with fail
          go_quiet (fail)
          go_wp2_with fail
          go_ret
          exact ⟨ret_int HR.out.symm, _, by first | rfl | (rw [drewN_two])⟩
        · subst heq
          have hl' : ¬ (x : Int) < (x : Int) := by omega
          go_wp2_with fail
          go_quiet (fail)
          go_wp2_with fail
          go_quiet (fail)
          go_wp2_with fail
          go_roundg (gk - 1)
          case measure => omega
          case rel =>
            refine ⟨by go_num, by omega, ?_, _, by first | rfl | (rw [drewN_two, drewN_two]) | (rw [drewN_two])⟩
            exact drop_step HLX.out HLY.out (by omega) HD1.out (by rw [← HXE.out, ← HYE.out])
        · have hr : res = 1 := HRES.out.trans (cmpN_gt (by have := val_lt_top32 HY.out.dig HLY.out HLX.out (t := gk - 1) (by omega) HD1.out.symm HYE.out HXE.out hgt; rw [HX.out.val, HY.out.val] at this; exact this))
          have HR : Hid (res = 1) := hr
          have hl' : ¬ (x : Int) < (y : Int) := by omega
          have hl2 : (y : Int) < (x : Int) := by omega
          clear hr
          go_wp2_with fail
          go_quiet (fail)
          go_wp2_with fail
          go_quiet (fail)
          go_wp2_with fail
          go_ret
          exact ⟨ret_int HR.out.symm, _, by first | rfl | (rw [drewN_two, drewN_two]) | (rw [drewN_two])⟩
  · have hnm' : ((n : Int) != (m : Int)) = true := by simp; omega
    by_cases hlt : n < m
    · have hr : res = -1 := HRES.out.trans (cmpN_lt (by have := val_lt_len32 HX.out.dig HY.out.top (by rw [HLX.out, HLY.out]; exact hlt); rw [HX.out.val, HY.out.val] at this; exact this))
      have HR : Hid (res = -1) := hr
      have hlt' : (n : Int) < (m : Int) := by omega
      clear hr
      go_enter Try.func16, Try.ntmps16
      go_wp2_with fail
      go_ret
      exact ⟨ret_int HR.out.symm, 0, by first | rfl | simp⟩
    · have hr : res = 1 := HRES.out.trans (cmpN_gt (by have := val_lt_len32 HY.out.dig HX.out.top (by rw [HLX.out, HLY.out]; omega); rw [HX.out.val, HY.out.val] at this; exact this))
      have HR : Hid (res = 1) := hr
      have hlt' : ¬ (n : Int) < (m : Int) := by omega
      clear hr
      go_enter Try.func16, Try.ntmps16
      go_wp2_with fail
      go_ret
      exact ⟨ret_int HR.out.symm, 0, by first | rfl | simp⟩
end Go.Proofs.Ythjofcakkaolbaa
namespace Go.Proofs.Ythjofcakkaolbaa
open Go.RowKit Go.Shelf
set_option maxRecDepth 20000
set_option maxHeartbeats 0
structure WinRel (w : World) (g off n : Nat) (W D d b : Nat) (ws : List Nat) (wr : World) : Prop where
  wrs : Wr g off (n + 1) w wr
  row : Row wr g off (n + 1) ws
  db : d < B64
  bb : b ≤ 1
  ge : W / D ≤ d
  sum : valB B64 ws + D * d = W + B64 ^ (n + 1) * b
theorem WinRel.done {w : World} {g off n W D d : Nat} {ws : List Nat} {wr : World} (h : WinRel w g off n W D d 0 ws wr) (hD : 0 < D) : d = W / D ∧ valB B64 ws = W % D := by
  have h1 := h.sum; have h2 := h.ge
  rw [Nat.mul_zero, Nat.add_zero] at h1
  have h3 : d ≤ W / D := (Nat.le_div_iff_mul_le hD).2 (by rw [Nat.mul_comm]; omega)
  have h4 : d = W / D := by omega
  refine ⟨h4, ?_⟩
  have h5 := Nat.div_add_mod W D
  rw [← h4] at h5
  omega
structure DigRel (w : World) (gq gr L n : Nat) (A D : Nat) (k : Nat) (qs rs : List Nat) (wr : World) : Prop where
  bel : ∀ B, B ≤ gq → B ≤ gr → Below B w wr
  rowq : Row wr gq 0 L qs
  rowr : Row wr gr 0 (L + n) rs
  cell : ∀ b o, b ≠ gq → b ≠ gr → wr.cell? ⟨b, o, none⟩ = w.cell? ⟨b, o, none⟩
  lt : valB B64 (rs.drop (L - k)) < D
  sum : valB B64 rs + B64 ^ (L - k) * valB B64 (qs.drop (L - k)) * D = A

theorem win_take (rs : List Nat) (a m : Nat) (h : a + m ≤ rs.length) : valB B64 rs = valB B64 (rs.take a) + B64 ^ a * (valB B64 ((rs.drop a).take m) + B64 ^ m * valB B64 (rs.drop (a + m))) := by
  rw [valB_split B64 rs a (by omega), valB_split B64 (rs.drop a) m (by rw [List.length_drop]; omega), List.drop_drop]
def winPut (rs ws : List Nat) (a : Nat) : List Nat := rs.take a ++ ws ++ rs.drop (a + ws.length)
theorem winPut_len (rs ws : List Nat) (a : Nat) (h : a + ws.length ≤ rs.length) : (winPut rs ws a).length = rs.length := by
  unfold winPut; simp; omega
theorem winPut_get (rs ws : List Nat) (a j : Nat) (h : a + ws.length ≤ rs.length) : (winPut rs ws a).getD j 0 = if a ≤ j ∧ j < a + ws.length then ws.getD (j - a) 0 else rs.getD j 0 := by
  unfold winPut
  rw [List.getD_eq_getElem?_getD, List.getElem?_append, List.getElem?_append]
  simp only [List.length_append, List.length_take, Nat.min_eq_left (by omega : a ≤ rs.length)]
  by_cases h1 : j < a
  · rw [if_pos (by omega), if_pos (by omega), List.getElem?_take, if_pos h1, if_neg (by omega), List.getD_eq_getElem?_getD]
  · by_cases h2 : j < a + ws.length
    · rw [if_pos h2, if_neg h1, if_pos ⟨by omega, h2⟩, List.getD_eq_getElem?_getD]
    · rw [if_neg h2, if_neg (by omega), List.getElem?_drop, List.getD_eq_getElem?_getD]
      congr 2; omega
theorem Row.win {w : World} {g m : Nat} {rs : List Nat} (h : Row w g 0 m rs) (a l : Nat) (ha : a + l ≤ m) : Row w g a l ((rs.drop a).take l) := by
  have hl := h.len
  refine ⟨by simp; omega, (h.dig.drop a).take l, fun j hj => ?_, fun j hj => ?_⟩
  · have e : ((rs.drop a).take l).getD j 0 = rs.getD (a + j) 0 := by
      rw [List.getD_eq_getElem?_getD, List.getD_eq_getElem?_getD, List.getElem?_take, if_pos hj, List.getElem?_drop]
    rw [e]
    have := h.cell (a + j) (by omega)
    rw [Nat.zero_add] at this; exact this
  · have := h.frozen (a + j) (by omega)
    rw [Nat.zero_add] at this; exact this
theorem Row.put {w w' : World} {g m a l : Nat} {rs ws : List Nat} (h : Row w g 0 m rs) (hwr : Wr g a l w w') (hr : Row w' g a l ws) (ha : a + l ≤ m) : Row w' g 0 m (winPut rs ws a) := by
  have hl := h.len; have hwl := hr.len
  have hle : a + ws.length ≤ rs.length := by omega
  refine ⟨by rw [winPut_len rs ws a hle]; exact hl, ?_, fun j hj => ?_, fun j hj => ?_⟩
  · unfold winPut; exact ((h.dig.take a).append hr.dig).append (h.dig.drop _)
  · rw [winPut_get rs ws a j hle, Nat.zero_add]
    by_cases hc : a ≤ j ∧ j < a + ws.length
    · rw [if_pos hc]
      have := hr.cell (j - a) (by omega)
      rw [show a + (j - a) = j by omega] at this; exact this
    · rw [if_neg hc, hwr.cell g j (by omega)]
      have := h.cell j hj
      rw [Nat.zero_add] at this; exact this
  · rw [hwr.frozen]; exact h.frozen j hj
theorem Row.other {w : World} {g off n : Nat} {xs : List Nat} (h : Row w g off n xs) (g2 o2 : Nat) (v : Value) (hne : g ≠ g2) : Row (w.setCell ⟨g2, o2, none⟩ v) g off n xs := by
  refine ⟨h.len, h.dig, fun j hj => ?_, fun j hj => by rw [World.frozen?_setCell]; exact h.frozen j hj⟩
  exact (World.cell?_setCell_other _ _ _ _ (by intro e; apply hne; have := congrArg Addr.block e; simp at this; omega)).trans (h.cell j hj)
theorem Row.wr {w w' : World} {g off n g2 o2 l2 : Nat} {xs : List Nat} (h : Row w g off n xs) (hwr : Wr g2 o2 l2 w w') (hne : g ≠ g2) : Row w' g off n xs :=
  ⟨h.len, h.dig, fun j hj => (hwr.cell g (off + j) (.inl hne)).trans (h.cell j hj), fun j hj => (hwr.frozen _).trans (h.frozen j hj)⟩
theorem At.wr {w w' : World} {g off n c g2 o2 l2 : Nat} {xs : List Nat} (h : At w (some ⟨g, off, none⟩) n c xs) (hwr : Wr g2 o2 l2 w w') (hne : g ≠ g2) : At w' (some ⟨g, off, none⟩) n c xs :=
  ⟨h.len, h.cap, h.big, h.dig, by
    rcases h.cells with h0 | ⟨g', o', he, hc⟩
    · exact .inl h0
    · refine .inr ⟨g', o', he, fun j hj => ?_⟩
      simp only [Option.some.injEq, Addr.mk.injEq, and_true] at he
      rw [← he.1, ← he.2] at hc ⊢
      exact (hwr.cell g (off + j) (.inl hne)).trans (hc j hj)⟩
theorem DigRel.window {w : World} {gq gr L n A D k : Nat} {qs rs : List Nat} {wr : World} (h : DigRel w gq gr L n A D k qs rs wr) (hk : k < L) (hDn : D < B64 ^ n) :
    ∃ a ws, a = L - 1 - k ∧ ws = (rs.drop a).take (n + 1) ∧ Row wr gr a (n + 1) ws ∧ valB B64 ws < B64 * D ∧ valB B64 rs = valB B64 (rs.take a) + B64 ^ a * valB B64 ws ∧ valB B64 (rs.drop (a + (n + 1))) = 0 := by
  have hl := h.rowr.len
  obtain ⟨a, ha⟩ : ∃ a, a = L - 1 - k := ⟨_, rfl⟩
  have hlt := h.lt
  rw [show L - k = a + 1 by omega] at hlt
  have hz : valB B64 (rs.drop (a + (n + 1))) = 0 := by
    have hs := valB_split B64 (rs.drop (a + 1)) n (by rw [List.length_drop]; omega)
    rw [List.drop_drop, show a + 1 + n = a + (n + 1) by omega] at hs
    rcases Nat.eq_zero_or_pos (valB B64 (rs.drop (a + (n + 1)))) with e | e
    · exact e
    · exfalso
      have : B64 ^ n * 1 ≤ B64 ^ n * valB B64 (rs.drop (a + (n + 1))) := Nat.mul_le_mul_left _ e
      omega
  have hw := win_take rs a (n + 1) (by omega)
  rw [hz, Nat.mul_zero, Nat.add_zero] at hw
  refine ⟨a, _, ha, rfl, h.rowr.win a (n + 1) (by omega), ?_, hw, hz⟩
  have hs := valB_split B64 (rs.drop a) (n + 1) (by rw [List.length_drop]; omega)
  rw [List.drop_drop, hz, Nat.mul_zero, Nat.add_zero] at hs
  rw [← hs, valB_drop B64 rs a (by omega)]
  have hb := h.rowr.dig.getD B64_pos a
  have : B64 * (valB B64 (rs.drop (a + 1)) + 1) ≤ B64 * D := Nat.mul_le_mul_left _ hlt
  rw [Nat.mul_add] at this
  omega
structure Row32 (w : World) (g off n : Nat) (xs : List Nat) : Prop where
  len : xs.length = n
  dig : Dig B32 xs
  cell : ∀ j, j < n → w.cell? ⟨g, off + j, none⟩ = some (V (xs.getD j 0))
  frozen : ∀ j, j < n → w.frozen? ⟨g, off + j, none⟩ = false
theorem Row32.at_ {w : World} {g off n c : Nat} {xs : List Nat} (h : Row32 w g off n xs) (hc : n ≤ c) (hb : c ≤ maxLen) : At32 w (some ⟨g, off, none⟩) n c xs :=
  ⟨h.len, hc, hb, h.dig, .inr ⟨g, off, rfl, h.cell⟩⟩
theorem Row32.set {w : World} {g off n : Nat} {xs : List Nat} (h : Row32 w g off n xs) (k y : Nat) (hk : k < n) (hy : y < B32) : Row32 (w.setCell ⟨g, off + k, none⟩ (V y)) g off n (xs.set k y) := by
  refine ⟨by rw [List.length_set]; exact h.len, h.dig.set k hy, fun j hj => ?_, fun j hj => by rw [World.frozen?_setCell]; exact h.frozen j hj⟩
  rw [getD_set xs k y j (by rw [h.len]; exact hk)]
  by_cases e : j = k
  · subst e; rw [if_pos rfl]; exact World.cell?_setCell_same _ _ _ (h.cell j hj)
  · rw [if_neg e]
    exact (World.cell?_setCell_other _ _ _ _ (by intro e2; apply e; have := congrArg Addr.off e2; simp at this; omega)).trans (h.cell j hj)
theorem Row32.drewN {w : World} {g off n : Nat} {xs : List Nat} (h : Row32 w g off n xs) (q : Nat) : Row32 (w.drewN q) g off n xs := ⟨h.len, h.dig, h.cell, h.frozen⟩
theorem Row32.drew {w : World} {g off n : Nat} {xs : List Nat} (h : Row32 w g off n xs) : Row32 w.drew g off n xs := ⟨h.len, h.dig, h.cell, h.frozen⟩
theorem Blk32.frozen {w : World} {g : Nat} {xs : List Nat} (h : Blk32 w g xs) (j : Nat) : w.frozen? ⟨g, j, none⟩ = false := frozen_of_row w g j _ _ h
theorem Blk32.row {w : World} {g : Nat} {xs : List Nat} (h : Blk32 w g xs) (hd : Dig B32 xs) : Row32 w g 0 xs.length xs :=
  ⟨rfl, hd, fun j hj => by rw [Nat.zero_add]; exact h.cell j hj, fun j _ => h.frozen _⟩
theorem Row32.win {w : World} {g m : Nat} {rs : List Nat} (h : Row32 w g 0 m rs) (a l : Nat) (ha : a + l ≤ m) : Row32 w g a l ((rs.drop a).take l) := by
  have hl := h.len
  refine ⟨by simp; omega, (h.dig.drop a).take l, fun j hj => ?_, fun j hj => ?_⟩
  · have e : ((rs.drop a).take l).getD j 0 = rs.getD (a + j) 0 := by
      rw [List.getD_eq_getElem?_getD, List.getD_eq_getElem?_getD, List.getElem?_take, if_pos hj, List.getElem?_drop]
    rw [e]
    have := h.cell (a + j) (by omega)
    rw [Nat.zero_add] at this; exact this
  · have := h.frozen (a + j) (by omega)
    rw [Nat.zero_add] at this; exact this
theorem Row32.put {w w' : World} {g m a l : Nat} {rs ws : List Nat} (h : Row32 w g 0 m rs) (hwr : Wr g a l w w') (hr : Row32 w' g a l ws) (ha : a + l ≤ m) : Row32 w' g 0 m (winPut rs ws a) := by
  have hl := h.len; have hwl := hr.len
  have hle : a + ws.length ≤ rs.length := by omega
  refine ⟨by rw [winPut_len rs ws a hle]; exact hl, ?_, fun j hj => ?_, fun j hj => ?_⟩
  · unfold winPut; exact ((h.dig.take a).append hr.dig).append (h.dig.drop _)
  · rw [winPut_get rs ws a j hle, Nat.zero_add]
    by_cases hc : a ≤ j ∧ j < a + ws.length
    · rw [if_pos hc]
      have := hr.cell (j - a) (by omega)
      rw [show a + (j - a) = j by omega] at this; exact this
    · rw [if_neg hc, hwr.cell g j (by omega)]
      have := h.cell j hj
      rw [Nat.zero_add] at this; exact this
  · rw [hwr.frozen]; exact h.frozen j hj
theorem win_take32 (rs : List Nat) (a m : Nat) (h : a + m ≤ rs.length) : valB B32 rs = valB B32 (rs.take a) + B32 ^ a * (valB B32 ((rs.drop a).take m) + B32 ^ m * valB B32 (rs.drop (a + m))) := by
  rw [valB_split B32 rs a (by omega), valB_split B32 (rs.drop a) m (by rw [List.length_drop]; omega), List.drop_drop]

structure RMulRel (w : World) (g off m : Nat) (zs ys : List Nat) (v k cy : Nat) (dk : List Nat) (wr : World) : Prop where
  wrs : Wr g off m w wr
  row : Row32 wr g off m dk
  hi : dk.drop k = zs.drop k
  car : cy < B32
  sum : valB B32 (dk.take k) + B32 ^ k * cy = valB B32 (zs.take k) + valB B32 (ys.take k) * v
theorem RMulRel.drewN {w : World} {g off m : Nat} {zs ys : List Nat} {v k cy : Nat} {dk : List Nat} {wr : World} (h : RMulRel w g off m zs ys v k cy dk wr) (q : Nat) : RMulRel w g off m zs ys v k cy dk (wr.drewN q) :=
  ⟨h.wrs.drewN q, h.row.drewN q, h.hi, h.car, h.sum⟩
theorem rmul_digit {x y z cy : Nat} (hx : x < B32) (hy : y < B32) (hz : z < B32) (hc : cy < B32) : x * y + z + cy < B64 := by
  have h1 : x * y ≤ (B32 - 1) * (B32 - 1) := Nat.mul_le_mul (by omega) (by omega)
  have h2 : (B32 - 1) * (B32 - 1) + 2 * (B32 - 1) < B64 := by decide
  omega
theorem B64_sq (k : Nat) : B64 ^ k = B32 ^ (2 * k) := by rw [Nat.pow_mul, show B32 ^ 2 = B64 from rfl]
structure RToR (w : World) (g N m : Nat) (ds : List Nat) (k : Nat) (us : List Nat) (wr : World) : Prop where
  bel : Below g w wr
  own : wr.ownsRow g 25 1 (.slice (some ⟨g, 0, none⟩) k N) k (cellsU us)
  len : us.length = k
  dig : Dig B64 us
  top : m ≤ 2 * k → Top us
  val : valB B64 us = valB B32 (ds.take (2 * k))
theorem rto_val {us ds : List Nat} {k x y : Nat} (h : valB B64 us = valB B32 (ds.take (2 * k))) (hl : us.length = k) (ex : x = ds.getD (2 * k) 0) (ey : y = ds.getD (2 * k + 1) 0) : valB B64 (us ++ [x + B32 * y]) = valB B32 (ds.take (2 * (k + 1))) := by
  rw [valB_snoc, hl, h, B64_sq, show 2 * (k + 1) = 2 * k + 1 + 1 by omega, valB_take_any _ ds (2 * k + 1), valB_take_any _ ds (2 * k), ← ex, ← ey, Nat.pow_succ, Nat.mul_add, Nat.mul_assoc]
  omega
theorem top_snoc (us : List Nat) {x : Nat} (h : x ≠ 0) : Top (us ++ [x]) := by
  intro z hz; simp at hz; omega
theorem own_at {wr : World} {g i N : Nat} {ss : List Nat} (ho : wr.ownsRow g 25 1 (.slice (some ⟨g, 0, none⟩) i N) i (cellsU ss)) (hl : ss.length = i) (hd : Dig B64 ss) : At wr (some ⟨g, 0, none⟩) i N ss := by
  rcases ho.2 with ⟨h', _⟩ | ⟨g', cap', cur, h', hbase, hgc, hcap', hmx, hsz, htake⟩
  · simp at h'
  · simp only [Value.slice.injEq, Option.some.injEq, Addr.mk.injEq, and_true, true_and] at h'
    obtain ⟨rfl, rfl⟩ := h'
    refine ⟨hl, hcap', hmx, hd, .inr ⟨g, 0, rfl, fun jj hj => ?_⟩⟩
    rw [Nat.zero_add, cell_of_row wr g jj _ _ _ hgc]
    have e1 := cellsU_get ss jj (by rw [hl]; exact hj)
    rw [← htake, Nat.mul_one, List.getElem?_take, if_pos hj] at e1
    rw [← Array.getElem?_toList]; exact e1
theorem one_cellU (w : World) (x : Nat) : ∀ (j : Nat) (u : Value), [U x][j]? = some u → (w.alloc (.cells #[U x] 25)).cell? ((⟨w.heap.size, 0, none⟩ : Addr).add j) = some u := by
  intro j u h
  have hb : Blk (w.alloc (.cells #[U x] 25)) w.heap.size [x] := heap_alloc_new w _
  have hj : j < 1 := by
    have := (List.getElem?_eq_some_iff.1 h).1
    simpa using this
  have hadd : (⟨w.heap.size, 0, none⟩ : Addr).add j = ⟨w.heap.size, j, none⟩ := by unfold Addr.add; split <;> simp_all
  rw [hadd, hb.cell j (by simpa using hj)]
  obtain rfl : j = 0 := by omega
  simpa using h

theorem rto_any {p : Option Addr} {n c : Nat} {xs : List Nat} {w : World} (h : At32 w p n c xs) (hn : n ≤ 35184372088832) :
    Calls Try.prog 39 #[.slice p n c] w fun e w' => ∃ g k N us, e = .returned (.slice (some ⟨g, 0, none⟩) k N) ∧ w.heap.size ≤ g ∧ At w' (some ⟨g, 0, none⟩) k N us ∧ Nf B64 us (valB B32 xs) ∧ Below w.heap.size w w' := by
  obtain ⟨i0, hi, hz0, hz1, hz2⟩ := info_parts Try.infoU64
  have HDG : Hid (Dig B32 xs) := h.dig
  have hlx := h.len
  have hle := trimL_length_le xs
  have hm0 : (trimL xs).length ≤ 35184372088832 := by omega
  have HV : Hid (valB B32 (trimL xs) = valB B32 xs) := valB_trimL _ _
  have HTOP : Hid (Top (trimL xs)) := Top_trimL xs
  have HDT : Hid (Dig B32 (trimL xs)) := h.dig.trimL
  clear hlx hle
  go_enter Try.func39, Try.ntmps39
  go_wp2_with fail
  refine (rnorm_any h (by omega)).mono ?_
  rintro e w0 ⟨gd, rfl, hgd, hblk, hb0⟩
  have A0 := hblk.at_ HDT.out rfl (by unfold maxLen; omega)
  generalize trimL xs = ds at *
  obtain ⟨m, hm⟩ : ∃ m, m = ds.length := ⟨_, rfl⟩
  rw [← hm] at A0 hm0 ⊢
  have HM : Hid (m = ds.length) := hm
  clear hm hblk h
  have hNi : (m : Int).tdiv 2 = ((m / 2 : Nat) : Int) := by rw [Int.tdiv_eq_ediv_of_nonneg (by omega)]; omega
  go_wp2_with (at_make; refine wpList_make_own _ rfl _ _ 70 rfl w0.heap.size 25 i0 (.int .u64 0) 1 Try.underlying70 hi hz0 hz1 _ _ _ (m / 2 + 1) rfl rfl (by omega) (by rw [hz2]; omega) (by unfold maxLen; omega) (Nat.le_refl _) ?_; intro w1 hown hgrow)
  have hb1 : Below w0.heap.size w0 w1 := (Below.refl _ _).grown hgrow (Nat.le_refl _) (fun k hk => by simp at hk)
  have HO : Hid (RToR w0 w0.heap.size (m / 2 + 1) m ds 0 [] w1) := ⟨hb1, hown, rfl, Dig.nil _, fun _ => by intro x hx; simp at hx, by simp [valB]⟩
  clear hown hgrow hb1 hNi
  obtain ⟨N, hN⟩ : ∃ N, N = m / 2 + 1 := ⟨_, rfl⟩
  rw [← hN] at HO ⊢
  have HN : Hid (N = m / 2 + 1) := hN
  have hNb : N ≤ 17592186044417 := by omega
  clear hN
  go_loopg [4, 5] N (fun gk lv iv wr => ∃ (k i : Nat) (us : List Nat), k + gk = N ∧ Hid (i = 2 * k) ∧ iv = .int .i64 i ∧ lv = .slice (some ⟨w0.heap.size, 0, none⟩) k N ∧ Hid (RToR w0 w0.heap.size N m ds k us wr))
  case atStart => exact ⟨0, 0, [], by omega, rfl, rfl, rfl, HO⟩
  case round =>
    obtain ⟨k, i, us, hkg, HI, rfl, rfl, HR⟩ := hrel
    by_cases him : i < m
    · have hsp : k + 1 ≤ N := by have := HI.out; have := HN.out; omega
      obtain ⟨x, hx⟩ : ∃ x, x = ds.getD i 0 := ⟨_, rfl⟩
      obtain ⟨y, hy⟩ : ∃ y, y = ds.getD (i + 1) 0 := ⟨_, rfl⟩
      have hxb : x < B32 := by rw [hx]; exact HDT.out.getD B32_pos i
      have hyb : y < B32 := by rw [hy]; exact HDT.out.getD B32_pos (i + 1)
      rw [B32_eq] at hxb hyb
      have c0 : w0.cell? ⟨gd, i, none⟩ = some (V x) := by
        have := A0.cellAt i (by omega)
        rw [Nat.zero_add] at this
        rw [hx]; exact this
      have c1 : wr.cell? ⟨gd, i, none⟩ = some (V x) := (HR.out.bel.cell (p := ⟨gd, i, none⟩) (World.block_lt_of_cell? w0 _ c0)).trans c0
      have hxw : IntKind.u64.wrap (x : Int) = (x : Int) := wrap_mod _ _ (by omega)
      have hyw : IntKind.u64.wrap (y : Int) = (y : Int) := wrap_mod _ _ (by omega)
      obtain ⟨yh, eyh⟩ : ∃ yh, yh = 4294967296 * y := ⟨_, rfl⟩
      have f1 : IntKind.u64.wrap ((y : Int) * 4294967296) = (yh : Int) := wrap_mod _ _ (by omega)
      obtain ⟨ww, eww⟩ : ∃ ww, ww = x + yh := ⟨_, rfl⟩
      have f2 : IntKind.u64.wrap ((x : Int) + (yh : Int)) = (ww : Int) := wrap_mod _ _ (by omega)
      have hwb : ww < B64 := by rw [B64_eq]; omega
      have EW : Hid (ww = x + B32 * y) := by show _ = _; rw [B32_eq]; omega
      have HXE : Hid (x = ds.getD (2 * k) 0) := by rw [← HI.out]; exact hx
      have HYE : Hid (y = ds.getD (2 * k + 1) 0) := by rw [← HI.out]; exact hy
      have HTT : Hid (m ≤ 2 * (k + 1) → ww ≠ 0) := by
        intro hle
        have hi2 := HI.out
        by_cases h1 : i + 1 < m
        · have : y ≠ 0 := by
            refine HTOP.out y ?_
            rw [List.getLast?_eq_getElem?, ← HM.out, show m - 1 = i + 1 by omega, hy, List.getD_eq_getElem?_getD, List.getElem?_eq_getElem (by have := HM.out; omega)]; rfl
          omega
        · have : x ≠ 0 := by
            refine HTOP.out x ?_
            rw [List.getLast?_eq_getElem?, ← HM.out, show m - 1 = i by omega, hx, List.getD_eq_getElem?_getD, List.getElem?_eq_getElem (by have := HM.out; omega)]; rfl
          omega
      have HOA : Hid ((wr.alloc (.cells #[U ww] 25)).ownsRow w0.heap.size 25 1 (.slice (some ⟨w0.heap.size, 0, none⟩) k N) k (cellsU us)) := HR.out.own.alloc _
      by_cases h1 : i + 1 < m
      · have d0 : w0.cell? ⟨gd, i + 1, none⟩ = some (V y) := by
          have := A0.cellAt (i + 1) (by omega)
          rw [Nat.zero_add] at this
          rw [hy]; exact this
        have d1 : wr.cell? ⟨gd, i + 1, none⟩ = some (V y) := (HR.out.bel.cell (p := ⟨gd, i + 1, none⟩) (World.block_lt_of_cell? w0 _ d0)).trans d0
        clear hx hy c0 d0 eyh eww hxb hyb
        go_wp2_with (at_builtin; refine wpList_append_fits _ rfl (.tmp 39) (.tmp 41) 70 rfl w0.heap.size 25 i0 1 Try.underlying70 hi hz1 w0.heap.size k N (cellsU us) rfl HOA.out ⟨wr.heap.size, 0, none⟩ 1 1 [U ww] rfl rfl (one_cellU wr ww) (by intro u hu; simp at hu; subst hu; rfl) hsp ?_; intro w3 hw3 hgr3)
        have HR3 : Hid (RToR w0 w0.heap.size N m ds (k + 1) (us ++ [ww]) w3) := by
          have hR := HR.out
          refine ⟨(hR.bel.alloc hR.bel.size _).grown hgr3 (by have := hR.bel.size; simp; omega) (fun q hq => by simp at hq; omega), ?_, by simp [hR.len], hR.dig.append (dig1 hwb), fun hle => top_snoc us (HTT.out hle), ?_⟩
          · have e0 : cellsU (us ++ [ww]) = cellsU us ++ [U ww] := by unfold cellsU; rw [List.map_append]; rfl
            rw [e0]; exact hw3
          · rw [EW.out]; exact rto_val hR.val hR.len HXE.out HYE.out
        clear hw3 hgr3
        go_roundg (gk - 1)
        case measure => omega
        case rel => exact ⟨k + 1, i + 2, us ++ [ww], by omega, by have := HI.out; show _ = _; omega, by go_num, rfl, HR3⟩
      · have hy0 : y = 0 := by rw [hy, List.getD_eq_getElem?_getD, List.getElem?_eq_none (by have := HM.out; omega)]; rfl
        have eyx : ww = x := by omega
        subst eyx
        clear hx hy c0 eyh eww hxb hyb f1 f2 hyw
        go_wp2_with (at_builtin; refine wpList_append_fits _ rfl (.tmp 39) (.tmp 41) 70 rfl w0.heap.size 25 i0 1 Try.underlying70 hi hz1 w0.heap.size k N (cellsU us) rfl HOA.out ⟨wr.heap.size, 0, none⟩ 1 1 [U ww] rfl rfl (one_cellU wr ww) (by intro u hu; simp at hu; subst hu; rfl) hsp ?_; intro w3 hw3 hgr3)
        have HR3 : Hid (RToR w0 w0.heap.size N m ds (k + 1) (us ++ [ww]) w3) := by
          have hR := HR.out
          refine ⟨(hR.bel.alloc hR.bel.size _).grown hgr3 (by have := hR.bel.size; simp; omega) (fun q hq => by simp at hq; omega), ?_, by simp [hR.len], hR.dig.append (dig1 hwb), fun hle => top_snoc us (HTT.out hle), ?_⟩
          · have e0 : cellsU (us ++ [ww]) = cellsU us ++ [U ww] := by unfold cellsU; rw [List.map_append]; rfl
            rw [e0]; exact hw3
          · rw [EW.out]; exact rto_val hR.val hR.len HXE.out HYE.out
        clear hw3 hgr3
        go_roundg (gk - 1)
        case measure => omega
        case rel => exact ⟨k + 1, i + 2, us ++ [ww], by omega, by have := HI.out; show _ = _; omega, by go_num, rfl, HR3⟩
    · have hR := HR.out
      have hi2 := HI.out
      have AT := own_at hR.own hR.len hR.dig
      have HNF : Hid (Nf B64 us (valB B32 xs)) := by
        refine ⟨hR.dig, hR.top (by omega), ?_⟩
        have hv := hR.val
        rw [List.take_of_length_le (by have := HM.out; omega), HV.out] at hv; exact hv
      have hbx := Below.on hb0 hR.bel
      have hgz := hb0.size
      clear hR hi2
      go_wp2_with fail
      go_ret
      exact ⟨_, k, N, us, rfl, by omega, AT, HNF.out, hbx⟩
-- the document's side
theorem nf32_lt {zs : List Nat} {v K : Nat} (h : Nf B32 zs v) (hl : zs.length ≤ K) : v < B32 ^ K := by
  rw [← h.val]
  exact Nat.lt_of_lt_of_le (valB_lt B32_pos h.dig) (Nat.pow_le_pow_right B32_pos hl)
theorem nf32_ge {zs : List Nat} {v K : Nat} (h : Nf B32 zs v) (hl : K < zs.length) : B32 ^ K ≤ v := by
  rw [← h.val]
  exact Nat.le_trans (Nat.pow_le_pow_right B32_pos (by omega)) (valB_pos B32_pos (by intro e; rw [e] at hl; simp at hl) h.top)

theorem B32_pow (k : Nat) : B32 ^ k = 2 ^ (32 * k) := by rw [show B32 = 2 ^ 32 from rfl, ← Nat.pow_mul]
theorem bitsN_list32 {us : List Nat} {m x : Nat} (hd : Dig B32 us) (ht : Top us) (hl : us.length = m) (hm : m ≠ 0) (hx : x = us.getD (m - 1) 0) : bitsN (valB B32 us) = 32 * (m - 1) + bitsN x := by
  have h1 := valB_lt B32_pos (hd.take (m - 1))
  rw [List.length_take, hl, Nat.min_eq_left (by omega), B32_pow] at h1
  have hx0 : x ≠ 0 := by
    rw [hx]
    refine ht _ ?_
    rw [List.getLast?_eq_getElem?, hl, List.getD_eq_getElem?_getD, List.getElem?_eq_getElem (by omega)]; rfl
  have e : valB B32 us = valB B32 (us.take (m - 1)) + B32 ^ (m - 1) * x := by
    have := valB_take_succ B32 us (m - 1) (by omega)
    rw [show m - 1 + 1 = m by omega, List.take_of_length_le (by omega), ← hx] at this
    exact this
  rw [e, B32_pow]
  exact bitsN_top h1 (bitsN_lt x) (bitsN_le x hx0) (by unfold bitsN; rw [if_neg hx0]; omega)
theorem half_int (g : Nat) : (g : Int).tdiv 2 = ((g / 2 : Nat) : Int) := by
  rw [Int.tdiv_eq_ediv_of_nonneg (Int.natCast_nonneg g)]; omega

theorem rbits_any {p : Option Addr} {n c : Nat} {zs : List Nat} {v : Nat} {w : World} (h : At32 w p n c zs) (hx : Nf B32 zs v) (hn : n ≤ 35184372088832) :
    Calls Try.prog 13 #[.slice p n c] w fun e w' => e = .returned (.int .i64 (bitsN v)) ∧ w' = w := by
  have hl := h.len; have hcap := h.cap; have hbig := h.big
  unfold maxLen at hbig
  by_cases h0 : n = 0
  · subst h0
    have hv : v = 0 := by rw [← hx.val]; rw [List.eq_nil_of_length_eq_zero hl]; rfl
    subst hv
    clear hx
    go_enter Try.func13, Try.ntmps13
    go_wp2_with fail
    go_ret
    exact ⟨rfl, rfl⟩
  · obtain ⟨g, off, rfl, hc⟩ := h.cells.resolve_left h0
    obtain ⟨x, hx0⟩ : ∃ x, x = zs.getD (n - 1) 0 := ⟨_, rfl⟩
    have hcx : w.cell? ⟨g, off + (n - 1), none⟩ = some (V x) := by rw [hx0]; exact hc _ (by omega)
    have hxl : x < B32 := by
      rw [hx0, List.getD_eq_getElem?_getD, List.getElem?_eq_getElem (by omega)]
      exact h.dig _ (List.getElem_mem _)
    obtain ⟨T, hT⟩ : ∃ T, T = 32 * (n - 1) + bitsN x := ⟨_, rfl⟩
    have HT : Hid (bitsN v = T) := by show _ = _; rw [← hx.val, hT]; exact bitsN_list32 hx.dig hx.top hl h0 hx0
    have HX : Hid (x < B32) := hxl
    have HTT : Hid (T = 32 * (n - 1) + bitsN x) := hT
    obtain ⟨M, hM⟩ : ∃ M, M = n - 1 := ⟨_, rfl⟩
    have hn1 : (n : Int) - 1 = (M : Int) := by omega
    have h0' : ((n : Int) == 0) = false := by simp; omega
    rw [← hM] at hcx
    have HM : Hid (M = n - 1) := hM
    have hMl : M < n := by omega
    clear hx hl hc hx0 hxl hT h hM
    go_enter Try.func13, Try.ntmps13
    go_wp2_with fail
    have hTb : T ≤ 1200000000000000 := by
      have h1 := HTT.out
      have h2 : bitsN x ≤ 32 := by
        rcases Nat.lt_or_ge 32 (bitsN x) with e | e
        · exfalso
          have h3 : x ≠ 0 := by intro e0; rw [e0, bitsN_zero] at e; omega
          have h4 := bitsN_le x h3
          have h5 : (2:Nat) ^ 32 ≤ 2 ^ (bitsN x - 1) := Nat.pow_le_pow_right (by decide) (by omega)
          have h6 := HX.out
          rw [B32_eq] at h6
          omega
        · exact e
      omega
    go_loopg [3, 4] x (fun gk nv wv wr => ∃ N : Nat, nv = .int .i64 N ∧ wv = .int .u32 gk ∧ N + bitsN gk = T ∧ gk < B32 ∧ wr = w)
    case atStart => exact ⟨32 * M, by first | rfl | (congr 1; omega) | (simp; omega), rfl, by rw [HTT.out, HM.out], HX.out, rfl⟩
    case round =>
      obtain ⟨N, rfl, rfl, hNT, hgB, hwr⟩ := hrel
      obtain rfl := hwr.symm
      clear hwr
      by_cases hg0 : gk = 0
      · subst hg0
        rw [bitsN_zero] at hNT
        have HNT : Hid (N = T) := by show _ = _; omega
        clear hNT hgB
        go_wp2_with fail
        go_ret
        exact ⟨by rw [HT.out, ← HNT.out]; rfl, rfl⟩
      · have hb := bitsN_half gk hg0
        have hN1 : N + 1 ≤ 1200000000000000 := by omega
        have hgp : (0 : Int) < (gk : Int) := by omega
        have hh := half_int gk
        obtain ⟨k2, hk2⟩ : ∃ k2, k2 = gk / 2 := ⟨_, rfl⟩
        rw [← hk2] at hh hb
        have HK2 : Hid (k2 < gk ∧ N + 1 + bitsN k2 = T ∧ k2 < B32) := ⟨by omega, by omega, by omega⟩
        have hw2 : IntKind.u32.wrap (k2 : Int) = (k2 : Int) := wrap32 k2 (by omega)
        clear hb hNT hgB hk2 hg0
        go_wp2_with fail
        go_roundg k2
        case measure => exact HK2.out.1
        case rel => exact ⟨N + 1, by first | rfl | simp, by first | rfl | simp, HK2.out.2.1, HK2.out.2.2, rfl⟩

def DocIs (v : Nat) (us : List Nat) (f : Int) : Prop := (v < LIM ∧ Nf B64 us v ∧ f = 0) ∨ (LIM ≤ v ∧ us = [] ∧ f = 5)
theorem divsmall_abs {L x d B V W q r : Nat} (h : V * d + L = W) (hq : L * B + x = q * d + r) : (q + B * V) * d + r = x + B * W := by
  rw [← h, Nat.add_mul, Nat.mul_add]
  have e : B * V * d = B * (V * d) := by rw [Nat.mul_assoc]
  rw [e]
  have e2 : B * L = L * B := Nat.mul_comm _ _
  omega
theorem drop_set_self (qs : List Nat) (j y : Nat) (h : j < qs.length) : (qs.set j y).drop j = y :: qs.drop (j + 1) := by
  rw [List.drop_eq_getElem_cons (by simpa using h), List.getElem_set_self, List.drop_set_of_lt (by omega)]

theorem bSet0 {B : Nat} {a w : World} (h : Below B a w) (g o : Nat) (v : Value) (hB : B ≤ g) : Below B a (w.setCell ⟨g, o, none⟩ v) :=
  h.trans ((Wr.refl g o 1 w).setCell o ⟨by omega, by omega⟩ v |>.below hB)
structure DSm (w : World) (g n d : Nat) (xs : List Nat) (k L : Nat) (qs : List Nat) (wr : World) : Prop where
  bel : Below w.heap.size w wr
  row : Row32 wr g 0 n qs
  lt : L < d
  val : valB B32 (qs.drop k) * d + L = valB B32 (xs.drop k)

theorem rdivsmall {p : Option Addr} {n c : Nat} {xs : List Nat} {w : World} (h : At32 w p n c xs) (hn : n ≤ 1099511627776) (d : Nat) (hd : 1 ≤ d) (hdb : d < B32) :
    Calls Try.prog 25 #[.slice p n c, .int .u32 d] w fun e w' => ∃ p' m' zs r, e = .returned (.tuple #[.slice p' m' m', .int .u32 r]) ∧ At32 w' p' m' m' zs ∧ Nf B32 zs (valB B32 xs / d) ∧ m' ≤ n ∧ Below w.heap.size w w' := by
  obtain ⟨i0, hi, hz0, hz1, hz2⟩ := info_parts Try.infoU32
  have HLX : Hid (xs.length = n) := h.len
  have hcap := h.cap; have hbig := h.big
  unfold maxLen at hbig
  have hd0 : ((d : Int) == 0) = false := by simp; omega
  have HDB : Hid (1 ≤ d ∧ d < B32) := ⟨hd, hdb⟩
  have hdw : IntKind.u64.wrap (d : Int) = (d : Int) := wrap_mod _ _ (by rw [B32_eq] at hdb; omega)
  clear hdb
  go_enter Try.func25, Try.ntmps25
  go_wp2_with (at_make; refine wpList_make_full _ rfl _ _ 30 rfl w.heap.size 42 i0 (.int .u32 0) 1 Try.underlying30 hi hz0 hz1 _ _ _ _ n rfl rfl (by omega) (by omega) (by rw [hz2]; omega) (by unfold maxLen; omega) (Nat.le_refl _) ?_; intro w1 hown hgrow; have hb := made_blk32 hown hgrow; clear hown hgrow)
  have HO : Hid (DSm w w.heap.size n d xs n 0 (List.replicate n 0) w1) := by
    have hr := hb.1.row (Dig.replicate B32 n B32_pos)
    rw [List.length_replicate] at hr
    refine ⟨hb.2, hr, by omega, ?_⟩
    rw [List.drop_of_length_le (by rw [List.length_replicate]; exact Nat.le_refl _), List.drop_of_length_le (by rw [HLX.out]; exact Nat.le_refl _)]
    simp [valB]
  clear hb
  go_loopg [7, 8] n (fun gk lv iv wr => ∃ (L : Nat) (z : Int) (qs : List Nat), lv = U L ∧ iv = .int .i64 z ∧ z = (gk : Int) - 1 ∧ gk ≤ n ∧ Hid (DSm w w.heap.size n d xs gk L qs wr))
  case atStart => exact ⟨0, (n : Int) - 1, _, rfl, rfl, rfl, Nat.le_refl _, HO⟩
  case round =>
    obtain ⟨L, z, qs, rfl, rfl, hz, hgn, HR⟩ := hrel
    cases gk with
    | zero =>
      obtain rfl : z = -1 := by omega
      have hR := HR.out
      have A32 : At32 wr (some ⟨w.heap.size, 0, none⟩) n n qs := hR.row.at_ (Nat.le_refl _) (by unfold maxLen; omega)
      have hv := hR.val
      rw [List.drop_zero, List.drop_zero] at hv
      have HV : Hid (valB B32 qs = valB B32 xs / d) := by
        show _ = _
        have h1 := hR.lt
        rw [← hv, Nat.mul_comm, Nat.mul_add_div (by omega), Nat.div_eq_of_lt h1, Nat.add_zero]
      have HNF : Hid (Nf B32 (trimL qs) (valB B32 xs / d)) := by
        have := Nf.trim hR.row.dig
        rw [HV.out] at this; exact this
      have hle := trimL_length_le qs
      have HLE : Hid ((trimL qs).length ≤ n) := by have := hR.row.len; show _ ≤ _; omega
      have hLw : IntKind.u32.wrap (L : Int) = (L : Int) := wrap32 L (by have := hR.lt; have := HDB.out.2; omega)
      have hbx := hR.bel
      clear hR hv hle hz HR
      go_wp2_with fail
      refine (rnorm_any A32 (by omega)).mono ?_
      rintro e w5 ⟨g5, rfl, hg5, hblk5, hb5⟩
      have hd5 := HNF.out.dig
      generalize trimL qs = us at *
      go_wp2_with fail
      go_ret2
      exact ⟨_, _, us, _, rfl, hblk5.at_ hd5 rfl (by have := HLE.out; unfold maxLen; omega), HNF.out, HLE.out, Below.on hbx hb5⟩
    | succ j =>
      obtain rfl : z = (j : Int) := by omega
      obtain ⟨g, off, rfl, hc⟩ := h.cells.resolve_left (by omega)
      obtain ⟨x, hx⟩ : ∃ x, x = xs.getD j 0 := ⟨_, rfl⟩
      have hcx0 : w.cell? ⟨g, off + j, none⟩ = some (V x) := by rw [hx]; exact hc j (by omega)
      have hcx : wr.cell? ⟨g, off + j, none⟩ = some (V x) := (HR.out.bel.cell (p := ⟨g, off + j, none⟩) (World.block_lt_of_cell? w _ hcx0)).trans hcx0
      have hxb : x < B32 := by rw [hx]; exact h.dig.getD B32_pos j
      have hjn : j < n := by omega
      have hct : wr.cell? ⟨w.heap.size, j, none⟩ = some (V (qs.getD j 0)) := by
        have := HR.out.row.cell j hjn
        rw [Nat.zero_add] at this; exact this
      have hft : wr.frozen? ⟨w.heap.size, j, none⟩ = false := by
        have := HR.out.row.frozen j hjn
        rw [Nat.zero_add] at this; exact this
      have hL := HR.out.lt
      have hdB := HDB.out.2
      rw [B32_eq] at hdB hxb
      obtain ⟨T, hT⟩ : ∃ T, T = L * 4294967296 + x := ⟨_, rfl⟩
      obtain ⟨lh, hlh⟩ : ∃ lh, lh = L * 4294967296 := ⟨_, rfl⟩
      have f1 : IntKind.u64.wrap ((L : Int) * 4294967296) = (lh : Int) := wrap_mod _ _ (by omega)
      have f2 : IntKind.u64.wrap ((lh : Int) + (x : Int)) = (T : Int) := wrap_mod _ _ (by omega)
      have fx : IntKind.u64.wrap (x : Int) = (x : Int) := wrap_mod _ _ (by omega)
      obtain ⟨Q, hQ⟩ : ∃ Q, Q = T / d := ⟨_, rfl⟩
      obtain ⟨R, hRr⟩ : ∃ R, R = T % d := ⟨_, rfl⟩
      have q1 : (T : Int).tdiv (d : Int) = (Q : Int) := by rw [hQ, Int.tdiv_eq_ediv_of_nonneg (Int.natCast_nonneg T)]; norm_cast
      have q2 : (T : Int) / (d : Int) = (Q : Int) := by rw [hQ]; norm_cast
      have r1 : (T : Int).tmod (d : Int) = (R : Int) := by rw [hRr, Int.tmod_eq_emod_of_nonneg (Int.natCast_nonneg T)]; norm_cast
      have r2 : (T : Int) % (d : Int) = (R : Int) := by rw [hRr]; norm_cast
      have hRd : R < d := by rw [hRr]; exact Nat.mod_lt _ hd
      have hQB : Q < B32 := by
        rw [hQ, B32_eq]
        refine Nat.div_lt_of_lt_mul ?_
        have : L * 4294967296 + 4294967296 ≤ d * 4294967296 := by
          have := Nat.mul_le_mul_right 4294967296 (show L + 1 ≤ d by omega)
          rw [Nat.add_mul] at this; omega
        omega
      have fq : IntKind.u32.wrap (Q : Int) = (Q : Int) := wrap32 Q hQB
      have fq2 : IntKind.u64.wrap (Q : Int) = (Q : Int) := wrap_mod _ _ (by rw [B32_eq] at hQB; omega)
      have fq3 : (Q : Int) % 4294967296 = (Q : Int) := by rw [B32_eq] at hQB; omega
      have hQR : L * B32 + x = Q * d + R := by rw [B32_eq, ← hT, hQ, hRr, Nat.mul_comm]; exact (Nat.div_add_mod T d).symm
      have HS : Hid (DSm w w.heap.size n d xs j R (qs.set j Q) (wr.setCell ⟨w.heap.size, j, none⟩ (V Q))) := by
        have hR := HR.out
        have hs := hR.row.set j Q hjn hQB
        rw [Nat.zero_add] at hs
        refine ⟨bSet0 hR.bel _ _ _ (Nat.le_refl _), hs, hRd, ?_⟩
        rw [drop_set_self qs j Q (by rw [hR.row.len]; exact hjn), valB_cons, valB_drop B32 xs j (by rw [HLX.out]; exact hjn), ← hx]
        exact divsmall_abs hR.val hQR
      clear hz HR hc hx hcx0 hQ hRr hT hlh hQR hL hdB hxb hRd hQB
      go_wp2_with fail
      go_roundg j
      case measure => omega
      case rel => exact ⟨R, (j : Int) - 1, qs.set j Q, rfl, rfl, rfl, by omega, HS⟩
structure WinRel32 (w : World) (g off n : Nat) (W D d b : Nat) (ws : List Nat) (wr : World) : Prop where
  wrs : Wr g off (n + 1) w wr
  row : Row32 wr g off (n + 1) ws
  db : d < B32
  bb : b ≤ 1
  ge : W / D ≤ d
  sum : valB B32 ws + D * d = W + B32 ^ (n + 1) * b
theorem WinRel32.done {w : World} {g off n W D d : Nat} {ws : List Nat} {wr : World} (h : WinRel32 w g off n W D d 0 ws wr) (hD : 0 < D) : d = W / D ∧ valB B32 ws = W % D := by
  have h1 := h.sum; have h2 := h.ge
  rw [Nat.mul_zero, Nat.add_zero] at h1
  have h3 : d ≤ W / D := (Nat.le_div_iff_mul_le hD).2 (by rw [Nat.mul_comm]; omega)
  have h4 : d = W / D := by omega
  refine ⟨h4, ?_⟩
  have h5 := Nat.div_add_mod W D
  rw [← h4] at h5
  omega
structure RAddR (w : World) (g N M : Nat) (xs ys : List Nat) (i cy : Nat) (ss : List Nat) (wr : World) : Prop where
  bel : Below g w wr
  own : wr.ownsRow g 42 1 (.slice (some ⟨g, 0, none⟩) i N) i (cellsV ss)
  len : ss.length = i
  dig : Dig B32 ss
  car : cy ≤ 1
  fin : i ≤ M + 1
  last : i = M + 1 → cy = 0
  sum : valB B32 ss + B32 ^ i * cy = valB B32 (xs.take i) + valB B32 (ys.take i)
theorem radd_step {xs ys ss : List Nat} {i cy x y lo hh : Nat} (h : valB B32 ss + B32 ^ i * cy = valB B32 (xs.take i) + valB B32 (ys.take i)) (hl : ss.length = i) (ex : x = xs.getD i 0) (ey : y = ys.getD i 0) (hs : cy + x + y = lo + B32 * hh) :
    valB B32 (ss ++ [lo]) + B32 ^ (i + 1) * hh = valB B32 (xs.take (i + 1)) + valB B32 (ys.take (i + 1)) := by
  rw [valB_snoc, hl, valB_take_any _ xs i, valB_take_any _ ys i, ← ex, ← ey, Nat.pow_succ]
  have e1 : B32 ^ i * (cy + x + y) = B32 ^ i * (lo + B32 * hh) := by rw [hs]
  rw [Nat.mul_add, Nat.mul_add, Nat.mul_add, ← Nat.mul_assoc] at e1
  omega
theorem RAddR.at_ {w : World} {g N M : Nat} {xs ys : List Nat} {i cy : Nat} {ss : List Nat} {wr : World} (h : RAddR w g N M xs ys i cy ss wr) : At32 wr (some ⟨g, 0, none⟩) i N ss := by
  rcases h.own.2 with ⟨h', _⟩ | ⟨g', cap', cur, h', hbase, hgc, hcap', hmx, hsz, htake⟩
  · simp at h'
  · simp only [Value.slice.injEq, Option.some.injEq, Addr.mk.injEq, and_true, true_and] at h'
    obtain ⟨rfl, rfl⟩ := h'
    refine ⟨h.len, hcap', hmx, h.dig, .inr ⟨g, 0, rfl, fun jj hj => ?_⟩⟩
    rw [Nat.zero_add, cell_of_row wr g jj _ _ _ hgc]
    have e1 := cellsV_get ss jj (by rw [h.len]; exact hj)
    rw [← htake, Nat.mul_one, List.getElem?_take, if_pos hj] at e1
    rw [← Array.getElem?_toList]; exact e1
theorem one_cell (w : World) (x : Nat) : ∀ (j : Nat) (u : Value), [V x][j]? = some u → (w.alloc (.cells #[V x] 42)).cell? ((⟨w.heap.size, 0, none⟩ : Addr).add j) = some u := by
  intro j u h
  have hb : Blk32 (w.alloc (.cells #[V x] 42)) w.heap.size [x] := heap_alloc_new w _
  have hj : j < 1 := by
    have := (List.getElem?_eq_some_iff.1 h).1
    simpa using this
  have hadd : (⟨w.heap.size, 0, none⟩ : Addr).add j = ⟨w.heap.size, j, none⟩ := by unfold Addr.add; split <;> simp_all
  rw [hadd, hb.cell j (by simpa using hj)]
  obtain rfl : j = 0 := by omega
  simpa using h

theorem radd_any {p q : Option Addr} {n m c d : Nat} {xs ys : List Nat} {a b : Nat} {w : World} (h : At32 w p n c xs) (k : At32 w q m d ys) (hx : Nf B32 xs a) (hy : Nf B32 ys b) (hn : n ≤ 4398046511104) (hm : m ≤ 4398046511104) :
    Calls Try.prog 22 #[.slice p n c, .slice q m d] w fun e w' => ∃ p' m' zs, e = .returned (.slice p' m' m') ∧ At32 w' p' m' m' zs ∧ Nf B32 zs (a + b) ∧ Below w.heap.size w w' := by
  obtain ⟨i0, hi, hz0, hz1, hz2⟩ := info_parts Try.infoU32
  have HX : Hid (Nf B32 xs a) := hx
  have HY : Hid (Nf B32 ys b) := hy
  have HLX : Hid (xs.length = n) := h.len
  have HLY : Hid (ys.length = m) := k.len
  have hcap := h.cap; have hbig := h.big; have kcap := k.cap; have kbig := k.big
  unfold maxLen at hbig kbig
  obtain ⟨M, hM⟩ : ∃ M, M = max n m := ⟨_, rfl⟩
  have hM1 : n ≤ M := by omega
  have hM2 : m ≤ M := by omega
  have HM : Hid (M = n ∨ M = m) := by show _ ∨ _; omega
  have hMi : max (n : Int) (m : Int) = (M : Int) := by omega
  have hMb : M ≤ 4398046511104 := by omega
  clear hx hy hM
  go_enter Try.func22, Try.ntmps22
  go_wp2_with (at_make; refine wpList_make_own _ rfl _ _ 30 rfl w.heap.size 42 i0 (.int .u32 0) 1 Try.underlying30 hi hz0 hz1 _ _ _ (M + 1) rfl rfl (by omega) (by rw [hz2]; omega) (by unfold maxLen; omega) (Nat.le_refl _) ?_; intro w1 hown hgrow)
  have hb1 : Below w.heap.size w w1 := (Below.refl _ _).grown hgrow (Nat.le_refl _) (fun k hk => by simp at hk)
  have HO : Hid (RAddR w w.heap.size (M + 1) M xs ys 0 0 [] w1) := ⟨hb1, hown, rfl, Dig.nil _, by omega, by omega, fun _ => rfl, by simp [valB]⟩
  clear hown hgrow hb1 hMi
  obtain ⟨N, hN⟩ : ∃ N, N = M + 1 := ⟨_, rfl⟩
  rw [← hN] at HO ⊢
  have HN : Hid (N = M + 1) := hN
  clear hN
  -- the loop
  go_loopg [5, 6, 7] (M + 1) (fun gk sv cv iv wr => ∃ (i cy : Nat) (ss : List Nat), i + gk = M + 1 ∧ iv = .int .i64 i ∧ cv = U cy ∧ sv = .slice (some ⟨w.heap.size, 0, none⟩) i N ∧ Hid (RAddR w w.heap.size N M xs ys i cy ss wr))
  case atStart => exact ⟨0, 0, [], by omega, rfl, rfl, rfl, HO⟩
  case round =>
    obtain ⟨i, cy, ss, hig, rfl, rfl, rfl, HR⟩ := hrel
    have hcy := HR.out.car
    by_cases hall : ¬ i < n ∧ ¬ i < m ∧ cy = 0
    · obtain ⟨ha, hb, rfl⟩ := hall
      have A32 := HR.out.at_
      have hv := HR.out.sum
      rw [Nat.mul_zero, Nat.add_zero, List.take_of_length_le (by rw [HLX.out]; omega), List.take_of_length_le (by rw [HLY.out]; omega), HX.out.val, HY.out.val] at hv
      have HNF : Hid (Nf B32 (trimL ss) (a + b)) := by
        have := Nf.trim HR.out.dig
        rw [hv] at this; exact this
      have hle := trimL_length_le ss
      have HLE : Hid ((trimL ss).length ≤ M + 1) := by have := HR.out.len; have := HR.out.fin; show _ ≤ _; omega
      have hib := HR.out.fin
      have hbx := HR.out.bel
      have hc0 : ¬ (0 : Int) < ((0 : Nat) : Int) := by omega
      clear hv hle
      go_wp2_with fail
      refine (rnorm_any A32 (by omega)).mono ?_
      rintro e w5 ⟨g5, rfl, hg5, hblk5, hb5⟩
      have hd5 := HNF.out.dig
      generalize trimL ss = zs at *
      go_wp2_with fail
      go_ret
      exact ⟨_, _, zs, rfl, hblk5.at_ hd5 rfl (by have := HLE.out; unfold maxLen; omega), HNF.out, Below.on hbx hb5⟩
    · obtain ⟨x, hx⟩ : ∃ x, x = xs.getD i 0 := ⟨_, rfl⟩
      obtain ⟨y, hy⟩ : ∃ y, y = ys.getD i 0 := ⟨_, rfl⟩
      have hxb : x < B32 := by rw [hx]; exact HX.out.dig.getD B32_pos i
      have hyb : y < B32 := by rw [hy]; exact HY.out.dig.getD B32_pos i
      have HXE : Hid (x = xs.getD i 0) := hx
      have HYE : Hid (y = ys.getD i 0) := hy
      clear hx hy
      cases gk with
      | zero =>
        exfalso
        have h1 := HR.out.last (by omega)
        exact hall ⟨by omega, by omega, h1⟩
      | succ gg =>
        by_cases ha : i < n
        · by_cases hb : i < m
          · have hin : i < n := ha
            obtain ⟨g, off, rfl, hc⟩ := h.cells.resolve_left (by omega)
            have hcx0 : w.cell? ⟨g, off + i, none⟩ = some (V x) := by rw [HXE.out]; exact hc i hin
            have hcx : wr.cell? ⟨g, off + i, none⟩ = some (V x) := (HR.out.bel.cell (p := ⟨g, off + i, none⟩) (World.block_lt_of_cell? w _ hcx0)).trans hcx0
            have hxw : IntKind.u64.wrap (x : Int) = (x : Int) := wrap_mod _ _ (by rw [B32_eq] at hxb; omega)
            clear hc hcx0
            have him : i < m := hb
            obtain ⟨g2, off2, rfl, hc2⟩ := k.cells.resolve_left (by omega)
            have hcy0 : w.cell? ⟨g2, off2 + i, none⟩ = some (V y) := by rw [HYE.out]; exact hc2 i him
            have hcy1 : wr.cell? ⟨g2, off2 + i, none⟩ = some (V y) := (HR.out.bel.cell (p := ⟨g2, off2 + i, none⟩) (World.block_lt_of_cell? w _ hcy0)).trans hcy0
            have hyw : IntKind.u64.wrap (y : Int) = (y : Int) := wrap_mod _ _ (by rw [B32_eq] at hyb; omega)
            clear hc2 hcy0
            obtain ⟨t1, et1⟩ : ∃ t1, t1 = cy + x := ⟨_, rfl⟩
            obtain ⟨t2, et2⟩ : ∃ t2, t2 = t1 + y := ⟨_, rfl⟩
            rw [B32_eq] at hxb hyb
            have f1 : IntKind.u64.wrap ((cy : Int) + (x : Int)) = (t1 : Int) := wrap_mod _ _ (by omega)
            have f2 : IntKind.u64.wrap ((t1 : Int) + (y : Int)) = (t2 : Int) := wrap_mod _ _ (by omega)
            have ht2 : t2 < 18446744073709551616 := by omega
            obtain ⟨lo, elo⟩ : ∃ lo, lo = t2 % B32 := ⟨_, rfl⟩
            obtain ⟨hh, ehh⟩ : ∃ hh, hh = t2 / B32 := ⟨_, rfl⟩
            have hlob : lo < B32 := by rw [elo]; exact Nat.mod_lt _ B32_pos
            have hhb : hh ≤ 1 := by rw [ehh, B32_eq]; omega
            have f4 : bits .and .u64 (t2 : Int) 4294967295 = (lo : Int) := by rw [elo, B32_eq]; exact and32 t2 ht2
            have f5 : (t2 : Int) / 4294967296 = (hh : Int) := by rw [ehh, B32_eq]; exact div32 t2
            have f6 : IntKind.u32.wrap (lo : Int) = (lo : Int) := wrap32 lo hlob
            have HSUM : Hid (cy + x + y = lo + B32 * hh) := by
              have := Nat.mod_add_div t2 B32
              rw [← elo, ← ehh] at this
              show _ = _; omega
            have HLAST : Hid (i + 1 = M + 1 → hh = 0) := by
              intro hl
              exfalso; omega
            have HI1 : Hid (i + 1 ≤ M + 1) := by
              have h1 := HR.out.fin; have h2 := HR.out.last
              show _ ≤ _; omega
            have HOA : Hid ((wr.alloc (.cells #[V lo] 42)).ownsRow w.heap.size 42 1 (.slice (some ⟨w.heap.size, 0, none⟩) i N) i (cellsV ss)) := HR.out.own.alloc _
            have hsp : i + 1 ≤ N := by have := HI1.out; have := HN.out; omega
            clear et1 et2 elo ehh hxb hyb
            go_wp2_with (at_builtin; refine wpList_append_fits _ rfl (.tmp 53) (.tmp 57) 30 rfl w.heap.size 42 i0 1 Try.underlying30 hi hz1 w.heap.size i N (cellsV ss) rfl HOA.out ⟨wr.heap.size, 0, none⟩ 1 1 [V lo] rfl rfl (one_cell wr lo) (by intro u hu; simp at hu; subst hu; rfl) hsp ?_; intro w3 hw3 hgr3)
            have HR3 : Hid (RAddR w w.heap.size N M xs ys (i + 1) hh (ss ++ [lo]) w3) := by
              have hR := HR.out
              refine ⟨(hR.bel.alloc hR.bel.size _).grown hgr3 (by have := hR.bel.size; simp; omega) (fun q hq => by simp at hq; omega), ?_, by simp [hR.len], hR.dig.append (Dig.cons hlob (Dig.nil _)), hhb, HI1.out, HLAST.out, radd_step hR.sum hR.len HXE.out HYE.out HSUM.out⟩
              have e0 : cellsV (ss ++ [lo]) = cellsV ss ++ [V lo] := by unfold cellsV; rw [List.map_append]; rfl
              rw [e0]; exact hw3
            clear hw3 hgr3
            go_roundg gg
            case measure => omega
            case rel => exact ⟨i + 1, hh, ss ++ [lo], by omega, by go_num, rfl, rfl, HR3⟩
          · have hin : i < n := ha
            obtain ⟨g, off, rfl, hc⟩ := h.cells.resolve_left (by omega)
            have hcx0 : w.cell? ⟨g, off + i, none⟩ = some (V x) := by rw [HXE.out]; exact hc i hin
            have hcx : wr.cell? ⟨g, off + i, none⟩ = some (V x) := (HR.out.bel.cell (p := ⟨g, off + i, none⟩) (World.block_lt_of_cell? w _ hcx0)).trans hcx0
            have hxw : IntKind.u64.wrap (x : Int) = (x : Int) := wrap_mod _ _ (by rw [B32_eq] at hxb; omega)
            clear hc hcx0
            have hy0 : y = 0 := by rw [HYE.out, List.getD_eq_getElem?_getD, List.getElem?_eq_none (by rw [HLY.out]; omega)]; rfl
            obtain ⟨t1, et1⟩ : ∃ t1, t1 = cy + x := ⟨_, rfl⟩
            obtain ⟨t2, et2⟩ : ∃ t2, t2 = t1 + y := ⟨_, rfl⟩
            rw [B32_eq] at hxb hyb
            have f1 : IntKind.u64.wrap ((cy : Int) + (x : Int)) = (t1 : Int) := wrap_mod _ _ (by omega)
            obtain rfl : t2 = t1 := by omega
            have ht2 : t2 < 18446744073709551616 := by omega
            obtain ⟨lo, elo⟩ : ∃ lo, lo = t2 % B32 := ⟨_, rfl⟩
            obtain ⟨hh, ehh⟩ : ∃ hh, hh = t2 / B32 := ⟨_, rfl⟩
            have hlob : lo < B32 := by rw [elo]; exact Nat.mod_lt _ B32_pos
            have hhb : hh ≤ 1 := by rw [ehh, B32_eq]; omega
            have f4 : bits .and .u64 (t2 : Int) 4294967295 = (lo : Int) := by rw [elo, B32_eq]; exact and32 t2 ht2
            have f5 : (t2 : Int) / 4294967296 = (hh : Int) := by rw [ehh, B32_eq]; exact div32 t2
            have f6 : IntKind.u32.wrap (lo : Int) = (lo : Int) := wrap32 lo hlob
            have HSUM : Hid (cy + x + y = lo + B32 * hh) := by
              have := Nat.mod_add_div t2 B32
              rw [← elo, ← ehh] at this
              show _ = _; omega
            have HLAST : Hid (i + 1 = M + 1 → hh = 0) := by
              intro hl
              exfalso; omega
            have HI1 : Hid (i + 1 ≤ M + 1) := by
              have h1 := HR.out.fin; have h2 := HR.out.last
              show _ ≤ _; omega
            have HOA : Hid ((wr.alloc (.cells #[V lo] 42)).ownsRow w.heap.size 42 1 (.slice (some ⟨w.heap.size, 0, none⟩) i N) i (cellsV ss)) := HR.out.own.alloc _
            have hsp : i + 1 ≤ N := by have := HI1.out; have := HN.out; omega
            clear et1 et2 elo ehh hxb hyb
            go_wp2_with (at_builtin; refine wpList_append_fits _ rfl (.tmp 53) (.tmp 57) 30 rfl w.heap.size 42 i0 1 Try.underlying30 hi hz1 w.heap.size i N (cellsV ss) rfl HOA.out ⟨wr.heap.size, 0, none⟩ 1 1 [V lo] rfl rfl (one_cell wr lo) (by intro u hu; simp at hu; subst hu; rfl) hsp ?_; intro w3 hw3 hgr3)
            have HR3 : Hid (RAddR w w.heap.size N M xs ys (i + 1) hh (ss ++ [lo]) w3) := by
              have hR := HR.out
              refine ⟨(hR.bel.alloc hR.bel.size _).grown hgr3 (by have := hR.bel.size; simp; omega) (fun q hq => by simp at hq; omega), ?_, by simp [hR.len], hR.dig.append (Dig.cons hlob (Dig.nil _)), hhb, HI1.out, HLAST.out, radd_step hR.sum hR.len HXE.out HYE.out HSUM.out⟩
              have e0 : cellsV (ss ++ [lo]) = cellsV ss ++ [V lo] := by unfold cellsV; rw [List.map_append]; rfl
              rw [e0]; exact hw3
            clear hw3 hgr3
            go_roundg gg
            case measure => omega
            case rel => exact ⟨i + 1, hh, ss ++ [lo], by omega, by go_num, rfl, rfl, HR3⟩
        · by_cases hb : i < m
          · have him : i < m := hb
            obtain ⟨g2, off2, rfl, hc2⟩ := k.cells.resolve_left (by omega)
            have hcy0 : w.cell? ⟨g2, off2 + i, none⟩ = some (V y) := by rw [HYE.out]; exact hc2 i him
            have hcy1 : wr.cell? ⟨g2, off2 + i, none⟩ = some (V y) := (HR.out.bel.cell (p := ⟨g2, off2 + i, none⟩) (World.block_lt_of_cell? w _ hcy0)).trans hcy0
            have hyw : IntKind.u64.wrap (y : Int) = (y : Int) := wrap_mod _ _ (by rw [B32_eq] at hyb; omega)
            clear hc2 hcy0
            have hx0 : x = 0 := by rw [HXE.out, List.getD_eq_getElem?_getD, List.getElem?_eq_none (by rw [HLX.out]; omega)]; rfl
            obtain ⟨t1, et1⟩ : ∃ t1, t1 = cy + x := ⟨_, rfl⟩
            obtain ⟨t2, et2⟩ : ∃ t2, t2 = t1 + y := ⟨_, rfl⟩
            rw [B32_eq] at hxb hyb
            obtain rfl : t1 = cy := by omega
            have f2 : IntKind.u64.wrap ((t1 : Int) + (y : Int)) = (t2 : Int) := wrap_mod _ _ (by omega)
            have ht2 : t2 < 18446744073709551616 := by omega
            obtain ⟨lo, elo⟩ : ∃ lo, lo = t2 % B32 := ⟨_, rfl⟩
            obtain ⟨hh, ehh⟩ : ∃ hh, hh = t2 / B32 := ⟨_, rfl⟩
            have hlob : lo < B32 := by rw [elo]; exact Nat.mod_lt _ B32_pos
            have hhb : hh ≤ 1 := by rw [ehh, B32_eq]; omega
            have f4 : bits .and .u64 (t2 : Int) 4294967295 = (lo : Int) := by rw [elo, B32_eq]; exact and32 t2 ht2
            have f5 : (t2 : Int) / 4294967296 = (hh : Int) := by rw [ehh, B32_eq]; exact div32 t2
            have f6 : IntKind.u32.wrap (lo : Int) = (lo : Int) := wrap32 lo hlob
            have HSUM : Hid (t1 + x + y = lo + B32 * hh) := by
              have := Nat.mod_add_div t2 B32
              rw [← elo, ← ehh] at this
              show _ = _; omega
            have HLAST : Hid (i + 1 = M + 1 → hh = 0) := by
              intro hl
              exfalso; omega
            have HI1 : Hid (i + 1 ≤ M + 1) := by
              have h1 := HR.out.fin; have h2 := HR.out.last
              show _ ≤ _; omega
            have HOA : Hid ((wr.alloc (.cells #[V lo] 42)).ownsRow w.heap.size 42 1 (.slice (some ⟨w.heap.size, 0, none⟩) i N) i (cellsV ss)) := HR.out.own.alloc _
            have hsp : i + 1 ≤ N := by have := HI1.out; have := HN.out; omega
            clear et1 et2 elo ehh hxb hyb
            go_wp2_with (at_builtin; refine wpList_append_fits _ rfl (.tmp 53) (.tmp 57) 30 rfl w.heap.size 42 i0 1 Try.underlying30 hi hz1 w.heap.size i N (cellsV ss) rfl HOA.out ⟨wr.heap.size, 0, none⟩ 1 1 [V lo] rfl rfl (one_cell wr lo) (by intro u hu; simp at hu; subst hu; rfl) hsp ?_; intro w3 hw3 hgr3)
            have HR3 : Hid (RAddR w w.heap.size N M xs ys (i + 1) hh (ss ++ [lo]) w3) := by
              have hR := HR.out
              refine ⟨(hR.bel.alloc hR.bel.size _).grown hgr3 (by have := hR.bel.size; simp; omega) (fun q hq => by simp at hq; omega), ?_, by simp [hR.len], hR.dig.append (Dig.cons hlob (Dig.nil _)), hhb, HI1.out, HLAST.out, radd_step hR.sum hR.len HXE.out HYE.out HSUM.out⟩
              have e0 : cellsV (ss ++ [lo]) = cellsV ss ++ [V lo] := by unfold cellsV; rw [List.map_append]; rfl
              rw [e0]; exact hw3
            clear hw3 hgr3
            go_roundg gg
            case measure => omega
            case rel => exact ⟨i + 1, hh, ss ++ [lo], by omega, by go_num, rfl, rfl, HR3⟩
          · have hcp : 0 < cy := by
              rcases Nat.eq_zero_or_pos cy with e | e
              · exact absurd ⟨ha, hb, e⟩ hall
              · exact e
            have hcp' : (0 : Int) < (cy : Int) := by omega
            have hx0 : x = 0 := by rw [HXE.out, List.getD_eq_getElem?_getD, List.getElem?_eq_none (by rw [HLX.out]; omega)]; rfl
            have hy0 : y = 0 := by rw [HYE.out, List.getD_eq_getElem?_getD, List.getElem?_eq_none (by rw [HLY.out]; omega)]; rfl
            obtain ⟨t1, et1⟩ : ∃ t1, t1 = cy + x := ⟨_, rfl⟩
            obtain ⟨t2, et2⟩ : ∃ t2, t2 = t1 + y := ⟨_, rfl⟩
            rw [B32_eq] at hxb hyb
            obtain rfl : t1 = cy := by omega
            obtain rfl : t2 = t1 := by omega
            have ht2 : t2 < 18446744073709551616 := by omega
            obtain ⟨lo, elo⟩ : ∃ lo, lo = t2 % B32 := ⟨_, rfl⟩
            obtain ⟨hh, ehh⟩ : ∃ hh, hh = t2 / B32 := ⟨_, rfl⟩
            have hlob : lo < B32 := by rw [elo]; exact Nat.mod_lt _ B32_pos
            have hhb : hh ≤ 1 := by rw [ehh, B32_eq]; omega
            have f4 : bits .and .u64 (t2 : Int) 4294967295 = (lo : Int) := by rw [elo, B32_eq]; exact and32 t2 ht2
            have f5 : (t2 : Int) / 4294967296 = (hh : Int) := by rw [ehh, B32_eq]; exact div32 t2
            have f6 : IntKind.u32.wrap (lo : Int) = (lo : Int) := wrap32 lo hlob
            have HSUM : Hid (t2 + x + y = lo + B32 * hh) := by
              have := Nat.mod_add_div t2 B32
              rw [← elo, ← ehh] at this
              show _ = _; omega
            have HLAST : Hid (i + 1 = M + 1 → hh = 0) := by
              intro hl
              rw [ehh, B32_eq]; omega
            have HI1 : Hid (i + 1 ≤ M + 1) := by
              have h1 := HR.out.fin; have h2 := HR.out.last
              show _ ≤ _; omega
            have HOA : Hid ((wr.alloc (.cells #[V lo] 42)).ownsRow w.heap.size 42 1 (.slice (some ⟨w.heap.size, 0, none⟩) i N) i (cellsV ss)) := HR.out.own.alloc _
            have hsp : i + 1 ≤ N := by have := HI1.out; have := HN.out; omega
            clear et1 et2 elo ehh hxb hyb
            go_wp2_with (at_builtin; refine wpList_append_fits _ rfl (.tmp 53) (.tmp 57) 30 rfl w.heap.size 42 i0 1 Try.underlying30 hi hz1 w.heap.size i N (cellsV ss) rfl HOA.out ⟨wr.heap.size, 0, none⟩ 1 1 [V lo] rfl rfl (one_cell wr lo) (by intro u hu; simp at hu; subst hu; rfl) hsp ?_; intro w3 hw3 hgr3)
            have HR3 : Hid (RAddR w w.heap.size N M xs ys (i + 1) hh (ss ++ [lo]) w3) := by
              have hR := HR.out
              refine ⟨(hR.bel.alloc hR.bel.size _).grown hgr3 (by have := hR.bel.size; simp; omega) (fun q hq => by simp at hq; omega), ?_, by simp [hR.len], hR.dig.append (Dig.cons hlob (Dig.nil _)), hhb, HI1.out, HLAST.out, radd_step hR.sum hR.len HXE.out HYE.out HSUM.out⟩
              have e0 : cellsV (ss ++ [lo]) = cellsV ss ++ [V lo] := by unfold cellsV; rw [List.map_append]; rfl
              rw [e0]; exact hw3
            clear hw3 hgr3
            go_roundg gg
            case measure => omega
            case rel => exact ⟨i + 1, hh, ss ++ [lo], by omega, by go_num, rfl, rfl, HR3⟩
structure RSubR (w : World) (g N : Nat) (xs ys : List Nat) (i ow : Nat) (ss : List Nat) (wr : World) : Prop where
  bel : Below g w wr
  own : wr.ownsRow g 42 1 (.slice (some ⟨g, 0, none⟩) i N) i (cellsV ss)
  len : ss.length = i
  dig : Dig B32 ss
  car : ow ≤ 1
  sum : valB B32 ss + valB B32 (ys.take i) = valB B32 (xs.take i) + B32 ^ i * ow
theorem rsub_step {xs ys ss : List Nat} {i ow x y lo o2 : Nat} (h : valB B32 ss + valB B32 (ys.take i) = valB B32 (xs.take i) + B32 ^ i * ow) (hl : ss.length = i) (ex : x = xs.getD i 0) (ey : y = ys.getD i 0) (hs : lo + ow + y = x + B32 * o2) :
    valB B32 (ss ++ [lo]) + valB B32 (ys.take (i + 1)) = valB B32 (xs.take (i + 1)) + B32 ^ (i + 1) * o2 := by
  rw [valB_snoc, hl, valB_take_any _ xs i, valB_take_any _ ys i, ← ex, ← ey, Nat.pow_succ]
  have e1 : B32 ^ i * (lo + ow + y) = B32 ^ i * (x + B32 * o2) := by rw [hs]
  rw [Nat.mul_add, Nat.mul_add, Nat.mul_add, ← Nat.mul_assoc] at e1
  omega
theorem RSubR.at_ {w : World} {g N : Nat} {xs ys : List Nat} {i cy : Nat} {ss : List Nat} {wr : World} (h : RSubR w g N xs ys i cy ss wr) : At32 wr (some ⟨g, 0, none⟩) i N ss := by
  rcases h.own.2 with ⟨h', _⟩ | ⟨g', cap', cur, h', hbase, hgc, hcap', hmx, hsz, htake⟩
  · simp at h'
  · simp only [Value.slice.injEq, Option.some.injEq, Addr.mk.injEq, and_true, true_and] at h'
    obtain ⟨rfl, rfl⟩ := h'
    refine ⟨h.len, hcap', hmx, h.dig, .inr ⟨g, 0, rfl, fun jj hj => ?_⟩⟩
    rw [Nat.zero_add, cell_of_row wr g jj _ _ _ hgc]
    have e1 := cellsV_get ss jj (by rw [h.len]; exact hj)
    rw [← htake, Nat.mul_one, List.getElem?_take, if_pos hj] at e1
    rw [← Array.getElem?_toList]; exact e1

theorem rsub_gt {p q : Option Addr} {n m c d : Nat} {xs ys : List Nat} {a b : Nat} {w : World} (h : At32 w p n c xs) (k : At32 w q m d ys) (hx : Nf B32 xs a) (hy : Nf B32 ys b) (hn : n ≤ 4398046511104) (hlt : b < a) :
    Calls Try.prog 9 #[.slice p n c, .slice q m d] w fun e w' => ∃ p' m' zs, e = .returned (.slice p' m' m') ∧ At32 w' p' m' m' zs ∧ Nf B32 zs (a - b) ∧ m' ≤ n ∧ Below w.heap.size w w' := by
  obtain ⟨i0, hi, hz0, hz1, hz2⟩ := info_parts Try.infoU32
  have HX : Hid (Nf B32 xs a) := hx
  have HY : Hid (Nf B32 ys b) := hy
  have HLX : Hid (xs.length = n) := h.len
  have HLY : Hid (ys.length = m) := k.len
  have HLT : Hid (b < a) := hlt
  have hmn : m ≤ n := by
    rcases Nat.lt_or_ge n m with e | e
    · exfalso
      have h1 := nf32_lt hx (K := n) (by rw [h.len]; exact Nat.le_refl _)
      have h2 := nf32_ge hy (K := n) (by rw [k.len]; exact e)
      omega
    · exact e
  have hcap := h.cap; have hbig := h.big; have kcap := k.cap; have kbig := k.big
  unfold maxLen at hbig kbig
  have HA : Hid (At32 w p n c xs) := h
  have HB : Hid (At32 w q m d ys) := k
  clear hx hy h k hlt
  go_enter Try.func9, Try.ntmps9
  go_wp2_with fail
  refine (rcmp_any HA.out HB.out HX.out HY.out).mono ?_
  rintro e w' ⟨rfl, r, rfl⟩
  rw [cmpN_gt HLT.out]
  have h := HA.out.drewN r
  have k := HB.out.drewN r
  have hb0 : Below w.heap.size w (w.drewN r) := bDrewN (Below.refl _ _) r
  clear HA HB
  generalize w.drewN r = w0 at *
  go_wp2_with (at_make; refine wpList_make_own _ rfl _ _ 30 rfl w0.heap.size 42 i0 (.int .u32 0) 1 Try.underlying30 hi hz0 hz1 _ _ _ n rfl rfl (by omega) (by rw [hz2]; omega) (by unfold maxLen; omega) (Nat.le_refl _) ?_; intro w1 hown hgrow)
  have hb1 : Below w0.heap.size w0 w1 := (Below.refl _ _).grown hgrow (Nat.le_refl _) (fun k hk => by simp at hk)
  have HO : Hid (RSubR w0 w0.heap.size n xs ys 0 0 [] w1) := ⟨hb1, hown, rfl, Dig.nil _, by omega, by simp [valB]⟩
  clear hown hgrow hb1
  go_loopg [5, 6, 7] n (fun gk sv ov iv wr => ∃ (i ow : Nat) (ss : List Nat), i + gk = n ∧ iv = .int .i64 i ∧ ov = U ow ∧ sv = .slice (some ⟨w0.heap.size, 0, none⟩) i n ∧ Hid (RSubR w0 w0.heap.size n xs ys i ow ss wr))
  case atStart => exact ⟨0, 0, [], by omega, rfl, rfl, rfl, HO⟩
  case round =>
    obtain ⟨i, ow, ss, hig, rfl, rfl, rfl, HR⟩ := hrel
    have how := HR.out.car
    cases gk with
    | zero =>
      obtain rfl : i = n := by omega
      have A32 := HR.out.at_
      have hv := HR.out.sum
      rw [List.take_of_length_le (l := ys) (by rw [HLY.out]; omega), List.take_of_length_le (l := xs) (by rw [HLX.out]; omega), HX.out.val, HY.out.val] at hv
      have hvl := valB_lt B32_pos HR.out.dig
      rw [HR.out.len] at hvl
      have hsv : valB B32 ss = a - b := sub_abs hv hvl how (Nat.le_of_lt HLT.out)
      have HNF : Hid (Nf B32 (trimL ss) (a - b)) := by
        have := Nf.trim HR.out.dig
        rw [hsv] at this; exact this
      have hle := trimL_length_le ss
      have HLE : Hid ((trimL ss).length ≤ i) := by have := HR.out.len; show _ ≤ _; omega
      have hbx := HR.out.bel
      have hni : ¬ (i : Int) < (i : Int) := by omega
      clear hv hle hvl hsv
      go_wp2_with fail
      refine (rnorm_any A32 (by omega)).mono ?_
      rintro e w5 ⟨g5, rfl, hg5, hblk5, hb5⟩
      have hd5 := HNF.out.dig
      generalize trimL ss = zs at *
      go_wp2_with fail
      go_ret
      exact ⟨_, _, zs, rfl, hblk5.at_ hd5 rfl (by have := HLE.out; unfold maxLen; omega), HNF.out, HLE.out, Below.on hb0 (Below.on hbx hb5)⟩
    | succ gg =>
      obtain ⟨x, hx⟩ : ∃ x, x = xs.getD i 0 := ⟨_, rfl⟩
      obtain ⟨y, hy⟩ : ∃ y, y = ys.getD i 0 := ⟨_, rfl⟩
      have hxb : x < B32 := by rw [hx]; exact HX.out.dig.getD B32_pos i
      have hyb : y < B32 := by rw [hy]; exact HY.out.dig.getD B32_pos i
      have HXE : Hid (x = xs.getD i 0) := hx
      have HYE : Hid (y = ys.getD i 0) := hy
      have hin : i < n := by omega
      obtain ⟨g, off, rfl, hc⟩ := h.cells.resolve_left (by omega)
      have hcx0 : w0.cell? ⟨g, off + i, none⟩ = some (V x) := by rw [HXE.out]; exact hc i hin
      have hcx : wr.cell? ⟨g, off + i, none⟩ = some (V x) := (HR.out.bel.cell (p := ⟨g, off + i, none⟩) (World.block_lt_of_cell? w0 _ hcx0)).trans hcx0
      have hxw : IntKind.u64.wrap (x : Int) = (x : Int) := wrap_mod _ _ (by rw [B32_eq] at hxb; omega)
      have hyw : IntKind.u64.wrap (y : Int) = (y : Int) := wrap_mod _ _ (by rw [B32_eq] at hyb; omega)
      rw [B32_eq] at hxb hyb
      have hsp : i + 1 ≤ n := by omega
      clear hc hcx0 hx hy
      by_cases hb : i < m
      · have him : i < m := hb
        obtain ⟨g2, off2, rfl, hc2⟩ := k.cells.resolve_left (by omega)
        have hcy0 : w0.cell? ⟨g2, off2 + i, none⟩ = some (V y) := by rw [HYE.out]; exact hc2 i him
        have hcy1 : wr.cell? ⟨g2, off2 + i, none⟩ = some (V y) := (HR.out.bel.cell (p := ⟨g2, off2 + i, none⟩) (World.block_lt_of_cell? w0 _ hcy0)).trans hcy0
        clear hc2 hcy0
        obtain ⟨t, et⟩ : ∃ t, t = ow + y := ⟨_, rfl⟩
        have f1 : IntKind.u64.wrap ((ow : Int) + (y : Int)) = (t : Int) := wrap_mod _ _ (by omega)
        by_cases hu : x < t
        · obtain ⟨x2, ex2⟩ : ∃ x2, x2 = x + 4294967296 := ⟨_, rfl⟩
          have f2 : IntKind.u64.wrap ((x : Int) + 4294967296) = (x2 : Int) := wrap_mod _ _ (by omega)
          obtain ⟨lo, elo⟩ : ∃ lo, lo = x2 - t := ⟨_, rfl⟩
          have f3 : IntKind.u64.wrap ((x2 : Int) - (t : Int)) = (lo : Int) := wrap_mod _ _ (by omega)
          have hui : (x : Int) < (t : Int) := by omega
          have hlob : lo < B32 := by rw [B32_eq]; omega
          have f6 : IntKind.u32.wrap (lo : Int) = (lo : Int) := wrap32 lo hlob
          have f7 : (lo : Int) % 4294967296 = (lo : Int) := by rw [B32_eq] at hlob; omega
          have HSUM : Hid (lo + ow + y = x + B32 * 1) := by show _ = _; rw [B32_eq]; omega
          have HOA : Hid ((wr.alloc (.cells #[V lo] 42)).ownsRow w0.heap.size 42 1 (.slice (some ⟨w0.heap.size, 0, none⟩) i n) i (cellsV ss)) := HR.out.own.alloc _
          clear elo ex2 et hxb hyb
          go_wp2_with (at_builtin; refine wpList_append_fits _ rfl (.tmp 46) (.tmp 51) 30 rfl w0.heap.size 42 i0 1 Try.underlying30 hi hz1 w0.heap.size i n (cellsV ss) rfl HOA.out ⟨wr.heap.size, 0, none⟩ 1 1 [V lo] rfl rfl (one_cell wr lo) (by intro u hu; simp at hu; subst hu; rfl) hsp ?_; intro w3 hw3 hgr3)
          have HR3 : Hid (RSubR w0 w0.heap.size n xs ys (i + 1) 1 (ss ++ [lo]) w3) := by
            have hR := HR.out
            refine ⟨(hR.bel.alloc hR.bel.size _).grown hgr3 (by have := hR.bel.size; simp; omega) (fun q hq => by simp at hq; omega), ?_, by simp [hR.len], hR.dig.append (Dig.cons hlob (Dig.nil _)), by omega, rsub_step hR.sum hR.len HXE.out HYE.out HSUM.out⟩
            have e0 : cellsV (ss ++ [lo]) = cellsV ss ++ [V lo] := by unfold cellsV; rw [List.map_append]; rfl
            rw [e0]; exact hw3
          clear hw3 hgr3
          go_roundg gg
          case measure => omega
          case rel => exact ⟨i + 1, 1, ss ++ [lo], by omega, by go_num, rfl, rfl, HR3⟩
        · obtain ⟨lo, elo⟩ : ∃ lo, lo = x - t := ⟨_, rfl⟩
          have f3 : IntKind.u64.wrap ((x : Int) - (t : Int)) = (lo : Int) := wrap_mod _ _ (by omega)
          have hui : ¬ (x : Int) < (t : Int) := by omega
          have hlob : lo < B32 := by rw [B32_eq]; omega
          have f6 : IntKind.u32.wrap (lo : Int) = (lo : Int) := wrap32 lo hlob
          have f7 : (lo : Int) % 4294967296 = (lo : Int) := by rw [B32_eq] at hlob; omega
          have HSUM : Hid (lo + ow + y = x + B32 * 0) := by show _ = _; rw [B32_eq]; omega
          have HOA : Hid ((wr.alloc (.cells #[V lo] 42)).ownsRow w0.heap.size 42 1 (.slice (some ⟨w0.heap.size, 0, none⟩) i n) i (cellsV ss)) := HR.out.own.alloc _
          clear elo et hxb hyb
          go_wp2_with (at_builtin; refine wpList_append_fits _ rfl (.tmp 46) (.tmp 51) 30 rfl w0.heap.size 42 i0 1 Try.underlying30 hi hz1 w0.heap.size i n (cellsV ss) rfl HOA.out ⟨wr.heap.size, 0, none⟩ 1 1 [V lo] rfl rfl (one_cell wr lo) (by intro u hu; simp at hu; subst hu; rfl) hsp ?_; intro w3 hw3 hgr3)
          have HR3 : Hid (RSubR w0 w0.heap.size n xs ys (i + 1) 0 (ss ++ [lo]) w3) := by
            have hR := HR.out
            refine ⟨(hR.bel.alloc hR.bel.size _).grown hgr3 (by have := hR.bel.size; simp; omega) (fun q hq => by simp at hq; omega), ?_, by simp [hR.len], hR.dig.append (Dig.cons hlob (Dig.nil _)), by omega, rsub_step hR.sum hR.len HXE.out HYE.out HSUM.out⟩
            have e0 : cellsV (ss ++ [lo]) = cellsV ss ++ [V lo] := by unfold cellsV; rw [List.map_append]; rfl
            rw [e0]; exact hw3
          clear hw3 hgr3
          go_roundg gg
          case measure => omega
          case rel => exact ⟨i + 1, 0, ss ++ [lo], by omega, by go_num, rfl, rfl, HR3⟩
      · have hy0 : y = 0 := by rw [HYE.out, List.getD_eq_getElem?_getD, List.getElem?_eq_none (by rw [HLY.out]; omega)]; rfl
        have HY0 : Hid (y = 0) := hy0
        clear hy0
        by_cases hu : x < ow
        · obtain ⟨x2, ex2⟩ : ∃ x2, x2 = x + 4294967296 := ⟨_, rfl⟩
          have f2 : IntKind.u64.wrap ((x : Int) + 4294967296) = (x2 : Int) := wrap_mod _ _ (by omega)
          obtain ⟨lo, elo⟩ : ∃ lo, lo = x2 - ow := ⟨_, rfl⟩
          have f3 : IntKind.u64.wrap ((x2 : Int) - (ow : Int)) = (lo : Int) := wrap_mod _ _ (by omega)
          have hui : (x : Int) < (ow : Int) := by omega
          have hlob : lo < B32 := by rw [B32_eq]; omega
          have f6 : IntKind.u32.wrap (lo : Int) = (lo : Int) := wrap32 lo hlob
          have f7 : (lo : Int) % 4294967296 = (lo : Int) := by rw [B32_eq] at hlob; omega
          have HSUM : Hid (lo + ow + y = x + B32 * 1) := by have h0 := HY0.out; show _ = _; rw [B32_eq]; omega
          have HOA : Hid ((wr.alloc (.cells #[V lo] 42)).ownsRow w0.heap.size 42 1 (.slice (some ⟨w0.heap.size, 0, none⟩) i n) i (cellsV ss)) := HR.out.own.alloc _
          clear elo ex2 hxb hyb
          go_wp2_with (at_builtin; refine wpList_append_fits _ rfl (.tmp 46) (.tmp 51) 30 rfl w0.heap.size 42 i0 1 Try.underlying30 hi hz1 w0.heap.size i n (cellsV ss) rfl HOA.out ⟨wr.heap.size, 0, none⟩ 1 1 [V lo] rfl rfl (one_cell wr lo) (by intro u hu; simp at hu; subst hu; rfl) hsp ?_; intro w3 hw3 hgr3)
          have HR3 : Hid (RSubR w0 w0.heap.size n xs ys (i + 1) 1 (ss ++ [lo]) w3) := by
            have hR := HR.out
            refine ⟨(hR.bel.alloc hR.bel.size _).grown hgr3 (by have := hR.bel.size; simp; omega) (fun q hq => by simp at hq; omega), ?_, by simp [hR.len], hR.dig.append (Dig.cons hlob (Dig.nil _)), by omega, rsub_step hR.sum hR.len HXE.out HYE.out HSUM.out⟩
            have e0 : cellsV (ss ++ [lo]) = cellsV ss ++ [V lo] := by unfold cellsV; rw [List.map_append]; rfl
            rw [e0]; exact hw3
          clear hw3 hgr3
          go_roundg gg
          case measure => omega
          case rel => exact ⟨i + 1, 1, ss ++ [lo], by omega, by go_num, rfl, rfl, HR3⟩
        · obtain ⟨lo, elo⟩ : ∃ lo, lo = x - ow := ⟨_, rfl⟩
          have f3 : IntKind.u64.wrap ((x : Int) - (ow : Int)) = (lo : Int) := wrap_mod _ _ (by omega)
          have hui : ¬ (x : Int) < (ow : Int) := by omega
          have hlob : lo < B32 := by rw [B32_eq]; omega
          have f6 : IntKind.u32.wrap (lo : Int) = (lo : Int) := wrap32 lo hlob
          have f7 : (lo : Int) % 4294967296 = (lo : Int) := by rw [B32_eq] at hlob; omega
          have HSUM : Hid (lo + ow + y = x + B32 * 0) := by have h0 := HY0.out; show _ = _; rw [B32_eq]; omega
          have HOA : Hid ((wr.alloc (.cells #[V lo] 42)).ownsRow w0.heap.size 42 1 (.slice (some ⟨w0.heap.size, 0, none⟩) i n) i (cellsV ss)) := HR.out.own.alloc _
          clear elo hxb hyb
          go_wp2_with (at_builtin; refine wpList_append_fits _ rfl (.tmp 46) (.tmp 51) 30 rfl w0.heap.size 42 i0 1 Try.underlying30 hi hz1 w0.heap.size i n (cellsV ss) rfl HOA.out ⟨wr.heap.size, 0, none⟩ 1 1 [V lo] rfl rfl (one_cell wr lo) (by intro u hu; simp at hu; subst hu; rfl) hsp ?_; intro w3 hw3 hgr3)
          have HR3 : Hid (RSubR w0 w0.heap.size n xs ys (i + 1) 0 (ss ++ [lo]) w3) := by
            have hR := HR.out
            refine ⟨(hR.bel.alloc hR.bel.size _).grown hgr3 (by have := hR.bel.size; simp; omega) (fun q hq => by simp at hq; omega), ?_, by simp [hR.len], hR.dig.append (Dig.cons hlob (Dig.nil _)), by omega, rsub_step hR.sum hR.len HXE.out HYE.out HSUM.out⟩
            have e0 : cellsV (ss ++ [lo]) = cellsV ss ++ [V lo] := by unfold cellsV; rw [List.map_append]; rfl
            rw [e0]; exact hw3
          clear hw3 hgr3
          go_roundg gg
          case measure => omega
          case rel => exact ⟨i + 1, 0, ss ++ [lo], by omega, by go_num, rfl, rfl, HR3⟩

theorem lit_at32q (w : World) (x y : Nat) (hx : x < B32) (hy : y < B32) : At32 (w.alloc (.cells #[V x, V y] 42)) (some ⟨w.heap.size, 0, none⟩) 2 2 [x, y] := by
  refine ⟨rfl, Nat.le_refl _, by decide, ?_, .inr ⟨w.heap.size, 0, rfl, ?_⟩⟩
  · intro z hz
    simp at hz
    rcases hz with rfl | rfl <;> assumption
  · intro j hj
    match j, hj with
    | 0, _ => exact World.cell?_alloc_new ..
    | 1, _ => exact World.cell?_alloc_new ..
theorem nf32_nilq : Nf B32 [] 0 := ⟨Dig.nil _, by intro x hx; simp at hx, rfl⟩
theorem rword0 (w : World) : Calls Try.prog 17 #[.int .u64 0] w fun e w' => ∃ g, e = .returned (.slice (some ⟨g, 0, none⟩) 0 0) ∧ Below w.heap.size w w' := by
  go_enter Try.func17, Try.ntmps17
  go_wp2_with fail
  refine (rnorm_any (lit_at32q w 0 0 (by decide) (by decide)) (by omega)).mono ?_
  rw [show trimL [0, 0] = [] from by decide]
  rintro e w1 ⟨g, rfl, hg, hb, hbl⟩
  have hbw := Below.on (below1 w _) hbl
  clear hb hbl
  go_wp2_with fail
  go_ret
  exact ⟨g, rfl, hbw⟩
theorem rsub_any {p q : Option Addr} {n m c d : Nat} {xs ys : List Nat} {a b : Nat} {w : World} (h : At32 w p n c xs) (k : At32 w q m d ys) (hx : Nf B32 xs a) (hy : Nf B32 ys b) (hn : n ≤ 4398046511104) (hle : b ≤ a) :
    Calls Try.prog 9 #[.slice p n c, .slice q m d] w fun e w' => ∃ p' m' zs, e = .returned (.slice p' m' m') ∧ At32 w' p' m' m' zs ∧ Nf B32 zs (a - b) ∧ m' ≤ n ∧ Below w.heap.size w w' := by
  rcases Nat.lt_or_ge b a with hlt | hge
  · exact rsub_gt h k hx hy hn hlt
  · have HE : Hid (a = b) := Nat.le_antisymm hge hle
    have HA : Hid (At32 w p n c xs) := h
    have HB : Hid (At32 w q m d ys) := k
    have HX : Hid (Nf B32 xs a) := hx
    have HY : Hid (Nf B32 ys b) := hy
    clear h k hx hy hle hge
    go_enter Try.func9, Try.ntmps9
    go_wp2_with fail
    refine (rcmp_any HA.out HB.out HX.out HY.out).mono ?_
    rintro e w' ⟨rfl, r, rfl⟩
    rw [cmpN_eq HE.out]
    have hb0 : Below w.heap.size w (w.drewN r) := bDrewN (Below.refl _ _) r
    generalize w.drewN r = w0 at *
    go_wp2_with fail
    refine (rword0 w0).mono ?_
    rintro e w1 ⟨g, rfl, hb1⟩
    have hbw := Below.on hb0 hb1
    clear hb1 hb0
    go_wp2_with fail
    go_ret
    exact ⟨_, 0, [], rfl, At32.empty _ _ 0 (by decide), by rw [HE.out, Nat.sub_self]; exact nf32_nilq, by omega, hbw⟩
theorem At32.dropq {w : World} {g off n c : Nat} {xs : List Nat} (h : At32 w (some ⟨g, off, none⟩) n c xs) (k : Nat) (hk : k < n) : At32 w (some ⟨g, off + k, none⟩) (n - k) (c - k) (xs.drop k) := by
  refine ⟨by rw [List.length_drop, h.len], by have := h.cap; omega, by have := h.big; unfold maxLen at *; omega, h.dig.drop k, .inr ⟨g, off + k, rfl, fun j hj => ?_⟩⟩
  rcases h.cells with h0 | ⟨g', off', he, hc⟩
  · omega
  · simp only [Option.some.injEq, Addr.mk.injEq, and_true] at he
    obtain ⟨rfl, rfl⟩ := he
    have := hc (k + j) (by omega)
    rw [Nat.add_assoc, this]
    congr 2
    simp [List.getD_eq_getElem?_getD, List.getElem?_drop]
theorem drop_div32q {xs : List Nat} {v k : Nat} (hx : Nf B32 xs v) (hk : k ≤ xs.length) : valB B32 (xs.drop k) = v / B32 ^ k := by
  have h1 := valB_split B32 xs k hk
  have h2 := valB_lt B32_pos (hx.dig.take k)
  rw [List.length_take, Nat.min_eq_left hk] at h2
  rw [← hx.val, h1, Nat.add_mul_div_left _ _ (Nat.pow_pos B32_pos), Nat.div_eq_of_lt h2, Nat.zero_add]

theorem rfshr_any {p : Option Addr} {n c : Nat} {xs : List Nat} {v : Nat} {w : World} (h : At32 w p n c xs) (hx : Nf B32 xs v) (hn : n ≤ 16384) (N : Nat) (hN : 1 ≤ N) (hN2 : N ≤ 9223372036854775807) :
    Calls Try.prog 15 #[.slice p n c, .int .i64 N] w fun e w' => ∃ p' m' zs, e = .returned (.slice p' m' m') ∧ At32 w' p' m' m' zs ∧ Nf B32 zs (v / 2 ^ N) ∧ m' ≤ n ∧ Below w.heap.size w w' := by
  have HX : Hid (Nf B32 xs v) := hx
  have hl := h.len
  have cap := h.cap
  have big := h.big
  unfold maxLen at big
  obtain ⟨D, hD⟩ : ∃ D, D = N / 32 := ⟨_, rfl⟩
  obtain ⟨R, hR⟩ : ∃ R, R = N % 32 := ⟨_, rfl⟩
  have d1 : (N : Int).tdiv 32 = (D : Int) := by rw [Int.tdiv_eq_ediv_of_nonneg (by omega)]; omega
  have d2 : (N : Int).tmod 32 = (R : Int) := by rw [Int.tmod_eq_emod_of_nonneg (by omega)]; omega
  have hNp : ¬ (N : Int) ≤ 0 := by omega
  have hN0 : ¬ N = 0 := by omega
  have hR32 : R < 32 := by omega
  have hDb : D ≤ 288230376151711743 := by omega
  have hwD : IntKind.i64.wrap (D : Int) = (D : Int) := by simp [IntKind.wrap, IntKind.signed, IntKind.bits]; omega
  have HD : Hid (2 ^ N = B32 ^ D * 2 ^ R) := by show _ = _; rw [show B32 = 2 ^ 32 from rfl, ← Nat.pow_mul, ← Nat.pow_add]; congr 1; omega
  have HLX : Hid (xs.length = n) := hl
  clear hx hD hR hl
  by_cases hc : n ≤ D
  · have hci : (n : Int) ≤ (D : Int) := by omega
    have hcb : decide (n ≤ D) = true := decide_eq_true hc
    have HZ : Hid (v / 2 ^ N = 0) := by
      show _ = _
      rw [HD.out]
      refine Nat.div_eq_of_lt ?_
      have h1 := nf32_lt HX.out (K := D) (by rw [HLX.out]; exact hc)
      exact Nat.lt_of_lt_of_le h1 (Nat.le_mul_of_pos_right _ (Nat.pow_pos (by decide)))
    clear h
    go_enter Try.func15, Try.ntmps15
    go_wp2_with fail
    refine (rword0 w).mono ?_
    rintro e w1 ⟨g, rfl, hb⟩
    go_wp2_with fail
    go_ret
    exact ⟨_, 0, [], rfl, At32.empty _ _ 0 (by decide), by rw [HZ.out]; exact nf32_nilq, by omega, hb⟩
  · have hci : ¬ (n : Int) ≤ (D : Int) := by omega
    have hcb : decide (n ≤ D) = false := decide_eq_false hc
    have hDn : D < n := by omega
    have hDc : D < c := by omega
    have hDc2 : D ≤ c := by omega
    have hcD : ¬ c = D := by omega
    have hDn2 : D ≤ n := by omega
    obtain ⟨g, off, rfl, hcs⟩ := h.cells.resolve_left (by omega)
    have A1 : Hid (At32 w (some ⟨g, off + D, none⟩) (n - D) (c - D) (xs.drop D)) := h.dropq D hDn
    obtain ⟨d, hd⟩ : ∃ d, d = 2 ^ R := ⟨_, rfl⟩
    have hd1 : 1 ≤ d := by rw [hd]; exact Nat.pow_pos (by decide)
    have hdB : d < B32 := by rw [hd, show B32 = 2 ^ 32 from rfl]; exact Nat.pow_lt_pow_right (by decide) hR32
    have hdw : IntKind.u32.wrap (d : Int) = (d : Int) := wrap32 d hdB
    have hdI : (2 : Int) ^ R = (d : Int) := by rw [hd]; norm_cast
    have HV : Hid (valB B32 (xs.drop D) / d = v / 2 ^ N) := by
      show _ = _
      rw [HD.out, hd, drop_div32q HX.out (by rw [HLX.out]; omega), Nat.div_div_eq_div_mul]
    have A1d : Hid (At32 w.drew (some ⟨g, off + D, none⟩) (n - D) (c - D) (xs.drop D)) := A1.out.drewN 1
    have hbd : Below w.heap.size w w.drew := bDrew (Below.refl _ _)
    have HDD : Hid (1 ≤ d ∧ d < B32) := ⟨hd1, hdB⟩
    clear h hcs A1 hd hd1 hdB
    go_enter Try.func15, Try.ntmps15
    go_wp2_with fail
    (go_region_with (go_at_call 25; refine (rdivsmall A1d.out (by omega) d HDD.out.1 HDD.out.2).mono ?_; rintro e w1 ⟨p1, m1, z1, r1, rfl, hA1, hN1, hm1, hb1⟩; have A2 : Hid (At32 w1 p1 m1 m1 z1) := hA1; have N2 : Hid (Nf B32 z1 (v / 2 ^ N)) := (by rw [HV.out] at hN1; exact hN1); have hbw : Below w.heap.size w w1 := Below.on hbd hb1; have hm1' : m1 ≤ n := (by omega); clear hA1 hN1 hb1))
    all_goals
      (go_wp2_with fail
       go_ret
       exact ⟨p1, m1, z1, rfl, A2.out, N2.out, hm1', hbw⟩)
theorem Blk32.own {w : World} {g base : Nat} {xs : List Nat} (h : Blk32 w g xs) (hb : base ≤ g) (hm : xs.length ≤ maxLen) : w.ownsRow base 42 1 (.slice (some ⟨g, 0, none⟩) xs.length xs.length) xs.length (cellsV xs) :=
  ⟨by simp [cellsV], .inr ⟨g, xs.length, (cellsV xs).toArray, rfl, hb, h, Nat.le_refl _, hm, by simp [cellsV], by rw [Nat.mul_one]; exact List.take_of_length_le (by simp [cellsV])⟩⟩
end Go.Proofs.Ythjofcakkaolbaa
