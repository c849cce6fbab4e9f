import Derived.Test.YtnnkgnhoboealaaJ7
import Derived.Deep.LoopGhost
import Derived.Laws.Cover1
import Derived.Deep.RegionWith
import Derived.Deep.RegionLaw
import Derived.Laws.ResultCell
import Derived.Deep.DeepCutAuto
import Derived.Lib.OthersKept
namespace Go.Proofs.Ytnnkgnhoboealaa
open Go.RowKit Go.Shelf
set_option maxRecDepth 20000
set_option maxHeartbeats 0
def neUp (a d : Nat) : Bool := decide (d < 2 * (a % d)) || (decide (2 * (a % d) = d) && decide (a / d % 2 = 1))
def HfIs (r d : Nat) (h : Int) : Prop := (2 * r < d ∧ h = -1) ∨ (2 * r = d ∧ h = 0) ∨ (d < 2 * r ∧ h = 1)
theorem HfIs.up {a d : Nat} {h : Int} (k : HfIs (a % d) d h) : neUp a d = (decide (0 < h) || (decide (h = 0) && decide (a / d % 2 = 1))) := by
  unfold neUp
  rcases k with ⟨k, rfl⟩ | ⟨k, rfl⟩ | ⟨k, rfl⟩
  · rw [decide_eq_false (by omega), decide_eq_false (p := 2 * (a % d) = d) (by omega)]; rfl
  · rw [decide_eq_false (by omega), decide_eq_true (p := 2 * (a % d) = d) (by omega)]; rfl
  · rw [decide_eq_true (by omega)]; rfl
def AnsZ (B : Nat) (w' : World) (v : Value) (z : Int) : Prop :=
  ∃ p m zs, v = ZV (decide (z < 0)) p m m ∧ Own B w' p m zs ∧ Nf B64 zs z.natAbs ∧ m ≤ 8192
theorem iv_lt (s : Bool) (n : Nat) : decide (iv s n < 0) = (s && decide (0 < n)) := by
  cases s
  · simp [iv]
  · simp only [iv, if_true, Bool.true_and]; exact decide_eq_decide.2 (by omega)
theorem AnsZ.mk {B : Nat} {w' : World} {p : Option Addr} {m : Nat} {zs : List Nat} {q : Nat} (s : Bool) (ho : Own B w' p m zs) (hn : Nf B64 zs q) (hm : m ≤ 8192) : AnsZ B w' (ZV (s && decide (0 < m)) p m m) (iv s q) :=
  ⟨p, m, zs, by rw [iv_lt, hn.lenpos ho.len], ho, by rw [iv_natAbs]; exact hn, hm⟩
theorem AnsZ.below {B : Nat} {w w' : World} {v : Value} {z : Int} (h : AnsZ B w v z) (hb : Below w.heap.size w w') : AnsZ B w' v z := by
  obtain ⟨p, m, zs, rfl, ho, hn, hm⟩ := h
  exact ⟨p, m, zs, rfl, ho.below hb, hn, hm⟩
structure B4q (W : World) (g : Nat) (v0 v1 v2 v3 : Value) : Prop where
  c0 : W.cell? ⟨g, 0, none⟩ = some v0
  c1 : W.cell? ⟨g, 1, none⟩ = some v1
  c2 : W.cell? ⟨g, 2, none⟩ = some v2
  c3 : W.cell? ⟨g, 3, none⟩ = some v3
  f0 : W.frozen? ⟨g, 0, none⟩ = false
  f1 : W.frozen? ⟨g, 1, none⟩ = false
  f2 : W.frozen? ⟨g, 2, none⟩ = false
  f3 : W.frozen? ⟨g, 3, none⟩ = false
theorem B4q.below {W W' : World} {g : Nat} {v0 v1 v2 v3 : Value} (h : B4q W g v0 v1 v2 v3) (hb : Below W.heap.size W W') : B4q W' g v0 v1 v2 v3 := by
  have hl : g < W.heap.size := World.block_lt_of_cell? W _ h.c0
  exact ⟨(hb.cell (p := ⟨g, 0, none⟩) hl).trans h.c0, (hb.cell (p := ⟨g, 1, none⟩) hl).trans h.c1, (hb.cell (p := ⟨g, 2, none⟩) hl).trans h.c2, (hb.cell (p := ⟨g, 3, none⟩) hl).trans h.c3,
    (hb.frozen (p := ⟨g, 0, none⟩) hl).trans h.f0, (hb.frozen (p := ⟨g, 1, none⟩) hl).trans h.f1, (hb.frozen (p := ⟨g, 2, none⟩) hl).trans h.f2, (hb.frozen (p := ⟨g, 3, none⟩) hl).trans h.f3⟩
theorem B4q.new (w : World) (ty : TypeId) (v0 v1 v2 v3 : Value) : B4q (w.alloc (.cells #[v0, v1, v2, v3] ty)) w.heap.size v0 v1 v2 v3 :=
  ⟨by go_simp, by go_simp, by go_simp, by go_simp, by go_simp, by go_simp, by go_simp, by go_simp⟩
theorem Box.lt {W : World} {g : Nat} {v0 v1 : Value} (h : Box W g v0 v1) : g < W.heap.size := World.block_lt_of_cell? W _ h.c0
theorem B4q.lt {W : World} {g : Nat} {v0 v1 v2 v3 : Value} (h : B4q W g v0 v1 v2 v3) : g < W.heap.size := World.block_lt_of_cell? W _ h.c0
theorem Own.setNot {B : Nat} {w : World} {p : Option Addr} {m : Nat} {zs : List Nat} (h : Own B w p m zs) (g2 o2 : Nat) (v : Value) (hne : ∀ g, p = some ⟨g, 0, none⟩ → 0 < m → g ≠ g2) : Own B (w.setCell ⟨g2, o2, none⟩ v) p m zs := by
  refine ⟨h.len, h.dig, ?_⟩
  rcases h.mem with h0 | ⟨g, hp, hB, hr⟩
  · exact .inl h0
  · by_cases hm : m = 0
    · exact .inl hm
    · exact .inr ⟨g, hp, hB, hr.oth g2 o2 v (hne g hp (by omega))⟩
structure GN (w : World) (p : Option Addr) (m a : Nat) : Prop where
  mem : ∃ xs, At w p m m xs ∧ Nf B64 xs a
  len : m ≤ 8192
theorem GN.below {w w' : World} {p : Option Addr} {m a : Nat} (h : GN w p m a) (hb : Below w.heap.size w w') : GN w' p m a := by
  obtain ⟨⟨zs, h1, h2⟩, h3⟩ := h
  exact ⟨⟨zs, h1.below hb, h2⟩, h3⟩
theorem GN.zero {w : World} {p : Option Addr} {m a : Nat} (h : GN w p m a) : m = 0 ↔ a = 0 := by
  obtain ⟨⟨zs, h1, h2⟩, h3⟩ := h
  rw [← h2.zero_iff B64_one, ← h1.len]
  exact List.length_eq_zero_iff
theorem GN.nil (w : World) (p : Option Addr) : GN w p 0 0 := ⟨⟨[], At.empty w p 0 (Nat.zero_le _), Nf.nil _⟩, by omega⟩
theorem GN.own {B : Nat} {w : World} {p : Option Addr} {m a : Nat} {zs : List Nat} (h : Own B w p m zs) (k : Nf B64 zs a) (l : m ≤ 8192) : GN w p m a := ⟨⟨zs, h.at_ l, k⟩, l⟩
structure GO (B : Nat) (w : World) (p : Option Addr) (m a : Nat) : Prop where
  mem : ∃ xs, Own B w p m xs ∧ Nf B64 xs a
  len : m ≤ 8192
theorem GO.gn {B : Nat} {w : World} {p : Option Addr} {m a : Nat} (h : GO B w p m a) : GN w p m a := by
  obtain ⟨⟨zs, h1, h2⟩, h3⟩ := h
  exact GN.own h1 h2 h3
theorem GO.below {B : Nat} {w w' : World} {p : Option Addr} {m a : Nat} (h : GO B w p m a) (hb : Below w.heap.size w w') : GO B w' p m a := by
  obtain ⟨⟨zs, h1, h2⟩, h3⟩ := h
  exact ⟨⟨zs, h1.below hb, h2⟩, h3⟩
theorem GO.mono {B B' : Nat} {w : World} {p : Option Addr} {m a : Nat} (h : GO B w p m a) (hB : B' ≤ B) : GO B' w p m a := by
  obtain ⟨⟨zs, h1, h2⟩, h3⟩ := h
  exact ⟨⟨zs, h1.mono hB, h2⟩, h3⟩
theorem GO.set {B : Nat} {w : World} {p : Option Addr} {m a : Nat} (h : GO B w p m a) (g2 o2 : Nat) (v : Value) (hg : g2 < B) : GO B (w.setCell ⟨g2, o2, none⟩ v) p m a := by
  obtain ⟨⟨zs, h1, h2⟩, h3⟩ := h
  refine ⟨⟨zs, h1.setNot g2 o2 v (fun g hp hm => ?_), h2⟩, h3⟩
  obtain ⟨g3, e1, e2, _⟩ := h1.mem.resolve_left (by omega)
  rw [hp] at e1
  simp only [Option.some.injEq, Addr.mk.injEq, and_true] at e1
  omega
def GNs (w w' : World) (e : Ending) (a : Nat) : Prop := ∃ p m, e = .returned (.tuple #[.slice p m m, .int .i64 0]) ∧ GO w.heap.size w' p m a ∧ Below w.heap.size w w'
theorem glim_of {a K : Nat} (hK : K ≤ 100000) (h : a < 2 ^ K) : a < LIM := by
  obtain ⟨k, hk⟩ : ∃ k, k = 8192 := ⟨_, rfl⟩
  rw [LIM_eq k hk, show B64 = 2 ^ 64 from rfl, ← Nat.pow_mul]
  exact Nat.lt_of_lt_of_le h (Nat.pow_le_pow_right (by decide) (by omega))
theorem Ans.gn {w w' : World} {e : Ending} {a K : Nat} (h : Ans w.heap.size w' e a) (hb : Below w.heap.size w w') (hK : K ≤ 100000) (hl : a < 2 ^ K) : GNs w w' e a := by
  rcases h with ⟨_, p, m, zs, rfl, h1, h2, h3⟩ | ⟨h1, _⟩
  · exact ⟨_, _, rfl, ⟨⟨zs, h1, h2⟩, h3⟩, hb⟩
  · exact absurd (glim_of hK hl) (Nat.not_lt.2 h1)
theorem gn_add {w : World} {p : Option Addr} {m a : Nat} (h : GN w p m a) {q : Option Addr} {n b : Nat} (k : GN w q n b) {K : Nat} (hK : K ≤ 100000) (hb : a + b < 2 ^ K) : Calls Try.prog 10 #[.slice p m m, .slice q n n] w fun e w' => GNs w w' e (a + b) := by
  obtain ⟨⟨zs, h1, h2⟩, h3⟩ := h
  obtain ⟨⟨ys, k1, k2⟩, k3⟩ := k
  refine (add_ord h1 k1 h2 k2 h3 k3).mono ?_
  rintro e w' ⟨g, hb2⟩
  exact g.gn hb2 hK hb
theorem gn_mulw {w : World} {p : Option Addr} {m a : Nat} (h : GN w p m a) (v : Nat) (hv : v < B64) {K : Nat} (hK : K ≤ 100000) (hb : a * v < 2 ^ K) : Calls Try.prog 9 #[.slice p m m, U v] w fun e w' => GNs w w' e (a * v) := by
  obtain ⟨⟨zs, h1, h2⟩, h3⟩ := h
  refine (mulw_nf h1 h2 h3 v hv).mono ?_
  rintro e w' ⟨g, hb2⟩
  exact g.gn hb2 hK hb
theorem gn_word {w : World} (v : Nat) (hv : v < B64) : Calls Try.prog 11 #[U v] w fun e w' => ∃ p m, e = .returned (.slice p m m) ∧ GN w' p m v ∧ Below w.heap.size w w' := by
  refine (word_any v w hv).mono ?_
  rintro e w' ⟨p, m, zs, rfl, g1, g2, g3, hb⟩
  exact ⟨_, _, rfl, GN.own g1 g2 (by omega), hb⟩
structure Row32 (w : World) (g off n : Nat) (xs : List Nat) : Prop where
  len : xs.length = n
  dig : Dig B32 xs
  cell : ∀ j, j < n → w.cell? ⟨g, off + j, none⟩ = some (V (xs.getD j 0))
  frozen : ∀ j, j < n → w.frozen? ⟨g, off + j, none⟩ = false
theorem Row32.at_ {w : World} {g off n c : Nat} {xs : List Nat} (h : Row32 w g off n xs) (hc : n ≤ c) (hb : c ≤ maxLen) : At32 w (some ⟨g, off, none⟩) n c xs :=
  ⟨h.len, hc, hb, h.dig, .inr ⟨g, off, rfl, h.cell⟩⟩
theorem Row32.set {w : World} {g off n : Nat} {xs : List Nat} (h : Row32 w g off n xs) (k y : Nat) (hk : k < n) (hy : y < B32) : Row32 (w.setCell ⟨g, off + k, none⟩ (V y)) g off n (xs.set k y) := by
  refine ⟨by rw [List.length_set]; exact h.len, h.dig.set k hy, fun j hj => ?_, fun j hj => by rw [World.frozen?_setCell]; exact h.frozen j hj⟩
  rw [getD_set xs k y j (by rw [h.len]; exact hk)]
  by_cases e : j = k
  · subst e; rw [if_pos rfl]; exact World.cell?_setCell_same _ _ _ (h.cell j hj)
  · rw [if_neg e]
    exact (World.cell?_setCell_other _ _ _ _ (by intro e2; apply e; have := congrArg Addr.off e2; simp at this; omega)).trans (h.cell j hj)
theorem Row32.drewN {w : World} {g off n : Nat} {xs : List Nat} (h : Row32 w g off n xs) (q : Nat) : Row32 (w.drewN q) g off n xs := ⟨h.len, h.dig, h.cell, h.frozen⟩
theorem Row32.drew {w : World} {g off n : Nat} {xs : List Nat} (h : Row32 w g off n xs) : Row32 w.drew g off n xs := ⟨h.len, h.dig, h.cell, h.frozen⟩
theorem Blk32.frozen {w : World} {g : Nat} {xs : List Nat} (h : Blk32 w g xs) (j : Nat) : w.frozen? ⟨g, j, none⟩ = false := frozen_of_row w g j _ _ h
theorem Blk32.row {w : World} {g : Nat} {xs : List Nat} (h : Blk32 w g xs) (hd : Dig B32 xs) : Row32 w g 0 xs.length xs :=
  ⟨rfl, hd, fun j hj => by rw [Nat.zero_add]; exact h.cell j hj, fun j _ => h.frozen _⟩
theorem Row32.win {w : World} {g m : Nat} {rs : List Nat} (h : Row32 w g 0 m rs) (a l : Nat) (ha : a + l ≤ m) : Row32 w g a l ((rs.drop a).take l) := by
  have hl := h.len
  refine ⟨by simp; omega, (h.dig.drop a).take l, fun j hj => ?_, fun j hj => ?_⟩
  · have e : ((rs.drop a).take l).getD j 0 = rs.getD (a + j) 0 := by
      rw [List.getD_eq_getElem?_getD, List.getD_eq_getElem?_getD, List.getElem?_take, if_pos hj, List.getElem?_drop]
    rw [e]
    have := h.cell (a + j) (by omega)
    rw [Nat.zero_add] at this; exact this
  · have := h.frozen (a + j) (by omega)
    rw [Nat.zero_add] at this; exact this
theorem Row32.put {w w' : World} {g m a l : Nat} {rs ws : List Nat} (h : Row32 w g 0 m rs) (hwr : Wr g a l w w') (hr : Row32 w' g a l ws) (ha : a + l ≤ m) : Row32 w' g 0 m (winPut rs ws a) := by
  have hl := h.len; have hwl := hr.len
  have hle : a + ws.length ≤ rs.length := by omega
  refine ⟨by rw [winPut_len rs ws a hle]; exact hl, ?_, fun j hj => ?_, fun j hj => ?_⟩
  · unfold winPut; exact ((h.dig.take a).append hr.dig).append (h.dig.drop _)
  · rw [winPut_get rs ws a j hle, Nat.zero_add]
    by_cases hc : a ≤ j ∧ j < a + ws.length
    · rw [if_pos hc]
      have := hr.cell (j - a) (by omega)
      rw [show a + (j - a) = j by omega] at this; exact this
    · rw [if_neg hc, hwr.cell g j (by omega)]
      have := h.cell j hj
      rw [Nat.zero_add] at this; exact this
  · rw [hwr.frozen]; exact h.frozen j hj
theorem win_take32 (rs : List Nat) (a m : Nat) (h : a + m ≤ rs.length) : valB B32 rs = valB B32 (rs.take a) + B32 ^ a * (valB B32 ((rs.drop a).take m) + B32 ^ m * valB B32 (rs.drop (a + m))) := by
  rw [valB_split B32 rs a (by omega), valB_split B32 (rs.drop a) m (by rw [List.length_drop]; omega), List.drop_drop]

structure RMulRel (w : World) (g off m : Nat) (zs ys : List Nat) (v k cy : Nat) (dk : List Nat) (wr : World) : Prop where
  wrs : Wr g off m w wr
  row : Row32 wr g off m dk
  hi : dk.drop k = zs.drop k
  car : cy < B32
  sum : valB B32 (dk.take k) + B32 ^ k * cy = valB B32 (zs.take k) + valB B32 (ys.take k) * v
theorem RMulRel.step {w : World} {g off m : Nat} {zs ys : List Nat} {v k cy : Nat} {dk : List Nat} {wr : World} (h : RMulRel w g off m zs ys v k cy dk wr) (hk : k < m)
    {x z l d : Nat} (hz : z = dk.getD k 0) (hx : x = ys.getD k 0) (hs : x * v + z + cy = l + B32 * d) (hl : l < B32) (hd : d < B32) :
    RMulRel w g off m zs ys v (k + 1) d (dk.set k l) (wr.setCell ⟨g, off + k, none⟩ (V l)) := by
  have hlen := h.row.len
  refine ⟨h.wrs.setCell (off + k) ⟨by omega, by omega⟩ _, h.row.set k l hk hl, ?_, hd, ?_⟩
  · rw [drop_set_lt]; exact drop_succ_of_drop h.hi
  · have hzz : z = zs.getD k 0 := hz.trans (getD_of_drop h.hi)
    rw [take_set_succ dk k l (by omega), valB_snoc, List.length_take, hlen, Nat.min_eq_left (by omega), valB_take_any _ zs k, valB_take_any _ ys k, ← hzz, ← hx, Nat.pow_succ, Nat.add_mul]
    have e1 := h.sum
    have e2 : B32 ^ k * (x * v + z + cy) = B32 ^ k * (l + B32 * d) := by rw [hs]
    rw [Nat.mul_add, Nat.mul_add, Nat.mul_add, ← Nat.mul_assoc] at e2
    have e3 : B32 ^ k * x * v = B32 ^ k * (x * v) := Nat.mul_assoc _ _ _
    have e4 : B32 ^ k * B32 * d = B32 ^ k * (B32 * d) := Nat.mul_assoc _ _ _
    rw [e3, e4]
    rw [← Nat.mul_assoc] at e2
    generalize B32 ^ k * x * v = X0 at *
    generalize B32 ^ k * (x * v) = X1 at *
    generalize B32 ^ k * B32 * d = X2 at *
    generalize B32 ^ k * (B32 * d) = X3 at *
    generalize B32 ^ k * z = X4 at *
    generalize B32 ^ k * cy = X5 at *
    generalize B32 ^ k * l = X6 at *
    omega

theorem RMulRel.drewN {w : World} {g off m : Nat} {zs ys : List Nat} {v k cy : Nat} {dk : List Nat} {wr : World} (h : RMulRel w g off m zs ys v k cy dk wr) (q : Nat) : RMulRel w g off m zs ys v k cy dk (wr.drewN q) :=
  ⟨h.wrs.drewN q, h.row.drewN q, h.hi, h.car, h.sum⟩
theorem valB_set_zero (b : Nat) (xs : List Nat) (k y : Nat) (hk : k < xs.length) (h0 : xs.getD k 0 = 0) : valB b (xs.set k y) = valB b xs + b ^ k * y := by
  have h1 := valB_split b xs k (by omega)
  have h2 := valB_split b (xs.set k y) k (by simp; omega)
  rw [drop_set_at xs k y hk, take_set_at, valB_cons] at h2
  rw [valB_drop b xs k hk, h0] at h1
  rw [h2, h1, Nat.mul_add, Nat.zero_add]
  omega
theorem valB_drop_zero {b : Nat} (hb : 0 < b) {xs : List Nat} {k : Nat} (h : valB b (xs.drop k) = 0) : xs.getD k 0 = 0 ∧ valB b (xs.drop (k + 1)) = 0 := by
  by_cases hk : k < xs.length
  · rw [valB_drop b xs k hk] at h
    have h1 : b * valB b (xs.drop (k + 1)) = 0 := by omega
    refine ⟨by omega, ?_⟩
    rcases Nat.mul_eq_zero.1 h1 with e | e
    · omega
    · exact e
  · refine ⟨?_, ?_⟩
    · rw [List.getD_eq_getElem?_getD, List.getElem?_eq_none (by omega)]; rfl
    · rw [List.drop_of_length_le (by omega)]; rfl
structure RMulO (w : World) (g N m : Nat) (xs ys : List Nat) (i : Nat) (ps : List Nat) (wr : World) : Prop where
  bel : Below g w wr
  row : Row32 wr g 0 N ps
  val : valB B32 ps = valB B32 (xs.take i) * valB B32 ys
  zero : valB B32 (ps.drop (i + m)) = 0
theorem rmul_abs {P Y x T Z D V cy B m : Nat} (h1 : V = T + P * Z) (h2 : D + B ^ m * cy = Z + Y * x) : T + P * D + P * B ^ m * cy = V + P * (Y * x) := by
  have e1 : P * (D + B ^ m * cy) = P * (Z + Y * x) := by rw [h2]
  rw [Nat.mul_add, Nat.mul_add, ← Nat.mul_assoc] at e1
  omega
theorem RMulO.step {w : World} {g N m n : Nat} {xs ys : List Nat} {i : Nat} {ps : List Nat} {wr wr' : World} (h : RMulO w g N m xs ys i ps wr) (hi : i < n) (hN : N = n + m) (hx : xs.length = n) (hy : ys.length = m) {x cy : Nat} {dk : List Nat} (ex : x = xs.getD i 0) (hR : RMulRel wr g i m ((ps.drop i).take m) ys x m cy dk wr') :
    RMulO w g N m xs ys (i + 1) ((winPut ps dk i).set (i + m) cy) (wr'.setCell ⟨g, i + m, none⟩ (V cy)) := by
  have hl := h.row.len; have hdl := hR.row.len
  have hle : i + dk.length ≤ ps.length := by omega
  have hrow := h.row.put hR.wrs hR.row (by omega)
  have hz := valB_drop_zero B32_pos h.zero
  have hsum := hR.sum
  have t1 : dk.take m = dk := List.take_of_length_le (by omega)
  have t2 : ((ps.drop i).take m).take m = (ps.drop i).take m := by rw [List.take_take, Nat.min_self]
  have t3 : ys.take m = ys := List.take_of_length_le (by omega)
  rw [t1, t2, t3] at hsum
  have hv := win_take32 ps i m (by omega)
  rw [h.zero, Nat.mul_zero, Nat.add_zero] at hv
  have hv1 : valB B32 (winPut ps dk i) = valB B32 (ps.take i) + B32 ^ i * valB B32 dk := by
    rw [valB_split B32 (winPut ps dk i) i (by rw [winPut_len ps dk i hle]; omega), winPut_take ps dk i hle, winPut_drop ps dk i hle, valB_append, hdl, h.zero, Nat.mul_zero, Nat.add_zero]
  have hg0 : (winPut ps dk i).getD (i + m) 0 = 0 := by
    rw [winPut_get ps dk i (i + m) hle, if_neg (by omega)]; exact hz.1
  refine ⟨(h.bel.trans (hR.wrs.below (Nat.le_refl _))).trans (((Wr.refl g 0 N wr').setCell (i + m) ⟨by omega, by omega⟩ (V cy)).below (Nat.le_refl _)), ?_, ?_, ?_⟩
  · have := hrow.set (i + m) cy (by omega) hR.car
    rw [Nat.zero_add] at this; exact this
  · rw [valB_set_zero B32 _ (i + m) cy (by rw [winPut_len ps dk i hle]; omega) hg0, hv1, Nat.pow_add, rmul_abs hv hsum, h.val, valB_take_succ B32 xs i (by omega), ← ex, Nat.add_mul, Nat.mul_assoc, Nat.mul_comm (valB B32 ys) x]
  · rw [show i + 1 + m = i + m + 1 by omega, drop_set_lt]
    have e : (winPut ps dk i).drop (i + m + 1) = ps.drop (i + m + 1) := by
      have e1 : (winPut ps dk i).drop (i + m) = ps.drop (i + m) := by
        have := congrArg (List.drop dk.length) (winPut_drop ps dk i hle)
        rw [List.drop_drop, List.drop_left, hdl] at this
        exact this
      have := congrArg (List.drop 1) e1
      rw [List.drop_drop, List.drop_drop] at this; exact this
    rw [e]; exact hz.2
theorem rmul_digit {x y z cy : Nat} (hx : x < B32) (hy : y < B32) (hz : z < B32) (hc : cy < B32) : x * y + z + cy < B64 := by
  have h1 : x * y ≤ (B32 - 1) * (B32 - 1) := Nat.mul_le_mul (by omega) (by omega)
  have h2 : (B32 - 1) * (B32 - 1) + 2 * (B32 - 1) < B64 := by decide
  omega
structure WinRel32 (w : World) (g off n : Nat) (W D d b : Nat) (ws : List Nat) (wr : World) : Prop where
  wrs : Wr g off (n + 1) w wr
  row : Row32 wr g off (n + 1) ws
  db : d < B32
  bb : b ≤ 1
  ge : W / D ≤ d
  sum : valB B32 ws + D * d = W + B32 ^ (n + 1) * b
theorem WinRel32.done {w : World} {g off n W D d : Nat} {ws : List Nat} {wr : World} (h : WinRel32 w g off n W D d 0 ws wr) (hD : 0 < D) : d = W / D ∧ valB B32 ws = W % D := by
  have h1 := h.sum; have h2 := h.ge
  rw [Nat.mul_zero, Nat.add_zero] at h1
  have h3 : d ≤ W / D := (Nat.le_div_iff_mul_le hD).2 (by rw [Nat.mul_comm]; omega)
  have h4 : d = W / D := by omega
  refine ⟨h4, ?_⟩
  have h5 := Nat.div_add_mod W D
  rw [← h4] at h5
  omega
structure DgS (w : World) (g off n : Nat) (us vs : List Nat) (q k cy ow : Nat) (dk : List Nat) (wr : World) : Prop where
  wrs : Wr g off (n + 1) w wr
  row : Row32 wr g off (n + 1) dk
  hi : dk.drop k = us.drop k
  car : cy < B32
  owb : ow ≤ 1
  fin : k = n + 1 → cy = 0
  sum : valB B32 (dk.take k) + valB B32 (vs.take k) * q = valB B32 (us.take k) + B32 ^ k * (ow + cy)
theorem dgs_abs {P B S V U q d y u o c o' c' : Nat} (h : S + V * q = U + P * (o + c)) (hs : o + c + d + y * q = u + B * (o' + c')) : S + P * d + (V + P * y) * q = U + P * u + P * B * (o' + c') := by
  have e1 : P * (o + c + d + y * q) = P * (u + B * (o' + c')) := by rw [hs]
  rw [Nat.mul_add P (o + c + d) (y * q), Nat.mul_add P (o + c) d, Nat.mul_add P u] at e1
  have e2 : P * (y * q) = P * y * q := (Nat.mul_assoc _ _ _).symm
  have e3 : P * (B * (o' + c')) = P * B * (o' + c') := (Nat.mul_assoc _ _ _).symm
  rw [e2, e3] at e1
  rw [Nat.add_mul]
  generalize P * y * q = X1 at *
  generalize P * B * (o' + c') = X2 at *
  generalize P * (o + c) = X3 at *
  generalize P * d = X4 at *
  generalize P * u = X5 at *
  omega
theorem DgS.step {w : World} {g off n : Nat} {us vs : List Nat} {q k cy ow : Nat} {dk : List Nat} {wr : World} (h : DgS w g off n us vs q k cy ow dk wr) (hk : k < n + 1) (hvl : vs.length = n)
    {y u c1 lo cy' ow' d : Nat} (hy : y = vs.getD k 0) (hu : u = dk.getD k 0) (hc1 : c1 = cy + y * q) (hlo : c1 = lo + B32 * cy') (hcy' : cy' < B32) (how' : ow' ≤ 1) (hd : d + lo + ow = u + B32 * ow') (hdb : d < B32) :
    DgS w g off n us vs q (k + 1) cy' ow' (dk.set k d) (wr.setCell ⟨g, off + k, none⟩ (V d)) := by
  have hlen := h.row.len
  refine ⟨h.wrs.setCell (off + k) ⟨by omega, by omega⟩ _, h.row.set k d hk hdb, ?_, hcy', how', ?_, ?_⟩
  · rw [drop_set_lt]; exact drop_succ_of_drop h.hi
  · intro hkn
    have h0 : y = 0 := by
      rw [hy, List.getD_eq_getElem?_getD, List.getElem?_eq_none (by omega)]; rfl
    rw [h0, Nat.zero_mul] at hc1
    have := h.car
    rcases Nat.eq_zero_or_pos cy' with e | e
    · exact e
    · have : B32 * 1 ≤ B32 * cy' := Nat.mul_le_mul_left _ e
      omega
  · have huu : u = us.getD k 0 := hu.trans (getD_of_drop h.hi)
    rw [take_set_succ dk k d (by omega), valB_snoc, List.length_take, hlen, Nat.min_eq_left (by omega), valB_take_any _ us k, valB_take_any _ vs k, ← huu, ← hy, Nat.pow_succ]
    refine dgs_abs h.sum ?_
    rw [Nat.mul_add]
    omega
structure DgA (w : World) (g off n : Nat) (ws vs : List Nat) (k cy : Nat) (dk : List Nat) (wr : World) : Prop where
  wrs : Wr g off (n + 1) w wr
  row : Row32 wr g off (n + 1) dk
  hi : dk.drop k = ws.drop k
  car : cy ≤ 1
  sum : valB B32 (dk.take k) + B32 ^ k * cy = valB B32 (ws.take k) + valB B32 (vs.take k)
theorem DgA.step {w : World} {g off n : Nat} {ws vs : List Nat} {k cy : Nat} {dk : List Nat} {wr : World} (h : DgA w g off n ws vs k cy dk wr) (hk : k < n + 1)
    {y u lo cy' : Nat} (hy : y = vs.getD k 0) (hu : u = dk.getD k 0) (hs : cy + u + y = lo + B32 * cy') (hlo : lo < B32) (hcy' : cy' ≤ 1) :
    DgA w g off n ws vs (k + 1) cy' (dk.set k lo) (wr.setCell ⟨g, off + k, none⟩ (V lo)) := by
  have hlen := h.row.len
  refine ⟨h.wrs.setCell (off + k) ⟨by omega, by omega⟩ _, h.row.set k lo hk hlo, ?_, hcy', ?_⟩
  · rw [drop_set_lt]; exact drop_succ_of_drop h.hi
  · have huu : u = ws.getD k 0 := hu.trans (getD_of_drop h.hi)
    rw [take_set_succ dk k lo (by omega), valB_snoc, List.length_take, hlen, Nat.min_eq_left (by omega), valB_take_any _ ws k, valB_take_any _ vs k, ← huu, ← hy, Nat.pow_succ]
    have e1 := h.sum
    have e2 : B32 ^ k * (cy + u + y) = B32 ^ k * (lo + B32 * cy') := by rw [hs]
    rw [Nat.mul_add, Nat.mul_add, Nat.mul_add, ← Nat.mul_assoc] at e2
    omega
structure RAddR (w : World) (g N M : Nat) (xs ys : List Nat) (i cy : Nat) (ss : List Nat) (wr : World) : Prop where
  bel : Below g w wr
  own : wr.ownsRow g 44 1 (.slice (some ⟨g, 0, none⟩) i N) i (cellsV ss)
  len : ss.length = i
  dig : Dig B32 ss
  car : cy ≤ 1
  fin : i ≤ M + 1
  last : i = M + 1 → cy = 0
  sum : valB B32 ss + B32 ^ i * cy = valB B32 (xs.take i) + valB B32 (ys.take i)
theorem RAddR.at_ {w : World} {g N M : Nat} {xs ys : List Nat} {i cy : Nat} {ss : List Nat} {wr : World} (h : RAddR w g N M xs ys i cy ss wr) : At32 wr (some ⟨g, 0, none⟩) i N ss := by
  rcases h.own.2 with ⟨h', _⟩ | ⟨g', cap', cur, h', hbase, hgc, hcap', hmx, hsz, htake⟩
  · simp at h'
  · simp only [Value.slice.injEq, Option.some.injEq, Addr.mk.injEq, and_true, true_and] at h'
    obtain ⟨rfl, rfl⟩ := h'
    refine ⟨h.len, hcap', hmx, h.dig, .inr ⟨g, 0, rfl, fun jj hj => ?_⟩⟩
    rw [Nat.zero_add, cell_of_row wr g jj _ _ _ hgc]
    have e1 := cellsV_get ss jj (by rw [h.len]; exact hj)
    rw [← htake, Nat.mul_one, List.getElem?_take, if_pos hj] at e1
    rw [← Array.getElem?_toList]; exact e1
theorem one_cell (w : World) (x : Nat) : ∀ (j : Nat) (u : Value), [V x][j]? = some u → (w.alloc (.cells #[V x] 44)).cell? ((⟨w.heap.size, 0, none⟩ : Addr).add j) = some u := by
  intro j u h
  have hb : Blk32 (w.alloc (.cells #[V x] 44)) w.heap.size [x] := heap_alloc_new w _
  have hj : j < 1 := by
    have := (List.getElem?_eq_some_iff.1 h).1
    simpa using this
  have hadd : (⟨w.heap.size, 0, none⟩ : Addr).add j = ⟨w.heap.size, j, none⟩ := by unfold Addr.add; split <;> simp_all
  rw [hadd, hb.cell j (by simpa using hj)]
  obtain rfl : j = 0 := by omega
  simpa using h
structure RSubR (w : World) (g N : Nat) (xs ys : List Nat) (i ow : Nat) (ss : List Nat) (wr : World) : Prop where
  bel : Below g w wr
  own : wr.ownsRow g 44 1 (.slice (some ⟨g, 0, none⟩) i N) i (cellsV ss)
  len : ss.length = i
  dig : Dig B32 ss
  car : ow ≤ 1
  sum : valB B32 ss + valB B32 (ys.take i) = valB B32 (xs.take i) + B32 ^ i * ow
theorem RSubR.at_ {w : World} {g N : Nat} {xs ys : List Nat} {i cy : Nat} {ss : List Nat} {wr : World} (h : RSubR w g N xs ys i cy ss wr) : At32 wr (some ⟨g, 0, none⟩) i N ss := by
  rcases h.own.2 with ⟨h', _⟩ | ⟨g', cap', cur, h', hbase, hgc, hcap', hmx, hsz, htake⟩
  · simp at h'
  · simp only [Value.slice.injEq, Option.some.injEq, Addr.mk.injEq, and_true, true_and] at h'
    obtain ⟨rfl, rfl⟩ := h'
    refine ⟨h.len, hcap', hmx, h.dig, .inr ⟨g, 0, rfl, fun jj hj => ?_⟩⟩
    rw [Nat.zero_add, cell_of_row wr g jj _ _ _ hgc]
    have e1 := cellsV_get ss jj (by rw [h.len]; exact hj)
    rw [← htake, Nat.mul_one, List.getElem?_take, if_pos hj] at e1
    rw [← Array.getElem?_toList]; exact e1
theorem Blk32.own {w : World} {g base : Nat} {xs : List Nat} (h : Blk32 w g xs) (hb : base ≤ g) (hm : xs.length ≤ maxLen) : w.ownsRow base 44 1 (.slice (some ⟨g, 0, none⟩) xs.length xs.length) xs.length (cellsV xs) :=
  ⟨by simp [cellsV], .inr ⟨g, xs.length, (cellsV xs).toArray, rfl, hb, h, Nat.le_refl _, hm, by simp [cellsV], by rw [Nat.mul_one]; exact List.take_of_length_le (by simp [cellsV])⟩⟩
structure RSmR (w : World) (g N : Nat) (xs : List Nat) (v c i cy : Nat) (ss : List Nat) (wr : World) : Prop where
  bel : Below g w wr
  own : wr.ownsRow g 44 1 (.slice (some ⟨g, 0, none⟩) i N) i (cellsV ss)
  len : ss.length = i
  dig : Dig B32 ss
  car : cy < B32
  sum : valB B32 ss + B32 ^ i * cy = valB B32 (xs.take i) * v + c
theorem rsm_step {xs ss : List Nat} {i cy x v c lo hh : Nat} (h : valB B32 ss + B32 ^ i * cy = valB B32 (xs.take i) * v + c) (hl : ss.length = i) (ex : x = xs.getD i 0) (hs : cy + x * v = lo + B32 * hh) :
    valB B32 (ss ++ [lo]) + B32 ^ (i + 1) * hh = valB B32 (xs.take (i + 1)) * v + c := by
  rw [valB_snoc, hl, valB_take_any _ xs i, ← ex, Nat.pow_succ, Nat.add_mul]
  have e1 : B32 ^ i * (cy + x * v) = B32 ^ i * (lo + B32 * hh) := by rw [hs]
  rw [Nat.mul_add, Nat.mul_add, ← Nat.mul_assoc, ← Nat.mul_assoc] at e1
  omega
theorem own_at32 {wr : World} {g i N : Nat} {ss : List Nat} (ho : wr.ownsRow g 44 1 (.slice (some ⟨g, 0, none⟩) i N) i (cellsV ss)) (hl : ss.length = i) (hd : Dig B32 ss) : At32 wr (some ⟨g, 0, none⟩) i N ss := by
  rcases ho.2 with ⟨h', _⟩ | ⟨g', cap', cur, h', hbase, hgc, hcap', hmx, hsz, htake⟩
  · simp at h'
  · simp only [Value.slice.injEq, Option.some.injEq, Addr.mk.injEq, and_true, true_and] at h'
    obtain ⟨rfl, rfl⟩ := h'
    refine ⟨hl, hcap', hmx, hd, .inr ⟨g, 0, rfl, fun jj hj => ?_⟩⟩
    rw [Nat.zero_add, cell_of_row wr g jj _ _ _ hgc]
    have e1 := cellsV_get ss jj (by rw [hl]; exact hj)
    rw [← htake, Nat.mul_one, List.getElem?_take, if_pos hj] at e1
    rw [← Array.getElem?_toList]; exact e1

theorem rsmall_any {p : Option Addr} {n c : Nat} {xs : List Nat} {a v u : Nat} {w : World} (h : At32 w p n c xs) (hx : Nf B32 xs a) (hn : n ≤ 4398046511104) (hv : v < B32) (hu : u < B32) :
    Calls Try.prog 21 #[.slice p n c, V v, V u] w fun e w' => ∃ g zs, e = .returned (.slice (some ⟨g, 0, none⟩) zs.length zs.length) ∧ Blk32 w' g zs ∧ Nf B32 zs (a * v + u) ∧ zs.length ≤ n + 1 ∧ Below w.heap.size w w' := by
  obtain ⟨i0, hi, hz0, hz1, hz2⟩ := info_parts Try.infoU32
  have HX : Hid (Nf B32 xs a) := hx
  have HLX : Hid (xs.length = n) := h.len
  have hcap := h.cap; have hbig := h.big
  unfold maxLen at hbig
  have huw : IntKind.u64.wrap (u : Int) = (u : Int) := wrap_mod _ _ (by rw [B32_eq] at hu; omega)
  clear hx
  go_enter Try.func21, Try.ntmps21
  go_wp2_with (at_make; refine wpList_make_own _ rfl _ _ 36 rfl w.heap.size 44 i0 (.int .u32 0) 1 Try.underlying36 hi hz0 hz1 _ _ _ (n + 1) rfl rfl (by omega) (by rw [hz2]; omega) (by unfold maxLen; omega) (Nat.le_refl _) ?_; intro w1 hown hgrow)
  have hb1 : Below w.heap.size w w1 := (Below.refl _ _).grown hgrow (Nat.le_refl _) (fun k hk => by simp at hk)
  have HO : Hid (RSmR w w.heap.size (n + 1) xs v u 0 u [] w1) := ⟨hb1, hown, rfl, Dig.nil _, hu, by simp [valB]⟩
  clear hown hgrow hb1
  obtain ⟨N, hN⟩ : ∃ N, N = n + 1 := ⟨_, rfl⟩
  rw [← hN] at HO ⊢
  have HN : Hid (N = n + 1) := hN
  clear hN
  go_loopg [7, 8, 9] n (fun gk sv cv iv wr => ∃ (i cy : Nat) (ss : List Nat), i + gk = n ∧ iv = .int .i64 i ∧ cv = U cy ∧ sv = .slice (some ⟨w.heap.size, 0, none⟩) i N ∧ Hid (RSmR w w.heap.size N xs v u i cy ss wr))
  case atStart => exact ⟨0, u, [], by omega, rfl, rfl, rfl, HO⟩
  case round =>
    obtain ⟨i, cy, ss, hig, rfl, rfl, rfl, HR⟩ := hrel
    have hcyb := HR.out.car
    cases gk with
    | zero =>
      obtain rfl : i = n := by omega
      have hni : ¬ i < i := by omega
      have hw32 : IntKind.u32.wrap (cy : Int) = (cy : Int) := wrap32 cy hcyb
      have HOA : Hid ((wr.alloc (.cells #[V cy] 44)).ownsRow w.heap.size 44 1 (.slice (some ⟨w.heap.size, 0, none⟩) i N) i (cellsV ss)) := HR.out.own.alloc _
      have hsp : i + 1 ≤ N := by have := HN.out; omega
      go_wp2_with (at_builtin; refine wpList_append_fits _ rfl (.tmp 40) (.tmp 43) 36 rfl w.heap.size 44 i0 1 Try.underlying36 hi hz1 w.heap.size i N (cellsV ss) rfl HOA.out ⟨wr.heap.size, 0, none⟩ 1 1 [V cy] rfl rfl (one_cell wr cy) (by intro u hu; simp at hu; subst hu; rfl) hsp ?_; intro w3 hw3 hgr3)
      have hR := HR.out
      have hbx : Below w.heap.size w w3 := (hR.bel.alloc hR.bel.size _).grown hgr3 (by have := hR.bel.size; simp; omega) (fun q hq => by simp at hq; omega)
      have e0 : cellsV (ss ++ [cy]) = cellsV ss ++ [V cy] := by unfold cellsV; rw [List.map_append]; rfl
      rw [← e0] at hw3
      have hl3 : (ss ++ [cy]).length = i + 1 := by simp [hR.len]
      have hd3 : Dig B32 (ss ++ [cy]) := hR.dig.append (Dig.cons hcyb (Dig.nil _))
      have A32 := own_at32 hw3 hl3 hd3
      have HNF : Hid (Nf B32 (trimL (ss ++ [cy])) (a * v + u)) := by
        have h1 := Nf.trim hd3
        have h2 := hR.sum
        rw [List.take_of_length_le (by rw [HLX.out]; omega), HX.out.val] at h2
        rw [valB_snoc, hR.len, h2] at h1; exact h1
      have hle := trimL_length_le (ss ++ [cy])
      have HLE : Hid ((trimL (ss ++ [cy])).length ≤ i + 1) := by show _ ≤ _; omega
      clear hw3 hgr3 e0 hl3 hd3 hle hR
      refine (rnorm_any A32 (by omega)).mono ?_
      rintro e w5 ⟨g5, rfl, hg5, hblk5, hb5⟩
      generalize trimL (ss ++ [cy]) = zs at *
      go_wp2_with fail
      go_ret
      exact ⟨g5, zs, rfl, hblk5, HNF.out, HLE.out, Below.on hbx hb5⟩
    | succ gg =>
      obtain ⟨g, off, rfl, hc⟩ := h.cells.resolve_left (by omega)
      obtain ⟨x, hxx⟩ : ∃ x, x = xs.getD i 0 := ⟨_, rfl⟩
      have hin : i < n := by omega
      have hcx0 : w.cell? ⟨g, off + i, none⟩ = some (V x) := by rw [hxx]; exact hc i hin
      have hcx : wr.cell? ⟨g, off + i, none⟩ = some (V x) := (HR.out.bel.cell (p := ⟨g, off + i, none⟩) (World.block_lt_of_cell? w _ hcx0)).trans hcx0
      have hxb : x < B32 := by rw [hxx]; exact HX.out.dig.getD B32_pos i
      have hxw : IntKind.u64.wrap (x : Int) = (x : Int) := wrap_mod _ _ (by rw [B32_eq] at hxb; omega)
      have hvw : IntKind.u64.wrap (v : Int) = (v : Int) := wrap_mod _ _ (by rw [B32_eq] at hv; omega)
      have HXE : Hid (x = xs.getD i 0) := hxx
      have hall := rmul_digit hxb hv B32_pos hcyb
      obtain ⟨xy, exy⟩ : ∃ xy, xy = x * v := ⟨_, rfl⟩
      rw [← exy] at hall
      rw [B64_eq] at hall
      have f1 : IntKind.u64.wrap ((x : Int) * (v : Int)) = (xy : Int) := by
        have e : ((x : Int) * (v : Int)) = ((x * v : Nat) : Int) := by simp
        rw [e, ← exy]; exact wrap_mod _ _ (by omega)
      obtain ⟨s2, es2⟩ : ∃ s2, s2 = cy + xy := ⟨_, rfl⟩
      have f3 : IntKind.u64.wrap ((cy : Int) + (xy : Int)) = (s2 : Int) := wrap_mod _ _ (by omega)
      have hs2 : s2 < 18446744073709551616 := by omega
      obtain ⟨lo, elo⟩ : ∃ lo, lo = s2 % B32 := ⟨_, rfl⟩
      obtain ⟨hh, ehh⟩ : ∃ hh, hh = s2 / B32 := ⟨_, rfl⟩
      have hlob : lo < B32 := by rw [elo]; exact Nat.mod_lt _ B32_pos
      have hhhb : hh < B32 := by rw [ehh]; exact Nat.div_lt_of_lt_mul (by rw [B32_two, B64_eq]; exact hs2)
      have f4 : bits .and .u64 (s2 : Int) 4294967295 = (lo : Int) := by rw [elo, B32_eq]; exact and32 s2 hs2
      have f5 : (s2 : Int) / 4294967296 = (hh : Int) := by rw [ehh, B32_eq]; exact div32 s2
      have f6 : IntKind.u32.wrap (lo : Int) = (lo : Int) := wrap32 lo hlob
      have HSUM : Hid (cy + x * v = lo + B32 * hh) := by
        have := Nat.mod_add_div s2 B32
        rw [← elo, ← ehh] at this
        show _ = _; omega
      have HOA : Hid ((wr.alloc (.cells #[V lo] 44)).ownsRow w.heap.size 44 1 (.slice (some ⟨w.heap.size, 0, none⟩) i N) i (cellsV ss)) := HR.out.own.alloc _
      have hsp : i + 1 ≤ N := by have := HN.out; omega
      clear hall exy es2 elo ehh hxx hcx0 hc
      go_wp2_with (at_builtin; refine wpList_append_fits _ rfl (.tmp 32) (.tmp 36) 36 rfl w.heap.size 44 i0 1 Try.underlying36 hi hz1 w.heap.size i N (cellsV ss) rfl HOA.out ⟨wr.heap.size, 0, none⟩ 1 1 [V lo] rfl rfl (one_cell wr lo) (by intro u hu; simp at hu; subst hu; rfl) hsp ?_; intro w3 hw3 hgr3)
      have HR3 : Hid (RSmR w w.heap.size N xs v u (i + 1) hh (ss ++ [lo]) w3) := by
        have hR := HR.out
        refine ⟨(hR.bel.alloc hR.bel.size _).grown hgr3 (by have := hR.bel.size; simp; omega) (fun q hq => by simp at hq; omega), ?_, by simp [hR.len], hR.dig.append (Dig.cons hlob (Dig.nil _)), hhhb, rsm_step hR.sum hR.len HXE.out HSUM.out⟩
        have e0 : cellsV (ss ++ [lo]) = cellsV ss ++ [V lo] := by unfold cellsV; rw [List.map_append]; rfl
        rw [e0]; exact hw3
      clear hw3 hgr3
      go_roundg gg
      case measure => omega
      case rel => exact ⟨i + 1, hh, ss ++ [lo], by omega, by go_num, rfl, rfl, HR3⟩
theorem lit_at32w (w : World) (x y : Nat) (hx : x < B32) (hy : y < B32) : At32 (w.alloc (.cells #[V x, V y] 44)) (some ⟨w.heap.size, 0, none⟩) 2 2 [x, y] := by
  refine ⟨rfl, Nat.le_refl _, by decide, ?_, .inr ⟨w.heap.size, 0, rfl, ?_⟩⟩
  · intro z hz
    simp at hz
    rcases hz with rfl | rfl <;> assumption
  · intro j hj
    match j, hj with
    | 0, _ => exact World.cell?_alloc_new ..
    | 1, _ => exact World.cell?_alloc_new ..
theorem rword (x : Nat) (hx : x < B64) (w : World) : Calls Try.prog 20 #[U x] w fun e w' => ∃ g zs, e = .returned (.slice (some ⟨g, 0, none⟩) zs.length zs.length) ∧ zs.length ≤ 2 ∧ At32 w' (some ⟨g, 0, none⟩) zs.length zs.length zs ∧ Nf B32 zs x ∧ Below w.heap.size w w' := by
  obtain ⟨lo, hlo⟩ : ∃ lo, lo = x % B32 := ⟨_, rfl⟩
  obtain ⟨hi, hhi⟩ : ∃ hi, hi = x / B32 := ⟨_, rfl⟩
  have hlb : lo < B32 := by rw [hlo]; exact Nat.mod_lt _ B32_pos
  have hhb : hi < B32 := by rw [hhi]; refine Nat.div_lt_of_lt_mul ?_; rw [B32_two]; exact hx
  have e1 : bits .and .u64 (x : Int) 4294967295 = (lo : Int) := by rw [hlo, B32_eq]; exact and32 x (by rw [← B64_eq]; exact hx)
  have e2 : (x : Int) / 4294967296 = (hi : Int) := by rw [hhi, B32_eq]; exact div32 x
  have e3 : IntKind.u32.wrap (lo : Int) = (lo : Int) := wrap32 lo hlb
  have e4 : IntKind.u32.wrap (hi : Int) = (hi : Int) := wrap32 hi hhb
  have HV : Hid (valB B32 [lo, hi] = x) := by show _ = _; simp only [valB, hlo, hhi]; have := Nat.mod_add_div x B32; omega
  have HLB : Hid (lo < B32 ∧ hi < B32) := ⟨hlb, hhb⟩
  clear hlo hhi hlb hhb
  go_enter Try.func20, Try.ntmps20
  go_wp2_with fail
  refine (rnorm_any (lit_at32w w lo hi HLB.out.1 HLB.out.2) (by omega)).mono ?_
  rintro e w1 ⟨g, rfl, hg, hb, hbl⟩
  have hl := trimL_length_le [lo, hi]
  have hA : At32 w1 (some ⟨g, 0, none⟩) (trimL [lo, hi]).length (trimL [lo, hi]).length (trimL [lo, hi]) := hb.at_ (Dig.trimL (lit_at32w w lo hi HLB.out.1 HLB.out.2).dig) rfl (by unfold maxLen; simp at hl; omega)
  have hN : Nf B32 (trimL [lo, hi]) x := ⟨Dig.trimL (lit_at32w w lo hi HLB.out.1 HLB.out.2).dig, Top_trimL _, by rw [valB_trimL]; exact HV.out⟩
  have HH : Hid (At32 w1 (some ⟨g, 0, none⟩) (trimL [lo, hi]).length (trimL [lo, hi]).length (trimL [lo, hi]) ∧ Nf B32 (trimL [lo, hi]) x ∧ (trimL [lo, hi]).length ≤ 2) := ⟨hA, hN, by simpa using hl⟩
  have hbw := Below.on (below1 w _) hbl
  generalize trimL [lo, hi] = zs at *
  clear hA hN hl hb hbl hg
  go_wp2_with fail
  go_ret
  exact ⟨g, zs, rfl, HH.out.2.2, HH.out.1, HH.out.2.1, hbw⟩
structure B5 (W : World) (g : Nat) (v0 v1 v2 v3 v4 : Value) : Prop where
  c0 : W.cell? ⟨g, 0, none⟩ = some v0
  c1 : W.cell? ⟨g, 1, none⟩ = some v1
  c2 : W.cell? ⟨g, 2, none⟩ = some v2
  c3 : W.cell? ⟨g, 3, none⟩ = some v3
  c4 : W.cell? ⟨g, 4, none⟩ = some v4
  f0 : W.frozen? ⟨g, 0, none⟩ = false
  f1 : W.frozen? ⟨g, 1, none⟩ = false
  f2 : W.frozen? ⟨g, 2, none⟩ = false
  f3 : W.frozen? ⟨g, 3, none⟩ = false
  f4 : W.frozen? ⟨g, 4, none⟩ = false
theorem B5.below {W W' : World} {g : Nat} {v0 v1 v2 v3 v4 : Value} (h : B5 W g v0 v1 v2 v3 v4) (hb : Below W.heap.size W W') : B5 W' g v0 v1 v2 v3 v4 := by
  have hl : g < W.heap.size := World.block_lt_of_cell? W _ h.c0
  exact ⟨(hb.cell (p := ⟨g, 0, none⟩) hl).trans h.c0, (hb.cell (p := ⟨g, 1, none⟩) hl).trans h.c1, (hb.cell (p := ⟨g, 2, none⟩) hl).trans h.c2, (hb.cell (p := ⟨g, 3, none⟩) hl).trans h.c3, (hb.cell (p := ⟨g, 4, none⟩) hl).trans h.c4,
    (hb.frozen (p := ⟨g, 0, none⟩) hl).trans h.f0, (hb.frozen (p := ⟨g, 1, none⟩) hl).trans h.f1, (hb.frozen (p := ⟨g, 2, none⟩) hl).trans h.f2, (hb.frozen (p := ⟨g, 3, none⟩) hl).trans h.f3, (hb.frozen (p := ⟨g, 4, none⟩) hl).trans h.f4⟩
theorem B5.new (w : World) (ty : TypeId) (v0 v1 v2 v3 v4 : Value) : B5 (w.alloc (.cells #[v0, v1, v2, v3, v4] ty)) w.heap.size v0 v1 v2 v3 v4 :=
  ⟨by go_simp, by go_simp, by go_simp, by go_simp, by go_simp, by go_simp, by go_simp, by go_simp, by go_simp, by go_simp⟩
theorem DocIs.inj {v : Nat} {us us' : List Nat} {f f' : Int} (h : DocIs v us f) (k : DocIs v us' f') : us = us' ∧ f = f' := by
  rcases h with ⟨h1, h2, rfl⟩ | ⟨h1, rfl, rfl⟩ <;> rcases k with ⟨k1, k2, rfl⟩ | ⟨k1, rfl, rfl⟩
  · exact ⟨h2.inj B64_one k2, rfl⟩
  · omega
  · omega
  · exact ⟨rfl, rfl⟩
theorem DocIs.er {v : Nat} {us : List Nat} {f : Int} (h : DocIs v us f) : f = 0 ∨ f = 5 := by
  rcases h with ⟨_, _, rfl⟩ | ⟨_, _, rfl⟩ <;> simp
structure Op5 where
  k : Int
  pa : Option Addr
  na : Nat
  ca : Nat
  xa : List Nat
  pb : Option Addr
  nb : Nat
  cb : Nat
  xb : List Nat
  nn : Int
  wd : Nat
structure Scr (w : World) (P : Option Addr) (N C : Nat) (its : List Op5) : Prop where
  len : its.length = N
  cap : N ≤ C
  big : C ≤ maxLen
  ats : ∀ t ∈ its, At w t.pa t.na t.ca t.xa ∧ At w t.pb t.nb t.cb t.xb ∧ t.na ≤ 17592186044416 ∧ t.nb ≤ 17592186044416 ∧ t.wd < B64 ∧ -9223372036854775808 ≤ t.nn ∧ t.nn ≤ 9223372036854775807
  cells : N = 0 ∨ ∃ g off, P = some ⟨g, off, none⟩ ∧ ∀ i (h : i < its.length), w.cell? ⟨g, off + i * 5, none⟩ = some (.int .i64 its[i].k) ∧ w.cell? ⟨g, off + i * 5 + 1, none⟩ = some (.slice its[i].pa its[i].na its[i].ca) ∧
    w.cell? ⟨g, off + i * 5 + 2, none⟩ = some (.slice its[i].pb its[i].nb its[i].cb) ∧ w.cell? ⟨g, off + i * 5 + 3, none⟩ = some (.int .i64 its[i].nn) ∧ w.cell? ⟨g, off + i * 5 + 4, none⟩ = some (U its[i].wd)
theorem Scr.below {w w' : World} {P : Option Addr} {N C : Nat} {its : List Op5} (h : Scr w P N C its) (hb : Below w.heap.size w w') : Scr w' P N C its := by
  refine ⟨h.len, h.cap, h.big, fun t ht => ?_, ?_⟩
  · obtain ⟨h1, h2, h3⟩ := h.ats t ht
    exact ⟨h1.below hb, h2.below hb, h3⟩
  · rcases h.cells with h0 | ⟨g, off, hP, hc⟩
    · exact .inl h0
    · refine .inr ⟨g, off, hP, fun i hi => ?_⟩
      obtain ⟨h0, h1, h2, h3, h4⟩ := hc i hi
      have hl : g < w.heap.size := World.block_lt_of_cell? w _ h0
      exact ⟨(hb.cell (p := ⟨g, off + i * 5, none⟩) hl).trans h0, (hb.cell (p := ⟨g, off + i * 5 + 1, none⟩) hl).trans h1, (hb.cell (p := ⟨g, off + i * 5 + 2, none⟩) hl).trans h2,
        (hb.cell (p := ⟨g, off + i * 5 + 3, none⟩) hl).trans h3, (hb.cell (p := ⟨g, off + i * 5 + 4, none⟩) hl).trans h4⟩
def ShIs (r : Nat → Nat → Nat) (xs : List Nat) (t : Int) (us : List Nat) (f : Int) : Prop :=
  (t < 0 ∧ us = [] ∧ f = 1) ∨ (0 ≤ t ∧ formB xs = false ∧ us = [] ∧ f = 2) ∨ (0 ≤ t ∧ formB xs = true ∧ DocIs (r (valB B64 xs) t.toNat) us f)
theorem ShIs.inj {r : Nat → Nat → Nat} {xs : List Nat} {t : Int} {us us' : List Nat} {f f' : Int} (h : ShIs r xs t us f) (k : ShIs r xs t us' f') : us = us' ∧ f = f' := by
  rcases h with ⟨h1, rfl, rfl⟩ | ⟨h1, h2, rfl, rfl⟩ | ⟨h1, h2, h3⟩ <;> rcases k with ⟨k1, rfl, rfl⟩ | ⟨k1, k2, rfl, rfl⟩ | ⟨k1, k2, k3⟩
  · exact ⟨rfl, rfl⟩
  · omega
  · omega
  · omega
  · exact ⟨rfl, rfl⟩
  · rw [k2] at h2; simp at h2
  · omega
  · rw [k2] at h2; simp at h2
  · exact h3.inj k3
theorem ShIs.er {r : Nat → Nat → Nat} {xs us : List Nat} {t f : Int} (h : ShIs r xs t us f) : f = 0 ∨ f = 1 ∨ f = 2 ∨ f = 3 ∨ f = 4 ∨ f = 5 := by
  rcases h with ⟨_, _, rfl⟩ | ⟨_, _, _, rfl⟩ | ⟨_, _, ⟨_, _, rfl⟩ | ⟨_, _, rfl⟩⟩ <;> simp
structure DigRel32 (w : World) (gq gr L n : Nat) (A D : Nat) (k : Nat) (qs rs : List Nat) (wr : World) : Prop where
  bel : ∀ B, B ≤ gq → B ≤ gr → Below B w wr
  rowq : Row32 wr gq 0 L qs
  rowr : Row32 wr gr 0 (L + n) rs
  cell : ∀ b o, b ≠ gq → b ≠ gr → wr.cell? ⟨b, o, none⟩ = w.cell? ⟨b, o, none⟩
  lt : valB B32 (rs.drop (L - k)) < D
  sum : valB B32 rs + B32 ^ (L - k) * valB B32 (qs.drop (L - k)) * D = A

theorem Row32.other {w : World} {g off n : Nat} {xs : List Nat} (h : Row32 w g off n xs) (g2 o2 : Nat) (v : Value) (hne : g ≠ g2) : Row32 (w.setCell ⟨g2, o2, none⟩ v) g off n xs := by
  refine ⟨h.len, h.dig, fun j hj => ?_, fun j hj => by rw [World.frozen?_setCell]; exact h.frozen j hj⟩
  exact (World.cell?_setCell_other _ _ _ _ (by intro e; apply hne; have := congrArg Addr.block e; simp at this; omega)).trans (h.cell j hj)
theorem Row32.wr {w w' : World} {g off n g2 o2 l2 : Nat} {xs : List Nat} (h : Row32 w g off n xs) (hwr : Wr g2 o2 l2 w w') (hne : g ≠ g2) : Row32 w' g off n xs :=
  ⟨h.len, h.dig, fun j hj => (hwr.cell g (off + j) (.inl hne)).trans (h.cell j hj), fun j hj => (hwr.frozen _).trans (h.frozen j hj)⟩
theorem dig_abs32 {P W q r D T Q A : Nat} (hW : q * D + r = W) (h : T + P * W + P * B32 * Q * D = A) : T + P * r + P * (q + B32 * Q) * D = A := by
  subst hW
  have e1 : P * (q + B32 * Q) * D = P * (q * D) + P * B32 * Q * D := by
    rw [Nat.mul_add, Nat.add_mul, Nat.mul_assoc P q D, ← Nat.mul_assoc P B32 Q]
  rw [e1]
  rw [Nat.mul_add] at h
  omega
theorem DigRel32.window {w : World} {gq gr L n A D k : Nat} {qs rs : List Nat} {wr : World} (h : DigRel32 w gq gr L n A D k qs rs wr) (hk : k < L) (hDn : D < B32 ^ n) :
    ∃ a ws, a = L - 1 - k ∧ ws = (rs.drop a).take (n + 1) ∧ Row32 wr gr a (n + 1) ws ∧ valB B32 ws < B32 * D ∧ valB B32 rs = valB B32 (rs.take a) + B32 ^ a * valB B32 ws ∧ valB B32 (rs.drop (a + (n + 1))) = 0 := by
  have hl := h.rowr.len
  obtain ⟨a, ha⟩ : ∃ a, a = L - 1 - k := ⟨_, rfl⟩
  have hlt := h.lt
  rw [show L - k = a + 1 by omega] at hlt
  have hz : valB B32 (rs.drop (a + (n + 1))) = 0 := by
    have hs := valB_split B32 (rs.drop (a + 1)) n (by rw [List.length_drop]; omega)
    rw [List.drop_drop, show a + 1 + n = a + (n + 1) by omega] at hs
    rcases Nat.eq_zero_or_pos (valB B32 (rs.drop (a + (n + 1)))) with e | e
    · exact e
    · exfalso
      have : B32 ^ n * 1 ≤ B32 ^ n * valB B32 (rs.drop (a + (n + 1))) := Nat.mul_le_mul_left _ e
      omega
  have hw := win_take32 rs a (n + 1) (by omega)
  rw [hz, Nat.mul_zero, Nat.add_zero] at hw
  refine ⟨a, _, ha, rfl, h.rowr.win a (n + 1) (by omega), ?_, hw, hz⟩
  have hs := valB_split B32 (rs.drop a) (n + 1) (by rw [List.length_drop]; omega)
  rw [List.drop_drop, hz, Nat.mul_zero, Nat.add_zero] at hs
  rw [← hs, valB_drop B32 rs a (by omega)]
  have hb := h.rowr.dig.getD B32_pos a
  have : B32 * (valB B32 (rs.drop (a + 1)) + 1) ≤ B32 * D := Nat.mul_le_mul_left _ hlt
  rw [Nat.mul_add] at this
  omega
theorem DigRel32.step {w : World} {gq gr L n A D k : Nat} {qs rs : List Nat} {wr wr' : World} (h : DigRel32 w gq gr L n A D k qs rs wr) (hk : k < L) (hne : gq ≠ gr) {a q : Nat} {ws ws' : List Nat} (ha : a = L - 1 - k)
    (hrs : valB B32 rs = valB B32 (rs.take a) + B32 ^ a * valB B32 ws) (hz : valB B32 (rs.drop (a + (n + 1))) = 0) (hD : 0 < D) (hq : q = valB B32 ws / D) (hqb : q < B32) (hr : valB B32 ws' = valB B32 ws % D)
    (hwr : Wr gr a (n + 1) wr wr') (hrow : Row32 wr' gr a (n + 1) ws') : DigRel32 w gq gr L n A D (k + 1) (qs.set a q) (winPut rs ws' a) (wr'.setCell ⟨gq, a, none⟩ (V q)) := by
  have hl := h.rowr.len; have hql := h.rowq.len; have hwl := hrow.len
  have hle : a + ws'.length ≤ rs.length := by omega
  have e1 : L - (k + 1) = a := by omega
  have e2 : L - k = a + 1 := by omega
  have hdrop : valB B32 ((winPut rs ws' a).drop a) = valB B32 ws % D := by
    rw [winPut_drop rs ws' a hle, valB_append, hwl, hz, Nat.mul_zero, Nat.add_zero, hr]
  refine ⟨fun B h1 h2 => ?_, ?_, ?_, fun b o h1 h2 => ?_, ?_, ?_⟩
  · exact ((h.bel B h1 h2).trans (hwr.below h2)).trans ((Wr.refl gq 0 L wr').setCell a ⟨by omega, by omega⟩ (V q) |>.below h1)
  · have := (h.rowq.wr hwr hne).set a q (by omega) hqb
    rw [Nat.zero_add] at this; exact this
  · exact (h.rowr.put hwr hrow (by omega)).other gq a _ (Ne.symm hne)
  · rw [World.cell?_setCell_other _ _ _ _ (by intro e; apply h1; have := congrArg Addr.block e; simp at this; omega), hwr.cell b o (.inl h2)]
    exact h.cell b o h1 h2
  · rw [e1, hdrop]; exact Nat.mod_lt _ hD
  · have hs := h.sum
    rw [e2, hrs, Nat.pow_succ] at hs
    rw [e1, valB_split B32 (winPut rs ws' a) a (by rw [winPut_len rs ws' a hle]; omega), winPut_take rs ws' a hle, hdrop, drop_set_at qs a q (by omega), valB_cons]
    refine dig_abs32 (W := valB B32 ws) (q := q) ?_ hs
    rw [hq, Nat.mul_comm]; exact Nat.div_add_mod _ _
structure RN (w : World) (p : Option Addr) (m a : Nat) : Prop where
  mem : ∃ zs, At32 w p m m zs ∧ Nf B32 zs a
  len : m ≤ 4000
theorem RN.below {w w' : World} {p : Option Addr} {m a : Nat} (h : RN w p m a) (hb : Below w.heap.size w w') : RN w' p m a := by
  obtain ⟨⟨zs, h1, h2⟩, h3⟩ := h
  exact ⟨⟨zs, h1.below hb, h2⟩, h3⟩
theorem rn_len {w : World} {p : Option Addr} {m c a K : Nat} {zs : List Nat} (h : At32 w p m c zs) (hN : Nf B32 zs a) (hK : K ≤ 100000) (hb : a < 2 ^ K) : m ≤ 4000 := by
  rw [← h.len]
  obtain ⟨k, hk⟩ : ∃ k, k = 3200 := ⟨_, rfl⟩
  refine Nat.le_trans ((hN.len_le (k := k) (by decide)).2 (Nat.lt_of_lt_of_le hb ?_)) (by omega)
  rw [show B32 = 2 ^ 32 from rfl, ← Nat.pow_mul]
  exact Nat.pow_le_pow_right (by decide) (by omega)
theorem RN.mk2 {w : World} {p : Option Addr} {m a K : Nat} {zs : List Nat} (h : At32 w p m m zs) (hN : Nf B32 zs a) (hK : K ≤ 100000) (hb : a < 2 ^ K) : RN w p m a := ⟨⟨zs, h, hN⟩, rn_len h hN hK hb⟩
theorem RN.zero {w : World} {p : Option Addr} {m a : Nat} (h : RN w p m a) : m = 0 ↔ a = 0 := by
  obtain ⟨⟨zs, h1, h2⟩, h3⟩ := h
  rw [← h2.zero_iff (by decide), ← h1.len]
  exact List.length_eq_zero_iff
def RNs (w w' : World) (e : Ending) (a : Nat) : Prop := ∃ p m, e = .returned (.slice p m m) ∧ RN w' p m a ∧ Below w.heap.size w w'
theorem rn_word {w : World} (x : Nat) (hx : x < 18446744073709551616) : Calls Try.prog 20 #[U x] w fun e w' => RNs w w' e (x) := by
  refine (rword x hx w).mono ?_
  rintro e w' ⟨g, zs, rfl, g1, g2, g3, hb2⟩
  exact ⟨_, _, rfl, ⟨⟨zs, g2, g3⟩, by omega⟩, hb2⟩
def sb (s : ByteArray) (i : Nat) : Nat := if h : i < s.size then (s[i]'h).toNat else 0
theorem sb_eq {s : ByteArray} {i : Nat} (h : i < s.size) : (s[i]'h).toNat = sb s i := by unfold sb; rw [dif_pos h]
def IsD (s : ByteArray) (i : Nat) : Prop := 48 ≤ sb s i ∧ sb s i ≤ 57
def dN (s : ByteArray) : Nat → Nat
  | 0 => 0
  | i + 1 => dN s i * 10 + (sb s i - 48)
theorem dN_succ (s : ByteArray) (i : Nat) : dN s (i + 1) = dN s i * 10 + (sb s i - 48) := rfl
theorem dN_lt {s : ByteArray} : ∀ {i : Nat}, (∀ j, j < i → IsD s j) → dN s i < 10 ^ i
  | 0, _ => by show 0 < 1; decide
  | i + 1, h => by
    have h1 := dN_lt (fun j hj => h j (by omega) : ∀ j, j < i → IsD s j)
    have h2 := h i (by omega)
    rw [dN_succ, Nat.pow_succ]
    unfold IsD at h2
    omega
theorem ten_pow {n K : Nat} (h : 4 * n ≤ K) : (10 : Nat) ^ n ≤ 2 ^ K := by
  refine Nat.le_trans (Nat.pow_le_pow_left (by decide : 10 ≤ 2 ^ 4) n) ?_
  rw [← Nat.pow_mul]
  exact Nat.pow_le_pow_right (by decide) (by omega)
def RdOk (s : ByteArray) : Prop := s.size ≤ 4900 ∧ s.size ≠ 0 ∧ ∀ j, j < s.size → IsD s j
def rdErr (s : ByteArray) : Int := if 4900 < s.size then 7 else 8
theorem extended_ok {p : Option Addr} {m a : Nat} {w : World} (h : GN w p m a) (v x : Nat) (hv : v < B64) (hx : x < B64) {K : Nat} (hK : K ≤ 100000) (hb : a * v + x < 2 ^ K) :
    Calls Try.prog 7 #[.slice p m m, U v, U x] w fun en w' => ∃ q l, en = .returned (.slice q l l) ∧ GO w.heap.size w' q l (a * v + x) ∧ Below w.heap.size w w' := by
  have HA : Hid (GN w p m a) := h
  have HX : Hid (v < B64 ∧ x < B64 ∧ K ≤ 100000 ∧ a * v + x < 2 ^ K ∧ a * v < 2 ^ K) := ⟨hv, hx, hK, hb, by omega⟩
  clear h hv hx hb hK
  go_enter Try.func7, Try.ntmps7
  go_wp2_with fail
  have hbw : Below w.heap.size w w := Below.refl _ _
  refine (gn_mulw HA.out v HX.out.1 HX.out.2.2.1 HX.out.2.2.2.2).mono ?_
  rintro e v1 ⟨p1, m1, rfl, hR, hb1⟩
  have GN1 : Hid (GN v1 p1 m1 (a * v)) := hR.gn
  clear hR
  replace HA : Hid (GN v1 p m a) := HA.out.below hb1
  replace hbw := Below.on hbw hb1
  clear hb1
  clear HA
  go_wp2_with fail
  refine (gn_word x HX.out.2.1).mono ?_
  rintro e v2 ⟨p2, m2, rfl, hR, hb2⟩
  have GN2 : Hid (GN v2 p2 m2 x) := hR
  clear hR
  replace GN1 : Hid (GN v2 p1 m1 (a * v)) := GN1.out.below hb2
  replace hbw := Below.on hbw hb2
  clear hb2
  go_wp2_with fail
  have HS1 : Hid (w.heap.size ≤ v2.heap.size) := hbw.size
  refine (gn_add GN1.out GN2.out HX.out.2.2.1 HX.out.2.2.2.1).mono ?_
  rintro e v3 ⟨p3, m3, rfl, hR, hb3⟩
  have GO3 : Hid (GO v2.heap.size v3 p3 m3 (a * v + x)) := hR
  clear hR
  replace GN1 : Hid (GN v3 p1 m1 (a * v)) := GN1.out.below hb3
  replace GN2 : Hid (GN v3 p2 m2 x) := GN2.out.below hb3
  replace hbw := Below.on hbw hb3
  clear hb3
  go_wp2_with fail
  go_ret
  exact ⟨_, _, rfl, GO3.out.mono HS1.out, hbw⟩
theorem dec_low {s : ByteArray} {i : Nat} (h : i < s.size) (hd : sb s i < 128) : Utf8.decode s i = (sb s i, 1) := by
  rw [decode_ascii s i h (by rw [sb_eq h]; exact hd), sb_eq h]
theorem dec_bad {s : ByteArray} {i : Nat} (h : i < s.size) (hd : ¬ IsD s i) : (Utf8.decode s i).1 < 48 ∨ 57 < (Utf8.decode s i).1 := by
  by_cases h1 : sb s i < 128
  · rw [dec_low h h1]; unfold IsD at hd; show sb s i < 48 ∨ 57 < sb s i; omega
  · exact .inr (Nat.lt_of_lt_of_le (by decide) (decode_high s i h (by rw [sb_eq h]; omega)).1)
theorem cell_iter {w : World} {k : Nat} {s : ByteArray} {pos pos' : Nat} (hk : w.heap[k]? = some (.stringIter s pos)) {a : Addr} {v : Value} (h : w.cell? a = some v) : (w.iterAt k s pos').cell? a = some v := by
  by_cases e : a.block = k
  · exfalso
    rw [← e] at hk
    simp [World.cell?, hk] at h
  · rw [World.cell?_of_block (Lib.iterAt_other w k a.block s pos' e)]; exact h
theorem GN.iter {w : World} {k : Nat} {s : ByteArray} {pos : Nat} (hk : w.heap[k]? = some (.stringIter s pos)) (pos' : Nat) {p : Option Addr} {m a : Nat} (h : GN w p m a) : GN (w.iterAt k s pos') p m a := by
  obtain ⟨⟨zs, h1, h2⟩, h3⟩ := h
  refine ⟨⟨zs, ⟨h1.len, h1.cap, h1.big, h1.dig, ?_⟩, h2⟩, h3⟩
  rcases h1.cells with h0 | ⟨g, off, rfl, hc⟩
  · exact .inl h0
  · exact .inr ⟨g, off, rfl, fun j hj => cell_iter hk (hc j hj)⟩
theorem rdw {t pc k : Nat} (h1 : pc < 10 ^ k) (h2 : k < 19) (h3 : 48 ≤ t) (h4 : t ≤ 57) : IntKind.u64.wrap (10 * (pc : Int) + ((t - 48 : Nat) : Int)) = ((10 * pc + (t - 48) : Nat) : Int) ∧ IntKind.u64.wrap (10 * (pc : Int)) = ((10 * pc : Nat) : Int) ∧ IntKind.u64.wrap (10 * ((10 ^ k : Nat) : Int)) = ((10 ^ (k + 1) : Nat) : Int) := by
  have h5 : (10 : Nat) ^ k ≤ 10 ^ 18 := Nat.pow_le_pow_right (by decide) (by omega)
  have h6 : (10 : Nat) ^ (k + 1) = 10 * 10 ^ k := by rw [Nat.pow_succ, Nat.mul_comm]
  simp only [IntKind.wrap_u64]
  rw [h6]
  generalize 10 ^ k = z at *
  omega
theorem rdu {t : Nat} (h3 : 48 ≤ t) (h4 : t ≤ 57) : IntKind.i32.wrap ((t : Int) - 48) = ((t - 48 : Nat) : Int) ∧ IntKind.u64.wrap ((t - 48 : Nat) : Int) = ((t - 48 : Nat) : Int) := by
  rw [IntKind.wrap_u64, IntKind.wrap_i32]; omega
theorem read_ok (s : ByteArray) {w : World} : Calls Try.prog 4 #[.string s] w fun en w' => ((RdOk s ∧ ∃ q l, en = .returned (.tuple #[.slice q l l, .int .i64 0]) ∧ GO w.heap.size w' q l (dN s s.size)) ∨ (¬ RdOk s ∧ en = .returned (.tuple #[.slice none 0 0, .int .i64 (rdErr s)]))) ∧ Below w.heap.size w w' := by
  by_cases h1 : 4900 < s.size
  · have h1' : decide ((4900 : Int) < (s.size : Int)) = true := decide_eq_true (by omega)
    have h1'' : decide (4900 < s.size) = true := decide_eq_true h1
    have HE : Hid (rdErr s = 7 ∧ ¬ RdOk s) := ⟨by unfold rdErr; rw [if_pos h1], fun h => by unfold RdOk at h; omega⟩
    clear h1
    go_enter Try.func4, Try.ntmps4
    go_wp2_with fail
    go_ret2
    exact ⟨.inr ⟨HE.out.2, by rw [HE.out.1]; rfl⟩, Below.refl _ _⟩
  by_cases h2 : s.size = 0
  · have HE : Hid (rdErr s = 8 ∧ ¬ RdOk s) := ⟨by unfold rdErr; rw [if_neg h1], fun h => by unfold RdOk at h; omega⟩
    obtain rfl : s = ⟨#[]⟩ := by cases s with | mk d => cases d with | mk l => cases l with | nil => rfl | cons a l => simp [ByteArray.size] at h2
    clear h1 h2
    go_enter Try.func4, Try.ntmps4
    go_wp2_with fail
    go_ret2
    exact ⟨.inr ⟨HE.out.2, by rw [HE.out.1]; rfl⟩, Below.refl _ _⟩
  have h1' : decide ((4900 : Int) < (s.size : Int)) = false := decide_eq_false (by omega)
  have h1'' : decide (4900 < s.size) = false := decide_eq_false h1
  have h2' : (s.toList == []) = false := by simp only [beq_eq_false_iff_ne, ne_eq]; intro h; apply h2; rw [ByteArray.toList_eq] at h; show s.data.size = 0; rw [← Array.length_toList, h]; rfl
  have HE : Hid (s.size ≤ 4900 ∧ s.size ≠ 0 ∧ rdErr s = 8) := ⟨by omega, h2, by unfold rdErr; rw [if_neg h1]⟩
  clear h1 h2
  go_enter Try.func4, Try.ntmps4
  go_wp2_with fail
  obtain ⟨W0, hW0⟩ : ∃ W0, W0 = w.iter s 0 := ⟨_, rfl⟩
  have HI : Hid (W0.heap[w.heap.size]? = some (.stringIter s 0)) := by rw [hW0]; exact World.iter_heap w s 0
  have hbw : Below w.heap.size w W0 := by rw [hW0]; exact below1 w _
  rw [← hW0]
  clear hW0 h1' h1'' h2'
  obtain ⟨gi, hgi⟩ : ∃ g, g = w.heap.size := ⟨_, rfl⟩
  have HGI : Hid (w.heap.size ≤ gi) := by rw [hgi]; exact Nat.le_refl _
  rw [← hgi] at HI
  rw [← hgi]
  clear hgi
  go_loopg [4, 5, 6] s.size (fun gk vv pv sv wr => ∃ (pos k a pc m : Nat) (p : Option Addr), pos + gk = s.size ∧ vv = .slice p m m ∧ pv = U pc ∧ sv = U (10 ^ k) ∧ k < 19 ∧ pc < 10 ^ k ∧ a * 10 ^ k + pc = dN s pos ∧ (∀ j, j < pos → IsD s j) ∧ GN wr p m a ∧ wr.heap[gi]? = some (.stringIter s pos) ∧ Below w.heap.size w wr)
  case atStart => exact ⟨0, 0, 0, 0, 0, none, by omega, rfl, rfl, rfl, by decide, by decide, rfl, fun j hj => by omega, GN.nil _ _, HI.out, hbw⟩
  case round =>
    obtain ⟨pos, k, a, pc, m, p, hig, rfl, rfl, rfl, hk, hpc, hval, hdig, xg, xi, hbr⟩ := hrel
    clear HI hbw
    have GNa : Hid (GN wr p m a) := xg
    have HI : Hid (wr.heap[gi]? = some (.stringIter s pos)) := xi
    have hbw := hbr
    have HV : Hid (a * 10 ^ k + pc = dN s pos ∧ pc < 10 ^ k ∧ k < 19 ∧ ∀ j, j < pos → IsD s j) := ⟨hval, hpc, hk, hdig⟩
    clear xg xi hbr hval hpc hk hdig
    by_cases hp : pos < s.size
    · by_cases hd : IsD s pos
      · obtain ⟨g, rfl⟩ : ∃ g, gk = g + 1 := ⟨gk - 1, by omega⟩
        have hnx := fun ty => Lib.run_next_any_at (P := Try.prog) wr gi s pos ty HI.out hp
        have hd0 := hd
        unfold IsD at hd0
        have hdec := dec_low hp (by omega)
        obtain ⟨t, ht⟩ : ∃ t, t = sb s pos := ⟨_, rfl⟩
        rw [hdec, ← ht] at hnx
        rw [← ht] at hd0
        have hw1 := rdu hd0.1 hd0.2
        have hw2 := rdw (t := t) HV.out.2.1 HV.out.2.2.1 hd0.1 hd0.2
        have HD : Hid (IsD s pos ∧ t = sb s pos ∧ pos < s.size ∧ pos + (g + 1) = s.size) := ⟨hd, ht, hp, hig⟩
        obtain ⟨c, hc⟩ : ∃ c, c = t - 48 := ⟨_, rfl⟩
        obtain ⟨z, hz⟩ : ∃ z, z = 10 ^ k := ⟨_, rfl⟩
        obtain ⟨z1, hz1⟩ : ∃ z, z = 10 ^ (k + 1) := ⟨_, rfl⟩
        obtain ⟨q, hq⟩ : ∃ q, q = 10 * pc + c := ⟨_, rfl⟩
        obtain ⟨q0, hq0⟩ : ∃ q, q = 10 * pc := ⟨_, rfl⟩
        rw [← hc] at hw1 hw2
        rw [← hz, ← hz1, ← hq, ← hq0] at hw2
        rw [← hz]
        have HZ : Hid (c = t - 48 ∧ z = 10 ^ k ∧ z1 = 10 ^ (k + 1) ∧ q = 10 * pc + c) := ⟨hc, hz, hz1, hq⟩
        have t1 : decide ((t : Int) < 48) = false := decide_eq_false (by omega)
        have t2 : decide ((57 : Int) < (t : Int)) = false := decide_eq_false (by omega)
        have t3 : decide (t < 48) = false := decide_eq_false (by omega)
        have t4 : decide (57 < t) = false := decide_eq_false (by omega)
        obtain ⟨wa, wb⟩ := hw1
        obtain ⟨wc, wd, we⟩ := hw2
        have wc' : IntKind.u64.wrap ((q0 : Int) + (c : Int)) = (q : Int) := by rw [IntKind.wrap_u64] at wc ⊢; omega
        have HVV := HV.out
        by_cases hk : k = 18
        · have e19 : ((z1 : Int) == 10000000000000000000) = true := by rw [hz1, hk]; decide
          have HZ1 : Hid (z1 < B64 ∧ q < B64) := by have h9 := HVV.2.1; rw [hk] at h9; refine ⟨by rw [hz1, hk]; decide, ?_⟩; show q < 18446744073709551616; rw [show (10 : Nat) ^ 18 = 1000000000000000000 by decide] at h9; omega
          have HK18 : Hid (k = 18) := hk
          have HN : Hid (a * z1 + q = dN s (pos + 1) ∧ q < z1) := by rw [dN_succ, ← HVV.1, hz1, hq, hc, ht, Nat.pow_succ]; rw [ht] at hd0; have h5 := HVV.2.1; generalize 10 ^ k = y at *; refine ⟨?_, by omega⟩; rw [Nat.add_mul, Nat.mul_comm 10 pc, Nat.mul_assoc, Nat.add_assoc]
          have HDD : Hid (∀ j, j < pos + 1 → IsD s j) := fun j hj => by rcases Nat.lt_or_ge j pos with h | h; exact HVV.2.2.2 j h; rw [show j = pos by omega]; exact hd
          clear hd hp hig hdec ht hd0 hc hz hz1 hq hq0 hk HVV
          go_wp2_with fail
          clear t1 t2 t3 t4 wa wb wc wd we wc' e19 hnx
          have GNb : Hid (GN (wr.iterAt gi s (pos + 1)) p m a) := GN.iter HI.out _ GNa.out
          have HI2 : Hid ((wr.iterAt gi s (pos + 1)).heap[gi]? = some (.stringIter s (pos + 1))) := Lib.iterAt_heap wr gi s pos (pos + 1) HI.out
          have hbw2 : Below w.heap.size w (wr.iterAt gi s (pos + 1)) := Lib.below_iterAt hbw HGI.out s _
          generalize (wr.iterAt gi s (pos + 1)) = W1 at *
          clear GNa HI hbw
          obtain ⟨KK, hK1, hK2⟩ : ∃ K : Nat, K ≤ 100000 ∧ 19600 ≤ K := ⟨20000, by decide, by decide⟩
          refine (extended_ok GNb.out z1 q HZ1.out.1 HZ1.out.2 (K := KK) hK1 (by rw [HN.out.1]; exact Nat.lt_of_lt_of_le (dN_lt HDD.out) (ten_pow (by have h1 := HE.out.1; have h2 := HD.out.2.2.1; omega)))).mono ?_
          rintro e v1 ⟨p1, m1, rfl, hR, hb1⟩
          clear hK1 hK2
          have GN1 : Hid (GN v1 p1 m1 (a * z1 + q)) := hR.gn
          clear hR
          have HI3 : Hid (v1.heap[gi]? = some (.stringIter s (pos + 1))) := (hb1.block gi (Array.getElem?_eq_some_iff.1 HI2.out).1).trans HI2.out
          have hbw3 := Below.on hbw2 hb1
          clear GNb HI2 hbw2 hb1
          go_wp2_with fail
          go_roundg g
          case measure => omega
          case rel => exact ⟨pos + 1, 0, dN s (pos + 1), 0, m1, p1, by have := HD.out.2.2.2; omega, rfl, rfl, rfl, by decide, by decide, by rw [Nat.pow_zero, Nat.mul_one, Nat.add_zero], HDD.out, HN.out.1 ▸ GN1.out, HI3.out, hbw3⟩
        · have e19 : ((z1 : Int) == 10000000000000000000) = false := by rw [hz1, beq_eq_false_iff_ne]; have h9 : (10 : Nat) ^ (k + 1) ≤ 10 ^ 18 := Nat.pow_le_pow_right (by decide) (by have := HVV.2.2.1; omega); rw [show (10 : Nat) ^ 18 = 1000000000000000000 by decide] at h9; omega
          have HK18 : Hid (k ≠ 18) := hk
          have HN : Hid (a * z1 + q = dN s (pos + 1) ∧ q < z1) := by rw [dN_succ, ← HVV.1, hz1, hq, hc, ht, Nat.pow_succ]; rw [ht] at hd0; have h5 := HVV.2.1; generalize 10 ^ k = y at *; refine ⟨?_, by omega⟩; rw [Nat.add_mul, Nat.mul_comm 10 pc, Nat.mul_assoc, Nat.add_assoc]
          have HDD : Hid (∀ j, j < pos + 1 → IsD s j) := fun j hj => by rcases Nat.lt_or_ge j pos with h | h; exact HVV.2.2.2 j h; rw [show j = pos by omega]; exact hd
          clear hd hp hig hdec ht hd0 hc hz hz1 hq hq0 hk HVV
          go_wp2_with fail
          clear t1 t2 t3 t4 wa wb wc wd we wc' e19 hnx
          have GNb : Hid (GN (wr.iterAt gi s (pos + 1)) p m a) := GN.iter HI.out _ GNa.out
          have HI2 : Hid ((wr.iterAt gi s (pos + 1)).heap[gi]? = some (.stringIter s (pos + 1))) := Lib.iterAt_heap wr gi s pos (pos + 1) HI.out
          have hbw2 : Below w.heap.size w (wr.iterAt gi s (pos + 1)) := Lib.below_iterAt hbw HGI.out s _
          generalize (wr.iterAt gi s (pos + 1)) = W1 at *
          clear GNa HI hbw
          go_roundg g
          case measure => omega
          case rel => exact ⟨pos + 1, k + 1, a, q, m, p, by have := HD.out.2.2.2; omega, rfl, rfl, by rw [HZ.out.2.2.1], by have h1 := HV.out.2.2.1; have h2 := HK18.out; omega, by rw [← HZ.out.2.2.1]; exact HN.out.2, by rw [← HZ.out.2.2.1]; exact HN.out.1, HDD.out, GNb.out, HI2.out, hbw2⟩
      · have hnx := fun ty => Lib.run_next_any_at (P := Try.prog) wr gi s pos ty HI.out hp
        have hdec := dec_bad hp hd
        have HNO : Hid (¬ RdOk s) := fun h => hd (h.2.2 pos hp)
        obtain ⟨t, ht⟩ : ∃ t, t = (Utf8.decode s pos).1 := ⟨_, rfl⟩
        obtain ⟨l, hl⟩ : ∃ t, t = (Utf8.decode s pos).2 := ⟨_, rfl⟩
        rw [← ht, ← hl] at hnx
        rw [← ht] at hdec
        obtain ⟨z, hz⟩ : ∃ z, z = 10 ^ k := ⟨_, rfl⟩
        rw [← hz]
        clear hp hd ht hl hz hig
        rcases hdec with hdec | hdec
        · have t1 : decide ((t : Int) < 48) = true := decide_eq_true (by omega)
          have t3 : decide (t < 48) = true := decide_eq_true (by omega)
          clear hdec
          go_wp2_with fail
          go_ret2
          exact ⟨.inr ⟨HNO.out, by rw [HE.out.2.2]; rfl⟩, Lib.below_iterAt hbw HGI.out s _⟩
        · have t1 : decide ((t : Int) < 48) = false := decide_eq_false (by omega)
          have t3 : decide (t < 48) = false := decide_eq_false (by omega)
          have t2 : decide ((57 : Int) < (t : Int)) = true := decide_eq_true (by omega)
          have t4 : decide (57 < t) = true := decide_eq_true (by omega)
          clear hdec
          go_wp2_with fail
          go_ret2
          exact ⟨.inr ⟨HNO.out, by rw [HE.out.2.2]; rfl⟩, Lib.below_iterAt hbw HGI.out s _⟩
    · have hnx := fun ty => Lib.run_next_end_at (P := Try.prog) wr gi s pos ty HI.out hp
      obtain rfl : pos = s.size := by omega
      have HOK : Hid (RdOk s) := ⟨HE.out.1, HE.out.2.1, HV.out.2.2.2⟩
      obtain ⟨z, hz⟩ : ∃ z, z = 10 ^ k := ⟨_, rfl⟩
      have HZ1 : Hid (z < B64 ∧ pc < B64 ∧ a * z + pc = dN s s.size) := by have h1 := HV.out; have h9 : (10 : Nat) ^ k ≤ 10 ^ 18 := Nat.pow_le_pow_right (by decide) (by omega); rw [← hz] at h1 h9; exact ⟨Nat.lt_of_le_of_lt h9 (by decide), Nat.lt_trans h1.2.1 (Nat.lt_of_le_of_lt h9 (by decide)), h1.1⟩
      rw [← hz]
      clear hz hig hp
      go_wp2_with fail
      clear hnx
      have HSZ : Hid (w.heap.size ≤ wr.heap.size) := hbw.size
      obtain ⟨KK, hK1, hK2⟩ : ∃ K : Nat, K ≤ 100000 ∧ 19600 ≤ K := ⟨20000, by decide, by decide⟩
      refine (extended_ok GNa.out z pc HZ1.out.1 HZ1.out.2.1 (K := KK) hK1 (by rw [HZ1.out.2.2]; exact Nat.lt_of_lt_of_le (dN_lt HOK.out.2.2) (ten_pow (by have h1 := HE.out.1; omega)))).mono ?_
      rintro e v1 ⟨p1, m1, rfl, hR, hb1⟩
      clear hK1 hK2
      have GO1 : Hid (GO w.heap.size v1 p1 m1 (a * z + pc)) := hR.mono HSZ.out
      have hbw2 := Below.on hbw hb1
      clear hR hbw hb1
      go_wp2_with fail
      go_ret2
      exact ⟨.inl ⟨HOK.out, _, _, rfl, HZ1.out.2.2 ▸ GO1.out⟩, hbw2⟩
theorem rn_mulsu {w : World} {p : Option Addr} {m a : Nat} (h : RN w p m a) (v u : Nat) (hv : v < B32) (hu : u < B32) {K : Nat} (hK : K ≤ 100000) (hb : a * v + u < 2 ^ K) : Calls Try.prog 21 #[.slice p m m, V v, V u] w fun e w' => RNs w w' e (a * v + u) := by
  obtain ⟨⟨zs, h1, h2⟩, h3⟩ := h
  refine (rsmall_any (u := u) h1 h2 (by omega) hv hu).mono ?_
  rintro e w' ⟨g, z, rfl, g1, g2, g3, hb2⟩
  exact ⟨_, _, rfl, RN.mk2 (g1.at_ g2.dig rfl (by unfold maxLen; omega)) g2 hK hb, hb2⟩
theorem number_ok (s : ByteArray) {w : World} (hs : s.size ≤ 4900) (hd : ∀ j, j < s.size → IsD s j) :
    Calls Try.prog 13 #[.string s] w fun en w' => RNs w w' en (dN s s.size) := by
  have HS : Hid (s.size ≤ 4900 ∧ ∀ j, j < s.size → IsD s j) := ⟨hs, hd⟩
  clear hs hd
  go_enter Try.func13, Try.ntmps13
  go_wp2_with fail
  have hbw : Below w.heap.size w w := Below.refl _ _
  refine (rn_word 0 (by decide)).mono ?_
  rintro e v1 ⟨p1, m1, rfl, hR, hb1⟩
  have RN1 : Hid (RN v1 p1 m1 0) := hR
  clear hR
  replace hbw := Below.on hbw hb1
  clear hb1
  go_wp2_with fail
  go_loopg [3, 4] s.size (fun gk dv iv wr => ∃ (i m : Nat) (p : Option Addr), i + gk = s.size ∧ dv = .slice p m m ∧ iv = .int .i64 (i : Int) ∧ RN wr p m (dN s i) ∧ Below w.heap.size w wr)
  case atStart => exact ⟨0, m1, p1, by omega, rfl, rfl, RN1.out, hbw⟩
  case round =>
    obtain ⟨i, m, p, hig, rfl, rfl, xr, hbr⟩ := hrel
    clear RN1 hbw
    have RNi : Hid (RN wr p m (dN s i)) := xr
    have hbw := hbr
    clear xr hbr
    by_cases hi : i < s.size
    · have hI := HS.out.2 i hi
      unfold IsD at hI
      obtain ⟨g, rfl⟩ : ∃ g, gk = g + 1 := ⟨gk - 1, by omega⟩
      obtain ⟨t, ht⟩ : ∃ t, t = sb s i := ⟨_, rfl⟩
      obtain ⟨c, hc⟩ : ∃ c, c = t - 48 := ⟨_, rfl⟩
      have hx := sb_eq hi
      rw [← ht] at hx hI
      have HT : Hid (t = sb s i ∧ c = t - 48 ∧ i + (g + 1) = s.size ∧ i < s.size ∧ 48 ≤ t ∧ t ≤ 57) := ⟨ht, hc, hig, hi, hI.1, hI.2⟩
      have hi1 : decide ((i : Int) < (s.size : Int)) = true := decide_eq_true (by omega)
      have hi2 : decide (i < s.size) = true := decide_eq_true (by omega)
      have hi3 : (0 : Int) ≤ (i : Int) ∧ (i : Int) < (s.size : Int) := by omega
      have wa : IntKind.u8.wrap ((t : Int) - 48) = (c : Int) := by rw [IntKind.wrap_u8]; omega
      have wb : IntKind.u32.wrap (c : Int) = (c : Int) := by rw [IntKind.wrap_u32]; omega
      have wi : wrap64 ((i : Int) + 1) = ((i + 1 : Nat) : Int) := by have := HS.out.1; simp only [wrap64]; omega
      clear ht hc hig hI
      go_wp2_with fail
      clear hi1 hi2 hi3 wa wb hx hi
      obtain ⟨KK, hK1, hK2⟩ : ∃ K : Nat, K ≤ 100000 ∧ 19600 ≤ K := ⟨20000, by decide, by decide⟩
      refine (rn_mulsu RNi.out 10 c (by decide) (by have := HT.out; show c < 4294967296; omega) (K := KK) hK1 (by have h1 := HT.out; rw [h1.2.1, h1.1, ← dN_succ]; exact Nat.lt_of_lt_of_le (dN_lt (fun j hj => HS.out.2 j (by omega))) (ten_pow (by have := HS.out.1; omega)))).mono ?_
      rintro e v2 ⟨p2, m2, rfl, hR, hb2⟩
      clear hK1 hK2
      have RN2 : Hid (RN v2 p2 m2 (dN s i * 10 + c)) := hR
      clear hR
      replace RNi : Hid (RN v2 p m (dN s i)) := RNi.out.below hb2
      replace hbw := Below.on hbw hb2
      clear hb2
      go_wp2_with fail
      go_roundg g
      case measure => omega
      case rel => exact ⟨i + 1, m2, p2, by have := HT.out.2.2.1; omega, rfl, by rw [wi], by have h1 := HT.out; rw [dN_succ, ← h1.1, ← h1.2.1]; exact RN2.out, hbw⟩
    · obtain rfl : i = s.size := by omega
      have hi1 : decide ((s.size : Int) < (s.size : Int)) = false := decide_eq_false (by omega)
      have hi2 : decide (s.size < s.size) = false := decide_eq_false (by omega)
      clear hi hig
      go_wp2_with fail
      go_ret
      exact ⟨_, _, rfl, RNi.out, hbw⟩
theorem docread_ok (s : ByteArray) {w : World} : Calls Try.prog 8 #[.string s] w fun en w' => ((RdOk s ∧ ∃ g k N us, en = .returned (.tuple #[.slice (some ⟨g, 0, none⟩) k N, .int .i64 0]) ∧ At w' (some ⟨g, 0, none⟩) k N us ∧ Nf B64 us (dN s s.size)) ∨ (¬ RdOk s ∧ en = .returned (.tuple #[.slice none 0 0, .int .i64 (rdErr s)]))) ∧ Below w.heap.size w w' := by
  by_cases h1 : 4900 < s.size
  · have h1' : decide ((4900 : Int) < (s.size : Int)) = true := decide_eq_true (by omega)
    have h1'' : decide (4900 < s.size) = true := decide_eq_true h1
    have HE : Hid (rdErr s = 7 ∧ ¬ RdOk s) := ⟨by unfold rdErr; rw [if_pos h1], fun h => by unfold RdOk at h; omega⟩
    clear h1
    go_enter Try.func8, Try.ntmps8
    go_wp2_with fail
    go_ret2
    exact ⟨.inr ⟨HE.out.2, by rw [HE.out.1]; rfl⟩, Below.refl _ _⟩
  by_cases h2 : s.size = 0
  · have HE : Hid (rdErr s = 8 ∧ ¬ RdOk s) := ⟨by unfold rdErr; rw [if_neg h1], fun h => by unfold RdOk at h; omega⟩
    obtain rfl : s = ⟨#[]⟩ := by cases s with | mk d => cases d with | mk l => cases l with | nil => rfl | cons a l => simp [ByteArray.size] at h2
    clear h1 h2
    go_enter Try.func8, Try.ntmps8
    go_wp2_with fail
    go_ret2
    exact ⟨.inr ⟨HE.out.2, by rw [HE.out.1]; rfl⟩, Below.refl _ _⟩
  have h1' : decide ((4900 : Int) < (s.size : Int)) = false := decide_eq_false (by omega)
  have h1'' : decide (4900 < s.size) = false := decide_eq_false h1
  have h2' : (s.toList == []) = false := by simp only [beq_eq_false_iff_ne, ne_eq]; intro h; apply h2; rw [ByteArray.toList_eq] at h; show s.data.size = 0; rw [← Array.length_toList, h]; rfl
  have HE : Hid (s.size ≤ 4900 ∧ s.size ≠ 0 ∧ rdErr s = 8) := ⟨by omega, h2, by unfold rdErr; rw [if_neg h1]⟩
  clear h1 h2
  go_enter Try.func8, Try.ntmps8
  go_wp2_with fail
  have hbw : Below w.heap.size w w := Below.refl _ _
  clear h1' h1'' h2'
  go_loopg [4] s.size (fun gk iv wr => ∃ (i : Nat), i + gk = s.size ∧ iv = .int .i64 (i : Int) ∧ (∀ j, j < i → IsD s j) ∧ Below w.heap.size w wr)
  case atStart => exact ⟨0, by omega, rfl, fun j hj => by omega, hbw⟩
  case round =>
    obtain ⟨i, hig, rfl, hdig, hbr⟩ := hrel
    clear hbw
    have hbw := hbr
    have HDG : Hid (∀ j, j < i → IsD s j) := hdig
    clear hbr hdig
    by_cases hi : i < s.size
    · obtain ⟨g, rfl⟩ : ∃ g, gk = g + 1 := ⟨gk - 1, by omega⟩
      obtain ⟨t, ht⟩ : ∃ t, t = sb s i := ⟨_, rfl⟩
      have hx := sb_eq hi
      rw [← ht] at hx
      have hi1 : decide ((i : Int) < (s.size : Int)) = true := decide_eq_true (by omega)
      have hi2 : decide (i < s.size) = true := decide_eq_true (by omega)
      have hi3 : (0 : Int) ≤ (i : Int) ∧ (i : Int) < (s.size : Int) := by omega
      have wi : wrap64 ((i : Int) + 1) = ((i + 1 : Nat) : Int) := by have := HE.out.1; simp only [wrap64]; omega
      by_cases hd : IsD s i
      · have HQ : Hid (i + (g + 1) = s.size ∧ ∀ j, j < i + 1 → IsD s j) := ⟨hig, fun j hj => by rcases Nat.lt_or_ge j i with h | h; exact HDG.out j h; rw [show j = i by omega]; exact hd⟩
        unfold IsD at hd
        rw [← ht] at hd
        have t1 : decide ((t : Int) < 48) = false := decide_eq_false (by omega)
        have t2 : decide ((57 : Int) < (t : Int)) = false := decide_eq_false (by omega)
        have t3 : decide (t < 48) = false := decide_eq_false (by omega)
        have t4 : decide (57 < t) = false := decide_eq_false (by omega)
        clear ht hd hig
        go_wp2_with fail
        go_roundg g
        case measure => omega
        case rel => exact ⟨i + 1, by have := HQ.out.1; omega, by rw [wi], HQ.out.2, hbw⟩
      · have HNO : Hid (¬ RdOk s) := fun h => hd (h.2.2 i hi)
        unfold IsD at hd
        rw [← ht] at hd
        have hdec : t < 48 ∨ 57 < t := by omega
        clear ht hd hig
        rcases hdec with hdec | hdec
        · have t1 : decide ((t : Int) < 48) = true := decide_eq_true (by omega)
          have t3 : decide (t < 48) = true := decide_eq_true (by omega)
          clear hdec
          go_wp2_with fail
          go_ret2
          exact ⟨.inr ⟨HNO.out, by rw [HE.out.2.2]; rfl⟩, hbw⟩
        · have t1 : decide ((t : Int) < 48) = false := decide_eq_false (by omega)
          have t3 : decide (t < 48) = false := decide_eq_false (by omega)
          have t2 : decide ((57 : Int) < (t : Int)) = true := decide_eq_true (by omega)
          have t4 : decide (57 < t) = true := decide_eq_true (by omega)
          clear hdec
          go_wp2_with fail
          go_ret2
          exact ⟨.inr ⟨HNO.out, by rw [HE.out.2.2]; rfl⟩, hbw⟩
    · obtain rfl : i = s.size := by omega
      have HOK : Hid (RdOk s) := ⟨HE.out.1, HE.out.2.1, HDG.out⟩
      have hi1 : decide ((s.size : Int) < (s.size : Int)) = false := decide_eq_false (by omega)
      have hi2 : decide (s.size < s.size) = false := decide_eq_false (by omega)
      clear hi hig
      go_wp2_with fail
      clear hi1 hi2
      refine (number_ok s HE.out.1 HOK.out.2.2).mono ?_
      rintro e v1 ⟨p1, m1, rfl, hR, hb1⟩
      obtain ⟨⟨zs, hz1, hz2⟩, hz3⟩ := hR
      have AT1 : Hid (At32 v1 p1 m1 m1 zs ∧ Nf B32 zs (dN s s.size) ∧ m1 ≤ 4000) := ⟨hz1, hz2, hz3⟩
      clear hz1 hz2 hz3
      replace hbw := Below.on hbw hb1
      clear hb1
      go_wp2_with fail
      refine (rto_any AT1.out.1 (by have := AT1.out.2.2; omega)).mono ?_
      rintro e v2 ⟨g2, k2, N2, us, rfl, hg2, hA, hN, hb2⟩
      rw [AT1.out.2.1.val] at hN
      have AT2 : Hid (At v2 (some ⟨g2, 0, none⟩) k2 N2 us ∧ Nf B64 us (dN s s.size)) := ⟨hA, hN⟩
      clear hA hN AT1
      replace hbw := Below.on hbw hb2
      clear hb2
      go_wp2_with fail
      go_ret2
      exact ⟨.inl ⟨HOK.out, _, _, _, _, rfl, AT2.out⟩, hbw⟩
theorem readlaw_ok (s : ByteArray) {w : World} :
    Calls Try.prog 6 #[.string s] w fun en w' => en = .returned (.bool true) ∧ Below w.heap.size w w' := by
  go_enter Try.func6, Try.ntmps6
  go_wp2_with fail
  have hbw : Below w.heap.size w w := Below.refl _ _
  by_cases hR : RdOk s
  · refine (read_ok s).mono ?_
    rintro e v1 ⟨⟨-, p1, m1, rfl, hG⟩ | ⟨hn, -⟩, hb1⟩
    rotate_left
    · exact absurd hR hn
    have GN1 : Hid (GN v1 p1 m1 (dN s s.size)) := hG.gn
    clear hG
    replace hbw := Below.on hbw hb1
    clear hb1
    go_wp2_with fail
    refine (docread_ok s).mono ?_
    rintro e v2 ⟨⟨-, g2, k2, N2, us, rfl, hA, hN⟩ | ⟨hn, -⟩, hb2⟩
    rotate_left
    · exact absurd hR hn
    have AT2 : Hid (At v2 (some ⟨g2, 0, none⟩) k2 N2 us ∧ Nf B64 us (dN s s.size)) := ⟨hA, hN⟩
    clear hA hN
    replace GN1 : Hid (GN v2 p1 m1 (dN s s.size)) := GN1.out.below hb2
    replace hbw := Below.on hbw hb2
    clear hb2
    go_wp2_with fail
    obtain ⟨⟨zs, hz1, hz2⟩, -⟩ := GN1.out
    obtain rfl := hz2.inj B64_one AT2.out.2
    have ATz : Hid (At v2 p1 m1 m1 zs) := hz1
    clear hz1 hz2 GN1
    refine (same_t ATz.out AT2.out.1).mono ?_
    rintro e v3 ⟨rfl, hb3⟩
    clear ATz AT2
    replace hbw := Below.on hbw hb3
    clear hb3
    go_wp2_with fail
    go_ret
    exact ⟨rfl, hbw⟩
  · obtain ⟨er, her⟩ : ∃ x, x = rdErr s := ⟨_, rfl⟩
    have HER : Hid (er = rdErr s) := her
    refine (read_ok s).mono ?_
    rintro e v1 ⟨⟨hn, -⟩ | ⟨-, rfl⟩, hb1⟩
    · exact absurd hn hR
    rw [← her]
    replace hbw := Below.on hbw hb1
    clear hb1
    go_wp2_with fail
    refine (docread_ok s).mono ?_
    rintro e v2 ⟨⟨hn, -⟩ | ⟨-, rfl⟩, hb2⟩
    · exact absurd hn hR
    rw [← her]
    clear her
    replace hbw := Below.on hbw hb2
    clear hb2
    go_wp2_with fail
    refine (same_t (At.empty _ none 0 (Nat.zero_le _)) (At.empty _ none 0 (Nat.zero_le _))).mono ?_
    rintro e v3 ⟨rfl, hb3⟩
    replace hbw := Below.on hbw hb3
    clear hb3
    go_wp2_with fail
    go_ret
    exact ⟨rfl, hbw⟩
def lit22 : ByteArray := ⟨#[48, 48, 49, 56, 52, 52, 54, 55, 52, 52, 48, 55, 51, 55, 48, 57, 53, 53, 49, 54, 49, 55]⟩
theorem lit22_ok : RdOk lit22 := ⟨by decide, by decide, by have h : ∀ j : Fin 22, 48 ≤ sb lit22 j.1 ∧ sb lit22 j.1 ≤ 57 := by decide +kernel
                                                           exact fun j hj => h ⟨j, hj⟩⟩
theorem lit22_v : dN lit22 lit22.size = 18446744073709551617 := by decide +kernel
theorem lit22_nf : Nf B64 [1, 1] 18446744073709551617 := ⟨dig2 (by decide) (by decide), by intro x hx; simp at hx; omega, by simp [valB, B64]⟩
theorem natdivReads_w (s : ByteArray) {w : World} :
    Calls Try.prog 3 #[.string s] w fun en w' => en = .returned (.bool true) ∧ Below w.heap.size w w' := by
  go_enter Try.func3, Try.ntmps3
  go_wp2_with fail
  have hbw : Below w.heap.size w w := Below.refl _ _
  rw [show (⟨#[48, 48, 49, 56, 52, 52, 54, 55, 52, 52, 48, 55, 51, 55, 48, 57, 53, 53, 49, 54, 49, 55]⟩ : ByteArray) = lit22 from rfl]
  refine (read_ok lit22).mono ?_
  rintro e v1 ⟨⟨-, p1, m1, rfl, hG⟩ | ⟨hn, -⟩, hb1⟩
  rotate_left
  · exact absurd lit22_ok hn
  obtain ⟨⟨zs, hz1, hz2⟩, -⟩ := hG.gn
  rw [lit22_v] at hz2
  obtain rfl := hz2.inj B64_one lit22_nf
  have AT1 : Hid (At v1 p1 m1 m1 [1, 1]) := hz1
  clear hz1 hz2 hG
  replace hbw := Below.on hbw hb1
  clear hb1
  go_wp2_with fail
  have AT2 : Hid (At (v1.alloc (.cells #[.int .u64 1, .int .u64 1] 27)) (some ⟨v1.heap.size, 0, none⟩) 2 2 [1, 1]) := lit_at v1 _ [1, 1] 2 rfl rfl (dig2 (by decide) (by decide)) (by decide)
  refine (same_t (AT1.out.alloc _) AT2.out).mono ?_
  rintro e v3 ⟨rfl, hb3⟩
  have hbw2 := Below.on (Below.on hbw (below1 v1 _)) hb3
  clear hb3 AT1 AT2 hbw
  have hbw := hbw2
  clear hbw2
  go_wp2_with fail
  refine (readlaw_ok s).mono ?_
  rintro e v4 ⟨rfl, hb4⟩
  replace hbw := Below.on hbw hb4
  clear hb4
  go_wp2_with fail
  go_ret
  exact ⟨rfl, hbw⟩
end Go.Proofs.Ytnnkgnhoboealaa
