import Derived.Test.YtidggnjnlhjhlaaGreatDoorJ10
import Derived.Shelf.Strconv.Itoa0
import Derived.BigQuiet
import Derived.Test.YtidggnjnlhjhlaaGreatDoorJ9
import Derived.Laws.ResultCell
import Derived.Lib.SliceRun
import Derived.Sort.Row
import Derived.Deep.RegionWith
import Derived.Test.YtidggnjnlhjhlaaGreatDoorJ8
import Derived.Deep.DeepCutAuto
import Derived.Deep.LoopGhost
import Derived.Shelf.Spec.TrailingZeros
namespace Go.Proofs.YtidggnjnlhjhlaaGreatDoor
open Go.RowKit
set_option maxRecDepth 20000
set_option maxHeartbeats 0
theorem land_two_pow (b k : Nat) : b &&& 2 ^ k = if b / 2 ^ k % 2 = 1 then 2 ^ k else 0 := by
  refine Nat.eq_of_testBit_eq fun i => ?_
  rw [Nat.testBit_and, Nat.testBit_two_pow]
  by_cases h : k = i
  · subst h
    by_cases h2 : b / 2 ^ k % 2 = 1
    · rw [if_pos h2, Nat.testBit_two_pow_self]; simp [Nat.testBit_eq_decide_div_mod_eq, h2]
    · rw [if_neg h2]; simp [Nat.testBit_eq_decide_div_mod_eq, h2]
  · by_cases h2 : b / 2 ^ k % 2 = 1
    · rw [if_pos h2, Nat.testBit_two_pow]; simp [h]
    · rw [if_neg h2]; simp [h]
theorem sign_and (b S k : Nat) (hS : S = 2 ^ k) (hk : k < 64) (hb : b < 2 * S) : bits BinOp.and IntKind.u64 (b : Int) (S : Int) = ((if S ≤ b then S else 0 : Nat) : Int) := by
  have h1 : S ≤ 9223372036854775808 := by rw [hS]; exact Nat.le_trans (Nat.pow_le_pow_right (by decide) (by omega : k ≤ 63)) (by decide)
  rw [bits_and_u64_nat b S (by omega) (by omega)]
  congr 1
  rw [hS] at hb ⊢
  rw [land_two_pow]
  have hp := Nat.two_pow_pos k
  by_cases h : 2 ^ k ≤ b
  · have : b / 2 ^ k = 1 := by
      rw [Nat.div_eq_of_lt_le] <;> omega
    rw [this, if_pos rfl, if_pos h]
  · rw [Nat.div_eq_of_lt (by omega), if_neg (by decide), if_neg h]
theorem andNot_bv (b k : Nat) (hb : b < 2 ^ (k + 1)) (hk : k < 64) : (BitVec.ofNat 64 b &&& ~~~ BitVec.ofNat 64 (2 ^ k)) = BitVec.ofNat 64 (b % 2 ^ k) := by
  refine BitVec.eq_of_getLsbD_eq fun i hi => ?_
  simp only [BitVec.getLsbD_and, BitVec.getLsbD_not, BitVec.getLsbD_ofNat, Nat.testBit_two_pow, Nat.testBit_mod_two_pow, hi, decide_true, Bool.true_and]
  rcases Nat.lt_trichotomy i k with h | h | h
  · have h2 : ¬ k = i := by omega
    simp [h, h2]
  · subst h; simp
  · have h2 : b.testBit i = false := Nat.testBit_lt_two_pow (Nat.lt_of_lt_of_le hb (Nat.pow_le_pow_right (by decide) h))
    simp [h2]
theorem sign_andNot (b S k : Nat) (hS : S = 2 ^ k) (hk : k < 64) (hb : b < 2 * S) : bits BinOp.andNot IntKind.u64 (b : Int) (S : Int) = ((b % S : Nat) : Int) := by
  have h1 : S ≤ 9223372036854775808 := by rw [hS]; exact Nat.le_trans (Nat.pow_le_pow_right (by decide) (by omega : k ≤ 63)) (by decide)
  have hb2 : b < 2 ^ (k + 1) := by rw [Nat.pow_succ, ← hS]; omega
  show IntKind.u64.wrap ((BitVec.ofInt 64 (b : Int) &&& ~~~ BitVec.ofInt 64 (S : Int)).toNat : Int) = _
  rw [BitVec.ofInt_natCast, BitVec.ofInt_natCast, hS, andNot_bv b k hb2 hk, ← hS, BitVec.toNat_ofNat, IntKind.wrap_u64]
  have h2 : b % S < S := Nat.mod_lt _ (by rw [hS]; exact Nat.two_pow_pos k)
  omega
end Go.Proofs.YtidggnjnlhjhlaaGreatDoor
namespace Go.Proofs.YtidggnjnlhjhlaaGreatDoor
open Go.RowKit Go.Shelf
set_option maxRecDepth 20000
set_option maxHeartbeats 0
def bl_renLen : Ren := ⟨fun x => match x with | 129 => 106 | n => n, fun x => match x with | 53 => 26 | 3 => 3 | 4 => 4 | 46 => 107 | 5 => 5 | 9 => 9 | n => n, fun n => n⟩
theorem bl_laysLen : Lays.n129 Tryz.prog bl_renLen :=
  { mixed := by kernel_rfl, f129 := Tryz.func106.trans (congrArg some (by kernel_rfl)),
    t3 := Tryz.underlying3, a3 := Tryz.isAgg3, z3 := Tryz.sizeOf3, v3 := Tryz.zeroValue3, t4 := Tryz.underlying4, a4 := Tryz.isAgg4, z4 := Tryz.sizeOf4, v4 := Tryz.zeroValue4,
    t5 := Tryz.underlying5, a5 := Tryz.isAgg5, z5 := Tryz.sizeOf5, v5 := Tryz.zeroValue5, t9 := Tryz.underlying9, a9 := Tryz.isAgg9, z9 := Tryz.sizeOf9, v9 := Tryz.zeroValue9,
    t46 := Tryz.underlying107, a46 := Tryz.isAgg107, z46 := Tryz.sizeOf107, v46 := Tryz.zeroValue107, t53 := Tryz.underlying26, a53 := Tryz.isAgg26, z53 := Tryz.sizeOf26, v53 := Tryz.zeroValue26 }

def bl_bitsN (n : Nat) : Nat := if n = 0 then 0 else n.log2 + 1
theorem bl_bitsN_zero : bl_bitsN 0 = 0 := rfl
theorem bl_bitsN_lt (n : Nat) : n < 2 ^ bl_bitsN n := by
  unfold bl_bitsN
  split
  · rename_i h; subst h; decide
  · exact Nat.lt_log2_self
theorem bl_bitsN_le (n : Nat) (h : n ≠ 0) : 2 ^ (bl_bitsN n - 1) ≤ n := by
  unfold bl_bitsN
  rw [if_neg h, Nat.add_sub_cancel]
  exact Nat.log2_self_le h
theorem bl_bitsN_unique {n k : Nat} (h1 : n < 2 ^ k) (h2 : n ≠ 0 → 2 ^ (k - 1) ≤ n) (h3 : n = 0 → k = 0) : bl_bitsN n = k := by
  by_cases h0 : n = 0
  · subst h0; rw [h3 rfl]; rfl
  · have a1 := bl_bitsN_lt n
    have a2 := bl_bitsN_le n h0
    have b2 := h2 h0
    have c1 : bl_bitsN n - 1 < k := (Nat.pow_lt_pow_iff_right (by decide : 1 < 2)).1 (Nat.lt_of_le_of_lt a2 h1)
    have c2 : k - 1 < bl_bitsN n := (Nat.pow_lt_pow_iff_right (by decide : 1 < 2)).1 (Nat.lt_of_le_of_lt b2 a1)
    have c3 : bl_bitsN n ≠ 0 := by unfold bl_bitsN; rw [if_neg h0]; omega
    omega
theorem bl_bitsN_half (n : Nat) (h : n ≠ 0) : bl_bitsN n = 1 + bl_bitsN (n / 2) := by
  refine bl_bitsN_unique ?_ ?_ (fun e => absurd e h)
  · have := bl_bitsN_lt (n / 2)
    rw [Nat.add_comm, Nat.pow_succ]; omega
  · intro _
    by_cases h2 : n / 2 = 0
    · rw [h2]; simp [bl_bitsN]; omega
    · have a := bl_bitsN_le _ h2
      have c3 : bl_bitsN (n / 2) ≠ 0 := by unfold bl_bitsN; rw [if_neg h2]; omega
      have e : 1 + bl_bitsN (n / 2) - 1 = bl_bitsN (n / 2) - 1 + 1 := by omega
      rw [e, Nat.pow_succ]; omega
theorem bl_bitLen_eq : ∀ (k n : Nat), n < 2 ^ k → k ≤ 64 → Lib.bitLen n = bl_bitsN n := by
  intro k
  induction k with
  | zero => intro n h _; have : n = 0 := by simpa using h
            subst this; rfl
  | succ k ih =>
    intro n h hk
    by_cases h0 : n = 0
    · subst h0; rfl
    · rw [Lib.bitLen_half n h0 (Nat.lt_of_lt_of_le h (Nat.pow_le_pow_right (by decide) hk)), bl_bitsN_half n h0, ih (n / 2) (by rw [Nat.pow_succ] at h; omega) (by omega)]

theorem bl_len_any (x : Nat) (w : World) (hx : x < B64) : Calls Tryz.prog 106 #[U x] w fun e w' => e = .returned (.int .i64 (bl_bitsN x)) ∧ w' = w := by
  rw [B64_eq] at hx
  have h := Any.bits_Len64 bl_laysLen (x : Int) w (by omega) (by omega)
  rw [Int.toNat_natCast, bl_bitLen_eq 64 x hx (Nat.le_refl _)] at h
  exact h

theorem bl_le {b k : Nat} (h : b < 2 ^ k) : bl_bitsN b ≤ k := by
  by_cases h0 : b = 0
  · subst h0; rw [bl_bitsN_zero]; omega
  · have h1 := bl_bitsN_le b h0
    have h2 := (Nat.pow_lt_pow_iff_right (by decide : 1 < 2)).1 (Nat.lt_of_le_of_lt h1 h)
    omega
abbrev PV (p m l : Int) (s : Bool) (z : Nat) : Value := .agg #[.int .i64 p, .int .i64 m, .int .i64 l, .bool s, U z]
structure B5q (W : World) (g : Nat) (v0 v1 v2 v3 v4 : Value) : Prop where
  c0 : W.cell? ⟨g, 0, none⟩ = some v0
  c1 : W.cell? ⟨g, 1, none⟩ = some v1
  c2 : W.cell? ⟨g, 2, none⟩ = some v2
  c3 : W.cell? ⟨g, 3, none⟩ = some v3
  c4 : W.cell? ⟨g, 4, none⟩ = some v4
  f0 : W.frozen? ⟨g, 0, none⟩ = false
  f1 : W.frozen? ⟨g, 1, none⟩ = false
  f2 : W.frozen? ⟨g, 2, none⟩ = false
  f3 : W.frozen? ⟨g, 3, none⟩ = false
  f4 : W.frozen? ⟨g, 4, none⟩ = false
theorem B5q.below {W W' : World} {g : Nat} {v0 v1 v2 v3 v4 : Value} (h : B5q W g v0 v1 v2 v3 v4) (hb : Below W.heap.size W W') : B5q W' g v0 v1 v2 v3 v4 := by
  have hl : g < W.heap.size := World.block_lt_of_cell? W _ h.c0
  exact ⟨(hb.cell (p := ⟨g, 0, none⟩) hl).trans h.c0, (hb.cell (p := ⟨g, 1, none⟩) hl).trans h.c1, (hb.cell (p := ⟨g, 2, none⟩) hl).trans h.c2, (hb.cell (p := ⟨g, 3, none⟩) hl).trans h.c3, (hb.cell (p := ⟨g, 4, none⟩) hl).trans h.c4,
    (hb.frozen (p := ⟨g, 0, none⟩) hl).trans h.f0, (hb.frozen (p := ⟨g, 1, none⟩) hl).trans h.f1, (hb.frozen (p := ⟨g, 2, none⟩) hl).trans h.f2, (hb.frozen (p := ⟨g, 3, none⟩) hl).trans h.f3, (hb.frozen (p := ⟨g, 4, none⟩) hl).trans h.f4⟩
theorem B5q.new (w : World) (ty : TypeId) (v0 v1 v2 v3 v4 : Value) : B5q (w.alloc (.cells #[v0, v1, v2, v3, v4] ty)) w.heap.size v0 v1 v2 v3 v4 :=
  ⟨by go_simp, by go_simp, by go_simp, by go_simp, by go_simp, by go_simp, by go_simp, by go_simp, by go_simp, by go_simp⟩
theorem B5q.lt {W : World} {g : Nat} {v0 v1 v2 v3 v4 : Value} (h : B5q W g v0 v1 v2 v3 v4) : g < W.heap.size := World.block_lt_of_cell? W _ h.c0
theorem B5q.drew {W : World} {g : Nat} {v0 v1 v2 v3 v4 : Value} (h : B5q W g v0 v1 v2 v3 v4) : B5q W.drew g v0 v1 v2 v3 v4 := ⟨h.c0, h.c1, h.c2, h.c3, h.c4, h.f0, h.f1, h.f2, h.f3, h.f4⟩
theorem B3.drew {W : World} {g : Nat} {v0 v1 v2 : Value} (h : B3 W g v0 v1 v2) : B3 W.drew g v0 v1 v2 := ⟨h.c0, h.c1, h.c2, h.f0, h.f1, h.f2⟩
theorem bwDrewN {B : Nat} {a w : World} (h : Below B a w) (r : Nat) : Below B a (w.drewN r) := ⟨h.os, h.tape, h.output, h.size, h.block⟩
theorem B5q.drewN {W : World} {g : Nat} {v0 v1 v2 v3 v4 : Value} (h : B5q W g v0 v1 v2 v3 v4) (r : Nat) : B5q (W.drewN r) g v0 v1 v2 v3 v4 := ⟨h.c0, h.c1, h.c2, h.c3, h.c4, h.f0, h.f1, h.f2, h.f3, h.f4⟩
def clsN (H I s : Nat) : Int := if s = 0 then 0 else if s < H then 1 else if s < I then 2 else if s = I then 3 else 4
abbrev FV (S : Nat) (P E G : Int) (I Q : Nat) : Value := .agg #[U S, .int .i64 P, .int .i64 E, .int .i64 G, U I, U Q]
structure B6q (W : World) (g : Nat) (v0 v1 v2 v3 v4 v5 : Value) : Prop where
  c0 : W.cell? ⟨g, 0, none⟩ = some v0
  c1 : W.cell? ⟨g, 1, none⟩ = some v1
  c2 : W.cell? ⟨g, 2, none⟩ = some v2
  c3 : W.cell? ⟨g, 3, none⟩ = some v3
  c4 : W.cell? ⟨g, 4, none⟩ = some v4
  c5 : W.cell? ⟨g, 5, none⟩ = some v5
  f0 : W.frozen? ⟨g, 0, none⟩ = false
  f1 : W.frozen? ⟨g, 1, none⟩ = false
  f2 : W.frozen? ⟨g, 2, none⟩ = false
  f3 : W.frozen? ⟨g, 3, none⟩ = false
  f4 : W.frozen? ⟨g, 4, none⟩ = false
  f5 : W.frozen? ⟨g, 5, none⟩ = false
theorem B6q.below {W W' : World} {g : Nat} {v0 v1 v2 v3 v4 v5 : Value} (h : B6q W g v0 v1 v2 v3 v4 v5) (hb : Below W.heap.size W W') : B6q W' g v0 v1 v2 v3 v4 v5 := by
  have hl : g < W.heap.size := World.block_lt_of_cell? W _ h.c0
  exact ⟨(hb.cell (p := ⟨g, 0, none⟩) hl).trans h.c0, (hb.cell (p := ⟨g, 1, none⟩) hl).trans h.c1, (hb.cell (p := ⟨g, 2, none⟩) hl).trans h.c2, (hb.cell (p := ⟨g, 3, none⟩) hl).trans h.c3, (hb.cell (p := ⟨g, 4, none⟩) hl).trans h.c4, (hb.cell (p := ⟨g, 5, none⟩) hl).trans h.c5, (hb.frozen (p := ⟨g, 0, none⟩) hl).trans h.f0, (hb.frozen (p := ⟨g, 1, none⟩) hl).trans h.f1, (hb.frozen (p := ⟨g, 2, none⟩) hl).trans h.f2, (hb.frozen (p := ⟨g, 3, none⟩) hl).trans h.f3, (hb.frozen (p := ⟨g, 4, none⟩) hl).trans h.f4, (hb.frozen (p := ⟨g, 5, none⟩) hl).trans h.f5⟩
theorem B6q.new (w : World) (ty : TypeId) (v0 v1 v2 v3 v4 v5 : Value) : B6q (w.alloc (.cells #[v0, v1, v2, v3, v4, v5] ty)) w.heap.size v0 v1 v2 v3 v4 v5 :=
  ⟨by go_simp, by go_simp, by go_simp, by go_simp, by go_simp, by go_simp, by go_simp, by go_simp, by go_simp, by go_simp, by go_simp, by go_simp⟩
theorem B6q.lt {W : World} {g : Nat} {v0 v1 v2 v3 v4 v5 : Value} (h : B6q W g v0 v1 v2 v3 v4 v5) : g < W.heap.size := World.block_lt_of_cell? W _ h.c0
theorem B6q.drew {W : World} {g : Nat} {v0 v1 v2 v3 v4 v5 : Value} (h : B6q W g v0 v1 v2 v3 v4 v5) : B6q W.drew g v0 v1 v2 v3 v4 v5 := ⟨h.c0, h.c1, h.c2, h.c3, h.c4, h.c5, h.f0, h.f1, h.f2, h.f3, h.f4, h.f5⟩
theorem rof_64 (w : World) : Calls Tryz.prog 99 #[.int .i64 64] w fun e w' => e = .returned (.tuple #[FV 9223372036854775808 53 (-1074) 971 9218868437227405312 9221120237041090561, .bool true]) ∧ Below w.heap.size w w' := by
  go_enter Tryz.func99, Tryz.ntmps99
  go_wp2_with fail
  refine bodyPost_ret (v := .tuple #[FV 9223372036854775808 53 (-1074) 971 9218868437227405312 9221120237041090561, .bool true]) (by rw [results_ct rfl]; go_simp) rfl ⟨rfl, ?_⟩
  exact bwAlloc w _
theorem cut_any {S I Q : Nat} {P E G : Int} (h0 : 0 < S) (hS : S ≤ 9223372036854775808) (b : Nat) (w : World) : Calls Tryz.prog 151 #[FV S P E G I Q, U b] w fun e w' => e = .returned (.tuple #[.bool (decide (S ≤ b)), U (b % S)]) ∧ Below w.heap.size w w' := by
  obtain ⟨z, hz⟩ : ∃ z, z = b % S := ⟨_, rfl⟩
  obtain ⟨s, hs⟩ : ∃ s, s = decide (S ≤ b) := ⟨_, rfl⟩
  have hzl : z < S := by rw [hz]; exact Nat.mod_lt _ h0
  have hd : (b : Int).tmod S = (z : Int) := by rw [Int.tmod_eq_emod_of_nonneg (by omega), hz]; rfl
  have hwz : IntKind.u64.wrap (z : Int) = (z : Int) := by rw [IntKind.wrap_u64]; omega
  have hs0 : ((S : Int) == 0) = false := by simp; omega
  have hs1 : ¬ S = 0 := by omega
  have hs2 : decide ((S : Int) ≤ (b : Int)) = s := by rw [hs]; by_cases h : S ≤ b <;> simp [h]
  have hs3 : decide (S ≤ b) = s := hs.symm
  rw [← hz, hs3]
  clear hz hs hzl h0 hS
  go_enter Tryz.func151, Tryz.ntmps151
  go_wp2_with fail
  go_quiet (fail)
  go_wp2_with fail
  go_ret2
  exact ⟨rfl, bwDrewN (bwAlloc w _) _⟩
end Go.Proofs.YtidggnjnlhjhlaaGreatDoor
namespace Go.Proofs.YtidggnjnlhjhlaaGreatDoor
open Go.RowKit
set_option maxRecDepth 20000
set_option maxHeartbeats 0
structure Num (w : World) (p : Option Addr) (m c : Nat) (xs : List Nat) (a : Nat) : Prop where
  at_ : At w p m c xs
  nf : Nf B64 xs a
  le : m ≤ 8192
theorem Num.below {w w' : World} {p : Option Addr} {m c : Nat} {xs : List Nat} {a : Nat} (h : Num w p m c xs a) (hb : Below w.heap.size w w') : Num w' p m c xs a := ⟨h.at_.below hb, h.nf, h.le⟩
theorem Num.lim {w : World} {p : Option Addr} {m c : Nat} {xs : List Nat} {a : Nat} (h : Num w p m c xs a) : a < LIM := h.nf.lim.1 (by rw [h.at_.len]; exact h.le)
theorem Num.of {B : Nat} {w : World} {p : Option Addr} {m : Nat} {xs : List Nat} {a : Nat} (ho : Own B w p m xs) (hn : Nf B64 xs a) (hm : m ≤ 8192) : Num w p m m xs a := ⟨ho.at_ hm, hn, hm⟩
end Go.Proofs.YtidggnjnlhjhlaaGreatDoor
namespace Go.Proofs.YtidggnjnlhjhlaaGreatDoor
open Go.RowKit Go.Shelf
set_option maxRecDepth 20000
set_option maxHeartbeats 0
def iv (s : Bool) (a : Nat) : Int := if s then -(a : Int) else (a : Int)
theorem iv_t (a : Nat) : iv true a = -(a : Int) := rfl
theorem iv_f (a : Nat) : iv false a = (a : Int) := rfl
abbrev ZV (s : Bool) (p : Option Addr) (n c : Nat) : Value := .agg #[.bool s, .slice p n c]
def AnsI (B : Nat) (w' : World) (e : Ending) (z : Int) : Prop :=
  (z.natAbs < LIM ∧ ∃ p m zs, e = .returned (.tuple #[ZV (decide (z < 0)) p m m, .int .i64 0]) ∧ Own B w' p m zs ∧ Nf B64 zs z.natAbs ∧ m ≤ 8192) ∨
  (LIM ≤ z.natAbs ∧ e = .returned (.tuple #[ZV false none 0 0, .int .i64 5]))
theorem AnsI.ok {B : Nat} {w' : World} {e : Ending} {z : Int} (h : AnsI B w' e z) (hz : z.natAbs < LIM) : ∃ p m zs, e = .returned (.tuple #[ZV (decide (z < 0)) p m m, .int .i64 0]) ∧ Own B w' p m zs ∧ Nf B64 zs z.natAbs ∧ m ≤ 8192 := by
  rcases h with ⟨_, h⟩ | ⟨h, _⟩
  · exact h
  · omega
theorem AnsI.no {B : Nat} {w' : World} {e : Ending} {z : Int} (h : AnsI B w' e z) (hz : LIM ≤ z.natAbs) : e = .returned (.tuple #[ZV false none 0 0, .int .i64 5]) := by
  rcases h with ⟨h, _⟩ | ⟨_, h⟩
  · omega
  · exact h
theorem Num.zero {w : World} {p : Option Addr} {m c : Nat} {xs : List Nat} {a : Nat} (h : Num w p m c xs a) : m = 0 ↔ a = 0 := by
  rw [← h.nf.zero_iff B64_one, ← h.at_.len]
  exact ⟨List.eq_nil_of_length_eq_zero, fun e => by rw [e]; rfl⟩

theorem results_cell1 {fn : Func} {p : Tmp} {ty : TypeId} (h : fn.results = #[.cell p ty]) (tmps : Array Value) (P : Program) (w : World) :
    (results fn tmps).run P w = ((asAddr (tmps.getD p undef)).run P w).andThen fun a w₁ => (loadVar ty a).run P w₁ := by
  simp only [results, h]
  simp [Sem.run_bind, Result.andThen]
theorem signed_any (s : Bool) (p : Option Addr) (m c : Nat) (w : World) :
    Calls Tryz.prog 81 #[.bool s, .slice p m c] w fun e w' => e = .returned (ZV (s && decide (0 < m)) p m c) ∧ Below w.heap.size w w' := by
  cases s
  · go_enter Tryz.func81, Tryz.ntmps81
    go_wp2_with fail
    refine bodyPost_ret (v := ZV false p m c) ?_ rfl ⟨rfl, below1 w _⟩
    rw [results_cell1 rfl]
    go_simp
  · by_cases h : 0 < m
    · have hd : decide ((0 : Int) < (m : Int)) = true := decide_eq_true (by omega)
      go_enter Tryz.func81, Tryz.ntmps81
      go_wp2_with fail
      refine bodyPost_ret (v := ZV true p m c) ?_ rfl ⟨by simp [h], below1 w _⟩
      rw [results_cell1 rfl]
      go_simp
    · have hd : decide ((0 : Int) < (m : Int)) = false := decide_eq_false (by omega)
      have hn : ¬ 0 < m := h
      go_enter Tryz.func81, Tryz.ntmps81
      go_wp2_with fail
      refine bodyPost_ret (v := ZV false p m c) ?_ rfl ⟨by simp [h], below1 w _⟩
      rw [results_cell1 rfl]
      go_simp
theorem Row.oth {w : World} {g off n : Nat} {xs : List Nat} (h : Row w g off n xs) (g2 o2 : Nat) (v : Value) (hne : g ≠ g2) : Row (w.setCell ⟨g2, o2, none⟩ v) g off n xs := by
  refine ⟨h.len, h.dig, fun j hj => ?_, fun j hj => by rw [World.frozen?_setCell]; exact h.frozen j hj⟩
  exact (World.cell?_setCell_other _ _ _ _ (by intro e; apply hne; have := congrArg Addr.block e; simp at this; omega)).trans (h.cell j hj)
theorem Own.setOld {B : Nat} {w : World} {p : Option Addr} {m : Nat} {zs : List Nat} (h : Own B w p m zs) (g2 o2 : Nat) (v : Value) (hlt : g2 < B) : Own B (w.setCell ⟨g2, o2, none⟩ v) p m zs := by
  refine ⟨h.len, h.dig, ?_⟩
  rcases h.mem with h0 | ⟨g, hp, hg, hr⟩
  · exact .inl h0
  · exact .inr ⟨g, hp, hg, hr.oth g2 o2 v (by omega)⟩
theorem bSet {B : Nat} {a w : World} (h : Below B a w) (g o : Nat) (v : Value) (hB : B ≤ g) : Below B a (w.setCell ⟨g, o, none⟩ v) :=
  h.trans ((Wr.refl g o 1 w).setCell o ⟨by omega, by omega⟩ v |>.below hB)
theorem below3 (w : World) (o1 o2 o3 : Obj) : Below w.heap.size w (((w.alloc o1).alloc o2).alloc o3) := (below2 w o1 o2).alloc (by simp; omega) o3
theorem At.alloc3 {w : World} {p : Option Addr} {n c : Nat} {xs : List Nat} (h : At w p n c xs) (o1 o2 o3 : Obj) : At (((w.alloc o1).alloc o2).alloc o3) p n c xs := ((h.alloc o1).alloc o2).alloc o3
theorem iv_abs_same (s : Bool) (a b : Nat) : (iv s a + iv s b).natAbs = a + b ∧ (decide (iv s a + iv s b < 0) = (s && decide (0 < a + b))) := by
  cases s
  · rw [iv_f, iv_f]; refine ⟨by omega, ?_⟩
    simp only [Bool.false_and, decide_eq_false_iff_not]; omega
  · rw [iv_t, iv_t]; refine ⟨by omega, ?_⟩
    simp only [Bool.true_and]; exact decide_eq_decide.2 (by omega)
theorem iv_abs_diff (s : Bool) {a b : Nat} (h : b ≤ a) : (iv s a + iv (!s) b).natAbs = a - b ∧ (decide (iv s a + iv (!s) b < 0) = (s && decide (0 < a - b))) := by
  cases s
  · rw [Bool.not_false, iv_f, iv_t]; refine ⟨by omega, ?_⟩
    simp only [Bool.false_and, decide_eq_false_iff_not]; omega
  · rw [Bool.not_true, iv_f, iv_t]; refine ⟨by omega, ?_⟩
    simp only [Bool.true_and]; exact decide_eq_decide.2 (by omega)
theorem Nf.lenpos {zs : List Nat} {n m : Nat} (h : Nf B64 zs n) (hl : zs.length = m) : decide (0 < m) = decide (0 < n) := by
  refine decide_eq_decide.2 ?_
  have := h.zero_iff B64_one
  constructor
  · intro hm
    rcases Nat.eq_zero_or_pos n with e | e
    · have := this.2 e; rw [this] at hl; simp at hl; omega
    · exact e
  · intro hn
    rcases Nat.eq_zero_or_pos m with e | e
    · have := this.1 (List.eq_nil_of_length_eq_zero (by omega)); omega
    · exact e

theorem sum_same {p q : Option Addr} {n m c d : Nat} {xs ys : List Nat} {a b : Nat} {w : World} (s : Bool) (h : Num w p n c xs a) (k : Num w q m d ys b) :
    Calls Tryz.prog 75 #[ZV s p n c, ZV s q m d] w fun e w' => AnsI w.heap.size w' e (iv s a + iv s b) ∧ Below w.heap.size w w' := by
  obtain ⟨z, hz⟩ : ∃ z, z = iv s a + iv s b := ⟨_, rfl⟩
  rw [← hz]
  have hab := iv_abs_same s a b
  rw [← hz] at hab
  have HZ : Hid (z.natAbs = a + b ∧ decide (z < 0) = (s && decide (0 < a + b))) := hab
  have H : Hid (Num w p n c xs a) := h
  have K : Hid (Num w q m d ys b) := k
  clear hz hab h k
  have hss : (s == s) = true := by simp
  go_enter Tryz.func75, Tryz.ntmps75
  go_wp2_with fail
  refine (add_ord (H.out.at_.alloc3 _ _ _) (K.out.at_.alloc3 _ _ _) H.out.nf K.out.nf H.out.le K.out.le).mono ?_
  rintro e w1 ⟨ha, hb⟩
  have hbw := Below.on (below3 w _ _ _) hb
  have cx0 : w1.cell? ⟨w.heap.size, 0, none⟩ = some (.bool s) := (hb.cell (p := ⟨w.heap.size, 0, none⟩) (by simp <;> omega)).trans (by go_simp)
  have cr0 : (w1.cell? ⟨w.heap.size + 1 + 1, 0, none⟩) = some (.bool false) := (hb.cell (p := ⟨w.heap.size + 1 + 1, 0, none⟩) (by simp <;> omega)).trans (by go_simp)
  have cr1 : (w1.cell? ⟨w.heap.size + 1 + 1, 1, none⟩) = some (.slice none 0 0) := (hb.cell (p := ⟨w.heap.size + 1 + 1, 1, none⟩) (by simp <;> omega)).trans (by go_simp)
  have fr0 : w1.frozen? ⟨w.heap.size + 1 + 1, 0, none⟩ = false := (hb.frozen (p := ⟨w.heap.size + 1 + 1, 0, none⟩) (by simp <;> omega)).trans (by go_simp)
  have fr1 : w1.frozen? ⟨w.heap.size + 1 + 1, 1, none⟩ = false := (hb.frozen (p := ⟨w.heap.size + 1 + 1, 1, none⟩) (by simp <;> omega)).trans (by go_simp)
  have hsz : w.heap.size + 1 + 1 < w1.heap.size := by have := hb.size; simp at this; omega
  clear hb
  rcases ha with ⟨hl, p1, m1, z1, rfl, ho, hn, hm⟩ | ⟨hl, rfl⟩
  · have HL : Hid (a + b < LIM) := hl
    have HN : Hid (Nf B64 z1 (a + b)) := hn
    have HOW : Hid (Own (w.heap.size + 1 + 1 + 1) w1 p1 m1 z1) := by have := ho; simp at this; exact this
    have HM : Hid (m1 ≤ 8192) := hm
    have hv : (s && decide (0 < m1)) = decide (z < 0) := by rw [HZ.out.2, hn.lenpos ho.len]
    clear hl hn ho hm
    go_wp2_with fail
    refine (signed_any s p1 m1 m1 w1).mono ?_
    rintro e w2 ⟨rfl, hb2⟩
    rw [hv]
    obtain ⟨sz, hs⟩ : ∃ sz, sz = decide (z < 0) := ⟨_, rfl⟩
    rw [← hs]
    have HSZ : Hid (sz = decide (z < 0)) := hs
    have dr0 : w2.cell? ⟨w.heap.size + 1 + 1, 0, none⟩ = some (.bool false) := (hb2.cell (p := ⟨w.heap.size + 1 + 1, 0, none⟩) hsz).trans cr0
    have dr1 : w2.cell? ⟨w.heap.size + 1 + 1, 1, none⟩ = some (.slice none 0 0) := (hb2.cell (p := ⟨w.heap.size + 1 + 1, 1, none⟩) hsz).trans cr1
    have er0 : w2.frozen? ⟨w.heap.size + 1 + 1, 0, none⟩ = false := (hb2.frozen (p := ⟨w.heap.size + 1 + 1, 0, none⟩) hsz).trans fr0
    have er1 : w2.frozen? ⟨w.heap.size + 1 + 1, 1, none⟩ = false := (hb2.frozen (p := ⟨w.heap.size + 1 + 1, 1, none⟩) hsz).trans fr1
    have HOW2 : Hid (Own (w.heap.size + 1 + 1 + 1) w2 p1 m1 z1) := HOW.out.below hb2
    have hbw2 := Below.on hbw hb2
    clear hv hs cr0 cr1 fr0 fr1 cx0 hbw hb2 hsz HOW
    go_wp2_with fail
    refine bodyPost_ret (v := .tuple #[ZV sz p1 m1 m1, .int .i64 0]) (by rw [results_cell_tmp rfl]; go_simp) rfl ⟨.inl ⟨by rw [HZ.out.1]; exact HL.out, p1, m1, z1, by rw [HSZ.out], ?_, by rw [HZ.out.1]; exact HN.out, HM.out⟩, ?_⟩
    · exact ((HOW2.out.setOld _ _ _ (by omega)).setOld _ _ _ (by omega)).mono (by omega)
    · exact bSet (bSet hbw2 _ _ _ (by omega)) _ _ _ (by omega)
  · have HL : Hid (LIM ≤ a + b) := hl
    clear hl
    go_wp2_with fail
    refine (signed_any s none 0 0 w1).mono ?_
    rintro e w2 ⟨rfl, hb2⟩
    have hv : (s && decide (0 < 0)) = false := by simp
    rw [hv]
    have dr0 : w2.cell? ⟨w.heap.size + 1 + 1, 0, none⟩ = some (.bool false) := (hb2.cell (p := ⟨w.heap.size + 1 + 1, 0, none⟩) hsz).trans cr0
    have dr1 : w2.cell? ⟨w.heap.size + 1 + 1, 1, none⟩ = some (.slice none 0 0) := (hb2.cell (p := ⟨w.heap.size + 1 + 1, 1, none⟩) hsz).trans cr1
    have er0 : w2.frozen? ⟨w.heap.size + 1 + 1, 0, none⟩ = false := (hb2.frozen (p := ⟨w.heap.size + 1 + 1, 0, none⟩) hsz).trans fr0
    have er1 : w2.frozen? ⟨w.heap.size + 1 + 1, 1, none⟩ = false := (hb2.frozen (p := ⟨w.heap.size + 1 + 1, 1, none⟩) hsz).trans fr1
    have hbw2 := Below.on hbw hb2
    clear hv cr0 cr1 fr0 fr1 cx0 hbw hb2 hsz
    go_wp2_with fail
    refine bodyPost_ret (v := .tuple #[ZV false none 0 0, .int .i64 5]) (by rw [results_cell_tmp rfl]; go_simp) rfl ⟨.inr ⟨by rw [HZ.out.1]; exact HL.out, rfl⟩, ?_⟩
    exact bSet (bSet hbw2 _ _ _ (by omega)) _ _ _ (by omega)

theorem sub_okN {p q : Option Addr} {n m c d : Nat} {xs ys : List Nat} {a b : Nat} {w : World} (h : At w p n c xs) (k : At w q m d ys) (hx : Nf B64 xs a) (hy : Nf B64 ys b) (hn : n ≤ 8192) (hm : m ≤ 8192) (hle : b ≤ a) :
    Calls Tryz.prog 110 #[.slice p n c, .slice q m d] w fun e w' => (∃ p m zs, e = .returned (.tuple #[.slice p m m, .int .i64 0]) ∧ Own w.heap.size w' p m zs ∧ Nf B64 zs (a - b) ∧ m ≤ 8192) ∧ Below w.heap.size w w' := by
  refine (sub_nf h k hx hy hn hm).mono ?_
  rintro e w' ⟨h1 | h1, hb⟩
  · exact ⟨h1.2, hb⟩
  · exact absurd h1.1 (by omega)
theorem cmp_wN {p q : Option Addr} {n m c d : Nat} {xs ys : List Nat} {a b : Nat} {w : World} (h : At w p n c xs) (k : At w q m d ys) (hx : Nf B64 xs a) (hy : Nf B64 ys b) :
    Calls Tryz.prog 109 #[.slice p n c, .slice q m d] w fun e w' => e = .returned (.int .i64 (cmpN a b)) ∧ ∃ r, w' = w.drewN r := by
  have := cmp_any h k
  rw [hx.val, hy.val] at this; exact this

theorem sum_ge {p q : Option Addr} {n m c d : Nat} {xs ys : List Nat} {a b : Nat} {w : World} (s : Bool) (h : Num w p n c xs a) (k : Num w q m d ys b) (hle : b ≤ a) :
    Calls Tryz.prog 75 #[ZV s p n c, ZV (!s) q m d] w fun e w' => AnsI w.heap.size w' e (iv s a + iv (!s) b) ∧ Below w.heap.size w w' := by
  obtain ⟨z, hz⟩ : ∃ z, z = iv s a + iv (!s) b := ⟨_, rfl⟩
  rw [← hz]
  have hab := iv_abs_diff s hle
  rw [← hz] at hab
  have HZ : Hid (z.natAbs = a - b ∧ decide (z < 0) = (s && decide (0 < a - b))) := hab
  have H : Hid (Num w p n c xs a) := h
  have K : Hid (Num w q m d ys b) := k
  have HLE : Hid (b ≤ a) := hle
  have HL : Hid (a - b < LIM) := Nat.lt_of_le_of_lt (Nat.sub_le _ _) h.lim
  have hss : (s == !s) = false := by cases s <;> rfl
  obtain ⟨cc, hcc⟩ : ∃ cc, cc = cmpN a b := ⟨_, rfl⟩
  have hcn : decide (cc < 0) = false := decide_eq_false (by rw [hcc, cmpN_neg]; omega)
  have HCC : Hid (cc = cmpN a b) := hcc
  clear hz hab h k hle hcc
  go_enter Tryz.func75, Tryz.ntmps75
  go_wp2_with fail
  refine (cmp_wN (H.out.at_.alloc3 _ _ _) (K.out.at_.alloc3 _ _ _) H.out.nf K.out.nf).mono ?_
  rintro e w2 ⟨rfl, r2, rfl⟩
  rw [← HCC.out]
  go_wp2_with fail
  refine (sub_okN ((H.out.at_.alloc3 _ _ _).drewN r2) ((K.out.at_.alloc3 _ _ _).drewN r2) H.out.nf K.out.nf H.out.le K.out.le HLE.out).mono ?_
  rintro e w3 ⟨⟨p1, m1, z1, rfl, ho, hn, hm⟩, hb3⟩
  have hbw3 := Below.on (bDrewN (below3 w _ _ _) r2) hb3
  have cx0 : w3.cell? ⟨w.heap.size, 0, none⟩ = some (.bool s) := (hb3.cell (p := ⟨w.heap.size, 0, none⟩) (by simp <;> omega)).trans (by go_simp)
  have cr0 : w3.cell? ⟨w.heap.size + 1 + 1, 0, none⟩ = some (.bool false) := (hb3.cell (p := ⟨w.heap.size + 1 + 1, 0, none⟩) (by simp <;> omega)).trans (by go_simp)
  have cr1 : w3.cell? ⟨w.heap.size + 1 + 1, 1, none⟩ = some (.slice none 0 0) := (hb3.cell (p := ⟨w.heap.size + 1 + 1, 1, none⟩) (by simp <;> omega)).trans (by go_simp)
  have fr0 : w3.frozen? ⟨w.heap.size + 1 + 1, 0, none⟩ = false := (hb3.frozen (p := ⟨w.heap.size + 1 + 1, 0, none⟩) (by simp <;> omega)).trans (by go_simp)
  have fr1 : w3.frozen? ⟨w.heap.size + 1 + 1, 1, none⟩ = false := (hb3.frozen (p := ⟨w.heap.size + 1 + 1, 1, none⟩) (by simp <;> omega)).trans (by go_simp)
  have hsz : w.heap.size + 1 + 1 < w3.heap.size := by have := hb3.size; simp at this; omega
  have HN : Hid (Nf B64 z1 (a - b)) := hn
  have HOW : Hid (Own (w.heap.size + 1 + 1 + 1) w3 p1 m1 z1) := ho.mono (by simp)
  have HM : Hid (m1 ≤ 8192) := hm
  have hv : (s && decide (0 < m1)) = decide (z < 0) := by rw [HZ.out.2, hn.lenpos ho.len]
  clear hn ho hm hb3
  go_wp2_with fail
  refine (signed_any s p1 m1 m1 w3).mono ?_
  rintro e w4 ⟨rfl, hb4⟩
  rw [hv]
  obtain ⟨sz, hs⟩ : ∃ sz, sz = decide (z < 0) := ⟨_, rfl⟩
  rw [← hs]
  have HSZ : Hid (sz = decide (z < 0)) := hs
  have dr0 : w4.cell? ⟨w.heap.size + 1 + 1, 0, none⟩ = some (.bool false) := (hb4.cell (p := ⟨w.heap.size + 1 + 1, 0, none⟩) hsz).trans cr0
  have dr1 : w4.cell? ⟨w.heap.size + 1 + 1, 1, none⟩ = some (.slice none 0 0) := (hb4.cell (p := ⟨w.heap.size + 1 + 1, 1, none⟩) hsz).trans cr1
  have er0 : w4.frozen? ⟨w.heap.size + 1 + 1, 0, none⟩ = false := (hb4.frozen (p := ⟨w.heap.size + 1 + 1, 0, none⟩) hsz).trans fr0
  have er1 : w4.frozen? ⟨w.heap.size + 1 + 1, 1, none⟩ = false := (hb4.frozen (p := ⟨w.heap.size + 1 + 1, 1, none⟩) hsz).trans fr1
  have HOW2 : Hid (Own (w.heap.size + 1 + 1 + 1) w4 p1 m1 z1) := HOW.out.below hb4
  have hbw4 := Below.on hbw3 hb4
  clear hv hs cr0 cr1 fr0 fr1 cx0 hbw3 hb4 hsz HOW
  go_wp2_with fail
  refine bodyPost_ret (v := .tuple #[ZV sz p1 m1 m1, .int .i64 0]) (by rw [results_cell_tmp rfl]; go_simp) rfl ⟨.inl ⟨by rw [HZ.out.1]; exact HL.out, p1, m1, z1, by rw [HSZ.out], ?_, by rw [HZ.out.1]; exact HN.out, HM.out⟩, ?_⟩
  · exact ((HOW2.out.setOld _ _ _ (by omega)).setOld _ _ _ (by omega)).mono (by omega)
  · exact bSet (bSet hbw4 _ _ _ (by omega)) _ _ _ (by omega)

theorem sum_lt {p q : Option Addr} {n m c d : Nat} {xs ys : List Nat} {a b : Nat} {w : World} (s : Bool) (h : Num w p n c xs a) (k : Num w q m d ys b) (hlt : a < b) :
    Calls Tryz.prog 75 #[ZV s p n c, ZV (!s) q m d] w fun e w' => AnsI w.heap.size w' e (iv s a + iv (!s) b) ∧ Below w.heap.size w w' := by
  obtain ⟨z, hz⟩ : ∃ z, z = iv s a + iv (!s) b := ⟨_, rfl⟩
  rw [← hz]
  obtain ⟨t, ht⟩ : ∃ t, t = !s := ⟨_, rfl⟩
  have hst : s = !t := by rw [ht]; simp
  have hab := iv_abs_diff t (Nat.le_of_lt hlt)
  rw [← hst, ht, Int.add_comm, ← hz, ← ht] at hab
  rw [← ht]
  have HZ : Hid (z.natAbs = b - a ∧ decide (z < 0) = (t && decide (0 < b - a))) := hab
  have H : Hid (Num w p n c xs a) := h
  have K : Hid (Num w q m d ys b) := k
  have HLE : Hid (a ≤ b) := Nat.le_of_lt hlt
  have hss : (s == t) = false := by rw [ht]; cases s <;> rfl
  have HCC : Hid (cmpN a b = -1) := cmpN_lt hlt
  clear hz hab h k hlt ht hst
  go_enter Tryz.func75, Tryz.ntmps75
  go_wp2_with fail
  refine (cmp_wN (H.out.at_.alloc3 _ _ _) (K.out.at_.alloc3 _ _ _) H.out.nf K.out.nf).mono ?_
  rintro e w2 ⟨rfl, r2, hw2⟩
  rw [HCC.out]
  have c00 : w2.cell? ⟨w.heap.size, 0, none⟩ = some (.bool s) := by rw [hw2]; go_simp
  have c01 : w2.cell? ⟨w.heap.size, 1, none⟩ = some (.slice p n c) := by rw [hw2]; go_simp
  have c10 : w2.cell? ⟨w.heap.size + 1, 0, none⟩ = some (.bool t) := by rw [hw2]; go_simp
  have c11 : w2.cell? ⟨w.heap.size + 1, 1, none⟩ = some (.slice q m d) := by rw [hw2]; go_simp
  have c20 : w2.cell? ⟨w.heap.size + 1 + 1, 0, none⟩ = some (.bool false) := by rw [hw2]; go_simp
  have c21 : w2.cell? ⟨w.heap.size + 1 + 1, 1, none⟩ = some (.slice none 0 0) := by rw [hw2]; go_simp
  have f00 : w2.frozen? ⟨w.heap.size, 0, none⟩ = false := by rw [hw2]; go_simp
  have f01 : w2.frozen? ⟨w.heap.size, 1, none⟩ = false := by rw [hw2]; go_simp
  have f10 : w2.frozen? ⟨w.heap.size + 1, 0, none⟩ = false := by rw [hw2]; go_simp
  have f11 : w2.frozen? ⟨w.heap.size + 1, 1, none⟩ = false := by rw [hw2]; go_simp
  have f20 : w2.frozen? ⟨w.heap.size + 1 + 1, 0, none⟩ = false := by rw [hw2]; go_simp
  have f21 : w2.frozen? ⟨w.heap.size + 1 + 1, 1, none⟩ = false := by rw [hw2]; go_simp
  have hb2 : Below w.heap.size w w2 := by rw [hw2]; exact bDrewN (below3 w _ _ _) r2
  have hs2 : w2.heap.size = w.heap.size + 1 + 1 + 1 := by rw [hw2]; simp
  have HS2 : Hid (w2.heap.size = w.heap.size + 1 + 1 + 1) := hs2
  have HB2 : Hid (Below w.heap.size w w2) := hb2
  clear hw2 hb2 hs2
  obtain ⟨hs, ehs⟩ : ∃ hs, hs = w.heap.size := ⟨_, rfl⟩
  have HHS : Hid (hs = w.heap.size) := ehs
  rw [← ehs] at c00 c01 c10 c11 c20 c21 f00 f01 f10 f11 f20 f21 HS2 HB2 ⊢
  clear ehs
  go_wp2_with fail
  have hbw4 := bSet (bSet (bSet (bSet HB2.out hs 0 (.bool t) (Nat.le_refl _)) hs 1 (.slice q m d) (Nat.le_refl _)) (hs + 1) 0 (.bool s) (by omega)) (hs + 1) 1 (.slice p n c) (by omega)
  have hsz4 : ((((w2.setCell ⟨hs, 0, none⟩ (.bool t)).setCell ⟨hs, 1, none⟩ (.slice q m d)).setCell ⟨hs + 1, 0, none⟩ (.bool s)).setCell ⟨hs + 1, 1, none⟩ (.slice p n c)).heap.size = hs + 1 + 1 + 1 := by simp [World.setCell]; exact HS2.out
  have d00 : ((((w2.setCell ⟨hs, 0, none⟩ (.bool t)).setCell ⟨hs, 1, none⟩ (.slice q m d)).setCell ⟨hs + 1, 0, none⟩ (.bool s)).setCell ⟨hs + 1, 1, none⟩ (.slice p n c)).cell? ⟨hs, 0, none⟩ = some (.bool t) := by go_simp
  have d20 : ((((w2.setCell ⟨hs, 0, none⟩ (.bool t)).setCell ⟨hs, 1, none⟩ (.slice q m d)).setCell ⟨hs + 1, 0, none⟩ (.bool s)).setCell ⟨hs + 1, 1, none⟩ (.slice p n c)).cell? ⟨hs + 1 + 1, 0, none⟩ = some (.bool false) := by go_simp
  have d21 : ((((w2.setCell ⟨hs, 0, none⟩ (.bool t)).setCell ⟨hs, 1, none⟩ (.slice q m d)).setCell ⟨hs + 1, 0, none⟩ (.bool s)).setCell ⟨hs + 1, 1, none⟩ (.slice p n c)).cell? ⟨hs + 1 + 1, 1, none⟩ = some (.slice none 0 0) := by go_simp
  have g20 : ((((w2.setCell ⟨hs, 0, none⟩ (.bool t)).setCell ⟨hs, 1, none⟩ (.slice q m d)).setCell ⟨hs + 1, 0, none⟩ (.bool s)).setCell ⟨hs + 1, 1, none⟩ (.slice p n c)).frozen? ⟨hs + 1 + 1, 0, none⟩ = false := by go_simp
  have g21 : ((((w2.setCell ⟨hs, 0, none⟩ (.bool t)).setCell ⟨hs, 1, none⟩ (.slice q m d)).setCell ⟨hs + 1, 0, none⟩ (.bool s)).setCell ⟨hs + 1, 1, none⟩ (.slice p n c)).frozen? ⟨hs + 1 + 1, 1, none⟩ = false := by go_simp
  generalize ((((w2.setCell ⟨hs, 0, none⟩ (.bool t)).setCell ⟨hs, 1, none⟩ (.slice q m d)).setCell ⟨hs + 1, 0, none⟩ (.bool s)).setCell ⟨hs + 1, 1, none⟩ (.slice p n c)) = W4 at *
  rw [HHS.out] at hbw4
  refine (sub_okN (K.out.at_.below hbw4) (H.out.at_.below hbw4) K.out.nf H.out.nf K.out.le H.out.le HLE.out).mono ?_
  rintro e w3 ⟨⟨p1, m1, z1, rfl, ho, hn, hm⟩, hb3⟩
  have hbw3 := Below.on hbw4 hb3
  have cx0 : w3.cell? ⟨hs, 0, none⟩ = some (.bool t) := (hb3.cell (p := ⟨hs, 0, none⟩) (by simp; omega)).trans d00
  have cr0 : w3.cell? ⟨hs + 1 + 1, 0, none⟩ = some (.bool false) := (hb3.cell (p := ⟨hs + 1 + 1, 0, none⟩) (by simp; omega)).trans d20
  have cr1 : w3.cell? ⟨hs + 1 + 1, 1, none⟩ = some (.slice none 0 0) := (hb3.cell (p := ⟨hs + 1 + 1, 1, none⟩) (by simp; omega)).trans d21
  have fr0 : w3.frozen? ⟨hs + 1 + 1, 0, none⟩ = false := (hb3.frozen (p := ⟨hs + 1 + 1, 0, none⟩) (by simp; omega)).trans g20
  have fr1 : w3.frozen? ⟨hs + 1 + 1, 1, none⟩ = false := (hb3.frozen (p := ⟨hs + 1 + 1, 1, none⟩) (by simp; omega)).trans g21
  have hsz : hs + 1 + 1 < w3.heap.size := by have := hb3.size; omega
  have HN : Hid (Nf B64 z1 (b - a)) := hn
  have HOW : Hid (Own (hs + 1 + 1 + 1) w3 p1 m1 z1) := ho.mono (by omega)
  have HM : Hid (m1 ≤ 8192) := hm
  have hv : (t && decide (0 < m1)) = decide (z < 0) := by rw [HZ.out.2, hn.lenpos ho.len]
  clear hn ho hm hb3 d00 d20 d21 g20 g21 c00 c01 c10 c11 c20 c21 f00 f01 f10 f11 f20 f21 hsz4 hbw4
  go_wp2_with fail
  refine (signed_any t p1 m1 m1 w3).mono ?_
  rintro e w4 ⟨rfl, hb4⟩
  rw [hv]
  obtain ⟨sz, hss2⟩ : ∃ sz, sz = decide (z < 0) := ⟨_, rfl⟩
  rw [← hss2]
  have HSZ : Hid (sz = decide (z < 0)) := hss2
  have dr0 : w4.cell? ⟨hs + 1 + 1, 0, none⟩ = some (.bool false) := (hb4.cell (p := ⟨hs + 1 + 1, 0, none⟩) hsz).trans cr0
  have dr1 : w4.cell? ⟨hs + 1 + 1, 1, none⟩ = some (.slice none 0 0) := (hb4.cell (p := ⟨hs + 1 + 1, 1, none⟩) hsz).trans cr1
  have er0 : w4.frozen? ⟨hs + 1 + 1, 0, none⟩ = false := (hb4.frozen (p := ⟨hs + 1 + 1, 0, none⟩) hsz).trans fr0
  have er1 : w4.frozen? ⟨hs + 1 + 1, 1, none⟩ = false := (hb4.frozen (p := ⟨hs + 1 + 1, 1, none⟩) hsz).trans fr1
  have HOW2 : Hid (Own (hs + 1 + 1 + 1) w4 p1 m1 z1) := HOW.out.below hb4
  have hbz := Below.on hbw3 hb4
  clear hv hss2 cr0 cr1 fr0 fr1 cx0 hbw3 hb4 hsz HOW
  go_wp2_with fail
  refine bodyPost_ret (v := .tuple #[ZV sz p1 m1 m1, .int .i64 0]) (by rw [results_cell_tmp rfl]; go_simp) rfl ⟨.inl ⟨by rw [HZ.out.1]; exact Nat.lt_of_le_of_lt (Nat.sub_le _ _) K.out.lim, p1, m1, z1, by rw [HSZ.out], ?_, by rw [HZ.out.1]; exact HN.out, HM.out⟩, ?_⟩
  · exact ((HOW2.out.setOld _ _ _ (by omega)).setOld _ _ _ (by omega)).mono (by have := HHS.out; omega)
  · exact bSet (bSet hbz _ _ _ (by have := HHS.out; omega)) _ _ _ (by have := HHS.out; omega)
theorem sum_any {p q : Option Addr} {n m c d : Nat} {xs ys : List Nat} {a b : Nat} {w : World} (s t : Bool) (h : Num w p n c xs a) (k : Num w q m d ys b) :
    Calls Tryz.prog 75 #[ZV s p n c, ZV t q m d] w fun e w' => AnsI w.heap.size w' e (iv s a + iv t b) ∧ Below w.heap.size w w' := by
  by_cases e : s = t
  · subst e; exact sum_same s h k
  · obtain rfl : t = !s := by revert e; cases s <;> cases t <;> simp
    rcases Nat.lt_or_ge a b with hl | hl
    · exact sum_lt s h k hl
    · exact sum_ge s h k hl
theorem bDrew1 {B : Nat} {a w : World} (h : Below B a w) : Below B a w.drew := ⟨h.os, h.tape, h.output, h.size, h.block⟩
end Go.Proofs.YtidggnjnlhjhlaaGreatDoor
namespace Go.Proofs.YtidggnjnlhjhlaaGreatDoor
open Go.RowKit
set_option maxRecDepth 20000
set_option maxHeartbeats 0
structure Chg (S : Nat → Nat → Prop) (w w' : World) : Prop where
  os : w'.os = w.os
  tape : w'.tape = w.tape
  output : w'.output = w.output
  size : w.heap.size ≤ w'.heap.size
  row : ∀ k cur t fr, w.heap[k]? = some (.cells cur t fr) → ∃ cur', w'.heap[k]? = some (.cells cur' t fr) ∧ cur'.size = cur.size ∧ ∀ j, ¬ S k j → cur'[j]? = cur[j]?
  other : ∀ k, k < w.heap.size → (∀ cur t fr, w.heap[k]? ≠ some (.cells cur t fr)) → w'.heap[k]? = w.heap[k]?

def Rg (g off n : Nat) : Nat → Nat → Prop := fun b o => b = g ∧ off ≤ o ∧ o < off + n
def Dj (g off n g' off' n' : Nat) : Prop := g ≠ g' ∨ off + n ≤ off' ∨ off' + n' ≤ off
theorem Dj.symm {g off n g' off' n' : Nat} (h : Dj g off n g' off' n') : Dj g' off' n' g off n := by unfold Dj at *; omega
theorem Dj.sub {g off n g' off' n' o m : Nat} (h : Dj g off n g' off' n') (h1 : off ≤ o) (h2 : o + m ≤ off + n) : Dj g o m g' off' n' := by unfold Dj at *; omega
theorem Dj.not {g off n g' off' n' j : Nat} (h : Dj g off n g' off' n') (hj : j < n) : ¬ Rg g' off' n' g (off + j) := by unfold Dj Rg at *; omega

theorem Chg.refl (S : Nat → Nat → Prop) (w : World) : Chg S w w := ⟨rfl, rfl, rfl, Nat.le_refl _, fun _ cur _ _ h => ⟨cur, h, rfl, fun _ _ => rfl⟩, fun _ _ _ => rfl⟩
theorem Chg.mono {S S' : Nat → Nat → Prop} {w w' : World} (h : Chg S w w') (hS : ∀ b o, S b o → S' b o) : Chg S' w w' := by
  refine ⟨h.os, h.tape, h.output, h.size, fun k cur t fr hk => ?_, h.other⟩
  obtain ⟨c, h1, h2, h3⟩ := h.row k cur t fr hk
  exact ⟨c, h1, h2, fun j hj => h3 j (fun hs => hj (hS k j hs))⟩
theorem Chg.trans {S : Nat → Nat → Prop} {a b c : World} (h : Chg S a b) (k : Chg S b c) : Chg S a c := by
  refine ⟨k.os.trans h.os, k.tape.trans h.tape, k.output.trans h.output, Nat.le_trans h.size k.size, fun i cur t fr hi => ?_, fun i hi hn => ?_⟩
  · obtain ⟨c1, g1, s1, e1⟩ := h.row i cur t fr hi
    obtain ⟨c2, g2, s2, e2⟩ := k.row i c1 t fr g1
    exact ⟨c2, g2, s2.trans s1, fun j hj => (e2 j hj).trans (e1 j hj)⟩
  · have e1 := h.other i hi hn
    rw [← e1]
    exact k.other i (Nat.lt_of_lt_of_le hi h.size) (by rw [e1]; exact hn)
theorem Wr.chg {g off n : Nat} {w w' : World} (h : Wr g off n w w') : Chg (Rg g off n) w w' := by
  refine ⟨h.os, h.tape, h.output, by rw [h.size]; exact Nat.le_refl _, fun k cur t fr hk => ?_, fun k _ hn => ?_⟩
  · by_cases e : k = g
    · subst e
      obtain ⟨c, h1, h2, h3⟩ := h.row cur t fr hk
      exact ⟨c, h1, h2, fun j hj => h3 j (by unfold Rg at hj; omega)⟩
    · exact ⟨cur, by rw [h.block k e]; exact hk, rfl, fun _ _ => rfl⟩
  · by_cases e : k = g
    · subst e; exact h.other hn
    · exact h.block k e
theorem Chg.drewN {S : Nat → Nat → Prop} {w w' : World} (h : Chg S w w') (q : Nat) : Chg S w (w'.drewN q) := ⟨h.os, h.tape, h.output, h.size, h.row, h.other⟩
theorem Chg.drew {S : Nat → Nat → Prop} {w w' : World} (h : Chg S w w') : Chg S w w'.drew := ⟨h.os, h.tape, h.output, h.size, h.row, h.other⟩
theorem Chg.cell {S : Nat → Nat → Prop} {w w' : World} (h : Chg S w w') {b o : Nat} {v : Value} (hn : ¬ S b o) (hc : w.cell? ⟨b, o, none⟩ = some v) : w'.cell? ⟨b, o, none⟩ = some v := by
  obtain ⟨c, e, fr, hb, hv⟩ := Sort.cells_of_cell? hc
  obtain ⟨c', h1, _, h3⟩ := h.row b c e fr hb
  rw [cell_of_row w' b o c' e fr h1, h3 o hn]; exact hv
theorem Chg.frozen {S : Nat → Nat → Prop} {w w' : World} (h : Chg S w w') {b o : Nat} {v : Value} (hc : w.cell? ⟨b, o, none⟩ = some v) : w'.frozen? ⟨b, o, none⟩ = w.frozen? ⟨b, o, none⟩ := by
  obtain ⟨c, e, fr, hb, hv⟩ := Sort.cells_of_cell? hc
  obtain ⟨c', h1, _, h3⟩ := h.row b c e fr hb
  simp [World.frozen?, hb, h1]
theorem Chg.below {S : Nat → Nat → Prop} {w w' : World} (h : Chg S w w') {B : Nat} (hS : ∀ b o, S b o → B ≤ b) (hB : B ≤ w.heap.size) : Below B w w' := by
  refine ⟨h.os, h.tape, h.output, h.size, fun k hk => ?_⟩
  by_cases hc : ∃ cur t fr, w.heap[k]? = some (.cells cur t fr)
  · obtain ⟨cur, t, fr, hcur⟩ := hc
    obtain ⟨c', h1, h2, h3⟩ := h.row k cur t fr hcur
    have e : c' = cur := by
      apply Array.ext_getElem?
      intro j
      exact h3 j (fun hs => by have := hS k j hs; omega)
    rw [h1, hcur, e]
  · exact h.other k (by omega) (fun cur t fr e => hc ⟨cur, t, fr, e⟩)
theorem Below.chg {w w' : World} (h : Below w.heap.size w w') (S : Nat → Nat → Prop) : Chg S w w' := by
  refine ⟨h.os, h.tape, h.output, h.size, fun k cur t fr hk => ?_, fun k hk _ => h.block k hk⟩
  have hlt : k < w.heap.size := (Array.getElem?_eq_some_iff.1 hk).1
  exact ⟨cur, by rw [h.block k hlt]; exact hk, rfl, fun _ _ => rfl⟩

structure Rd (w : World) (g off n : Nat) (xs : List Nat) : Prop where
  len : xs.length = n
  dig : Dig B64 xs
  cell : ∀ j, j < n → w.cell? ⟨g, off + j, none⟩ = some (U (xs.getD j 0))
theorem Row.rd {w : World} {g off n : Nat} {xs : List Nat} (h : Row w g off n xs) : Rd w g off n xs := ⟨h.len, h.dig, h.cell⟩
theorem Rd.at_ {w : World} {g off n c : Nat} {xs : List Nat} (h : Rd w g off n xs) (hc : n ≤ c) (hb : c ≤ maxLen) : At w (some ⟨g, off, none⟩) n c xs := ⟨h.len, hc, hb, h.dig, .inr ⟨g, off, rfl, h.cell⟩⟩
theorem Rd.chg {w w' : World} {S : Nat → Nat → Prop} {g off n : Nat} {xs : List Nat} (h : Rd w g off n xs) (hc : Chg S w w') (hd : ∀ j, j < n → ¬ S g (off + j)) : Rd w' g off n xs :=
  ⟨h.len, h.dig, fun j hj => hc.cell (hd j hj) (h.cell j hj)⟩
theorem Row.chg {w w' : World} {S : Nat → Nat → Prop} {g off n : Nat} {xs : List Nat} (h : Row w g off n xs) (hc : Chg S w w') (hd : ∀ j, j < n → ¬ S g (off + j)) : Row w' g off n xs :=
  ⟨h.len, h.dig, fun j hj => hc.cell (hd j hj) (h.cell j hj), fun j hj => by rw [hc.frozen (h.cell j hj)]; exact h.frozen j hj⟩
theorem Row.sub {w : World} {g off n : Nat} {xs : List Nat} (h : Row w g off n xs) (k m : Nat) (hkm : k + m ≤ n) : Row w g (off + k) m ((xs.drop k).take m) := by
  have hl := h.len
  refine ⟨by simp; omega, (h.dig.drop k).take m, fun j hj => ?_, fun j hj => by rw [Nat.add_assoc]; exact h.frozen (k + j) (by omega)⟩
  have e : ((xs.drop k).take m).getD j 0 = xs.getD (k + j) 0 := by rw [List.getD_eq_getElem?_getD, List.getD_eq_getElem?_getD, List.getElem?_take, if_pos hj, List.getElem?_drop]
  rw [e, Nat.add_assoc]; exact h.cell (k + j) (by omega)
theorem Rd.sub {w : World} {g off n : Nat} {xs : List Nat} (h : Rd w g off n xs) (k m : Nat) (hkm : k + m ≤ n) : Rd w g (off + k) m ((xs.drop k).take m) := by
  have hl := h.len
  refine ⟨by simp; omega, (h.dig.drop k).take m, fun j hj => ?_⟩
  have e : ((xs.drop k).take m).getD j 0 = xs.getD (k + j) 0 := by rw [List.getD_eq_getElem?_getD, List.getD_eq_getElem?_getD, List.getElem?_take, if_pos hj, List.getElem?_drop]
  rw [e, Nat.add_assoc]; exact h.cell (k + j) (by omega)
theorem Row.join {w : World} {g off n m : Nat} {xs ys : List Nat} (h : Row w g off n xs) (k : Row w g (off + n) m ys) : Row w g off (n + m) (xs ++ ys) := by
  have hl := h.len
  have kl := k.len
  refine ⟨by simp; omega, h.dig.append k.dig, fun j hj => ?_, fun j hj => ?_⟩
  · by_cases e : j < n
    · rw [List.getD_eq_getElem?_getD, List.getElem?_append_left (by omega), ← List.getD_eq_getElem?_getD]; exact h.cell j e
    · rw [List.getD_eq_getElem?_getD, List.getElem?_append_right (by omega), ← List.getD_eq_getElem?_getD, hl]
      have := k.cell (j - n) (by omega)
      rw [Nat.add_assoc, show n + (j - n) = j by omega] at this; exact this
  · by_cases e : j < n
    · exact h.frozen j e
    · have := k.frozen (j - n) (by omega)
      rw [Nat.add_assoc, show n + (j - n) = j by omega] at this; exact this
theorem Wr.setCells {g : Nat} : ∀ (vs : List Value) (off : Nat) (w : World), Wr g off vs.length w (w.setCells g off vs)
  | [], off, w => Wr.refl _ _ _ _
  | v :: r, off, w => by
    have h1 : Wr g off (r.length + 1) w (w.setCell ⟨g, off, none⟩ v) := (Wr.refl g off (r.length + 1) w).setCell off ⟨by omega, by omega⟩ v
    have h2 := Wr.setCells (g := g) r (off + 1) (w.setCell ⟨g, off, none⟩ v)
    exact h1.trans (h2.mono (by omega) (by omega))
structure RowsRel (w : World) (g off n m : Nat) (xs ys : List Nat) (i : Nat) (dk : List Nat) (wr : World) : Prop where
  wrs : Wr g off (n + m) w wr
  row : Row wr g off (n + m) dk
  val : valB B64 dk = valB B64 xs * valB B64 (ys.take i)
  top : dk.drop (i + n) = List.replicate (m - i) 0

theorem rows_val {xs ys dk zs2 : List Nat} {n m k cy y : Nat} (hl : dk.length = n + m) (hk : k < m) (hy : y = ys.getD k 0) (hv : valB B64 dk = valB B64 xs * valB B64 (ys.take k)) (ht : dk.drop (k + n) = List.replicate (m - k) 0)
    (hz : zs2.length = n) (hs : valB B64 zs2 + B64 ^ n * cy = valB B64 ((dk.drop k).take n) + valB B64 xs * y) : valB B64 (dk.take k ++ (zs2 ++ [cy] ++ List.replicate (m - k - 1) 0)) = valB B64 xs * valB B64 (ys.take (k + 1)) := by
  have e1 : valB B64 dk = valB B64 (dk.take k) + B64 ^ k * valB B64 ((dk.drop k).take n) := by
    rw [valB_split B64 dk k (by omega), valB_split B64 (dk.drop k) n (by simp; omega), List.drop_drop, ht, valB_replicate]; simp
  rw [valB_append, List.length_take, Nat.min_eq_left (by omega), valB_append_zeros, valB_snoc, hz, hs, valB_take_any _ ys k, ← hy, Nat.mul_add, Nat.mul_add, ← Nat.add_assoc, ← e1, hv]
  rw [show B64 ^ k * (valB B64 xs * y) = valB B64 xs * (B64 ^ k * y) by rw [← Nat.mul_assoc, ← Nat.mul_assoc, Nat.mul_comm (B64 ^ k)]]
theorem RowsRel.step {w : World} {g off n m : Nat} {xs ys : List Nat} {k : Nat} {dk : List Nat} {wr w2 w3 : World} (h : RowsRel w g off n m xs ys k dk wr) (hk : k < m) {y cy : Nat} (hy : y = ys.getD k 0) {zs2 : List Nat} (hcy : cy < B64)
    (hw2 : Wr g (off + k) n wr.drew w2) (hr2 : Row w2 g (off + k) n zs2) (hs : valB B64 zs2 + B64 ^ n * cy = valB B64 ((dk.drop k).take n) + valB B64 xs * y) (hc : w2.cell? ⟨g, off + (k + n), none⟩ = some (U 0)) (hf : w2.frozen? ⟨g, off + (k + n), none⟩ = false)
    (hw3 : w3 = w2.setCell ⟨g, off + (k + n), none⟩ (U cy)) : RowsRel w g off n m xs ys (k + 1) (dk.take k ++ (zs2 ++ [cy] ++ List.replicate (m - k - 1) 0)) w3 := by
  have hl := h.row.len
  have hW23 : Wr g (off + (k + n)) 1 w2 w3 := by rw [hw3]; exact (Wr.refl g (off + (k + n)) 1 w2).setCell _ ⟨by omega, by omega⟩ _
  have hlen2 : (dk.take k ++ (zs2 ++ [cy] ++ List.replicate (m - k - 1) 0)).length = n + m := by simp [hr2.len]; omega
  have lo : Row w3 g off k (dk.take k) := by
    have h0 := (h.row.take k (by omega)).drew
    exact (h0.chg hw2.chg (fun j hj => by unfold Rg; omega)).chg hW23.chg (fun j hj => by unfold Rg; omega)
  have mid : Row w3 g (off + k) n zs2 := hr2.chg hW23.chg (fun j hj => by unfold Rg; omega)
  have one : Row w3 g (off + k) (n + 1) (zs2 ++ [cy]) := by
    refine mid.snoc ?_ ?_ hcy
    · rw [hw3, Nat.add_assoc]; exact World.cell?_setCell_same _ _ _ hc
    · rw [hw3, Nat.add_assoc, World.frozen?_setCell]; exact hf
  have hi : Row w3 g (off + k + (n + 1)) (m - k - 1) (List.replicate (m - k - 1) 0) := by
    have h0 := (h.row.sub (k + n + 1) (m - k - 1) (by omega)).drew
    have e : (dk.drop (k + n + 1)).take (m - k - 1) = List.replicate (m - k - 1) 0 := by
      rw [← List.drop_drop, h.top, List.drop_replicate, List.take_replicate]; simp
    rw [e] at h0
    have h1 := (h0.chg hw2.chg (fun j hj => by unfold Rg; omega)).chg hW23.chg (fun j hj => by unfold Rg; omega)
    rw [show off + (k + n + 1) = off + k + (n + 1) by omega] at h1; exact h1
  have all := lo.join (one.join hi)
  rw [show k + (n + 1 + (m - k - 1)) = n + m by omega] at all
  have hWd : Wr g off (n + m) w wr.drew := h.wrs.drew
  refine ⟨(hWd.trans (hw2.mono (by omega) (by omega))).trans (hW23.mono (by omega) (by omega)), all, rows_val hl hk hy h.val h.top hr2.len hs, ?_⟩
  rw [show k + 1 + n = k + (n + 1) by omega, List.drop_append, List.drop_eq_nil_of_le (by simp; omega), List.nil_append, List.length_take, hl, Nat.min_eq_left (by omega), Nat.add_sub_cancel_left, List.drop_append, List.drop_eq_nil_of_le (by simp [hr2.len]), List.nil_append]
  simp [hr2.len]; omega
theorem Row.copied {w : World} {g off n : Nat} {zs : List Nat} (h : Row w g off n zs) (xs : List Nat) (hd : Dig B64 xs) (hx : xs.length ≤ n) : Row (w.setCells g off (cellsU xs)) g off n (xs ++ zs.drop xs.length) := by
  have hl := h.len
  refine ⟨by simp; omega, hd.append (h.dig.drop _), fun j hj => ?_, fun j hj => by rw [World.frozen?_setCells]; exact h.frozen j hj⟩
  by_cases e : j < xs.length
  · have h1 := World.cell?_setCells_in g (cellsU xs) off w (fun i hi => by rw [h.cell i (by rw [cellsU_length] at hi; omega)]; rfl) j (by rw [cellsU_length]; exact e)
    rw [h1, List.getD_eq_getElem?_getD, List.getElem?_append_left e, ← List.getD_eq_getElem?_getD]
    have := cellsU_get xs j e
    rw [List.getElem?_eq_getElem (by rw [cellsU_length]; exact e)] at this
    exact this
  · rw [World.cell?_setCells_out g (cellsU xs) off w _ (fun _ _ => .inr (by rw [cellsU_length]; simp; omega)), List.getD_eq_getElem?_getD, List.getElem?_append_right (by omega), List.getElem?_drop, show xs.length + (j - xs.length) = j by omega, ← List.getD_eq_getElem?_getD]
    exact h.cell j hj
theorem nb {P Z A L cy : Nat} (hs : Z + L = A + P * cy) (hz : Z < P) (hle : L ≤ A) (hc : cy ≤ 1) : Z + L = A := by
  by_cases h : cy = 0
  · subst h; omega
  · obtain rfl : cy = 1 := by omega
    omega
theorem At.chg {w w' : World} {S : Nat → Nat → Prop} {p : Option Addr} {n c : Nat} {xs : List Nat} (h : At w p n c xs) (hc : Chg S w w') (hd : ∀ g off, p = some ⟨g, off, none⟩ → ∀ j, j < n → g < w.heap.size → ¬ S g (off + j)) : At w' p n c xs := by
  refine ⟨h.len, h.cap, h.big, h.dig, ?_⟩
  rcases h.cells with h0 | ⟨g, off, rfl, hcl⟩
  · exact .inl h0
  · exact .inr ⟨g, off, rfl, fun j hj => hc.cell (hd g off rfl j hj (World.block_lt_of_cell? w _ (hcl j hj))) (hcl j hj)⟩
theorem Below.rg {w w' : World} {g off n : Nat} {xs : List Nat} (h : Row w g off n xs) (hb : Below w.heap.size w w') (hn : 0 < n) : Row w' g off n xs := h.below hb (h.lt hn)
theorem Nf.big {us : List Nat} {a n : Nat} (h : Nf B64 us a) (hl : us.length = n) (h0 : 0 < n) : B64 ^ (n - 1) ≤ a := by
  have := mt (h.len_le (k := n - 1) B64_one).2 (by omega)
  omega
theorem Nf.zero {us : List Nat} {a : Nat} (h : Nf B64 us a) (hl : us.length = 0) : a = 0 := by
  obtain rfl := List.eq_nil_of_length_eq_zero hl
  have := h.val; simp [valB] at this; omega
end Go.Proofs.YtidggnjnlhjhlaaGreatDoor
namespace Go.Proofs.YtidggnjnlhjhlaaGreatDoor
open Go.RowKit Go.Shelf
set_option maxRecDepth 20000
set_option maxHeartbeats 0
structure Box (W : World) (g : Nat) (v0 v1 : Value) : Prop where
  c0 : W.cell? ⟨g, 0, none⟩ = some v0
  c1 : W.cell? ⟨g, 1, none⟩ = some v1
  f0 : W.frozen? ⟨g, 0, none⟩ = false
  f1 : W.frozen? ⟨g, 1, none⟩ = false
theorem Box.below {W W' : World} {g : Nat} {v0 v1 : Value} (h : Box W g v0 v1) (hb : Below W.heap.size W W') : Box W' g v0 v1 := by
  have hl : g < W.heap.size := World.block_lt_of_cell? W _ h.c0
  exact ⟨(hb.cell (p := ⟨g, 0, none⟩) hl).trans h.c0, (hb.cell (p := ⟨g, 1, none⟩) hl).trans h.c1, (hb.frozen (p := ⟨g, 0, none⟩) hl).trans h.f0, (hb.frozen (p := ⟨g, 1, none⟩) hl).trans h.f1⟩

theorem numform_t {p : Option Addr} {n c : Nat} {xs : List Nat} {a : Nat} {w : World} (s : Bool) (h : Num w p n c xs a) (hs : s = true → 0 < a) :
    Calls Tryz.prog 71 #[ZV s p n c] w fun e w' => e = .returned (.bool true) ∧ Below w.heap.size w w' := by
  have fx := h.nf.form (by rw [h.at_.len]; exact h.le)
  have hz := h.zero
  have H : Hid (Num w p n c xs a) := h
  clear h
  cases s
  · clear hs hz
    go_enter Tryz.func71, Tryz.ntmps71
    go_wp2_with fail
    refine (form_true (H.out.at_.alloc _) fx).mono ?_
    rintro e w' ⟨rfl, hw⟩
    obtain rfl := hw.symm
    clear hw fx
    go_wp2_with fail
    go_ret
    exact ⟨rfl, below1 w _⟩
  · have hn0 : n ≠ 0 := by have := hs rfl; intro e; have := hz.1 e; omega
    have hn0' : ((n : Int) == 0) = false := by simp; omega
    clear hs hz
    go_enter Tryz.func71, Tryz.ntmps71
    go_wp2_with fail
    refine (form_true (H.out.at_.alloc _) fx).mono ?_
    rintro e w' ⟨rfl, hw⟩
    obtain rfl := hw.symm
    clear hw fx
    go_wp2_with fail
    go_ret
    exact ⟨rfl, below1 w _⟩

-- the calls
theorem nadd_any {p q : Option Addr} {n m c d : Nat} {xs ys : List Nat} {a b : Nat} {w : World} (s t : Bool) (h : Num w p n c xs a) (k : Num w q m d ys b) (hs : s = true → 0 < a) (ht : t = true → 0 < b) :
    Calls Tryz.prog 45 #[ZV s p n c, ZV t q m d] w fun e w' => AnsI w.heap.size w' e (iv s a + iv t b) ∧ Below w.heap.size w w' := by
  obtain ⟨z, hz⟩ : ∃ z, z = iv s a + iv t b := ⟨_, rfl⟩
  rw [← hz]
  have HZ : Hid (z = iv s a + iv t b) := hz
  have H : Hid (Num w p n c xs a) := h
  have K : Hid (Num w q m d ys b) := k
  have HS : Hid (s = true → 0 < a) := hs
  have HT : Hid (t = true → 0 < b) := ht
  clear h k hs ht hz
  go_enter Tryz.func45, Tryz.ntmps45
  go_wp2_with fail
  have B0 : Box (((w.alloc (.cells #[.bool s, .slice p n c] 36)).alloc (.cells #[.bool t, .slice q m d] 36)).alloc (.cells #[.bool false, .slice none 0 0] 36)) (w.heap.size) (.bool s) (.slice p n c) := ⟨by go_simp, by go_simp, by go_simp, by go_simp⟩
  have B1 : Box (((w.alloc (.cells #[.bool s, .slice p n c] 36)).alloc (.cells #[.bool t, .slice q m d] 36)).alloc (.cells #[.bool false, .slice none 0 0] 36)) (w.heap.size + 1) (.bool t) (.slice q m d) := ⟨by go_simp, by go_simp, by go_simp, by go_simp⟩
  have B2 : Box (((w.alloc (.cells #[.bool s, .slice p n c] 36)).alloc (.cells #[.bool t, .slice q m d] 36)).alloc (.cells #[.bool false, .slice none 0 0] 36)) (w.heap.size + 1 + 1) (.bool false) (.slice none 0 0) := ⟨by go_simp, by go_simp, by go_simp, by go_simp⟩
  have hbw : Below w.heap.size w (((w.alloc (.cells #[.bool s, .slice p n c] 36)).alloc (.cells #[.bool t, .slice q m d] 36)).alloc (.cells #[.bool false, .slice none 0 0] 36)) := below3 w _ _ _
  have hsW : (((w.alloc (.cells #[.bool s, .slice p n c] 36)).alloc (.cells #[.bool t, .slice q m d] 36)).alloc (.cells #[.bool false, .slice none 0 0] 36)).heap.size = w.heap.size + 1 + 1 + 1 := by simp
  generalize (((w.alloc (.cells #[.bool s, .slice p n c] 36)).alloc (.cells #[.bool t, .slice q m d] 36)).alloc (.cells #[.bool false, .slice none 0 0] 36)) = W0 at *
  obtain ⟨hs, ehs⟩ : ∃ hs, hs = w.heap.size := ⟨_, rfl⟩
  have HHS : Hid (hs = w.heap.size) := ehs
  rw [← ehs] at B0 B1 B2 hsW ⊢
  replace H : Hid _ := H.out.below hbw
  replace K : Hid _ := K.out.below hbw
  have hszW : hs + 1 + 1 + 1 ≤ W0.heap.size := by omega
  clear ehs hsW
  refine (numform_t s H.out HS.out).mono ?_
  rintro e w1 ⟨rfl, hb1⟩
  have B0' : Box w1 (hs) (.bool s) (.slice p n c) := B0.below hb1
  clear B0
  have B0 := B0'
  clear B0'
  have B1' : Box w1 (hs + 1) (.bool t) (.slice q m d) := B1.below hb1
  clear B1
  have B1 := B1'
  clear B1'
  have B2' : Box w1 (hs + 1 + 1) (.bool false) (.slice none 0 0) := B2.below hb1
  clear B2
  have B2 := B2'
  clear B2'
  replace H : Hid _ := H.out.below hb1
  replace K : Hid _ := K.out.below hb1
  replace hbw := Below.on hbw hb1
  have hszW' : hs + 1 + 1 + 1 ≤ w1.heap.size := Nat.le_trans hszW hb1.size
  clear hszW
  have hszW := hszW'
  clear hszW'
  clear hb1
  obtain ⟨c00, c01, f00, f01⟩ := B0
  obtain ⟨c10, c11, f10, f11⟩ := B1
  obtain ⟨c20, c21, f20, f21⟩ := B2
  go_wp2_with fail
  have B0 : Box w1 (hs) (.bool s) (.slice p n c) := ⟨c00, c01, f00, f01⟩
  clear c00 c01 f00 f01
  have B1 : Box w1 (hs + 1) (.bool t) (.slice q m d) := ⟨c10, c11, f10, f11⟩
  clear c10 c11 f10 f11
  have B2 : Box w1 (hs + 1 + 1) (.bool false) (.slice none 0 0) := ⟨c20, c21, f20, f21⟩
  clear c20 c21 f20 f21
  refine (numform_t t K.out HT.out).mono ?_
  rintro e w2 ⟨rfl, hb2⟩
  have B0' : Box w2 (hs) (.bool s) (.slice p n c) := B0.below hb2
  clear B0
  have B0 := B0'
  clear B0'
  have B1' : Box w2 (hs + 1) (.bool t) (.slice q m d) := B1.below hb2
  clear B1
  have B1 := B1'
  clear B1'
  have B2' : Box w2 (hs + 1 + 1) (.bool false) (.slice none 0 0) := B2.below hb2
  clear B2
  have B2 := B2'
  clear B2'
  replace H : Hid _ := H.out.below hb2
  replace K : Hid _ := K.out.below hb2
  replace hbw := Below.on hbw hb2
  have hszW' : hs + 1 + 1 + 1 ≤ w2.heap.size := Nat.le_trans hszW hb2.size
  clear hszW
  have hszW := hszW'
  clear hszW'
  clear hb2
  obtain ⟨c00, c01, f00, f01⟩ := B0
  obtain ⟨c10, c11, f10, f11⟩ := B1
  obtain ⟨c20, c21, f20, f21⟩ := B2
  go_wp2_with fail
  have B0 : Box w2 (hs) (.bool s) (.slice p n c) := ⟨c00, c01, f00, f01⟩
  clear c00 c01 f00 f01
  have B1 : Box w2 (hs + 1) (.bool t) (.slice q m d) := ⟨c10, c11, f10, f11⟩
  clear c10 c11 f10 f11
  have B2 : Box w2 (hs + 1 + 1) (.bool false) (.slice none 0 0) := ⟨c20, c21, f20, f21⟩
  clear c20 c21 f20 f21
  have hsz0 := hszW
  refine (sum_any s t H.out K.out).mono ?_
  rintro e w3 ⟨ha, hb3⟩
  rw [← HZ.out] at ha
  have B0' : Box w3 (hs) (.bool s) (.slice p n c) := B0.below hb3
  clear B0
  have B0 := B0'
  clear B0'
  have B1' : Box w3 (hs + 1) (.bool t) (.slice q m d) := B1.below hb3
  clear B1
  have B1 := B1'
  clear B1'
  have B2' : Box w3 (hs + 1 + 1) (.bool false) (.slice none 0 0) := B2.below hb3
  clear B2
  have B2 := B2'
  clear B2'
  replace H : Hid _ := H.out.below hb3
  replace K : Hid _ := K.out.below hb3
  replace hbw := Below.on hbw hb3
  have hszW' : hs + 1 + 1 + 1 ≤ w3.heap.size := Nat.le_trans hszW hb3.size
  clear hszW
  have hszW := hszW'
  clear hszW'
  clear hb3
  rcases ha with ⟨hl, p1, m1, z1, rfl, ho, hn, hm⟩ | ⟨hl, rfl⟩
  · have HL : Hid (z.natAbs < LIM) := hl
    have HN : Hid (Nf B64 z1 z.natAbs) := hn
    have HM : Hid (m1 ≤ 8192) := hm
    have HOW : Hid (Own (hs + 1 + 1 + 1) w3 p1 m1 z1) := ho.mono hsz0
    obtain ⟨sz, hss⟩ : ∃ sz, sz = decide (z < 0) := ⟨_, rfl⟩
    rw [← hss]
    have HSZ : Hid (sz = decide (z < 0)) := hss
    clear hl hn ho hm hss hsz0
    obtain ⟨c00, c01, f00, f01⟩ := B0
    obtain ⟨c10, c11, f10, f11⟩ := B1
    obtain ⟨c20, c21, f20, f21⟩ := B2
    go_wp2_with fail
    refine bodyPost_ret (v := .tuple #[ZV sz p1 m1 m1, .int .i64 0]) (by rw [results_cell_tmp rfl]; go_simp) rfl ⟨.inl ⟨HL.out, p1, m1, z1, by rw [HSZ.out], ?_, HN.out, HM.out⟩, ?_⟩
    · exact ((HOW.out.setOld _ _ _ (by omega)).setOld _ _ _ (by omega)).mono (by have := HHS.out; omega)
    · exact bSet (bSet hbw _ _ _ (by have := HHS.out; omega)) _ _ _ (by have := HHS.out; omega)
  · have HL : Hid (LIM ≤ z.natAbs) := hl
    clear hl hsz0
    obtain ⟨c00, c01, f00, f01⟩ := B0
    obtain ⟨c10, c11, f10, f11⟩ := B1
    obtain ⟨c20, c21, f20, f21⟩ := B2
    go_wp2_with fail
    refine bodyPost_ret (v := .tuple #[ZV false none 0 0, .int .i64 5]) (by rw [results_cell_tmp rfl]; go_simp) rfl ⟨.inr ⟨HL.out, rfl⟩, ?_⟩
    exact bSet (bSet hbw _ _ _ (by have := HHS.out; omega)) _ _ _ (by have := HHS.out; omega)
theorem iv_not (t : Bool) (b : Nat) : iv (!t) b = - iv t b := by cases t <;> simp [iv]
theorem Box.new (w : World) (ty : TypeId) (v0 v1 : Value) : Box (w.alloc (.cells #[v0, v1] ty)) w.heap.size v0 v1 := ⟨by go_simp, by go_simp, by go_simp, by go_simp⟩
theorem At32.setOther {w : World} {g off n c : Nat} {xs : List Nat} (h : At32 w (some ⟨g, off, none⟩) n c xs) (g2 o2 : Nat) (v : Value) (hne : g ≠ g2) : At32 (w.setCell ⟨g2, o2, none⟩ v) (some ⟨g, off, none⟩) n c xs := by
  refine ⟨h.len, h.cap, h.big, h.dig, ?_⟩
  rcases h.cells with h0 | ⟨g', o', he, hcl⟩
  · exact .inl h0
  · refine .inr ⟨g', o', he, fun j hj => ?_⟩
    simp only [Option.some.injEq, Addr.mk.injEq, and_true] at he
    rw [World.cell?_setCell_other _ _ _ _ (by intro e; apply hne; have := congrArg Addr.block e; simp at this; omega)]
    exact hcl j hj
theorem At.setOther {w : World} {g off n c : Nat} {xs : List Nat} (h : At w (some ⟨g, off, none⟩) n c xs) (g2 o2 : Nat) (v : Value) (hne : g ≠ g2) : At (w.setCell ⟨g2, o2, none⟩ v) (some ⟨g, off, none⟩) n c xs := by
  refine ⟨h.len, h.cap, h.big, h.dig, ?_⟩
  rcases h.cells with h0 | ⟨g', o', he, hcl⟩
  · exact .inl h0
  · refine .inr ⟨g', o', he, fun j hj => ?_⟩
    simp only [Option.some.injEq, Addr.mk.injEq, and_true] at he
    rw [World.cell?_setCell_other _ _ _ _ (by intro e; apply hne; have := congrArg Addr.block e; simp at this; omega)]
    exact hcl j hj

theorem mk04 {p : Option Addr} {n c : Nat} {xs : List Nat} {w : World} (s : Bool) (h : At32 w p n c xs) (hn : n ≤ 35184372088832) :
    Calls Tryz.prog 123 #[.bool s, .slice p n c] w fun e w' => ∃ g m, m = (trimL xs).length ∧ e = .returned (.agg #[.bool (s && decide (0 < m)), .slice (some ⟨g, 0, none⟩) m m]) ∧ w.heap.size ≤ g ∧ At32 w' (some ⟨g, 0, none⟩) m m (trimL xs) ∧ Below w.heap.size w w' := by
  have hd := h.dig.trimL
  have hle := trimL_length_le xs
  have hlx := h.len
  obtain ⟨zs, hzs⟩ : ∃ zs, zs = trimL xs := ⟨_, rfl⟩
  rw [← hzs] at hd hle
  rw [← hzs]
  have HZS : Hid (zs = trimL xs) := hzs
  clear hzs
  go_enter Tryz.func123, Tryz.ntmps123
  go_wp2_with fail
  have B0 : Box (w.alloc (.cells #[.bool false, .slice none 0 0] 87)) w.heap.size (.bool false) (.slice none 0 0) := ⟨by go_simp, by go_simp, by go_simp, by go_simp⟩
  refine (rnorm_any (h.alloc _) hn).mono ?_
  rintro e w1 ⟨g, rfl, hg, hblk, hb⟩
  rw [← HZS.out] at hblk ⊢
  obtain ⟨c0, c1, f0, f1⟩ := B0.below hb
  have hbw := Below.on (below1 w _) hb
  have HA : Hid (At32 w1 (some ⟨g, 0, none⟩) zs.length zs.length zs) := hblk.at_ hd rfl (by unfold maxLen; omega)
  have hg1 : w.heap.size + 1 ≤ g := by simp at hg; exact hg
  clear B0 hb hblk hg hle hlx h
  obtain ⟨m, hm⟩ : ∃ m, m = zs.length := ⟨_, rfl⟩
  rw [← hm] at HA ⊢
  have HM : Hid (m = zs.length) := hm
  clear hm
  have key : ∀ r : Bool, Hid (At32 ((w1.setCell ⟨w.heap.size, 0, none⟩ (.bool r)).setCell ⟨w.heap.size, 1, none⟩ (.slice (some ⟨g, 0, none⟩) m m)) (some ⟨g, 0, none⟩) m m zs) := by
    intro r
    have hA := HA.out
    refine ⟨hA.len, hA.cap, hA.big, hA.dig, ?_⟩
    rcases hA.cells with h0 | ⟨g', o', he, hcl⟩
    · exact .inl h0
    · refine .inr ⟨g', o', he, fun j hj => ?_⟩
      simp only [Option.some.injEq, Addr.mk.injEq, and_true] at he
      have hne : g' ≠ w.heap.size := by omega
      rw [World.cell?_setCell_other _ _ _ _ (by intro e; apply hne; have := congrArg Addr.block e; simp at this; omega), World.cell?_setCell_other _ _ _ _ (by intro e; apply hne; have := congrArg Addr.block e; simp at this; omega)]
      exact hcl j hj
  cases s
  · go_wp2_with fail
    exact bodyPost_ret (v := .agg #[.bool false, .slice (some ⟨g, 0, none⟩) m m]) (by rw [results_cell1 rfl]; go_simp) rfl ⟨g, m, HM.out, rfl, by omega, (key false).out, bSet (bSet hbw _ _ _ (Nat.le_refl _)) _ _ _ (Nat.le_refl _)⟩
  · by_cases hm0 : 0 < m
    · have hd0 : decide ((0 : Int) < (m : Int)) = true := decide_eq_true (by omega)
      go_wp2_with fail
      exact bodyPost_ret (v := .agg #[.bool true, .slice (some ⟨g, 0, none⟩) m m]) (by rw [results_cell1 rfl]; go_simp) rfl ⟨g, m, HM.out, by simp [hm0], by omega, (key true).out, bSet (bSet hbw _ _ _ (Nat.le_refl _)) _ _ _ (Nat.le_refl _)⟩
    · have hd0 : decide ((0 : Int) < (m : Int)) = false := decide_eq_false (by omega)
      go_wp2_with fail
      exact bodyPost_ret (v := .agg #[.bool false, .slice (some ⟨g, 0, none⟩) m m]) (by rw [results_cell1 rfl]; go_simp) rfl ⟨g, m, HM.out, by simp [hm0], by omega, (key false).out, bSet (bSet hbw _ _ _ (Nat.le_refl _)) _ _ _ (Nat.le_refl _)⟩
theorem to04_f {p : Option Addr} {n : Nat} {zs : List Nat} {a : Nat} {w : World} (h : At32 w p n n zs) (hx : Nf B32 zs a) (hn : n ≤ 35184372088832) :
    Calls Tryz.prog 150 #[.agg #[.bool false, .slice p n n]] w fun e w' => ∃ g k N us, e = .returned (ZV (false && decide (0 < n)) (some ⟨g, 0, none⟩) k N) ∧ At w' (some ⟨g, 0, none⟩) k N us ∧ Nf B64 us a ∧ w.heap.size ≤ g ∧ Below w.heap.size w w' := by
  have HX : Hid (Nf B32 zs a) := hx
  clear hx
  obtain ⟨sb, esb⟩ : ∃ sb, sb = (false && decide (0 < n)) := ⟨_, rfl⟩
  rw [← esb]
  have HSB : Hid (sb = (false && decide (0 < n))) := esb
  clear esb
  go_enter Tryz.func150, Tryz.ntmps150
  go_wp2_with fail
  have B0 : Box ((w.alloc (.cells #[.bool false, .slice p n n] 87)).alloc (.cells #[.bool false, .slice none 0 0] 36)) w.heap.size (.bool false) (.slice p n n) := ⟨by go_simp, by go_simp, by go_simp, by go_simp⟩
  have B1 : Box ((w.alloc (.cells #[.bool false, .slice p n n] 87)).alloc (.cells #[.bool false, .slice none 0 0] 36)) (w.heap.size + 1) (.bool false) (.slice none 0 0) := ⟨by go_simp, by go_simp, by go_simp, by go_simp⟩
  have hbw : Below w.heap.size w ((w.alloc (.cells #[.bool false, .slice p n n] 87)).alloc (.cells #[.bool false, .slice none 0 0] 36)) := below2 w _ _
  have hsW : ((w.alloc (.cells #[.bool false, .slice p n n] 87)).alloc (.cells #[.bool false, .slice none 0 0] 36)).heap.size = w.heap.size + 1 + 1 := by simp
  generalize ((w.alloc (.cells #[.bool false, .slice p n n] 87)).alloc (.cells #[.bool false, .slice none 0 0] 36)) = W at *
  obtain ⟨hs, ehs⟩ : ∃ hs, hs = w.heap.size := ⟨_, rfl⟩
  have HHS : Hid (hs = w.heap.size) := ehs
  rw [← ehs] at B0 B1 hsW ⊢
  have HSW : Hid (W.heap.size = hs + 1 + 1) := hsW
  have HBW : Hid (Below w.heap.size w W.drew) := bDrew hbw
  have HAT : Hid (At32 W.drew p n n zs) := (h.below hbw).drewN 1
  have X0 : Hid (Box W.drew hs (.bool false) (.slice p n n)) := ⟨B0.c0, B0.c1, B0.f0, B0.f1⟩
  have X1 : Hid (Box W.drew (hs + 1) (.bool false) (.slice none 0 0)) := ⟨B1.c0, B1.c1, B1.f0, B1.f1⟩
  obtain ⟨c00, c01, f00, f01⟩ := B0
  obtain ⟨c10, c11, f10, f11⟩ := B1
  clear ehs hsW hbw h
  have HF : Hid (sb = false) := by show _ = _; rw [HSB.out]; simp
  first | (go_region_with ((go_at_call 166; refine (rto_any HAT.out hn).mono ?_; rintro e w1 ⟨g1, k1, N1, us, rfl, hg1, hA1, hnf1, hb1⟩; obtain ⟨d00, d01, e00, e01⟩ := X0.out.below hb1; obtain ⟨d10, d11, e10, e11⟩ := X1.out.below hb1; have HA1 : Hid (At w1 (some ⟨g1, 0, none⟩) k1 N1 us) := hA1; have HN1 : Hid (Nf B64 us (valB B32 zs)) := hnf1; have HB1 : Hid (Below w.heap.size w w1) := Below.on HBW.out hb1; have HG1 : Hid (hs + 1 + 1 ≤ g1) := Nat.le_trans (Nat.le_of_eq HSW.out.symm) hg1; clear hA1 hnf1 hb1 hg1))) | fail
  all_goals
    (go_wp2_with fail
     refine bodyPost_ret (v := ZV false (some ⟨g1, 0, none⟩) k1 N1) (by rw [results_cell1 rfl]; go_simp) rfl ⟨g1, k1, N1, us, by rw [HF.out], (HA1.out.setOther _ _ _ (by have := HG1.out; omega)).setOther _ _ _ (by have := HG1.out; omega), ?_, by have := HG1.out; have := HHS.out; omega, bSet (bSet HB1.out _ _ _ (by have := HHS.out; omega)) _ _ _ (by have := HHS.out; omega)⟩
     have hq := HN1.out
     rw [HX.out.val] at hq; exact hq)
theorem to04_p {p : Option Addr} {n : Nat} {zs : List Nat} {a : Nat} {w : World} (h : At32 w p n n zs) (hx : Nf B32 zs a) (hn : n ≤ 35184372088832) (h0 : 0 < n) :
    Calls Tryz.prog 150 #[.agg #[.bool true, .slice p n n]] w fun e w' => ∃ g k N us, e = .returned (ZV (true && decide (0 < n)) (some ⟨g, 0, none⟩) k N) ∧ At w' (some ⟨g, 0, none⟩) k N us ∧ Nf B64 us a ∧ w.heap.size ≤ g ∧ Below w.heap.size w w' := by
  have HX : Hid (Nf B32 zs a) := hx
  clear hx
  obtain ⟨sb, esb⟩ : ∃ sb, sb = (true && decide (0 < n)) := ⟨_, rfl⟩
  rw [← esb]
  have HSB : Hid (sb = (true && decide (0 < n))) := esb
  clear esb
  go_enter Tryz.func150, Tryz.ntmps150
  go_wp2_with fail
  have B0 : Box ((w.alloc (.cells #[.bool true, .slice p n n] 87)).alloc (.cells #[.bool false, .slice none 0 0] 36)) w.heap.size (.bool true) (.slice p n n) := ⟨by go_simp, by go_simp, by go_simp, by go_simp⟩
  have B1 : Box ((w.alloc (.cells #[.bool true, .slice p n n] 87)).alloc (.cells #[.bool false, .slice none 0 0] 36)) (w.heap.size + 1) (.bool false) (.slice none 0 0) := ⟨by go_simp, by go_simp, by go_simp, by go_simp⟩
  have hbw : Below w.heap.size w ((w.alloc (.cells #[.bool true, .slice p n n] 87)).alloc (.cells #[.bool false, .slice none 0 0] 36)) := below2 w _ _
  have hsW : ((w.alloc (.cells #[.bool true, .slice p n n] 87)).alloc (.cells #[.bool false, .slice none 0 0] 36)).heap.size = w.heap.size + 1 + 1 := by simp
  generalize ((w.alloc (.cells #[.bool true, .slice p n n] 87)).alloc (.cells #[.bool false, .slice none 0 0] 36)) = W at *
  obtain ⟨hs, ehs⟩ : ∃ hs, hs = w.heap.size := ⟨_, rfl⟩
  have HHS : Hid (hs = w.heap.size) := ehs
  rw [← ehs] at B0 B1 hsW ⊢
  have HSW : Hid (W.heap.size = hs + 1 + 1) := hsW
  have HBW : Hid (Below w.heap.size w W.drew) := bDrew hbw
  have HAT : Hid (At32 W.drew p n n zs) := (h.below hbw).drewN 1
  have X0 : Hid (Box W.drew hs (.bool true) (.slice p n n)) := ⟨B0.c0, B0.c1, B0.f0, B0.f1⟩
  have X1 : Hid (Box W.drew (hs + 1) (.bool false) (.slice none 0 0)) := ⟨B1.c0, B1.c1, B1.f0, B1.f1⟩
  obtain ⟨c00, c01, f00, f01⟩ := B0
  obtain ⟨c10, c11, f10, f11⟩ := B1
  clear ehs hsW hbw h
  have HF : Hid (sb = true) := by show _ = _; rw [HSB.out]; simp [h0]
  have hd0 : decide ((0 : Int) < (n : Int)) = true := decide_eq_true (by omega)
  first | (go_region_with ((go_at_call 166; refine (rto_any HAT.out hn).mono ?_; rintro e w1 ⟨g1, k1, N1, us, rfl, hg1, hA1, hnf1, hb1⟩; obtain ⟨d00, d01, e00, e01⟩ := X0.out.below hb1; obtain ⟨d10, d11, e10, e11⟩ := X1.out.below hb1; have HA1 : Hid (At w1 (some ⟨g1, 0, none⟩) k1 N1 us) := hA1; have HN1 : Hid (Nf B64 us (valB B32 zs)) := hnf1; have HB1 : Hid (Below w.heap.size w w1) := Below.on HBW.out hb1; have HG1 : Hid (hs + 1 + 1 ≤ g1) := Nat.le_trans (Nat.le_of_eq HSW.out.symm) hg1; clear hA1 hnf1 hb1 hg1))) | fail
  all_goals
    (go_wp2_with fail
     refine bodyPost_ret (v := ZV true (some ⟨g1, 0, none⟩) k1 N1) (by rw [results_cell1 rfl]; go_simp) rfl ⟨g1, k1, N1, us, by rw [HF.out], (HA1.out.setOther _ _ _ (by have := HG1.out; omega)).setOther _ _ _ (by have := HG1.out; omega), ?_, by have := HG1.out; have := HHS.out; omega, bSet (bSet HB1.out _ _ _ (by have := HHS.out; omega)) _ _ _ (by have := HHS.out; omega)⟩
     have hq := HN1.out
     rw [HX.out.val] at hq; exact hq)
def Told (z : Int) (s : Bool) (m : Nat) (zs : List Nat) (er : Int) : Prop :=
  (z.natAbs < LIM ∧ s = decide (z < 0) ∧ Nf B64 zs z.natAbs ∧ m ≤ 8192 ∧ er = 0) ∨ (LIM ≤ z.natAbs ∧ s = false ∧ zs = [] ∧ m = 0 ∧ er = 5)
theorem AnsI.any {B : Nat} {w' : World} {e : Ending} {z : Int} (h : AnsI B w' e z) : ∃ s p m zs er, e = .returned (.tuple #[ZV s p m m, .int .i64 er]) ∧ At w' p m m zs ∧ Told z s m zs er := by
  rcases h with ⟨hz, p, m, zs, rfl, ho, hn, hm⟩ | ⟨hz, rfl⟩
  · exact ⟨_, p, m, zs, 0, rfl, ho.at_ hm, .inl ⟨hz, rfl, hn, hm, rfl⟩⟩
  · exact ⟨false, none, 0, [], 5, rfl, At.empty _ none 0 (by decide), .inr ⟨hz, rfl, rfl, rfl, rfl⟩⟩
theorem Told.inj {z : Int} {s s' : Bool} {m m' : Nat} {zs zs' : List Nat} {er er' : Int} (h : Told z s m zs er) (k : Told z s' m' zs' er') : s = s' ∧ zs = zs' ∧ er = er' := by
  rcases h with ⟨hz, rfl, hn, hm, rfl⟩ | ⟨hz, rfl, rfl, rfl, rfl⟩ <;> rcases k with ⟨kz, rfl, kn, km, rfl⟩ | ⟨kz, rfl, rfl, rfl, rfl⟩
  · exact ⟨rfl, hn.inj B64_one kn, rfl⟩
  · omega
  · omega
  · exact ⟨rfl, rfl, rfl⟩
theorem Told.er {z : Int} {s : Bool} {m : Nat} {zs : List Nat} {er : Int} (h : Told z s m zs er) : er = 0 ∨ er = 5 := by
  rcases h with ⟨_, _, _, _, rfl⟩ | ⟨_, _, _, _, rfl⟩
  · exact .inl rfl
  · exact .inr rfl
theorem Told.ok {z : Int} {s : Bool} {m : Nat} {zs : List Nat} {w : World} {p : Option Addr} (h : Told z s m zs 0) (a : At w p m m zs) : Num w p m m zs z.natAbs ∧ s = decide (z < 0) := by
  rcases h with ⟨_, h1, h2, h3, _⟩ | ⟨_, _, _, _, h⟩
  · exact ⟨⟨a, h2, h3⟩, h1⟩
  · exact absurd h (by decide)
theorem Told.no {z : Int} {s : Bool} {m : Nat} {zs : List Nat} (h : Told z s m zs 5) : LIM ≤ z.natAbs := by
  rcases h with ⟨_, _, _, _, h⟩ | ⟨h, _⟩
  · exact absurd h (by decide)
  · exact h
theorem iv_abs (z : Int) : iv (decide (z < 0)) z.natAbs = z := by
  unfold iv
  by_cases h : z < 0
  · simp only [h, decide_true, if_true]; omega
  · simp only [h, decide_false, Bool.false_eq_true, if_false]; omega
theorem iv_natAbs (s : Bool) (a : Nat) : (iv s a).natAbs = a := by cases s <;> simp [iv]
theorem sgn_pos (z : Int) : decide (z < 0) = true → 0 < z.natAbs := by intro h; have := of_decide_eq_true h; omega

theorem to04_any {p : Option Addr} {n : Nat} {zs : List Nat} {a : Nat} {w : World} (b : Bool) (h : At32 w p n n zs) (hx : Nf B32 zs a) (hn : n ≤ 35184372088832) (h0 : b = true → 0 < n) :
    Calls Tryz.prog 150 #[.agg #[.bool b, .slice p n n]] w fun e w' => ∃ g k N us, e = .returned (ZV b (some ⟨g, 0, none⟩) k N) ∧ At w' (some ⟨g, 0, none⟩) k N us ∧ Nf B64 us a ∧ w.heap.size ≤ g ∧ Below w.heap.size w w' := by
  cases b
  · exact to04_f h hx hn
  · have := to04_p h hx hn (h0 rfl)
    rwa [decide_eq_true (h0 rfl)] at this
theorem digit_bit {b e : Nat} (hb : b = 2 ^ e) {xs : List Nat} (hd : Dig b xs) {D R : Nat} (hD : D < xs.length) (hR : R < e) : xs.getD D 0 / 2 ^ R % 2 = valB b xs / 2 ^ (e * D + R) % 2 := by
  have hbp : 0 < b := by rw [hb]; exact Nat.pow_pos (by decide)
  have h1 : valB b (xs.drop D) = valB b xs / b ^ D := by
    have h2 := valB_split b xs D (Nat.le_of_lt hD)
    have h3 := valB_lt hbp (hd.take D)
    rw [List.length_take, Nat.min_eq_left (Nat.le_of_lt hD)] at h3
    rw [h2, Nat.add_mul_div_left _ _ (Nat.pow_pos hbp), Nat.div_eq_of_lt h3, Nat.zero_add]
  have h4 := valB_drop b xs D hD
  have h5 : b ^ D = 2 ^ (e * D) := by rw [hb, ← Nat.pow_mul]
  rw [Nat.pow_add, ← Nat.div_div_eq_div_mul, ← h5, ← h1, h4]
  obtain ⟨k, hk⟩ : ∃ k, e = R + 1 + k := ⟨e - R - 1, by omega⟩
  have h6 : b = 2 ^ R * (2 * 2 ^ k) := by rw [hb, hk, Nat.pow_add, Nat.pow_add, Nat.pow_one, Nat.mul_assoc]
  rw [h6, Nat.mul_assoc (2 ^ R), Nat.add_mul_div_left _ _ (Nat.pow_pos (by decide)), Nat.mul_assoc 2, Nat.add_mul_mod_self_left]
theorem and_one_u64q (i : Nat) (_hi : i < B64) : bits BinOp.and IntKind.u64 (i : Int) 1 = ((i % 2 : Nat) : Int) := by
  have h1 : (BitVec.ofInt 64 1).toNat = 2 ^ 1 - 1 := by decide
  have key : (BitVec.ofInt 64 (i : Int) &&& BitVec.ofInt 64 1).toNat = ((i : Int) % ((2 ^ 64 : Nat) : Int)).toNat % 2 ^ 1 := by
    rw [BitVec.toNat_and, BitVec.toNat_ofInt, h1, Nat.and_two_pow_sub_one_eq_mod]
  show IntKind.u64.wrap ((BitVec.ofInt 64 (i : Int) &&& BitVec.ofInt 64 1).toNat : Nat) = _
  rw [key]
  simp only [IntKind.wrap, IntKind.signed, IntKind.bits]
  simp
  omega

theorem bit_any {p : Option Addr} {n c : Nat} {xs : List Nat} {w : World} (h : At w p n c xs) (_hn : n ≤ 17592186044416) (i : Nat) (hi : i ≤ 9223372036854775807) :
    Calls Tryz.prog 72 #[.slice p n c, .int .i64 i] w fun e w' => e = .returned (.bool (decide (valB B64 xs / 2 ^ i % 2 = 1))) ∧ w' = w := by
  have hl := h.len
  have cap := h.cap
  have big := h.big
  unfold maxLen at big
  obtain ⟨D, hD⟩ : ∃ D, D = i / 64 := ⟨_, rfl⟩
  obtain ⟨R, hR⟩ : ∃ R, R = i % 64 := ⟨_, rfl⟩
  have d1 : (i : Int).tdiv 64 = (D : Int) := by rw [Int.tdiv_eq_ediv_of_nonneg (by omega)]; omega
  have d2 : (i : Int).tmod 64 = (R : Int) := by rw [Int.tmod_eq_emod_of_nonneg (by omega)]; omega
  have hneg : ¬ (i : Int) < 0 := by omega
  have hDb : D ≤ 144115188075855871 := by omega
  have hR64 : R < 64 := by omega
  have hei : i = 64 * D + R := by omega
  obtain ⟨r, hr⟩ : ∃ r, r = decide (valB B64 xs / 2 ^ i % 2 = 1) := ⟨_, rfl⟩
  rw [← hr]
  by_cases hc : n ≤ D
  · have HR0 : Hid (r = false) := by
      show _ = _
      rw [hr]
      refine decide_eq_false ?_
      have h1 : valB B64 xs < 2 ^ i := by
        have h2 := valB_lt B64_pos h.dig
        rw [hl] at h2
        refine Nat.lt_of_lt_of_le h2 ?_
        rw [B64_pow]
        exact Nat.pow_le_pow_right (by decide) (by omega)
      rw [Nat.div_eq_of_lt h1]
      decide
    have hci : (n : Int) ≤ (D : Int) := by omega
    have hcb : decide (n ≤ D) = true := decide_eq_true hc
    clear hr hei hD hR h hl
    go_enter Tryz.func72, Tryz.ntmps72
    go_wp2_with fail
    go_ret
    exact ⟨by rw [HR0.out]; rfl, rfl⟩
  · have hDn : D < n := by omega
    have hcb : decide (n ≤ D) = false := decide_eq_false hc
    obtain ⟨g, off, rfl, hcs⟩ := h.cells.resolve_left (by omega)
    obtain ⟨x, hx⟩ : ∃ x, x = xs.getD D 0 := ⟨_, rfl⟩
    have hcx : w.cell? ⟨g, off + D, none⟩ = some (U x) := by rw [hx]; exact hcs D hDn
    have hxb : x < B64 := by rw [hx]; exact h.dig.getD B64_pos D
    obtain ⟨y, hy⟩ : ∃ y, y = x / 2 ^ R := ⟨_, rfl⟩
    have hyI : (x : Int) / 2 ^ R = (y : Int) := by rw [hy]; norm_cast
    have hyb : y < B64 := by rw [hy]; exact Nat.lt_of_le_of_lt (Nat.div_le_self _ _) hxb
    obtain ⟨z, hz⟩ : ∃ z, z = y % 2 := ⟨_, rfl⟩
    have hand : bits BinOp.and IntKind.u64 (y : Int) 1 = (z : Int) := by rw [hz]; exact and_one_u64q y hyb
    have HR1 : Hid (r = decide (z = 1)) := by
      show _ = _
      rw [hr, hz, hy, hx, digit_bit B64_two_pow h.dig (by rw [hl]; exact hDn) hR64, ← hei]
    have hwD : IntKind.i64.wrap (D : Int) = (D : Int) := by simp [IntKind.wrap, IntKind.signed, IntKind.bits]; omega
    clear hr hei hD hR h hl hcs hx hy hz hxb hyb
    go_enter Tryz.func72, Tryz.ntmps72
    go_wp2_with fail
    go_ret
    have hzz : ((z : Int) == 1) = decide (z = 1) := by rw [Bool.eq_iff_iff]; simp; omega
    exact ⟨by rw [HR1.out, ← hzz]; rfl, rfl⟩
theorem and_one_u32q (i : Nat) (_hi : i < B32) : bits BinOp.and IntKind.u32 (i : Int) 1 = ((i % 2 : Nat) : Int) := by
  have h1 : (BitVec.ofInt 32 1).toNat = 2 ^ 1 - 1 := by decide
  have key : (BitVec.ofInt 32 (i : Int) &&& BitVec.ofInt 32 1).toNat = ((i : Int) % ((2 ^ 32 : Nat) : Int)).toNat % 2 ^ 1 := by
    rw [BitVec.toNat_and, BitVec.toNat_ofInt, h1, Nat.and_two_pow_sub_one_eq_mod]
  show IntKind.u32.wrap ((BitVec.ofInt 32 (i : Int) &&& BitVec.ofInt 32 1).toNat : Nat) = _
  rw [key]
  simp only [IntKind.wrap, IntKind.signed, IntKind.bits]
  simp
  omega
theorem rbit_any {p : Option Addr} {n c : Nat} {xs : List Nat} {w : World} (h : At32 w p n c xs) (_hn : n ≤ 35184372088832) (i : Nat) (hi : i ≤ 9223372036854775807) :
    Calls Tryz.prog 164 #[.slice p n c, .int .i64 i] w fun e w' => e = .returned (.int .i64 (valB B32 xs / 2 ^ i % 2 : Nat)) ∧ w' = w := by
  have hl := h.len
  have cap := h.cap
  have big := h.big
  unfold maxLen at big
  obtain ⟨D, hD⟩ : ∃ D, D = i / 32 := ⟨_, rfl⟩
  obtain ⟨R, hR⟩ : ∃ R, R = i % 32 := ⟨_, rfl⟩
  have d1 : (i : Int).tdiv 32 = (D : Int) := by rw [Int.tdiv_eq_ediv_of_nonneg (by omega)]; omega
  have d2 : (i : Int).tmod 32 = (R : Int) := by rw [Int.tmod_eq_emod_of_nonneg (by omega)]; omega
  have hneg : ¬ (i : Int) < 0 := by omega
  have hDb : D ≤ 288230376151711743 := by omega
  have hR64 : R < 32 := by omega
  have hei : i = 32 * D + R := by omega
  obtain ⟨r, hr⟩ : ∃ r, r = valB B32 xs / 2 ^ i % 2 := ⟨_, rfl⟩
  rw [← hr]
  by_cases hc : n ≤ D
  · have HR0 : Hid (r = 0) := by
      show _ = _
      rw [hr]
      have h1 : valB B32 xs < 2 ^ i := by
        have h2 := valB_lt B32_pos h.dig
        rw [hl] at h2
        refine Nat.lt_of_lt_of_le h2 ?_
        rw [B32_pow]
        exact Nat.pow_le_pow_right (by decide) (by omega)
      rw [Nat.div_eq_of_lt h1]
    have hci : (n : Int) ≤ (D : Int) := by omega
    have hcb : decide (n ≤ D) = true := decide_eq_true hc
    clear hr hei hD hR h hl
    go_enter Tryz.func164, Tryz.ntmps164
    go_wp2_with fail
    go_ret
    exact ⟨by rw [HR0.out]; rfl, rfl⟩
  · have hDn : D < n := by omega
    have hcb : decide (n ≤ D) = false := decide_eq_false hc
    obtain ⟨g, off, rfl, hcs⟩ := h.cells.resolve_left (by omega)
    obtain ⟨x, hx⟩ : ∃ x, x = xs.getD D 0 := ⟨_, rfl⟩
    have hcx : w.cell? ⟨g, off + D, none⟩ = some (V x) := by rw [hx]; exact hcs D hDn
    have hxb : x < B32 := by rw [hx]; exact h.dig.getD B32_pos D
    obtain ⟨y, hy⟩ : ∃ y, y = x / 2 ^ R := ⟨_, rfl⟩
    have hyI : (x : Int) / 2 ^ R = (y : Int) := by rw [hy]; norm_cast
    have hyb : y < B32 := by rw [hy]; exact Nat.lt_of_le_of_lt (Nat.div_le_self _ _) hxb
    obtain ⟨z, hz⟩ : ∃ z, z = y % 2 := ⟨_, rfl⟩
    have hand : bits BinOp.and IntKind.u32 (y : Int) 1 = (z : Int) := by rw [hz]; exact and_one_u32q y hyb
    have HR1 : Hid (r = z) := by
      show _ = _
      rw [hr, hz, hy, hx, digit_bit (show B32 = 2 ^ 32 from rfl) h.dig (by rw [hl]; exact hDn) hR64, ← hei]
    have hz2 : z < 2 := by omega
    have hzw : IntKind.i64.wrap (z : Int) = (z : Int) := by simp [IntKind.wrap, IntKind.signed, IntKind.bits]; omega
    have hwD : IntKind.i64.wrap (D : Int) = (D : Int) := by simp [IntKind.wrap, IntKind.signed, IntKind.bits]; omega
    clear hr hei hD hR h hl hcs hx hy hz hxb hyb
    go_enter Tryz.func164, Tryz.ntmps164
    go_wp2_with fail
    go_ret
    exact ⟨by rw [HR1.out]; rfl, rfl⟩
def TzIs (v k : Nat) : Prop := v % 2 ^ k = 0 ∧ v / 2 ^ k % 2 = 1
theorem TzIs.inj {v k l : Nat} (h : TzIs v k) (h' : TzIs v l) : k = l := by
  have aux : ∀ {a b : Nat}, TzIs v a → TzIs v b → ¬ a < b := by
    intro a b ha hb hab
    obtain ⟨d, hd⟩ : ∃ d, b = a + (d + 1) := ⟨b - a - 1, by omega⟩
    have h1 := Nat.dvd_of_mod_eq_zero hb.1
    obtain ⟨q, hq⟩ := h1
    have h2 := ha.2
    rw [hq, hd, Nat.pow_add, Nat.mul_assoc, Nat.mul_div_cancel_left _ (Nat.pow_pos (by decide)), Nat.pow_succ, Nat.mul_comm (2 ^ d) 2, Nat.mul_assoc, Nat.mul_mod_right] at h2
    exact absurd h2 (by decide)
  rcases Nat.lt_trichotomy k l with e | e | e
  · exact absurd e (aux h h')
  · exact e
  · exact absurd e (aux h' h)
theorem TzIs.ex : ∀ (v : Nat), 0 < v → ∃ k, TzIs v k := by
  intro v
  induction v using Nat.strongRecOn with
  | _ v ih =>
    intro hv
    rcases Nat.mod_two_eq_zero_or_one v with h | h
    · obtain ⟨k, h1, h2⟩ := ih (v / 2) (by omega) (by omega)
      refine ⟨k + 1, ?_, ?_⟩
      · rw [Nat.pow_succ, Nat.mul_comm, Nat.mod_mul, h, h1]
      · rw [Nat.pow_succ, Nat.mul_comm, ← Nat.div_div_eq_div_mul]; exact h2
    · exact ⟨0, by rw [Nat.pow_zero, Nat.mod_one], by rw [Nat.pow_zero, Nat.div_one]; exact h⟩
theorem TzIs.ge {v k n : Nat} (h : TzIs v k) (hn : v % 2 ^ n = 0) : n ≤ k := by
  rcases Nat.lt_or_ge k n with e | e
  · exfalso
    obtain ⟨d, hd⟩ : ∃ d, n = k + (d + 1) := ⟨n - k - 1, by omega⟩
    obtain ⟨q, hq⟩ := Nat.dvd_of_mod_eq_zero hn
    have h2 := h.2
    rw [hq, hd, Nat.pow_add, Nat.mul_assoc, Nat.mul_div_cancel_left _ (Nat.pow_pos (by decide)), Nat.pow_succ, Nat.mul_comm (2 ^ d) 2, Nat.mul_assoc, Nat.mul_mod_right] at h2
    exact absurd h2 (by decide)
  · exact e
theorem tz_step {v n : Nat} (h : v % 2 ^ n = 0) (hb : v / 2 ^ n % 2 = 0) : v % 2 ^ (n + 1) = 0 := by
  rw [Nat.pow_succ, Nat.mod_mul, h, hb, Nat.mul_zero]

theorem rzeros_any {p : Option Addr} {n c : Nat} {xs : List Nat} {v k : Nat} {w : World} (h : At32 w p n c xs) (hx : Nf B32 xs v) (hn : n ≤ 35184372088832) (hk : TzIs v k) (hv : 0 < v) :
    Calls Tryz.prog 148 #[.slice p n c] w fun e w' => e = .returned (.int .i64 k) ∧ w' = w := by
  have HX : Hid (Nf B32 xs v) := hx
  have HA : Hid (At32 w p n c xs) := h
  have HK : Hid (TzIs v k) := hk
  have HV : Hid (0 < v) := hv
  have hl := h.len
  have cap := h.cap
  have big := h.big
  unfold maxLen at big
  have hn0 : 0 < n := by
    rcases Nat.eq_zero_or_pos n with e | e
    · exfalso
      rw [e] at hl
      have := hx.val
      rw [List.eq_nil_of_length_eq_zero hl] at this
      simp [valB] at this
      omega
    · exact e
  have hkb : k < 32 * n := by
    rcases Nat.lt_or_ge k (32 * n) with e | e
    · exact e
    · exfalso
      have h1 : v < 2 ^ k := by
        have h2 := valB_lt B32_pos hx.dig
        rw [hx.val, hl, B32_pow] at h2
        exact Nat.lt_of_lt_of_le h2 (Nat.pow_le_pow_right (by decide) e)
      have h3 := hk.2
      rw [Nat.div_eq_of_lt h1] at h3
      exact absurd h3 (by decide)
  have hne : ((n : Int) == 0) = false := by simp; omega
  have HL : Hid (xs.length = n) := hl
  obtain ⟨g, off, rfl, hcs⟩ := h.cells.resolve_left (by omega)
  have HCS : Hid (∀ j, j < n → w.cell? ⟨g, off + j, none⟩ = some (V (xs.getD j 0))) := hcs
  clear hx h hk hv hl hcs
  go_enter Tryz.func148, Tryz.ntmps148
  go_wp2_with fail
  go_loopg [3] n (fun gk nv wr => ∃ j M : Nat, j + gk = n ∧ nv = .int .i64 M ∧ M = 32 * j ∧ Hid (valB B32 (xs.take j) = 0) ∧ wr = w)
  case atStart => exact ⟨0, 0, by omega, rfl, rfl, by show _ = _; simp [valB], rfl⟩
  case round =>
    obtain ⟨j, M, hjg, rfl, hMj, HZ, hwr⟩ := hrel
    obtain rfl := hwr.symm
    clear hwr
    cases gk with
    | zero =>
      exfalso
      obtain rfl : j = n := by omega
      have h1 := HZ.out
      rw [List.take_of_length_le (by rw [HL.out]; omega), HX.out.val] at h1
      have h2 := HV.out
      omega
    | succ gg =>
      have hjn : j < n := by omega
      obtain ⟨x, hx⟩ : ∃ x, x = xs.getD j 0 := ⟨_, rfl⟩
      have hcx : w.cell? ⟨g, off + j, none⟩ = some (V x) := by rw [hx]; exact HCS.out j hjn
      have d1 : (M : Int).tdiv 32 = (j : Int) := by rw [Int.tdiv_eq_ediv_of_nonneg (by omega)]; omega
      have hjI : (j : Int) < (n : Int) := by omega
      have hwj : IntKind.i64.wrap (j : Int) = (j : Int) := by simp [IntKind.wrap, IntKind.signed, IntKind.bits]; omega
      have hMb : M ≤ 1125899906842624 := by omega
      have hjb : j ≤ 35184372088832 := by omega
      have HMj : Hid (M = 32 * j) := hMj
      clear hMj
      by_cases hx0 : x = 0
      · have HZ1 : Hid (valB B32 (xs.take (j + 1)) = 0) := by
          show _ = _
          rw [valB_take_any, HZ.out, ← hx, hx0, Nat.mul_zero]
        subst hx0
        clear hx HZ
        go_wp2_with fail
        go_roundg gg
        case measure => omega
        case rel => exact ⟨j + 1, M + 32, by omega, by go_num, by have := HMj.out; omega, HZ1, rfl⟩
      · have hxI : ((x : Int) == 0) = false := by simp; omega
        have HM0 : Hid (v % 2 ^ M = 0) := by
          show _ = _
          have h1 := valB_split B32 xs j (by rw [HL.out]; omega)
          rw [HMj.out, ← B32_pow, ← HX.out.val, h1, HZ.out, Nat.zero_add, Nat.mul_mod_right]
        have hMk : M ≤ k := HK.out.ge HM0.out
        clear hx HZ
        go_wp2_with fail
        go_loopg [3] (k - M) (fun gm nv wr => ∃ m : Nat, nv = .int .i64 m ∧ m + gm = k ∧ Hid (v % 2 ^ m = 0) ∧ wr = w)
        case atStart => exact ⟨M, rfl, by omega, HM0, rfl⟩
        case round =>
          obtain ⟨m, rfl, hmk, HB, hwr⟩ := hrel
          obtain rfl := hwr.symm
          clear hwr
          have hmb : m ≤ 1125899906842624 := by omega
          cases gk with
          | zero =>
            obtain rfl : m = k := by omega
            have hb1 := HK.out.2
            go_wp2_with fail
            refine (rbit_any HA.out hn m (by omega)).mono ?_
            rintro e w1 ⟨rfl, hw⟩
            rw [HX.out.val, hb1]
            obtain rfl := hw.symm
            clear hw hb1
            go_wp2_with fail
            go_ret
            exact ⟨rfl, rfl⟩
          | succ gg2 =>
            have hb0 : v / 2 ^ m % 2 = 0 := by
              rcases Nat.mod_two_eq_zero_or_one (v / 2 ^ m) with e | e
              · exact e
              · have := HK.out.inj ⟨HB.out, e⟩; omega
            have HB1 : Hid (v % 2 ^ (m + 1) = 0) := tz_step HB.out hb0
            go_wp2_with fail
            refine (rbit_any HA.out hn m (by omega)).mono ?_
            rintro e w1 ⟨rfl, hw⟩
            rw [HX.out.val, hb0]
            obtain rfl := hw.symm
            clear hw hb0
            go_wp2_with fail
            go_roundg gg2
            case measure => omega
            case rel => exact ⟨m + 1, by go_num, by omega, HB1, rfl⟩
def renTz : Ren := ⟨fun x => match x with | 29 => 111 | n => n, fun x => match x with | 0 => 0 | 3 => 3 | 4 => 4 | 5 => 5 | 22 => 26 | 25 => 107 | 54 => 169 | n => n, fun x => match x with | 1 => 1 | n => n⟩
theorem laysTz : Lays7.n29 Tryz.prog renTz :=
  { mixed := by kernel_rfl, f29 := Tryz.func111.trans (congrArg some (by kernel_rfl)),
    t0 := by kernel_rfl, a0 := fun w => by kernel_rfl, z0 := fun w => by kernel_rfl, v0 := fun w => by kernel_rfl, i0 := by kernel_rfl,
    t3 := Tryz.underlying3, a3 := Tryz.isAgg3, z3 := Tryz.sizeOf3, v3 := Tryz.zeroValue3, i3 := by kernel_rfl,
    t4 := Tryz.underlying4, a4 := Tryz.isAgg4, z4 := Tryz.sizeOf4, v4 := Tryz.zeroValue4, i4 := by kernel_rfl,
    t5 := Tryz.underlying5, a5 := Tryz.isAgg5, z5 := Tryz.sizeOf5, v5 := Tryz.zeroValue5, i5 := by kernel_rfl,
    t22 := Tryz.underlying26, a22 := Tryz.isAgg26, z22 := Tryz.sizeOf26, v22 := Tryz.zeroValue26, i22 := by kernel_rfl,
    t25 := Tryz.underlying107, a25 := Tryz.isAgg107, z25 := Tryz.sizeOf107, v25 := Tryz.zeroValue107, i25 := by kernel_rfl,
    t54 := Tryz.underlying169, a54 := Tryz.isAgg169, z54 := Tryz.sizeOf169, g1 := by kernel_rfl }

def Tab (w : World) : Prop := TabAt 1 Lib.deBruijn64tab w
theorem Tab.below {w w' : World} (h : Tab w) (hb : Below w.heap.size w w') : Tab w' := by
  intro j hj
  have h1 := h j hj
  have hl : 1 < w.heap.size := World.block_lt_of_cell? w _ h1
  exact (hb.cell (p := ⟨1, j, none⟩) hl).trans h1
theorem ctz_is {x : Nat} (h0 : x ≠ 0) (hx : x < B64) : TzIs x (Lib.ctz 64 x) ∧ Lib.ctz 64 x < 64 := by
  rw [B64_two_pow] at hx
  unfold Lib.ctz
  rw [if_neg h0]
  obtain ⟨m, hm, hk⟩ := Lib.ctzFrom_spec 64 x (by omega) hx
  generalize Lib.ctzFrom 64 x = k at *
  refine ⟨⟨?_, ?_⟩, hk⟩
  · rw [hm, Nat.mul_mod_right]
  · rw [hm, Nat.mul_div_cancel_left _ (Nat.pow_pos (by decide))]; omega
theorem tz_any {x r : Nat} (h0 : x ≠ 0) (hx : x < B64) (hr : TzIs x r) {w : World} (hT : Tab w) : Calls Tryz.prog 111 #[U x] w fun e w' => e = .returned (.int .i64 r) ∧ w' = w := by
  obtain ⟨h1, _⟩ := ctz_is h0 hx
  obtain rfl := hr.inj h1
  exact Any7.bits_TrailingZeros64 laysTz x (by rw [B64_eq] at hx; exact hx) w (fun _ => hT)

theorem tz_lift {xs : List Nat} (hd : Dig B64 xs) {j r : Nat} (hj : j < xs.length) (hz : valB B64 (xs.take j) = 0) (hr : TzIs (xs.getD j 0) r) (hr64 : r < 64) : TzIs (valB B64 xs) (64 * j + r) := by
  constructor
  · have h1 := valB_split B64 xs j (Nat.le_of_lt hj)
    have h2 := valB_drop B64 xs j hj
    rw [hz, Nat.zero_add, h2] at h1
    rw [h1, B64_pow, Nat.pow_add, Nat.mul_mod_mul_left]
    obtain ⟨k, hk⟩ : ∃ k, 64 = r + k := ⟨64 - r, by omega⟩
    have h3 : B64 = 2 ^ r * 2 ^ k := by rw [← Nat.pow_add, ← hk]; rfl
    rw [h3, Nat.mul_assoc, Nat.add_mul_mod_self_left, hr.1, Nat.mul_zero]
  · have h1 := digit_bit (b := B64) (e := 64) rfl hd hj hr64
    rw [← h1]
    exact hr.2

def TzO (v k : Nat) : Prop := (v = 0 ∧ k = 0) ∨ (v ≠ 0 ∧ TzIs v k)
theorem TzO.inj {v k l : Nat} (h : TzO v k) (h' : TzO v l) : k = l := by
  rcases h with ⟨h1, rfl⟩ | ⟨h1, h2⟩ <;> rcases h' with ⟨h3, rfl⟩ | ⟨h3, h4⟩
  · rfl
  · exact absurd h1 h3
  · exact absurd h3 h1
  · exact h2.inj h4
theorem TzO.ex (v : Nat) : ∃ k, TzO v k := by
  by_cases h : v = 0
  · exact ⟨0, .inl ⟨h, rfl⟩⟩
  · obtain ⟨k, hk⟩ := TzIs.ex v (by omega)
    exact ⟨k, .inr ⟨h, hk⟩⟩

theorem trail_any {p : Option Addr} {n c : Nat} {xs : List Nat} {k : Nat} {w : World} (h : At w p n c xs) (hn : n ≤ 17592186044416) (hk : TzO (valB B64 xs) k) (hT : Tab w) :
    Calls Tryz.prog 76 #[.slice p n c] w fun e w' => e = .returned (.int .i64 k) ∧ w' = w := by
  have HT : Hid (Tab w) := hT
  have HK : Hid (TzO (valB B64 xs) k) := hk
  have HD : Hid (Dig B64 xs) := h.dig
  have HL : Hid (xs.length = n) := h.len
  have cap := h.cap
  have big := h.big
  unfold maxLen at big
  have HC : Hid (n = 0 ∨ ∃ g off, p = some ⟨g, off, none⟩ ∧ ∀ j, j < n → w.cell? ⟨g, off + j, none⟩ = some (U (xs.getD j 0))) := h.cells
  clear h hk hT
  go_enter Tryz.func76, Tryz.ntmps76
  go_wp2_with fail
  go_loopg [6] n (fun gk iv wr => ∃ j : Nat, j + gk = n ∧ iv = .int .i64 j ∧ Hid (valB B64 (xs.take j) = 0) ∧ wr = w)
  case atStart => exact ⟨0, by omega, rfl, by show _ = _; simp [valB], rfl⟩
  case round =>
    obtain ⟨j, hjg, rfl, HZ, hwr⟩ := hrel
    obtain rfl := hwr.symm
    clear hwr
    cases gk with
    | zero =>
      obtain rfl : j = n := by omega
      have hnk : ¬ (j : Int) < (j : Int) := by omega
      have HK0 : Hid (k = 0) := by
        show _ = _
        have h1 := HZ.out
        rw [List.take_of_length_le (by rw [HL.out]; omega)] at h1
        exact HK.out.inj (.inl ⟨h1, rfl⟩)
      go_wp2_with fail
      go_ret
      exact ⟨ret_int (by have := HK0.out; omega), rfl⟩
    | succ gg =>
      have hjn : j < n := by omega
      obtain ⟨g, off, rfl, hcs⟩ := HC.out.resolve_left (by omega)
      obtain ⟨x, hx⟩ : ∃ x, x = xs.getD j 0 := ⟨_, rfl⟩
      have hcx : w.cell? ⟨g, off + j, none⟩ = some (U x) := by rw [hx]; exact hcs j hjn
      have hjI : (j : Int) < (n : Int) := by omega
      have hwj : IntKind.i64.wrap (j : Int) = (j : Int) := by simp [IntKind.wrap, IntKind.signed, IntKind.bits]; omega
      have hjb : j ≤ 17592186044416 := by omega
      have HXB : Hid (x < B64) := by show _ < _; rw [hx]; exact HD.out.getD B64_pos _
      clear hcs
      by_cases hx0 : x = 0
      · have HZ1 : Hid (valB B64 (xs.take (j + 1)) = 0) := by
          show _ = _
          rw [valB_take_any, HZ.out, ← hx, hx0, Nat.mul_zero]
        subst hx0
        clear hx HZ
        go_wp2_with fail
        go_roundg gg
        case measure => omega
        case rel => exact ⟨j + 1, by omega, by go_num, HZ1, rfl⟩
      · have hxI : ((x : Int) == 0) = false := by simp; omega
        obtain ⟨hr1, hr2⟩ := ctz_is hx0 HXB.out
        generalize Lib.ctz 64 x = r at *
        have HR : Hid (TzIs x r) := hr1
        have HKR : Hid (k = 64 * j + r) := by
          show _ = _
          have h1 := tz_lift HD.out (by rw [HL.out]; omega) HZ.out (hx ▸ hr1) hr2
          refine HK.out.inj (.inr ⟨fun e => ?_, h1⟩)
          have h2 := h1.2
          rw [e, Nat.zero_div] at h2
          exact absurd h2 (by decide)
        clear hr1 hx HZ
        go_wp2_with (go_at_call 111; refine (tz_any hx0 HXB.out HR.out HT.out).mono ?_; rintro e w' ⟨rfl, hw⟩; obtain rfl := hw.symm; clear hw)
        go_ret
        exact ⟨ret_int (by have := HKR.out; omega), rfl⟩
theorem bit_neg (p : Option Addr) (n c : Nat) (i : Int) (hi : i < 0) (w : World) : Calls Tryz.prog 72 #[.slice p n c, .int .i64 i] w fun e w' => e = .returned (.bool false) ∧ w' = w := by
  have hb : decide (i < 0) = true := decide_eq_true hi
  go_enter Tryz.func72, Tryz.ntmps72
  go_wp2_with fail
  go_ret
  exact ⟨rfl, rfl⟩
def bitO (v : Nat) (i : Int) : Bool := if i < 0 then false else decide (v / 2 ^ i.toNat % 2 = 1)
theorem bit_int {p : Option Addr} {n c : Nat} {xs : List Nat} {w : World} (h : At w p n c xs) (hn : n ≤ 17592186044416) (i : Int) (hi : i ≤ 9223372036854775807) :
    Calls Tryz.prog 72 #[.slice p n c, .int .i64 i] w fun e w' => e = .returned (.bool (bitO (valB B64 xs) i)) ∧ w' = w := by
  by_cases h0 : i < 0
  · unfold bitO
    rw [if_pos h0]
    exact bit_neg p n c i h0 w
  · obtain ⟨m, rfl⟩ := Int.eq_ofNat_of_zero_le (by omega : 0 ≤ i)
    unfold bitO
    rw [if_neg h0, Int.toNat_natCast]
    exact bit_any h hn m (by omega)
def fl (s : Bool) (a d : Nat) : Int := iv s (a / d + (s && decide (a % d ≠ 0)).toNat)
def neUp (a d : Nat) : Bool := decide (d < 2 * (a % d)) || (decide (2 * (a % d) = d) && decide (a / d % 2 = 1))
def HfIs (r d : Nat) (h : Int) : Prop := (2 * r < d ∧ h = -1) ∨ (2 * r = d ∧ h = 0) ∨ (d < 2 * r ∧ h = 1)
theorem HfIs.cmp {r d : Nat} (h : r ≤ d) (c : Int) (hc : c = if r < d - r then -1 else if r = d - r then 0 else 1) : HfIs r d c := by
  subst hc
  unfold HfIs
  split
  · left; omega
  · split
    · right; left; omega
    · right; right; omega
theorem HfIs.up {a d : Nat} {h : Int} (k : HfIs (a % d) d h) : neUp a d = (decide (0 < h) || (decide (h = 0) && decide (a / d % 2 = 1))) := by
  unfold neUp
  rcases k with ⟨k, rfl⟩ | ⟨k, rfl⟩ | ⟨k, rfl⟩
  · rw [decide_eq_false (by omega), decide_eq_false (p := 2 * (a % d) = d) (by omega)]; rfl
  · rw [decide_eq_false (by omega), decide_eq_true (p := 2 * (a % d) = d) (by omega)]; rfl
  · rw [decide_eq_true (by omega)]; rfl
theorem ce_le {a d : Nat} (h : a % d ≠ 0) : a / d + 1 ≤ a := by
  rcases Nat.lt_or_ge d 2 with hd | hd
  · have : d = 0 ∨ d = 1 := by omega
    rcases this with rfl | rfl
    · rw [Nat.div_zero]; rw [Nat.mod_zero] at h; omega
    · omega
  · have h1 : a / d ≤ a / 2 := Nat.div_le_div_left hd (by omega)
    rcases Nat.lt_or_ge a 2 with ha | ha
    · have h2 : a ≠ 0 := fun e => h (by rw [e, Nat.zero_mod])
      omega
    · omega
theorem bit_half {a n : Nat} (hn : 0 < n) : (a / 2 ^ (n - 1) % 2 = 1) ↔ 2 ^ n ≤ 2 * (a % 2 ^ n) := by
  obtain ⟨k, rfl⟩ : ∃ k, n = k + 1 := ⟨n - 1, by omega⟩
  rw [Nat.add_sub_cancel, Nat.pow_succ, Nat.mod_mul]
  have h1 : a % 2 ^ k < 2 ^ k := Nat.mod_lt _ (Nat.pow_pos (by omega))
  have h2 : a / 2 ^ k % 2 < 2 := Nat.mod_lt _ (by omega)
  generalize a / 2 ^ k % 2 = b at *
  rcases (by omega : b = 0 ∨ b = 1) with rfl | rfl
  · simp; omega
  · simp; omega
theorem half_eq {a n : Nat} (hn : 0 < n) (h : a / 2 ^ (n - 1) % 2 = 1) : (a % 2 ^ (n - 1) = 0 ↔ 2 * (a % 2 ^ n) = 2 ^ n) := by
  obtain ⟨k, rfl⟩ : ∃ k, n = k + 1 := ⟨n - 1, by omega⟩
  rw [Nat.add_sub_cancel] at *
  rw [Nat.pow_succ, Nat.mod_mul, h]
  omega
theorem bitO_half (a n : Nat) : bitO a ((n : Int) - 1) = decide (2 ^ n ≤ 2 * (a % 2 ^ n)) := by
  unfold bitO
  rcases Nat.eq_zero_or_pos n with rfl | hn
  · rw [if_pos (by omega)]
    exact (decide_eq_false (by omega)).symm
  · rw [if_neg (by omega), show ((n : Int) - 1).toNat = n - 1 from by omega]
    exact decide_eq_decide.2 (bit_half hn)
def AnsZ (B : Nat) (w' : World) (v : Value) (z : Int) : Prop :=
  ∃ p m zs, v = ZV (decide (z < 0)) p m m ∧ Own B w' p m zs ∧ Nf B64 zs z.natAbs ∧ m ≤ 8192
theorem iv_lt (s : Bool) (n : Nat) : decide (iv s n < 0) = (s && decide (0 < n)) := by
  cases s
  · simp [iv]
  · simp only [iv, if_true, Bool.true_and]; exact decide_eq_decide.2 (by omega)
theorem AnsZ.mk {B : Nat} {w' : World} {p : Option Addr} {m : Nat} {zs : List Nat} {q : Nat} (s : Bool) (ho : Own B w' p m zs) (hn : Nf B64 zs q) (hm : m ≤ 8192) : AnsZ B w' (ZV (s && decide (0 < m)) p m m) (iv s q) :=
  ⟨p, m, zs, by rw [iv_lt, hn.lenpos ho.len], ho, by rw [iv_natAbs]; exact hn, hm⟩
theorem own_set2 {B b : Nat} {w' : World} {p : Option Addr} {m : Nat} {zs : List Nat} (h : Own B w' p m zs) {r : Nat} (hr : r < B) (hb : b ≤ B) (v0 v1 : Value) : Own b ((w'.setCell ⟨r, 0, none⟩ v0).setCell ⟨r, 1, none⟩ v1) p m zs :=
  ((h.setOld _ _ _ hr).setOld _ _ _ hr).mono hb
theorem AnsZ.below {B : Nat} {w w' : World} {v : Value} {z : Int} (h : AnsZ B w v z) (hb : Below w.heap.size w w') : AnsZ B w' v z := by
  obtain ⟨p, m, zs, rfl, ho, hn, hm⟩ := h
  exact ⟨p, m, zs, rfl, ho.below hb, hn, hm⟩
abbrev FR (s : Bool) (p : Option Addr) (m c : Nat) (x : Bool) (h : Int) : Value := .agg #[.bool s, .slice p m c, .bool x, .int .i64 h]
structure B4q (W : World) (g : Nat) (v0 v1 v2 v3 : Value) : Prop where
  c0 : W.cell? ⟨g, 0, none⟩ = some v0
  c1 : W.cell? ⟨g, 1, none⟩ = some v1
  c2 : W.cell? ⟨g, 2, none⟩ = some v2
  c3 : W.cell? ⟨g, 3, none⟩ = some v3
  f0 : W.frozen? ⟨g, 0, none⟩ = false
  f1 : W.frozen? ⟨g, 1, none⟩ = false
  f2 : W.frozen? ⟨g, 2, none⟩ = false
  f3 : W.frozen? ⟨g, 3, none⟩ = false
theorem B4q.below {W W' : World} {g : Nat} {v0 v1 v2 v3 : Value} (h : B4q W g v0 v1 v2 v3) (hb : Below W.heap.size W W') : B4q W' g v0 v1 v2 v3 := by
  have hl : g < W.heap.size := World.block_lt_of_cell? W _ h.c0
  exact ⟨(hb.cell (p := ⟨g, 0, none⟩) hl).trans h.c0, (hb.cell (p := ⟨g, 1, none⟩) hl).trans h.c1, (hb.cell (p := ⟨g, 2, none⟩) hl).trans h.c2, (hb.cell (p := ⟨g, 3, none⟩) hl).trans h.c3,
    (hb.frozen (p := ⟨g, 0, none⟩) hl).trans h.f0, (hb.frozen (p := ⟨g, 1, none⟩) hl).trans h.f1, (hb.frozen (p := ⟨g, 2, none⟩) hl).trans h.f2, (hb.frozen (p := ⟨g, 3, none⟩) hl).trans h.f3⟩
theorem B4q.new (w : World) (ty : TypeId) (v0 v1 v2 v3 : Value) : B4q (w.alloc (.cells #[v0, v1, v2, v3] ty)) w.heap.size v0 v1 v2 v3 :=
  ⟨by go_simp, by go_simp, by go_simp, by go_simp, by go_simp, by go_simp, by go_simp, by go_simp⟩
theorem Box.lt {W : World} {g : Nat} {v0 v1 : Value} (h : Box W g v0 v1) : g < W.heap.size := World.block_lt_of_cell? W _ h.c0
theorem B4q.lt {W : World} {g : Nat} {v0 v1 v2 v3 : Value} (h : B4q W g v0 v1 v2 v3) : g < W.heap.size := World.block_lt_of_cell? W _ h.c0
theorem tz_lt {a k n : Nat} (h : TzIs a k) : decide (k < n) = decide (a % 2 ^ n ≠ 0) := by
  by_cases hk : k < n
  · rw [decide_eq_true hk, decide_eq_true]
    intro e
    have := h.ge e
    omega
  · rw [decide_eq_false hk, decide_eq_false]
    intro e
    apply e
    have h1 := Nat.dvd_of_mod_eq_zero h.1
    exact Nat.mod_eq_zero_of_dvd (Nat.dvd_trans (Nat.pow_dvd_pow 2 (by omega)) h1)
theorem Own.setNot {B : Nat} {w : World} {p : Option Addr} {m : Nat} {zs : List Nat} (h : Own B w p m zs) (g2 o2 : Nat) (v : Value) (hne : ∀ g, p = some ⟨g, 0, none⟩ → 0 < m → g ≠ g2) : Own B (w.setCell ⟨g2, o2, none⟩ v) p m zs := by
  refine ⟨h.len, h.dig, ?_⟩
  rcases h.mem with h0 | ⟨g, hp, hB, hr⟩
  · exact .inl h0
  · by_cases hm : m = 0
    · exact .inl hm
    · exact .inr ⟨g, hp, hB, hr.oth g2 o2 v (hne g hp (by omega))⟩
theorem half_lt {a n : Nat} {h : Int} (hb : false = bitO a ((n : Int) - 1)) (hh : h = -1) : HfIs (a % 2 ^ n) (2 ^ n) h := by
  rw [bitO_half] at hb
  have := of_decide_eq_false hb.symm
  exact .inl ⟨by omega, hh⟩
theorem half_ge {a n k : Nat} {h : Int} (hb : true = bitO a ((n : Int) - 1)) (ht : TzIs a k) (hh : h = if (k : Int) < (n : Int) - 1 then 1 else 0) : HfIs (a % 2 ^ n) (2 ^ n) h := by
  have h0 : 0 < n := by
    rcases Nat.eq_zero_or_pos n with rfl | h
    · unfold bitO at hb; rw [if_pos (by omega)] at hb; cases hb
    · exact h
  have h2 : a / 2 ^ (n - 1) % 2 = 1 := by
    unfold bitO at hb
    rw [if_neg (by omega), show ((n : Int) - 1).toNat = n - 1 from by omega] at hb
    exact of_decide_eq_true hb.symm
  have h1 := of_decide_eq_true ((bitO_half a n).symm.trans hb.symm)
  have h3 := half_eq h0 h2
  have h4 := tz_lt (n := n - 1) ht
  by_cases hk : k < n - 1
  · rw [if_pos (by omega)] at hh
    rw [decide_eq_true hk] at h4
    have := of_decide_eq_true h4.symm
    have : 2 * (a % 2 ^ n) ≠ 2 ^ n := fun e => this (h3.2 e)
    exact .inr (.inr ⟨by omega, hh⟩)
  · rw [if_neg (by omega)] at hh
    rw [decide_eq_false hk] at h4
    have := of_decide_eq_false h4.symm
    have : 2 * (a % 2 ^ n) = 2 ^ n := h3.1 (by omega)
    exact .inr (.inl ⟨this, hh⟩)
def sgnI (z : Int) : Int := if z < 0 then -1 else if z = 0 then 0 else 1
theorem bits_zero (a : Nat) : bitsN a = 0 ↔ a = 0 := by
  have h1 := lt_pow_bits a 0
  constructor
  · intro e
    have := h1.2 (by omega)
    omega
  · rintro rfl
    have := h1.1 (by omega)
    omega
theorem sign_any {p : Option Addr} {m c : Nat} {xs : List Nat} {a : Nat} {w : World} (s : Bool) (h : Num w p m c xs a) :
    Calls Tryz.prog 42 #[ZV s p m c] w fun e w' => e = .returned (.int .i64 (sgnI (iv s a))) ∧ Below w.heap.size w w' := by
  have H : Hid (Num w p m c xs a) := h
  have hm := h.le
  obtain ⟨bb, hbb⟩ : ∃ bb, bb = bitsN a := ⟨_, rfl⟩
  have HBB : Hid (bb = bitsN a) := hbb
  clear h hbb
  by_cases ha : a = 0
  · have hb0 : bb = 0 := by rw [HBB.out]; exact (bits_zero a).2 ha
    have hr : sgnI (iv s a) = 0 := by rw [ha]; cases s <;> rfl
    rw [hr]
    clear hr ha
    go_enter Tryz.func42, Tryz.ntmps42
    go_wp2_with fail
    refine (bits_any (H.out.at_.alloc _) (by omega)).mono ?_
    rintro e w1 ⟨rfl, hw⟩
    rw [H.out.nf.val, ← HBB.out, hb0]
    have hbw : Below w.heap.size w w1 := by rw [hw]; exact below1 w _
    clear hw hb0
    go_wp2_with fail
    go_ret
    exact ⟨rfl, hbw⟩
  · have hb0 : ((bb : Int) == 0) = false := by have := mt (bits_zero a).1 ha; rw [← HBB.out] at this; simpa using this
    obtain ⟨sg, hsg⟩ : ∃ sg, sg = sgnI (iv s a) := ⟨_, rfl⟩
    rw [← hsg]
    have HSG : Hid (sg = if s = true then -1 else 1) := by
      show _ = _
      rw [hsg]; unfold sgnI
      cases s
      · rw [iv_f, if_neg (by omega), if_neg (by omega), if_neg (by simp)]
      · rw [iv_t, if_pos (by omega), if_pos rfl]
    clear hsg ha
    cases s
    · go_enter Tryz.func42, Tryz.ntmps42
      go_wp2_with fail
      refine (bits_any (H.out.at_.alloc _) (by omega)).mono ?_
      rintro e w1 ⟨rfl, hw⟩
      rw [H.out.nf.val, ← HBB.out]
      have hbw : Below w.heap.size w w1 := by rw [hw]; exact below1 w _
      have B0 : Box (w.alloc (.cells #[.bool false, .slice p m c] 36)) w.heap.size (.bool false) (.slice p m c) := ⟨by go_simp, by go_simp, by go_simp, by go_simp⟩
      obtain ⟨c0, c1, f0, f1⟩ := B0
      rw [← hw] at c0 c1 f0 f1
      clear hw
      go_wp2_with fail
      go_ret
      exact ⟨by rw [HSG.out]; rfl, hbw⟩
    · go_enter Tryz.func42, Tryz.ntmps42
      go_wp2_with fail
      refine (bits_any (H.out.at_.alloc _) (by omega)).mono ?_
      rintro e w1 ⟨rfl, hw⟩
      rw [H.out.nf.val, ← HBB.out]
      have hbw : Below w.heap.size w w1 := by rw [hw]; exact below1 w _
      have B0 : Box (w.alloc (.cells #[.bool true, .slice p m c] 36)) w.heap.size (.bool true) (.slice p m c) := ⟨by go_simp, by go_simp, by go_simp, by go_simp⟩
      obtain ⟨c0, c1, f0, f1⟩ := B0
      rw [← hw] at c0 c1 f0 f1
      clear hw
      go_wp2_with fail
      go_ret
      exact ⟨by rw [HSG.out]; rfl, hbw⟩
theorem Box.put {W : World} {g : Nat} {v0 v1 : Value} (h : Box W g v0 v1) (u0 u1 : Value) : Box ((W.setCell ⟨g, 0, none⟩ u0).setCell ⟨g, 1, none⟩ u1) g u0 u1 := by
  obtain ⟨c0, c1, f0, f1⟩ := h
  exact ⟨by go_simp, by go_simp, by go_simp, by go_simp⟩
structure ZR (w : World) (s : Bool) (p : Option Addr) (m : Nat) (z : Int) : Prop where
  ex : ∃ zs, At32 w p m m zs ∧ Nf B32 zs z.natAbs
  sg : s = decide (z < 0)
theorem ZR.below {w w' : World} {s : Bool} {p : Option Addr} {m : Nat} {z : Int} (h : ZR w s p m z) (hb : Below w.heap.size w w') : ZR w' s p m z := by
  obtain ⟨zs, hA, hN⟩ := h.ex
  exact ⟨⟨zs, hA.below hb, hN⟩, h.sg⟩
theorem ZR.cast {w : World} {s : Bool} {p : Option Addr} {m : Nat} {z z' : Int} (h : ZR w s p m z) (e : z = z') : ZR w s p m z' := e ▸ h
theorem ZR.zero {w : World} {s : Bool} {p : Option Addr} {m : Nat} {z : Int} (h : ZR w s p m z) : m = 0 ↔ z = 0 := by
  obtain ⟨zs, hA, hN⟩ := h.ex
  have h1 := hN.zero_iff B32_one
  have h2 := hA.len
  constructor
  · intro e
    have := h1.1 (List.eq_nil_of_length_eq_zero (by omega))
    omega
  · intro e
    have := h1.2 (by omega)
    rw [← h2, this]; rfl
theorem ZR.iv {w : World} {s : Bool} {p : Option Addr} {m : Nat} {z : Int} (h : ZR w s p m z) : Go.Proofs.YtidggnjnlhjhlaaGreatDoor.iv s z.natAbs = z := by rw [h.sg]; exact iv_abs z
def GotR (B : Nat) (w' : World) (v : Value) (z : Int) (L : Nat) : Prop := ∃ s g m, v = .agg #[.bool s, .slice (some ⟨g, 0, none⟩) m m] ∧ B ≤ g ∧ ZR w' s (some ⟨g, 0, none⟩) m z ∧ m ≤ L
theorem ZR.set {w : World} {s : Bool} {g m : Nat} {z : Int} (h : ZR w s (some ⟨g, 0, none⟩) m z) (g2 o2 : Nat) (v : Value) (hne : g ≠ g2) : ZR (w.setCell ⟨g2, o2, none⟩ v) s (some ⟨g, 0, none⟩) m z := by
  obtain ⟨zs, hA, hN⟩ := h.ex
  exact ⟨⟨zs, hA.setOther g2 o2 v hne, hN⟩, h.sg⟩
theorem rmk_any {p : Option Addr} {n c : Nat} {xs : List Nat} {a : Nat} {w : World} (s : Bool) (h : At32 w p n c xs) (hx : Nf B32 xs a) (hn : n ≤ 35184372088832) :
    Calls Tryz.prog 123 #[.bool s, .slice p n c] w fun e w' => ∃ v, e = .returned v ∧ GotR w.heap.size w' v (iv s a) n ∧ Below w.heap.size w w' := by
  refine (mk04 s h hn).mono ?_
  rintro e w1 ⟨g, m, hm, rfl, hg, hA, hb⟩
  rw [trimL_of_Top hx.top] at hm hA
  have hl := h.len
  refine ⟨_, rfl, ⟨_, g, m, rfl, hg, ⟨⟨xs, hA, by rw [iv_natAbs]; exact hx⟩, ?_⟩, by omega⟩, hb⟩
  rw [iv_lt]
  have : decide (0 < m) = decide (0 < a) := by
    refine decide_eq_decide.2 ?_
    have h1 := hx.zero_iff B32_one
    constructor
    · intro h0
      rcases Nat.eq_zero_or_pos a with e | e
      · have := h1.2 e; rw [this] at hm; simp at hm; omega
      · exact e
    · intro h0
      rcases Nat.eq_zero_or_pos m with e | e
      · have := h1.1 (List.eq_nil_of_length_eq_zero (by omega)); omega
      · exact e
  rw [this]
theorem rflip_any {p : Option Addr} {m : Nat} {w : World} {z : Int} (s : Bool) (h : ZR w s p m z) (hm : m ≤ 100000) :
    Calls Tryz.prog 91 #[.agg #[.bool s, .slice p m m]] w fun e w' => ∃ v, e = .returned v ∧ GotR w.heap.size w' v (-z) m ∧ Below w.heap.size w w' := by
  have HA : Hid (ZR w s p m z) := h
  have HM : Hid (m ≤ 100000) := hm
  clear h hm
  go_enter Tryz.func91, Tryz.ntmps91
  go_wp2_with fail
  obtain ⟨W0, hW0⟩ : ∃ W0, W0 = ((w.alloc (.cells #[.bool s, .slice p m m] 87)).alloc (.cells #[.bool false, .slice none 0 0] 87)) := ⟨_, rfl⟩
  have Xa : Hid (Box W0 (w.heap.size) (.bool s) (.slice p m m)) := by rw [hW0]; exact ⟨by go_simp, by go_simp, by go_simp, by go_simp⟩
  have Xr : Hid (Box W0 (w.heap.size + 1) (.bool false) (.slice none 0 0)) := by rw [hW0]; exact ⟨by go_simp, by go_simp, by go_simp, by go_simp⟩
  have hb0 : Below w.heap.size w W0 := by rw [hW0]; exact below2 w _ _
  rw [← hW0]
  clear hW0
  have hbw : Below w.heap.size w w := Below.refl _ _
  obtain ⟨gr, hgr⟩ : ∃ g, g = w.heap.size + 1 := ⟨_, rfl⟩
  have HGr : Hid (w.heap.size ≤ gr) := by rw [hgr]; show _ ≤ _; omega
  rw [← hgr] at Xr
  try rw [← hgr]
  obtain ⟨ga, hga⟩ : ∃ g, g = w.heap.size := ⟨_, rfl⟩
  have HGa : Hid (w.heap.size ≤ ga) := by rw [hga]; show _ ≤ _; omega
  rw [← hga] at Xa
  try rw [← hga]
  have HGD : Hid (ga ≠ gr ∧ gr ≠ ga) := by rw [hga, hgr]; exact ⟨by omega, by omega⟩
  clear hga hgr
  replace HA : Hid _ := HA.out.below hb0
  replace hbw := Below.on hbw hb0
  clear hb0
  obtain ⟨zs, hA, hN⟩ := HA.out.ex
  have HRL : Hid (gr < W0.heap.size) := Xr.out.lt
  have hiv : iv (!s) z.natAbs = -z := by rw [iv_not, HA.out.iv]
  refine (rmk_any (!s) hA hN (by have := HM.out; omega)).mono ?_
  rintro e w1 ⟨v, rfl, hv, hb1⟩
  rw [hiv] at hv
  obtain ⟨s1, g1, m1, rfl, hg1, hz1, hl1⟩ := hv
  clear hA hN hiv
  have HGE : Hid (W0.heap.size ≤ g1 ∧ w.heap.size ≤ W0.heap.size) := ⟨hg1, hbw.size⟩
  replace Xa : Hid _ := Xa.out.below hb1
  replace Xr : Hid _ := Xr.out.below hb1
  replace HA : Hid _ := HA.out.below hb1
  replace hbw := Below.on hbw hb1
  clear hb1
  have ZA : Hid (ZR w1 s1 (some ⟨g1, 0, none⟩) m1 (-z)) := hz1
  have HL : Hid (m1 ≤ m) := hl1
  clear hg1 hz1 hl1
  obtain ⟨cr0, cr1, fr0, fr1⟩ := Xr.out
  have hner := Xr.out.lt
  go_wp2_with fail
  refine bodyPost_ret (v := .agg #[.bool s1, .slice (some ⟨g1, 0, none⟩) m1 m1]) (by rw [results_cell1 rfl]; go_simp) rfl ⟨_, rfl, ⟨s1, g1, m1, rfl, ?_, ?_, HL.out⟩, ?_⟩
  · exact Nat.le_trans HGE.out.2 HGE.out.1
  · have := HGE.out.1; have := HRL.out
    exact (ZA.out.set _ _ _ (by omega)).set _ _ _ (by omega)
  · exact bSet (bSet hbw _ _ _ HGr.out) _ _ _ HGr.out
end Go.Proofs.YtidggnjnlhjhlaaGreatDoor
