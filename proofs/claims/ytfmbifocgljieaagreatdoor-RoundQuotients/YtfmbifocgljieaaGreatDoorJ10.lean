import Derived.Test.YtfmbifocgljieaaGreatDoorMem
import Derived.Laws.Bits64b
import Derived.Test.YtfmbifocgljieaaGreatDoorJ8
import Derived.Test.YtfmbifocgljieaaGreatDoorJ9
import Derived.Deep.RegionLaw
import Derived.Deep.RegionWith
import Derived.Deep.LoopGhost
import Derived.Shelf.Spec.TrailingZeros
namespace Go.Proofs.YtfmbifocgljieaaGreatDoor
open Go.RowKit
set_option maxRecDepth 100000
set_option maxHeartbeats 0
theorem B64_p : B64 = 2 ^ 64 := rfl
theorem pow_split (s : Nat) (hs : s ≤ 64) : 2 ^ s * 2 ^ (64 - s) = B64 := by rw [← Nat.pow_add, show s + (64 - s) = 64 by omega]; rfl

def shlW (x s : Nat) : Nat := x * 2 ^ s % B64
theorem shlW_lt (x s : Nat) : shlW x s < B64 := Nat.mod_lt _ B64_pos
theorem shlW_eq (x s : Nat) (hs : s ≤ 64) : shlW x s = 2 ^ s * (x % 2 ^ (64 - s)) := by
  unfold shlW
  rw [← pow_split s hs, Nat.mul_comm x, Nat.mul_mod_mul_left]
theorem shrW_eq (y s : Nat) (hs : s ≤ 64) : y / 2 ^ (64 - s) = y * 2 ^ s / B64 := by
  rw [← pow_split s hs, Nat.mul_comm y, Nat.mul_div_mul_left _ _ (Nat.two_pow_pos s)]
theorem shrW_lt (y s : Nat) (hs : s ≤ 64) (hy : y < B64) : y / 2 ^ (64 - s) < 2 ^ s := by
  rw [Nat.div_lt_iff_lt_mul (Nat.two_pow_pos _), pow_split s hs]; exact hy
theorem or_low (s A b : Nat) (hb : b < 2 ^ s) : (2 ^ s * A) ||| b = 2 ^ s * A + b := (Nat.two_pow_add_eq_or_of_lt hb A).symm

theorem int_pow (s : Nat) : ((2 : Int) ^ s) = ((2 ^ s : Nat) : Int) := by
  induction s with
  | zero => rfl
  | succ s ih => rw [Int.pow_succ, ih, Nat.pow_succ]; simp
theorem walk_shl (x s : Nat) : Value.int .u64 (IntKind.u64.wrap ((x : Int) * 2 ^ s)) = U (shlW x s) := by
  unfold U shlW
  rw [int_pow, IntKind.wrap_u64, B64_eq, ← Int.natCast_mul]
  congr 1
theorem walk_shr (y s : Nat) : Value.int .u64 ((y : Int) / 2 ^ s) = U (y / 2 ^ s) := by
  unfold U
  rw [int_pow]
  congr 1
theorem walk_or (a b : Nat) (ha : a < B64) (hb : b < B64) : bits .or .u64 (a : Int) (b : Int) = ((a ||| b : Nat) : Int) := by
  rw [B64_eq] at ha hb
  exact bits_or_u64_nat a b ha hb
theorem wrap_nat (x s : Nat) : IntKind.u64.wrap ((x : Int) * 2 ^ s) = ((shlW x s : Nat) : Int) := by
  have := walk_shl x s
  simpa [U] using this
theorem div_nat (y s : Nat) : (y : Int) / 2 ^ s = ((y / 2 ^ s : Nat) : Int) := by
  simp
theorem walk_up (x y s : Nat) (hs : s ≤ 64) (hy : y < B64) : Value.int .u64 (bits .or .u64 (IntKind.u64.wrap ((x : Int) * 2 ^ s)) ((y : Int) / 2 ^ (64 - s))) = U (shlW x s + y * 2 ^ s / B64) := by
  have h1 := shrW_lt y s hs hy
  have h2 : 2 ^ s ≤ B64 := by rw [B64_p]; exact Nat.pow_le_pow_right (by decide) hs
  rw [wrap_nat, div_nat, walk_or _ _ (shlW_lt x s) (by omega), shlW_eq x s hs, or_low s _ _ h1, shrW_eq y s hs]
theorem up_lt (x y s : Nat) (hs : s ≤ 64) (hy : y < B64) : shlW x s + y * 2 ^ s / B64 < B64 := by
  have h1 := shrW_lt y s hs hy
  rw [← shrW_eq y s hs, shlW_eq x s hs]
  have h2 : x % 2 ^ (64 - s) + 1 ≤ 2 ^ (64 - s) := Nat.mod_lt _ (Nat.two_pow_pos _)
  have h3 := Nat.mul_le_mul_left (2 ^ s) h2
  rw [pow_split s hs, Nat.mul_add] at h3
  omega
theorem walk_down (x z s : Nat) (hs : s ≤ 64) (hx : x < B64) : Value.int .u64 (bits .or .u64 ((x : Int) / 2 ^ s) (IntKind.u64.wrap ((z : Int) * 2 ^ (64 - s)))) = U (x / 2 ^ s + 2 ^ (64 - s) * (z % 2 ^ s)) := by
  have e : 64 - (64 - s) = s := by omega
  have h1 := shrW_lt x (64 - s) (by omega) hx
  rw [e] at h1
  have h2 : 2 ^ (64 - s) ≤ B64 := by rw [B64_p]; exact Nat.pow_le_pow_right (by decide) (by omega)
  rw [wrap_nat, div_nat, walk_or _ _ (by omega) (shlW_lt _ _), shlW_eq z (64 - s) (by omega), e, Nat.or_comm, or_low (64 - s) _ _ h1, Nat.add_comm]
theorem down_lt (x z s : Nat) (hs : s ≤ 64) (hx : x < B64) : x / 2 ^ s + 2 ^ (64 - s) * (z % 2 ^ s) < B64 := by
  have e : 64 - (64 - s) = s := by omega
  have h1 := shrW_lt x (64 - s) (by omega) hx
  rw [e] at h1
  have h2 : z % 2 ^ s + 1 ≤ 2 ^ s := Nat.mod_lt _ (Nat.two_pow_pos _)
  have h3 := Nat.mul_le_mul_left (2 ^ (64 - s)) h2
  rw [Nat.mul_comm (2 ^ (64 - s)) (2 ^ s), pow_split s hs, Nat.mul_add] at h3
  omega

def cin (zs : List Nat) (s j : Nat) : Nat := if j = 0 then 0 else zs.getD (j - 1) 0 * 2 ^ s / B64
theorem up_step {zs T : List Nat} {s a ov k d : Nat} (ha : a < zs.length) (hd : d = shlW (zs.getD a 0) s + cin zs s a) (h : valB B64 T + B64 ^ k * ov = 2 ^ s * valB B64 (zs.drop (a + 1)) + cin zs s (a + 1)) :
    valB B64 (d :: T) + B64 ^ (k + 1) * ov = 2 ^ s * valB B64 (zs.drop a) + cin zs s a := by
  have e1 : cin zs s (a + 1) = zs.getD a 0 * 2 ^ s / B64 := by unfold cin; rw [if_neg (by omega), Nat.add_sub_cancel]
  have e2 := Nat.mod_add_div (zs.getD a 0 * 2 ^ s) B64
  rw [valB_cons, valB_drop _ zs a ha, hd]
  unfold shlW
  rw [e1] at h
  have e3 : B64 * (valB B64 T + B64 ^ k * ov) = B64 * (2 ^ s * valB B64 (zs.drop (a + 1)) + zs.getD a 0 * 2 ^ s / B64) := by rw [h]
  rw [Nat.mul_add, Nat.mul_add] at e3
  rw [Nat.pow_succ, Nat.mul_add]
  have e4 : B64 ^ k * B64 * ov = B64 * (B64 ^ k * ov) := by rw [Nat.mul_comm (B64 ^ k) B64, Nat.mul_assoc]
  have e5 : 2 ^ s * (B64 * valB B64 (zs.drop (a + 1))) = B64 * (2 ^ s * valB B64 (zs.drop (a + 1))) := by rw [← Nat.mul_assoc, ← Nat.mul_assoc, Nat.mul_comm (2 ^ s) B64]
  rw [e4, e5, Nat.mul_comm (2 ^ s) (zs.getD a 0)]
  generalize B64 * (B64 ^ k * ov) = X1 at *
  generalize B64 * (2 ^ s * valB B64 (zs.drop (a + 1))) = X2 at *
  generalize B64 * valB B64 T = X3 at *
  generalize B64 * (zs.getD a 0 * 2 ^ s / B64) = X4 at *
  generalize zs.getD a 0 * 2 ^ s = X5 at *
  omega

def cout (zs : List Nat) (s j : Nat) : Nat := zs.getD j 0 % 2 ^ s
theorem down_step {zs dk : List Nat} {s i rem d : Nat} (hs : s ≤ 64) (hd : d = zs.getD i 0 / 2 ^ s + 2 ^ (64 - s) * cout zs s (i + 1)) (h : 2 ^ s * valB B64 (dk.take i) + rem = valB B64 (zs.take i) + B64 ^ i * cout zs s i) (hi : i < zs.length) :
    2 ^ s * (valB B64 (dk.take i) + B64 ^ i * d) + rem = valB B64 (zs.take (i + 1)) + B64 ^ (i + 1) * cout zs s (i + 1) := by
  have e1 := Nat.mod_add_div (zs.getD i 0) (2 ^ s)
  rw [valB_take_succ _ zs i hi, Nat.pow_succ, hd, Nat.mul_add (2 ^ s)]
  have e2 : 2 ^ s * (B64 ^ i * (zs.getD i 0 / 2 ^ s + 2 ^ (64 - s) * cout zs s (i + 1))) = B64 ^ i * (2 ^ s * (zs.getD i 0 / 2 ^ s)) + B64 ^ i * B64 * cout zs s (i + 1) := by
    rw [← Nat.mul_assoc, Nat.mul_comm (2 ^ s) (B64 ^ i), Nat.mul_assoc, Nat.mul_add, Nat.mul_add, ← Nat.mul_assoc (2 ^ s) (2 ^ (64 - s)), pow_split s hs, Nat.mul_assoc]
  have e3 : B64 ^ i * (zs.getD i 0 % 2 ^ s) + B64 ^ i * (2 ^ s * (zs.getD i 0 / 2 ^ s)) = B64 ^ i * zs.getD i 0 := by rw [← Nat.mul_add, e1]
  rw [e2]
  have e4 : cout zs s i = zs.getD i 0 % 2 ^ s := rfl
  rw [e4] at h
  generalize B64 ^ i * (2 ^ s * (zs.getD i 0 / 2 ^ s)) = X1 at *
  generalize B64 ^ i * (zs.getD i 0 % 2 ^ s) = X2 at *
  generalize B64 ^ i * B64 * cout zs s (i + 1) = X3 at *
  omega
end Go.Proofs.YtfmbifocgljieaaGreatDoor
namespace Go.Proofs.YtfmbifocgljieaaGreatDoor
set_option maxRecDepth 100000
set_option maxHeartbeats 0
theorem kn_init {b y1 y0 u d : Nat} (hd : d < b) (hu : u < y1 * b + y0) (h0 : y0 < b) (h1 : b ≤ 2 * y1) : (u * b + d) / (y1 * b + y0) ≤ u / y1 ∧ u / y1 ≤ b + 1 := by
  have hy1 : 0 < y1 := by omega
  have hY : 0 < y1 * b + y0 := by
    have := Nat.mul_pos hy1 (show 0 < b by omega)
    omega
  have hm := Nat.div_add_mod u y1
  have hl := Nat.mod_lt u hy1
  refine ⟨?_, ?_⟩
  · refine Nat.le_of_lt_succ ((Nat.div_lt_iff_lt_mul hY).2 ?_)
    have a1 : (u + 1) * b ≤ (u / y1 + 1) * y1 * b := by
      refine Nat.mul_le_mul_right b ?_
      rw [Nat.add_mul, Nat.one_mul, Nat.mul_comm (u / y1) y1]; omega
    have a2 : (u / y1 + 1) * (y1 * b + y0) = (u / y1 + 1) * y1 * b + (u / y1 + 1) * y0 := by rw [Nat.mul_add, Nat.mul_assoc]
    rw [Nat.succ_eq_add_one, a2]
    rw [Nat.add_mul, Nat.one_mul] at a1
    omega
  · refine Nat.le_of_lt_succ ((Nat.div_lt_iff_lt_mul hy1).2 ?_)
    have : (b + 1).succ * y1 = y1 * b + 2 * y1 := by rw [Nat.succ_eq_add_one, show b + 1 + 1 = b + 2 by omega, Nat.add_mul, Nat.mul_comm b y1]
    rw [this]; omega
theorem kn_more {b y1 y0 u d q r : Nat} (hd : d < b) (hu : u < y1 * b + y0) (hq : q * y1 + r = u) (hc : b ≤ q ∨ b * r + d < q * y0) : (u * b + d) / (y1 * b + y0) + 1 ≤ q := by
  refine (Nat.div_lt_iff_lt_mul (by omega)).2 ?_
  rcases hc with hc | hc
  · have a1 : b * (y1 * b + y0) ≤ q * (y1 * b + y0) := Nat.mul_le_mul_right _ hc
    have a2 : b * (u + 1) ≤ b * (y1 * b + y0) := Nat.mul_le_mul_left _ hu
    rw [Nat.mul_add, Nat.mul_one, Nat.mul_comm b u] at a2
    omega
  · have a1 : q * (y1 * b + y0) = q * y1 * b + q * y0 := by rw [Nat.mul_add, Nat.mul_assoc]
    have a2 : u * b = q * y1 * b + r * b := by rw [← hq, Nat.add_mul]
    rw [Nat.mul_comm b r] at hc
    omega
theorem kn_exit {b y1 y0 u d q r : Nat} (hu : u < y1 * b + y0) (hq : q * y1 + r = u) (hQ : (u * b + d) / (y1 * b + y0) ≤ q) (hc : q * y0 ≤ b * r + d) : q = (u * b + d) / (y1 * b + y0) := by
  refine Nat.le_antisymm ((Nat.le_div_iff_mul_le (by omega)).2 ?_) hQ
  have a1 : q * (y1 * b + y0) = q * y1 * b + q * y0 := by rw [Nat.mul_add, Nat.mul_assoc]
  have a2 : u * b = q * y1 * b + r * b := by rw [← hq, Nat.add_mul]
  rw [Nat.mul_comm b r] at hc
  omega
theorem kn_far {b y0 d q r : Nat} (h0 : y0 < b) (hq : q ≤ b) (hr : b ≤ r) : q * y0 ≤ b * r + d := by
  have a1 : q * y0 ≤ b * b := Nat.mul_le_mul hq (by omega)
  have a2 : b * b ≤ b * r := Nat.mul_le_mul_left b hr
  omega
theorem kn_lt {b y1 y0 u d : Nat} (hd : d < b) (hu : u < y1 * b + y0) : (u * b + d) / (y1 * b + y0) < b := by
  refine (Nat.div_lt_iff_lt_mul (by omega)).2 ?_
  have a2 : b * (u + 1) ≤ b * (y1 * b + y0) := Nat.mul_le_mul_left _ hu
  rw [Nat.mul_add, Nat.mul_one, Nat.mul_comm b u] at a2
  omega

theorem kn_join {b Y u un1 un0 q1 q0 r1 r0 : Nat} (h1 : u * b + un1 = q1 * Y + r1) (h0 : r1 * b + un0 = q0 * Y + r0) : u * (b * b) + (un1 * b + un0) = (q1 * b + q0) * Y + r0 := by
  have e1 : (u * b + un1) * b = (q1 * Y + r1) * b := by rw [h1]
  rw [Nat.add_mul, Nat.add_mul] at e1
  have e2 : u * b * b = u * (b * b) := Nat.mul_assoc _ _ _
  have e3 : q1 * Y * b = q1 * b * Y := by rw [Nat.mul_assoc, Nat.mul_comm Y b, ← Nat.mul_assoc]
  rw [Nat.add_mul]
  omega
theorem kn_scale {P y n q r0 : Nat} (hP : 0 < P) (h : P * n = q * (y * P) + r0) (hr : r0 < y * P) : n = q * y + r0 / P ∧ r0 / P < y := by
  have e : q * (y * P) = P * (q * y) := by rw [← Nat.mul_assoc, Nat.mul_comm]
  rw [e] at h
  have hd : P ∣ r0 := by
    have : r0 = P * n - P * (q * y) := by omega
    rw [this, ← Nat.mul_sub]; exact Nat.dvd_mul_right _ _
  obtain ⟨t, rfl⟩ := hd
  rw [Nat.mul_div_cancel_left _ hP]
  rw [← Nat.mul_add] at h
  refine ⟨Nat.eq_of_mul_eq_mul_left hP h, ?_⟩
  rw [Nat.mul_comm y P] at hr
  exact Nat.lt_of_mul_lt_mul_left hr
end Go.Proofs.YtfmbifocgljieaaGreatDoor
namespace Go.Proofs.YtfmbifocgljieaaGreatDoor
open Go.RowKit
set_option maxRecDepth 100000
set_option maxHeartbeats 0
theorem lz_any (x s : Nat) (w : World) (hx : x < B64) (hs : s + bitsN x = 64) : Calls Tryz.prog 109 #[U x] w fun e w' => e = .returned (.int .i64 s) ∧ w' = w := by
  go_enter Tryz.func109, Tryz.ntmps109
  go_wp2_with fail
  refine (len_any x _ hx).mono ?_
  rintro e w' ⟨rfl, hw⟩
  obtain rfl := hw.symm
  clear hw
  go_wp2_with fail
  go_ret
  exact ⟨ret_int (by omega), rfl⟩

theorem wrap_mod (n : Int) (m : Nat) (h : n % 18446744073709551616 = (m : Int)) : IntKind.u64.wrap n = (m : Int) := by rw [IntKind.wrap_u64]; exact h
theorem u_quo (lo y : Nat) (hlo : lo < B64) : IntKind.u64.wrap ((lo : Int) / (y : Int)) = ((lo / y : Nat) : Int) := by
  have := Nat.div_le_self lo y
  rw [B64_eq] at hlo
  refine wrap_mod _ _ ?_
  rw [← Int.natCast_ediv]
  generalize lo / y = Q at *
  omega

theorem div64_zero (lo y : Nat) (w : World) (hy0 : ((y : Int) == 0) = false) (hlo : lo < B64) :
    Calls Tryz.prog 108 #[U 0, U lo, U y] w fun e w' => e = .returned (.tuple #[U (lo / y), U (lo % y)]) ∧ ∃ r, w' = w.drewN r := by
  have hy : 0 < y := by simp at hy0; omega
  have hq := u_quo lo y hlo
  generalize lo / y = Q at *
  go_enter Tryz.func108, Tryz.ntmps108
  go_wp2_with fail
  go_quiet (fail)
  go_wp2_with fail
  go_ret2
  exact ⟨rfl, _, rfl⟩

structure Kn (y1 y0 u d q r : Nat) : Prop where
  eq : q * y1 + r = u
  ge : (u * 4294967296 + d) / (y1 * 4294967296 + y0) ≤ q
  le : q ≤ 4294967297
def jq (a b : Nat) : Nat := a * 4294967296 + b
structure KnB (r : Nat) : Prop where
  lt : r < 4294967296
structure KnC (y1 y0 u d : Nat) : Prop where
  hy0 : y0 < 4294967296
  hd : d < 4294967296
  hu : u < y1 * 4294967296 + y0
  hy1 : 4294967296 ≤ 2 * y1
theorem Kn.init {y1 y0 u d : Nat} (h : KnC y1 y0 u d) : Kn y1 y0 u d (u / y1) (u - u / y1 * y1) := by
  have := kn_init h.hd h.hu h.hy0 h.hy1
  have h2 := Nat.div_mul_le_self u y1
  exact ⟨by omega, this.1, this.2⟩
theorem Kn.down {y1 y0 u d q r : Nat} (k : Kn y1 y0 u d q r) (h : KnC y1 y0 u d) (hc : 4294967296 ≤ q ∨ 4294967296 * r + d < q * y0) : 1 ≤ q ∧ Kn y1 y0 u d (q - 1) (r + y1) := by
  have h1 := kn_more h.hd h.hu k.eq hc
  have h2 := k.le
  have h3 := k.eq
  refine ⟨by generalize (u * 4294967296 + d) / (y1 * 4294967296 + y0) = T at *; omega, ?_, by generalize (u * 4294967296 + d) / (y1 * 4294967296 + y0) = T at *; omega, by omega⟩
  have h4 : 1 ≤ q := by generalize (u * 4294967296 + d) / (y1 * 4294967296 + y0) = T at *; omega
  obtain ⟨t, rfl⟩ : ∃ t, q = t + 1 := ⟨q - 1, by omega⟩
  rw [Nat.add_sub_cancel]
  rw [Nat.add_mul, Nat.one_mul] at h3
  omega
theorem dm (N M : Nat) : N = N / M * M + N % M := by rw [Nat.mul_comm]; exact (Nat.div_add_mod N M).symm
structure KnD (y1 y0 u d q : Nat) (rest : Nat) : Prop where
  lt : q < 4294967296
  eq : u * 4294967296 + d = q * (y1 * 4294967296 + y0) + rest
  rlt : rest < y1 * 4294967296 + y0
theorem Kn.done {y1 y0 u d q r : Nat} (k : Kn y1 y0 u d q r) (h : KnC y1 y0 u d) (hc : q * y0 ≤ 4294967296 * r + d) : KnD y1 y0 u d q ((u * 4294967296 + d) % (y1 * 4294967296 + y0)) := by
  have h1 := kn_exit h.hu k.eq k.ge hc
  have h2 := kn_lt h.hd h.hu
  refine ⟨by omega, ?_, Nat.mod_lt _ (by have := h.hu; omega)⟩
  rw [h1]; exact dm _ _
theorem Kn.far {y1 y0 u d q r : Nat} (k : Kn y1 y0 u d q r) (h : KnC y1 y0 u d) (hq : q ≤ 4294967296) (hr : 4294967296 ≤ r) : KnD y1 y0 u d q ((u * 4294967296 + d) % (y1 * 4294967296 + y0)) :=
  k.done h (kn_far h.hy0 hq hr)
theorem kn_words {y1 y0 u d q rest Y : Nat} (k : KnD y1 y0 u d q rest) (hY : Y = y1 * 4294967296 + y0) (hYb : Y < 18446744073709551616) :
    ∃ a1 a2 a3, IntKind.u64.wrap ((u : Int) * 4294967296) = (a1 : Nat) ∧ IntKind.u64.wrap ((a1 : Nat) + (d : Int)) = (a2 : Nat) ∧ IntKind.u64.wrap ((q : Int) * (Y : Int)) = (a3 : Nat) ∧ IntKind.u64.wrap (((a2 : Nat) : Int) - ((a3 : Nat) : Int)) = (rest : Nat) := by
  have h1 := k.eq
  have h2 := k.rlt
  rw [← hY] at h1 h2
  refine ⟨u * 4294967296 % 18446744073709551616, (u * 4294967296 % 18446744073709551616 + d) % 18446744073709551616, q * Y % 18446744073709551616, ?_, ?_, ?_, ?_⟩
  · exact wrap_mod _ _ (by omega)
  · exact wrap_mod _ _ (by omega)
  · refine wrap_mod _ _ ?_
    rw [← Int.natCast_mul]; omega
  · refine wrap_mod _ _ ?_
    generalize q * Y = Z at *
    omega

theorem ret_two {a b c d : Int} (h : a = c) (k : b = d) : Ending.returned (.tuple #[.int .u64 a, .int .u64 b]) = .returned (.tuple #[.int .u64 c, .int .u64 d]) := by rw [h, k]
theorem norm_y {y s : Nat} (hy : y ≠ 0) (hs : s + bitsN y = 64) : y * 2 ^ s < 18446744073709551616 ∧ 9223372036854775808 ≤ y * 2 ^ s := by
  have h1 := bitsN_lt y
  have h2 := bitsN_le y hy
  have hp := Nat.two_pow_pos s
  constructor
  · have := Nat.mul_lt_mul_of_pos_right h1 hp
    rw [← Nat.pow_add, show bitsN y + s = 64 by omega] at this; exact this
  · have h3 := Nat.mul_le_mul_right (2 ^ s) h2
    have h4 : bitsN y ≠ 0 := by unfold bitsN; rw [if_neg hy]; omega
    rw [← Nat.pow_add, show bitsN y - 1 + s = 63 by omega] at h3; exact h3
theorem and32 (v : Nat) (h : v < 18446744073709551616) : bits .and .u64 (v : Int) 4294967295 = ((v % 4294967296 : Nat) : Int) := by
  have h1 := bits_and_u64_nat v 4294967295 h (by omega)
  rw [show v &&& 4294967295 = v % 4294967296 from Nat.and_two_pow_sub_one_eq_mod v 32] at h1
  exact h1
theorem div32 (v : Nat) : (v : Int) / 4294967296 = ((v / 4294967296 : Nat) : Int) := by omega

theorem div64_walk (hi lo y s Y y1 y0 hs ls u v un1 un0 qi qy ri : Nat) (w : World) (hh0 : ((hi : Int) == 0) = false) (hy0 : ((y : Int) == 0) = false) (hhy : hi < y) (hyb : y < B64) (HSB : Hid (s + bitsN y = 64)) (hs64 : s < 64)
    (eY : IntKind.u64.wrap ((y : Int) * 2 ^ s) = (Y : Int)) (ey1 : (Y : Int) / 4294967296 = (y1 : Int)) (ey0 : bits .and .u64 (Y : Int) 4294967295 = (y0 : Int))
    (ehs : IntKind.u64.wrap ((hi : Int) * 2 ^ s) = (hs : Int)) (els : (lo : Int) / 2 ^ (64 - s) = (ls : Int)) (eu : bits .or .u64 (hs : Int) (ls : Int) = (u : Int))
    (ev : IntKind.u64.wrap ((lo : Int) * 2 ^ s) = (v : Int)) (eun1 : (v : Int) / 4294967296 = (un1 : Int)) (eun0 : bits .and .u64 (v : Int) 4294967295 = (un0 : Int))
    (eqi : (u : Int) / (y1 : Int) = (qi : Int)) (eqy : (qi : Int) * (y1 : Int) = (qy : Int)) (eri : (u : Int) - (qy : Int) = (ri : Int)) (hqi : qi ≤ 4294967297) (hqy : qy ≤ 18446744073709551615) (hri : ri < 4294967296)
    (hy1 : 1 ≤ y1) (hy1b : y1 < 4294967296) (hy0b : y0 < 4294967296) (hun1 : un1 < 4294967296) (hun0 : un0 < 4294967296)
    (HC : Hid (KnC y1 y0 u un1)) (HK : Hid (Kn y1 y0 u un1 qi ri)) (HY : Hid (Y = y1 * 4294967296 + y0)) (HYB : Hid (Y < 18446744073709551616)) :
    Calls Tryz.prog 108 #[U hi, U lo, U y] w fun e w' => ∃ q1 q0 r1 r0, e = .returned (.tuple #[U (jq q1 q0), U (r0 / 2 ^ s)]) ∧ w' = w ∧ KnD y1 y0 u un1 q1 r1 ∧ KnD y1 y0 r1 un0 q0 r0 := by
  go_enter Tryz.func108, Tryz.ntmps108
  go_wp2_with fail
  refine (lz_any y s _ hyb HSB.out).mono ?_
  rintro e w' ⟨rfl, hw⟩
  obtain rfl := hw.symm
  clear hw
  go_wp2_with fail
  go_loop [15, 16] (fun a b => ∃ q r : Nat, a = U q ∧ b = U r ∧ KnB r ∧ Kn y1 y0 u un1 q r) (fun a _ => (intOf a).toNat)
  case atStart => exact ⟨qi, ri, rfl, rfl, ⟨hri⟩, HK.out⟩
  case round =>
    obtain ⟨q, r, rfl, rfl, hrb, hk⟩ := hrel
    have hr := hrb.lt
    have hq := hk.le
    have HK2 : Hid (Kn y1 y0 u un1 q r) := hk
    clear hk HK eY ey1 ey0 ehs els eu ev eun1 eun0 eqi eqy eri hyb hqi hqy hri hh0 hy0 hhy
    obtain ⟨pq, epq⟩ : ∃ pq : Nat, (q : Int) * (y0 : Int) = (pq : Int) := ⟨q * y0, by simp⟩
    have HPQ : Hid (pq = q * y0) := by have := epq; rw [← Int.natCast_mul] at this; exact (Int.ofNat.inj this).symm
    have hpb : q < 4294967296 → pq ≤ 18446744073709551615 := by
      intro hlt
      rw [HPQ.out]
      have := Nat.mul_le_mul (show q ≤ 4294967295 by omega) (show y0 ≤ 4294967295 by omega)
      omega
    by_cases c1 : 4294967296 ≤ q
    · have c1b : decide ((4294967296 : Int) ≤ (q : Int)) = true := decide_eq_true (by omega)
      obtain ⟨hq1, hk2⟩ := HK2.out.down HC.out (.inl c1)
      clear hpb epq HPQ c1
      by_cases c3 : 4294967296 ≤ r + y1
      · have HD : Hid (KnD y1 y0 u un1 (q - 1) ((u * 4294967296 + un1) % (y1 * 4294967296 + y0))) := hk2.far HC.out (by omega) c3
        generalize (u * 4294967296 + un1) % (y1 * 4294967296 + y0) = R1 at HD
        obtain ⟨q', hq'⟩ : ∃ q', q' = q - 1 := ⟨_, rfl⟩
        have eq' : (q : Int) - 1 = (q' : Int) := by omega
        rw [← hq'] at HD
        have c3b : decide ((4294967296 : Int) ≤ (r : Int) + (y1 : Int)) = true := decide_eq_true (by omega)
        clear hk2 hq'
        have hqb : q' < 4294967296 := HD.out.lt
        have hrlt := HD.out.rlt
        obtain ⟨a1, a2, a3, e1, e2, e3, e4⟩ := kn_words HD.out HY.out HYB.out
        have HC2 : Hid (KnC y1 y0 R1 un0) := ⟨hy0b, hun0, hrlt, HC.out.hy1⟩
        have hin := Kn.init HC2.out
        have hrb2 : R1 ≤ 18446744073709551615 := by have h1 := HY.out; have h2 := HYB.out; omega
        obtain ⟨qj, hqj⟩ : ∃ qj, qj = R1 / y1 := ⟨_, rfl⟩
        obtain ⟨qjy, hqjy⟩ : ∃ qjy, qjy = R1 / y1 * y1 := ⟨_, rfl⟩
        obtain ⟨rj, hrj⟩ : ∃ rj, rj = R1 - R1 / y1 * y1 := ⟨_, rfl⟩
        have hle := Nat.div_mul_le_self R1 y1
        have hml := Nat.mod_lt R1 (show 0 < y1 by omega)
        have hdm := Nat.div_add_mod R1 y1
        rw [Nat.mul_comm] at hdm
        rw [← hrj, ← hqj] at hin
        have g1 : (R1 : Int) / (y1 : Int) = (qj : Int) := by rw [hqj]; exact (Int.natCast_ediv _ _).symm
        have g2 : (qj : Int) * (y1 : Int) = (qjy : Int) := by rw [hqjy, hqj]; exact (Int.natCast_mul _ _).symm
        have g3 : (R1 : Int) - (qjy : Int) = (rj : Int) := by rw [hqjy, hrj]; omega
        have hqjb : qj ≤ 4294967297 := hin.le
        have hqjyb : qjy ≤ R1 := by rw [hqjy]; exact hle
        have hrjb : rj < 4294967296 := by rw [hrj]; omega
        have HIN : Hid (Kn y1 y0 R1 un0 qj rj) := hin
        clear hin hle hml hdm hqj hqjy hrj hrlt
        go_wp2_with fail
        go_loop [18, 16] (fun a b => ∃ t z : Nat, a = U t ∧ b = U z ∧ KnB z ∧ Kn y1 y0 R1 un0 t z) (fun a _ => (intOf a).toNat)
        case atStart => exact ⟨qj, rj, rfl, rfl, ⟨hrjb⟩, HIN.out⟩
        case round =>
          obtain ⟨t, z, rfl, rfl, hzb, hkt⟩ := hrel
          have hz := hzb.lt
          have ht := hkt.le
          have HKT : Hid (Kn y1 y0 R1 un0 t z) := hkt
          clear hkt HIN e1 e2 e3 e4 g1 g2 g3 hqjb hqjyb hrjb
          obtain ⟨pt, ept⟩ : ∃ pt : Nat, (t : Int) * (y0 : Int) = (pt : Int) := ⟨t * y0, by simp⟩
          have HPT : Hid (pt = t * y0) := by have := ept; rw [← Int.natCast_mul] at this; exact (Int.ofNat.inj this).symm
          have hptb : t < 4294967296 → pt ≤ 18446744073709551615 := by
            intro hlt
            rw [HPT.out]
            have := Nat.mul_le_mul (show t ≤ 4294967295 by omega) (show y0 ≤ 4294967295 by omega)
            omega
          by_cases d1 : 4294967296 ≤ t
          · have d1b : decide ((4294967296 : Int) ≤ (t : Int)) = true := decide_eq_true (by omega)
            obtain ⟨ht1, hk3⟩ := HKT.out.down HC2.out (.inl d1)
            clear hptb ept HPT
            by_cases d3 : 4294967296 ≤ z + y1
            · have HE : Hid (KnD y1 y0 R1 un0 (t - 1) ((R1 * 4294967296 + un0) % (y1 * 4294967296 + y0))) := hk3.far HC2.out (by omega) d3
              generalize (R1 * 4294967296 + un0) % (y1 * 4294967296 + y0) = R0 at HE
              obtain ⟨t', ht'⟩ : ∃ t', t' = t - 1 := ⟨_, rfl⟩
              have et' : (t : Int) - 1 = (t' : Int) := by omega
              rw [← ht'] at HE
              have d3b : decide ((4294967296 : Int) ≤ (z : Int) + (y1 : Int)) = true := decide_eq_true (by omega)
              clear hk3 ht'
              have htb : t' < 4294967296 := HE.out.lt
              have hqb2 : q' < 4294967296 := HD.out.lt
              obtain ⟨b1, b2, b3, f1, f2, f3, f4⟩ := kn_words HE.out HY.out HYB.out
              go_wp2_with fail
              go_ret2
              refine ⟨q', t', R1, R0, ?_, rfl, HD.out, HE.out⟩
              exact ret_two (by unfold jq; omega) (by rw [div_nat])
            · have HK4 : Hid (Kn y1 y0 R1 un0 (t - 1) (z + y1)) := hk3
              have d3b : decide ((4294967296 : Int) ≤ (z : Int) + (y1 : Int)) = false := decide_eq_false (by omega)
              clear hk3
              go_wp2_with fail
              go_round
              case rel => exact ⟨t - 1, z + y1, by go_num, by go_num, ⟨by omega⟩, HK4.out⟩
              case measure => simp [intOf]; omega
          · have hptb' := hptb (by omega)
            have d1b : decide ((4294967296 : Int) ≤ (t : Int)) = false := decide_eq_false (by omega)
            by_cases d2 : 4294967296 * z + un0 < pt
            · obtain ⟨ht1, hk3⟩ := HKT.out.down HC2.out (.inr (by rw [← HPT.out]; exact d2))
              have d2b : decide (4294967296 * (z : Int) + (un0 : Int) < (pt : Int)) = true := decide_eq_true (by omega)
              clear hptb
              by_cases d3 : 4294967296 ≤ z + y1
              · have HE : Hid (KnD y1 y0 R1 un0 (t - 1) ((R1 * 4294967296 + un0) % (y1 * 4294967296 + y0))) := hk3.far HC2.out (by omega) d3
                generalize (R1 * 4294967296 + un0) % (y1 * 4294967296 + y0) = R0 at HE
                obtain ⟨t', ht'⟩ : ∃ t', t' = t - 1 := ⟨_, rfl⟩
                have et' : (t : Int) - 1 = (t' : Int) := by omega
                rw [← ht'] at HE
                have d3b : decide ((4294967296 : Int) ≤ (z : Int) + (y1 : Int)) = true := decide_eq_true (by omega)
                clear hk3 ht'
                have htb : t' < 4294967296 := HE.out.lt
                have hqb2 : q' < 4294967296 := HD.out.lt
                obtain ⟨b1, b2, b3, f1, f2, f3, f4⟩ := kn_words HE.out HY.out HYB.out
                go_wp2_with fail
                go_ret2
                refine ⟨q', t', R1, R0, ?_, rfl, HD.out, HE.out⟩
                exact ret_two (by unfold jq; omega) (by rw [div_nat])
              · have HK4 : Hid (Kn y1 y0 R1 un0 (t - 1) (z + y1)) := hk3
                have d3b : decide ((4294967296 : Int) ≤ (z : Int) + (y1 : Int)) = false := decide_eq_false (by omega)
                clear hk3
                go_wp2_with fail
                go_round
                case rel => exact ⟨t - 1, z + y1, by go_num, by go_num, ⟨by omega⟩, HK4.out⟩
                case measure => simp [intOf]; omega
            · have HE : Hid (KnD y1 y0 R1 un0 t ((R1 * 4294967296 + un0) % (y1 * 4294967296 + y0))) := HKT.out.done HC2.out (by rw [← HPT.out]; omega)
              have d2b : decide (4294967296 * (z : Int) + (un0 : Int) < (pt : Int)) = false := decide_eq_false (by omega)
              clear hptb
              generalize (R1 * 4294967296 + un0) % (y1 * 4294967296 + y0) = R0 at HE
              have htb : t < 4294967296 := HE.out.lt
              have hqb2 : q' < 4294967296 := HD.out.lt
              obtain ⟨b1, b2, b3, f1, f2, f3, f4⟩ := kn_words HE.out HY.out HYB.out
              go_wp2_with fail
              go_ret2
              refine ⟨q', t, R1, R0, ?_, rfl, HD.out, HE.out⟩
              exact ret_two (by unfold jq; omega) (by rw [div_nat])
      · have HK3 : Hid (Kn y1 y0 u un1 (q - 1) (r + y1)) := hk2
        have c3b : decide ((4294967296 : Int) ≤ (r : Int) + (y1 : Int)) = false := decide_eq_false (by omega)
        clear hk2
        go_wp2_with fail
        go_round
        case rel => exact ⟨q - 1, r + y1, by go_num, by go_num, ⟨by omega⟩, HK3.out⟩
        case measure => simp [intOf]; omega
    · have hpb' := hpb (by omega)
      have c1b : decide ((4294967296 : Int) ≤ (q : Int)) = false := decide_eq_false (by omega)
      by_cases c2 : 4294967296 * r + un1 < pq
      · obtain ⟨hq1, hk2⟩ := HK2.out.down HC.out (.inr (by rw [← HPQ.out]; exact c2))
        have c2b : decide (4294967296 * (r : Int) + (un1 : Int) < (pq : Int)) = true := decide_eq_true (by omega)
        clear hpb
        by_cases c3 : 4294967296 ≤ r + y1
        · have HD : Hid (KnD y1 y0 u un1 (q - 1) ((u * 4294967296 + un1) % (y1 * 4294967296 + y0))) := hk2.far HC.out (by omega) c3
          generalize (u * 4294967296 + un1) % (y1 * 4294967296 + y0) = R1 at HD
          obtain ⟨q', hq'⟩ : ∃ q', q' = q - 1 := ⟨_, rfl⟩
          have eq' : (q : Int) - 1 = (q' : Int) := by omega
          rw [← hq'] at HD
          have c3b : decide ((4294967296 : Int) ≤ (r : Int) + (y1 : Int)) = true := decide_eq_true (by omega)
          clear hk2 hq'
          have hqb : q' < 4294967296 := HD.out.lt
          have hrlt := HD.out.rlt
          obtain ⟨a1, a2, a3, e1, e2, e3, e4⟩ := kn_words HD.out HY.out HYB.out
          have HC2 : Hid (KnC y1 y0 R1 un0) := ⟨hy0b, hun0, hrlt, HC.out.hy1⟩
          have hin := Kn.init HC2.out
          have hrb2 : R1 ≤ 18446744073709551615 := by have h1 := HY.out; have h2 := HYB.out; omega
          obtain ⟨qj, hqj⟩ : ∃ qj, qj = R1 / y1 := ⟨_, rfl⟩
          obtain ⟨qjy, hqjy⟩ : ∃ qjy, qjy = R1 / y1 * y1 := ⟨_, rfl⟩
          obtain ⟨rj, hrj⟩ : ∃ rj, rj = R1 - R1 / y1 * y1 := ⟨_, rfl⟩
          have hle := Nat.div_mul_le_self R1 y1
          have hml := Nat.mod_lt R1 (show 0 < y1 by omega)
          have hdm := Nat.div_add_mod R1 y1
          rw [Nat.mul_comm] at hdm
          rw [← hrj, ← hqj] at hin
          have g1 : (R1 : Int) / (y1 : Int) = (qj : Int) := by rw [hqj]; exact (Int.natCast_ediv _ _).symm
          have g2 : (qj : Int) * (y1 : Int) = (qjy : Int) := by rw [hqjy, hqj]; exact (Int.natCast_mul _ _).symm
          have g3 : (R1 : Int) - (qjy : Int) = (rj : Int) := by rw [hqjy, hrj]; omega
          have hqjb : qj ≤ 4294967297 := hin.le
          have hqjyb : qjy ≤ R1 := by rw [hqjy]; exact hle
          have hrjb : rj < 4294967296 := by rw [hrj]; omega
          have HIN : Hid (Kn y1 y0 R1 un0 qj rj) := hin
          clear hin hle hml hdm hqj hqjy hrj hrlt
          go_wp2_with fail
          go_loop [18, 16] (fun a b => ∃ t z : Nat, a = U t ∧ b = U z ∧ KnB z ∧ Kn y1 y0 R1 un0 t z) (fun a _ => (intOf a).toNat)
          case atStart => exact ⟨qj, rj, rfl, rfl, ⟨hrjb⟩, HIN.out⟩
          case round =>
            obtain ⟨t, z, rfl, rfl, hzb, hkt⟩ := hrel
            have hz := hzb.lt
            have ht := hkt.le
            have HKT : Hid (Kn y1 y0 R1 un0 t z) := hkt
            clear hkt HIN e1 e2 e3 e4 g1 g2 g3 hqjb hqjyb hrjb
            obtain ⟨pt, ept⟩ : ∃ pt : Nat, (t : Int) * (y0 : Int) = (pt : Int) := ⟨t * y0, by simp⟩
            have HPT : Hid (pt = t * y0) := by have := ept; rw [← Int.natCast_mul] at this; exact (Int.ofNat.inj this).symm
            have hptb : t < 4294967296 → pt ≤ 18446744073709551615 := by
              intro hlt
              rw [HPT.out]
              have := Nat.mul_le_mul (show t ≤ 4294967295 by omega) (show y0 ≤ 4294967295 by omega)
              omega
            by_cases d1 : 4294967296 ≤ t
            · have d1b : decide ((4294967296 : Int) ≤ (t : Int)) = true := decide_eq_true (by omega)
              obtain ⟨ht1, hk3⟩ := HKT.out.down HC2.out (.inl d1)
              clear hptb ept HPT
              by_cases d3 : 4294967296 ≤ z + y1
              · have HE : Hid (KnD y1 y0 R1 un0 (t - 1) ((R1 * 4294967296 + un0) % (y1 * 4294967296 + y0))) := hk3.far HC2.out (by omega) d3
                generalize (R1 * 4294967296 + un0) % (y1 * 4294967296 + y0) = R0 at HE
                obtain ⟨t', ht'⟩ : ∃ t', t' = t - 1 := ⟨_, rfl⟩
                have et' : (t : Int) - 1 = (t' : Int) := by omega
                rw [← ht'] at HE
                have d3b : decide ((4294967296 : Int) ≤ (z : Int) + (y1 : Int)) = true := decide_eq_true (by omega)
                clear hk3 ht'
                have htb : t' < 4294967296 := HE.out.lt
                have hqb2 : q' < 4294967296 := HD.out.lt
                obtain ⟨b1, b2, b3, f1, f2, f3, f4⟩ := kn_words HE.out HY.out HYB.out
                go_wp2_with fail
                go_ret2
                refine ⟨q', t', R1, R0, ?_, rfl, HD.out, HE.out⟩
                exact ret_two (by unfold jq; omega) (by rw [div_nat])
              · have HK4 : Hid (Kn y1 y0 R1 un0 (t - 1) (z + y1)) := hk3
                have d3b : decide ((4294967296 : Int) ≤ (z : Int) + (y1 : Int)) = false := decide_eq_false (by omega)
                clear hk3
                go_wp2_with fail
                go_round
                case rel => exact ⟨t - 1, z + y1, by go_num, by go_num, ⟨by omega⟩, HK4.out⟩
                case measure => simp [intOf]; omega
            · have hptb' := hptb (by omega)
              have d1b : decide ((4294967296 : Int) ≤ (t : Int)) = false := decide_eq_false (by omega)
              by_cases d2 : 4294967296 * z + un0 < pt
              · obtain ⟨ht1, hk3⟩ := HKT.out.down HC2.out (.inr (by rw [← HPT.out]; exact d2))
                have d2b : decide (4294967296 * (z : Int) + (un0 : Int) < (pt : Int)) = true := decide_eq_true (by omega)
                clear hptb
                by_cases d3 : 4294967296 ≤ z + y1
                · have HE : Hid (KnD y1 y0 R1 un0 (t - 1) ((R1 * 4294967296 + un0) % (y1 * 4294967296 + y0))) := hk3.far HC2.out (by omega) d3
                  generalize (R1 * 4294967296 + un0) % (y1 * 4294967296 + y0) = R0 at HE
                  obtain ⟨t', ht'⟩ : ∃ t', t' = t - 1 := ⟨_, rfl⟩
                  have et' : (t : Int) - 1 = (t' : Int) := by omega
                  rw [← ht'] at HE
                  have d3b : decide ((4294967296 : Int) ≤ (z : Int) + (y1 : Int)) = true := decide_eq_true (by omega)
                  clear hk3 ht'
                  have htb : t' < 4294967296 := HE.out.lt
                  have hqb2 : q' < 4294967296 := HD.out.lt
                  obtain ⟨b1, b2, b3, f1, f2, f3, f4⟩ := kn_words HE.out HY.out HYB.out
                  go_wp2_with fail
                  go_ret2
                  refine ⟨q', t', R1, R0, ?_, rfl, HD.out, HE.out⟩
                  exact ret_two (by unfold jq; omega) (by rw [div_nat])
                · have HK4 : Hid (Kn y1 y0 R1 un0 (t - 1) (z + y1)) := hk3
                  have d3b : decide ((4294967296 : Int) ≤ (z : Int) + (y1 : Int)) = false := decide_eq_false (by omega)
                  clear hk3
                  go_wp2_with fail
                  go_round
                  case rel => exact ⟨t - 1, z + y1, by go_num, by go_num, ⟨by omega⟩, HK4.out⟩
                  case measure => simp [intOf]; omega
              · have HE : Hid (KnD y1 y0 R1 un0 t ((R1 * 4294967296 + un0) % (y1 * 4294967296 + y0))) := HKT.out.done HC2.out (by rw [← HPT.out]; omega)
                have d2b : decide (4294967296 * (z : Int) + (un0 : Int) < (pt : Int)) = false := decide_eq_false (by omega)
                clear hptb
                generalize (R1 * 4294967296 + un0) % (y1 * 4294967296 + y0) = R0 at HE
                have htb : t < 4294967296 := HE.out.lt
                have hqb2 : q' < 4294967296 := HD.out.lt
                obtain ⟨b1, b2, b3, f1, f2, f3, f4⟩ := kn_words HE.out HY.out HYB.out
                go_wp2_with fail
                go_ret2
                refine ⟨q', t, R1, R0, ?_, rfl, HD.out, HE.out⟩
                exact ret_two (by unfold jq; omega) (by rw [div_nat])
        · have HK3 : Hid (Kn y1 y0 u un1 (q - 1) (r + y1)) := hk2
          have c3b : decide ((4294967296 : Int) ≤ (r : Int) + (y1 : Int)) = false := decide_eq_false (by omega)
          clear hk2
          go_wp2_with fail
          go_round
          case rel => exact ⟨q - 1, r + y1, by go_num, by go_num, ⟨by omega⟩, HK3.out⟩
          case measure => simp [intOf]; omega
      · have HD : Hid (KnD y1 y0 u un1 q ((u * 4294967296 + un1) % (y1 * 4294967296 + y0))) := HK2.out.done HC.out (by rw [← HPQ.out]; omega)
        have c2b : decide (4294967296 * (r : Int) + (un1 : Int) < (pq : Int)) = false := decide_eq_false (by omega)
        clear hpb
        generalize (u * 4294967296 + un1) % (y1 * 4294967296 + y0) = R1 at HD
        have hqb : q < 4294967296 := HD.out.lt
        have hrlt := HD.out.rlt
        obtain ⟨a1, a2, a3, e1, e2, e3, e4⟩ := kn_words HD.out HY.out HYB.out
        have HC2 : Hid (KnC y1 y0 R1 un0) := ⟨hy0b, hun0, hrlt, HC.out.hy1⟩
        have hin := Kn.init HC2.out
        have hrb2 : R1 ≤ 18446744073709551615 := by have h1 := HY.out; have h2 := HYB.out; omega
        obtain ⟨qj, hqj⟩ : ∃ qj, qj = R1 / y1 := ⟨_, rfl⟩
        obtain ⟨qjy, hqjy⟩ : ∃ qjy, qjy = R1 / y1 * y1 := ⟨_, rfl⟩
        obtain ⟨rj, hrj⟩ : ∃ rj, rj = R1 - R1 / y1 * y1 := ⟨_, rfl⟩
        have hle := Nat.div_mul_le_self R1 y1
        have hml := Nat.mod_lt R1 (show 0 < y1 by omega)
        have hdm := Nat.div_add_mod R1 y1
        rw [Nat.mul_comm] at hdm
        rw [← hrj, ← hqj] at hin
        have g1 : (R1 : Int) / (y1 : Int) = (qj : Int) := by rw [hqj]; exact (Int.natCast_ediv _ _).symm
        have g2 : (qj : Int) * (y1 : Int) = (qjy : Int) := by rw [hqjy, hqj]; exact (Int.natCast_mul _ _).symm
        have g3 : (R1 : Int) - (qjy : Int) = (rj : Int) := by rw [hqjy, hrj]; omega
        have hqjb : qj ≤ 4294967297 := hin.le
        have hqjyb : qjy ≤ R1 := by rw [hqjy]; exact hle
        have hrjb : rj < 4294967296 := by rw [hrj]; omega
        have HIN : Hid (Kn y1 y0 R1 un0 qj rj) := hin
        clear hin hle hml hdm hqj hqjy hrj hrlt
        go_wp2_with fail
        go_loop [18, 16] (fun a b => ∃ t z : Nat, a = U t ∧ b = U z ∧ KnB z ∧ Kn y1 y0 R1 un0 t z) (fun a _ => (intOf a).toNat)
        case atStart => exact ⟨qj, rj, rfl, rfl, ⟨hrjb⟩, HIN.out⟩
        case round =>
          obtain ⟨t, z, rfl, rfl, hzb, hkt⟩ := hrel
          have hz := hzb.lt
          have ht := hkt.le
          have HKT : Hid (Kn y1 y0 R1 un0 t z) := hkt
          clear hkt HIN e1 e2 e3 e4 g1 g2 g3 hqjb hqjyb hrjb
          obtain ⟨pt, ept⟩ : ∃ pt : Nat, (t : Int) * (y0 : Int) = (pt : Int) := ⟨t * y0, by simp⟩
          have HPT : Hid (pt = t * y0) := by have := ept; rw [← Int.natCast_mul] at this; exact (Int.ofNat.inj this).symm
          have hptb : t < 4294967296 → pt ≤ 18446744073709551615 := by
            intro hlt
            rw [HPT.out]
            have := Nat.mul_le_mul (show t ≤ 4294967295 by omega) (show y0 ≤ 4294967295 by omega)
            omega
          by_cases d1 : 4294967296 ≤ t
          · have d1b : decide ((4294967296 : Int) ≤ (t : Int)) = true := decide_eq_true (by omega)
            obtain ⟨ht1, hk3⟩ := HKT.out.down HC2.out (.inl d1)
            clear hptb ept HPT
            by_cases d3 : 4294967296 ≤ z + y1
            · have HE : Hid (KnD y1 y0 R1 un0 (t - 1) ((R1 * 4294967296 + un0) % (y1 * 4294967296 + y0))) := hk3.far HC2.out (by omega) d3
              generalize (R1 * 4294967296 + un0) % (y1 * 4294967296 + y0) = R0 at HE
              obtain ⟨t', ht'⟩ : ∃ t', t' = t - 1 := ⟨_, rfl⟩
              have et' : (t : Int) - 1 = (t' : Int) := by omega
              rw [← ht'] at HE
              have d3b : decide ((4294967296 : Int) ≤ (z : Int) + (y1 : Int)) = true := decide_eq_true (by omega)
              clear hk3 ht'
              have htb : t' < 4294967296 := HE.out.lt
              have hqb2 : q < 4294967296 := HD.out.lt
              obtain ⟨b1, b2, b3, f1, f2, f3, f4⟩ := kn_words HE.out HY.out HYB.out
              go_wp2_with fail
              go_ret2
              refine ⟨q, t', R1, R0, ?_, rfl, HD.out, HE.out⟩
              exact ret_two (by unfold jq; omega) (by rw [div_nat])
            · have HK4 : Hid (Kn y1 y0 R1 un0 (t - 1) (z + y1)) := hk3
              have d3b : decide ((4294967296 : Int) ≤ (z : Int) + (y1 : Int)) = false := decide_eq_false (by omega)
              clear hk3
              go_wp2_with fail
              go_round
              case rel => exact ⟨t - 1, z + y1, by go_num, by go_num, ⟨by omega⟩, HK4.out⟩
              case measure => simp [intOf]; omega
          · have hptb' := hptb (by omega)
            have d1b : decide ((4294967296 : Int) ≤ (t : Int)) = false := decide_eq_false (by omega)
            by_cases d2 : 4294967296 * z + un0 < pt
            · obtain ⟨ht1, hk3⟩ := HKT.out.down HC2.out (.inr (by rw [← HPT.out]; exact d2))
              have d2b : decide (4294967296 * (z : Int) + (un0 : Int) < (pt : Int)) = true := decide_eq_true (by omega)
              clear hptb
              by_cases d3 : 4294967296 ≤ z + y1
              · have HE : Hid (KnD y1 y0 R1 un0 (t - 1) ((R1 * 4294967296 + un0) % (y1 * 4294967296 + y0))) := hk3.far HC2.out (by omega) d3
                generalize (R1 * 4294967296 + un0) % (y1 * 4294967296 + y0) = R0 at HE
                obtain ⟨t', ht'⟩ : ∃ t', t' = t - 1 := ⟨_, rfl⟩
                have et' : (t : Int) - 1 = (t' : Int) := by omega
                rw [← ht'] at HE
                have d3b : decide ((4294967296 : Int) ≤ (z : Int) + (y1 : Int)) = true := decide_eq_true (by omega)
                clear hk3 ht'
                have htb : t' < 4294967296 := HE.out.lt
                have hqb2 : q < 4294967296 := HD.out.lt
                obtain ⟨b1, b2, b3, f1, f2, f3, f4⟩ := kn_words HE.out HY.out HYB.out
                go_wp2_with fail
                go_ret2
                refine ⟨q, t', R1, R0, ?_, rfl, HD.out, HE.out⟩
                exact ret_two (by unfold jq; omega) (by rw [div_nat])
              · have HK4 : Hid (Kn y1 y0 R1 un0 (t - 1) (z + y1)) := hk3
                have d3b : decide ((4294967296 : Int) ≤ (z : Int) + (y1 : Int)) = false := decide_eq_false (by omega)
                clear hk3
                go_wp2_with fail
                go_round
                case rel => exact ⟨t - 1, z + y1, by go_num, by go_num, ⟨by omega⟩, HK4.out⟩
                case measure => simp [intOf]; omega
            · have HE : Hid (KnD y1 y0 R1 un0 t ((R1 * 4294967296 + un0) % (y1 * 4294967296 + y0))) := HKT.out.done HC2.out (by rw [← HPT.out]; omega)
              have d2b : decide (4294967296 * (z : Int) + (un0 : Int) < (pt : Int)) = false := decide_eq_false (by omega)
              clear hptb
              generalize (R1 * 4294967296 + un0) % (y1 * 4294967296 + y0) = R0 at HE
              have htb : t < 4294967296 := HE.out.lt
              have hqb2 : q < 4294967296 := HD.out.lt
              obtain ⟨b1, b2, b3, f1, f2, f3, f4⟩ := kn_words HE.out HY.out HYB.out
              go_wp2_with fail
              go_ret2
              refine ⟨q, t, R1, R0, ?_, rfl, HD.out, HE.out⟩
              exact ret_two (by unfold jq; omega) (by rw [div_nat])
theorem step_append_own {P : Program} {ops : Array Oper} {o : Oper} {a : Act} {w : World} {K : Act → World → Prop} {Q : Exit → Act → World → Prop} {E : Prop}
    (hg : o.guard = none) (s x : Operand) (t : TypeId) (hop : o.op = Op.call { callee := Callee.builtin Builtin.append, args := #[s, x], argTypes := #[t, t] })
    (base : Nat) (e : TypeId) (i : TypeInfo) (size : Nat) (h1 : P.underlying t = some (.slice e)) (h2 : P.info? e = some i) (h4 : i.size = size)
    (g k cap : Nat) (xs : List Value) (hs : a.eval s = .slice (some ⟨g, 0, none⟩) k cap) (hown : w.ownsRow base e size (.slice (some ⟨g, 0, none⟩) k cap) k xs) (ad : Addr) (m c : Nat) (news : List Value) (hx : a.eval x = .slice (some ad) m c) (hn : news.length = m * size)
    (hc : ∀ j u, news[j]? = some u → w.cell? (ad.add j) = some u) (h1c : ∀ u ∈ news, u.oneCell' = true) (b1 : k + m ≤ cap)
    (hK : ∀ w', w'.ownsRow base e size (.slice (some ⟨g, 0, none⟩) (k + m) cap) (k + m) (xs ++ news) → w.grownBy w' (some g) → K (a.put o.dst (.slice (some ⟨g, 0, none⟩) (k + m) cap)) w') :
    if Region.wanted o (yielded ops a.tmps) = true then Oper.wp P o a w K Q else E := by
  have hw : Region.wanted o (yielded ops a.tmps) = true := by simp [Region.wanted, hg]
  rw [if_pos hw]
  obtain ⟨w', hrun, r1, r2⟩ := run_append_fits (P := P) w base t o.type e i size h1 h2 h4 g k cap xs hown ad m c news hn hc h1c b1
  unfold Oper.wp
  simp [execOp, hop, resolve, invoke, builtin, hs, hx, hrun, Result.andThen]
  exact hK _ r1 r2
theorem bDrew {B : Nat} {a w : World} (h : Below B a w) : Below B a w.drew := ⟨h.os, h.tape, h.output, h.size, h.block⟩
theorem wrap32 (v : Nat) (h : v < B32) : IntKind.u32.wrap (v : Int) = (v : Int) := by
  rw [B32_eq] at h
  simp [IntKind.wrap, IntKind.signed, IntKind.bits]
  omega
theorem two_cells (w : World) (x y : Nat) : ∀ (j : Nat) (u : Value), [V x, V y][j]? = some u → (w.alloc (.cells #[V x, V y] 171)).cell? ((⟨w.heap.size, 0, none⟩ : Addr).add j) = some u := by
  intro j u h
  have hb : Blk32 (w.alloc (.cells #[V x, V y] 171)) w.heap.size [x, y] := heap_alloc_new w _
  have hj : j < 2 := by
    have := (List.getElem?_eq_some_iff.1 h).1
    simpa using this
  have hadd : (⟨w.heap.size, 0, none⟩ : Addr).add j = ⟨w.heap.size, j, none⟩ := by unfold Addr.add; split <;> simp_all
  rw [hadd, hb.cell j (by simpa using hj)]
  rcases Nat.lt_or_ge j 1 with h1 | h1
  · obtain rfl : j = 0 := by omega
    simpa using h
  · obtain rfl : j = 1 := by omega
    simpa using h

theorem from_any {p : Option Addr} {n c : Nat} {xs : List Nat} {w : World} (h : At w p n c xs) (hn : n ≤ 17592186044416) :
    Calls Tryz.prog 86 #[.slice p n c] w fun e w' =>
      ∃ g zs, e = .returned (.slice (some ⟨g, 0, none⟩) zs.length zs.length) ∧ w.heap.size ≤ g ∧ Blk32 w' g zs ∧ Nf B32 zs (valB B64 xs) ∧ zs.length ≤ 2 * n ∧ Below w.heap.size w w' := by
  obtain ⟨i0, hi, hz0, hz1, hz2⟩ := info_parts Tryz.infoU32
  have hl := h.len; have cap := h.cap; have big := h.big
  unfold maxLen at big
  have HL : Hid (xs.length = n) := hl
  clear hl
  go_enter Tryz.func86, Tryz.ntmps86
  go_wp2_with (at_make; refine wpList_make_own _ rfl _ _ 102 rfl w.heap.size 171 i0 (.int .u32 0) 1 Tryz.underlying102 hi hz0 hz1 _ _ _ (2 * n) rfl rfl (by omega) (by rw [hz2]; omega) (by unfold maxLen; omega) (Nat.le_refl _) ?_; intro w1 hown hgrow)
  have HO : Hid (w1.ownsRow w.heap.size 171 1 (.slice (some ⟨w.heap.size, 0, none⟩) 0 (2 * n)) 0 []) := hown
  have hb1 : Below w.heap.size w w1 := (Below.refl _ _).grown hgrow (Nat.le_refl _) (fun k hk => by simp at hk)
  clear hown hgrow
  obtain ⟨N, hN⟩ : ∃ N, N = 2 * n := ⟨_, rfl⟩
  rw [← hN] at HO ⊢
  have HN : Hid (N = 2 * n) := hN
  clear hN
  go_loopg [3, 4] n (fun gk dv iv wr => ∃ k K2 : Nat, k + gk = n ∧ iv = .int .i64 k ∧ Hid (K2 = 2 * k) ∧ dv = .slice (some ⟨w.heap.size, 0, none⟩) K2 N ∧ Hid (wr.ownsRow w.heap.size 171 1 (.slice (some ⟨w.heap.size, 0, none⟩) K2 N) K2 (cellsV (dig32 (xs.take k)))) ∧ Below w.heap.size w wr)
  case atStart => exact ⟨0, 0, by omega, rfl, rfl, rfl, HO, hb1⟩
  case round =>
    obtain ⟨k, K2, hkg, rfl, HK2, rfl, HOW, hbx⟩ := hrel
    cases gk with
    | zero =>
      obtain rfl : k = n := by omega
      have hO := HOW.out
      rcases hO.2 with ⟨h', _⟩ | ⟨g', cap', cur, h', hbase, hgc, hcap', hmx, hsz, htake⟩
      · simp at h'
      simp only [Value.slice.injEq, Option.some.injEq, Addr.mk.injEq, and_true, true_and] at h'
      obtain ⟨rfl, rfl⟩ := h'
      have hK := HK2.out
      have hNN := HN.out
      have hdl : (dig32 xs).length = K2 := by rw [dig32_len, HL.out, hK]
      have etk : xs.take k = xs := List.take_of_length_le (by rw [HL.out]; omega)
      rw [etk] at htake
      have A32 : At32 wr (some ⟨w.heap.size, 0, none⟩) K2 N (dig32 xs) := by
        refine ⟨hdl, hcap', hmx, dig32_dig h.dig, .inr ⟨w.heap.size, 0, rfl, fun jj hj => ?_⟩⟩
        rw [Nat.zero_add, cell_of_row wr w.heap.size jj _ _ _ hgc]
        have e1 := cellsV_get (dig32 xs) jj (by omega)
        rw [← htake, Nat.mul_one, List.getElem?_take, if_pos hj] at e1
        rw [← Array.getElem?_toList]; exact e1
      have hle := trimL_length_le (dig32 xs)
      have HNF : Hid (Nf B32 (trimL (dig32 xs)) (valB B64 xs)) := by
        have := Nf.trim (dig32_dig h.dig)
        rw [dig32_val] at this; exact this
      have HLE : Hid ((trimL (dig32 xs)).length ≤ 2 * k) := by show _ ≤ _; omega
      clear hO hbase hgc hcap' hmx hsz htake hK hNN hle hdl
      go_wp2_with fail
      refine (rnorm_any A32 (by have := HK2.out; omega)).mono ?_
      rintro e w5 ⟨g5, rfl, hg5, hblk5, hb5⟩
      generalize trimL (dig32 xs) = zs at *
      go_wp2_with fail
      go_ret
      exact ⟨g5, zs, rfl, by have := hbx.size; omega, hblk5, HNF.out, HLE.out, Below.on hbx hb5⟩
    | succ gg =>
      obtain ⟨g, off, rfl, hc⟩ := h.cells.resolve_left (by omega)
      obtain ⟨x, hx⟩ : ∃ x, x = xs.getD k 0 := ⟨_, rfl⟩
      have hcx0 : w.cell? ⟨g, off + k, none⟩ = some (U x) := by rw [hx]; exact hc k (by omega)
      have hcx : wr.cell? ⟨g, off + k, none⟩ = some (U x) := (hbx.cell (p := ⟨g, off + k, none⟩) (World.block_lt_of_cell? w _ hcx0)).trans hcx0
      have hxb : x < B64 := by rw [hx]; exact h.dig.getD B64_pos k
      have HX : Hid (x = xs.getD k 0) := hx
      clear hc hx hcx0
      obtain ⟨lo, hlo⟩ : ∃ lo, lo = x % B32 := ⟨_, rfl⟩
      obtain ⟨hh, hhi⟩ : ∃ hh, hh = x / B32 := ⟨_, rfl⟩
      have hlob : lo < B32 := by rw [hlo]; exact Nat.mod_lt _ B32_pos
      have hhib : hh < B32 := by rw [hhi]; exact Nat.div_lt_of_lt_mul (by rw [B32_two]; exact hxb)
      have e1 : bits .and .u64 (x : Int) 4294967295 = (lo : Int) := by rw [hlo, B32_eq]; exact and32 x (by rw [← B64_eq]; exact hxb)
      have e2 : (x : Int) / 4294967296 = (hh : Int) := by rw [hhi, B32_eq]; exact div32 x
      have e3 : IntKind.u32.wrap (lo : Int) = (lo : Int) := wrap32 lo hlob
      have e4 : IntKind.u32.wrap (hh : Int) = (hh : Int) := wrap32 hh hhib
      have HLO : Hid (lo = x % B32) := hlo
      have HHI : Hid (hh = x / B32) := hhi
      have hsp : K2 + 2 ≤ N := by have := HK2.out; have := HN.out; omega
      have HOA : Hid ((wr.drew.alloc (.cells #[V lo, V hh] 171)).ownsRow w.heap.size 171 1 (.slice (some ⟨w.heap.size, 0, none⟩) K2 N) K2 (cellsV (dig32 (xs.take k)))) := by
        have h0 : wr.drew.ownsRow w.heap.size 171 1 (.slice (some ⟨w.heap.size, 0, none⟩) K2 N) K2 (cellsV (dig32 (xs.take k))) := HOW.out
        exact h0.alloc _
      clear hlo hhi
      go_wp2_with fail
      go_region_law (refine step_append_own rfl (.tmp 15) (.tmp 28) 102 rfl w.heap.size 171 i0 1 Tryz.underlying102 hi hz1 w.heap.size K2 N (cellsV (dig32 (xs.take k))) (by simp [Act.eval]) HOA.out ⟨wr.heap.size, 0, none⟩ 2 2 [V lo, V hh] (by simp [Act.eval]) rfl (two_cells wr.drew lo hh) (by intro u hu; simp at hu; rcases hu with rfl | rfl <;> rfl) hsp ?_; intro w3 hw3 hgr3)
      all_goals
        (have hbx3 : Below w.heap.size w w3 := ((bDrew hbx).alloc (by have := hbx.size; exact this) _).grown hgr3 (by have := hbx.size; simp; omega) (fun q hq => by simp at hq; omega)
         have HW3 : Hid (w3.ownsRow w.heap.size 171 1 (.slice (some ⟨w.heap.size, 0, none⟩) (K2 + 2) N) (K2 + 2) (cellsV (dig32 (xs.take (k + 1))))) := by
           have e0 : cellsV (dig32 (xs.take (k + 1))) = cellsV (dig32 (xs.take k)) ++ [V lo, V hh] := by
             rw [dig32_snoc xs k (by rw [HL.out]; omega), ← HX.out, ← HLO.out, ← HHI.out]; unfold cellsV; rw [List.map_append]; rfl
           rw [e0]; exact hw3
         clear hw3 hgr3
         go_wp2_with fail
         go_roundg gg
         case measure => omega
         case rel => exact ⟨k + 1, K2 + 2, by omega, by go_num, by have := HK2.out; show _ = _; omega, rfl, HW3, hbx3⟩)
end Go.Proofs.YtfmbifocgljieaaGreatDoor
namespace Go.Proofs.YtfmbifocgljieaaGreatDoor
open Go.RowKit Go.Shelf
set_option maxRecDepth 100000
set_option maxHeartbeats 0
theorem B64_sq (k : Nat) : B64 ^ k = B32 ^ (2 * k) := by rw [Nat.pow_mul, show B32 ^ 2 = B64 from rfl]
structure RToR (w : World) (g N m : Nat) (ds : List Nat) (k : Nat) (us : List Nat) (wr : World) : Prop where
  bel : Below g w wr
  own : wr.ownsRow g 23 1 (.slice (some ⟨g, 0, none⟩) k N) k (cellsU us)
  len : us.length = k
  dig : Dig B64 us
  top : m ≤ 2 * k → Top us
  val : valB B64 us = valB B32 (ds.take (2 * k))
theorem rto_val {us ds : List Nat} {k x y : Nat} (h : valB B64 us = valB B32 (ds.take (2 * k))) (hl : us.length = k) (ex : x = ds.getD (2 * k) 0) (ey : y = ds.getD (2 * k + 1) 0) : valB B64 (us ++ [x + B32 * y]) = valB B32 (ds.take (2 * (k + 1))) := by
  rw [valB_snoc, hl, h, B64_sq, show 2 * (k + 1) = 2 * k + 1 + 1 by omega, valB_take_any _ ds (2 * k + 1), valB_take_any _ ds (2 * k), ← ex, ← ey, Nat.pow_succ, Nat.mul_add, Nat.mul_assoc]
  omega
theorem top_snoc (us : List Nat) {x : Nat} (h : x ≠ 0) : Top (us ++ [x]) := by
  intro z hz; simp at hz; omega
theorem own_at {wr : World} {g i N : Nat} {ss : List Nat} (ho : wr.ownsRow g 23 1 (.slice (some ⟨g, 0, none⟩) i N) i (cellsU ss)) (hl : ss.length = i) (hd : Dig B64 ss) : At wr (some ⟨g, 0, none⟩) i N ss := by
  rcases ho.2 with ⟨h', _⟩ | ⟨g', cap', cur, h', hbase, hgc, hcap', hmx, hsz, htake⟩
  · simp at h'
  · simp only [Value.slice.injEq, Option.some.injEq, Addr.mk.injEq, and_true, true_and] at h'
    obtain ⟨rfl, rfl⟩ := h'
    refine ⟨hl, hcap', hmx, hd, .inr ⟨g, 0, rfl, fun jj hj => ?_⟩⟩
    rw [Nat.zero_add, cell_of_row wr g jj _ _ _ hgc]
    have e1 := cellsU_get ss jj (by rw [hl]; exact hj)
    rw [← htake, Nat.mul_one, List.getElem?_take, if_pos hj] at e1
    rw [← Array.getElem?_toList]; exact e1
theorem one_cellU (w : World) (x : Nat) : ∀ (j : Nat) (u : Value), [U x][j]? = some u → (w.alloc (.cells #[U x] 23)).cell? ((⟨w.heap.size, 0, none⟩ : Addr).add j) = some u := by
  intro j u h
  have hb : Blk (w.alloc (.cells #[U x] 23)) w.heap.size [x] := heap_alloc_new w _
  have hj : j < 1 := by
    have := (List.getElem?_eq_some_iff.1 h).1
    simpa using this
  have hadd : (⟨w.heap.size, 0, none⟩ : Addr).add j = ⟨w.heap.size, j, none⟩ := by unfold Addr.add; split <;> simp_all
  rw [hadd, hb.cell j (by simpa using hj)]
  obtain rfl : j = 0 := by omega
  simpa using h

theorem rto_any {p : Option Addr} {n c : Nat} {xs : List Nat} {w : World} (h : At32 w p n c xs) (hn : n ≤ 35184372088832) :
    Calls Tryz.prog 144 #[.slice p n c] w fun e w' => ∃ g k N us, e = .returned (.slice (some ⟨g, 0, none⟩) k N) ∧ w.heap.size ≤ g ∧ At w' (some ⟨g, 0, none⟩) k N us ∧ Nf B64 us (valB B32 xs) ∧ Below w.heap.size w w' := by
  obtain ⟨i0, hi, hz0, hz1, hz2⟩ := info_parts Tryz.infoU64
  have HDG : Hid (Dig B32 xs) := h.dig
  have hlx := h.len
  have hle := trimL_length_le xs
  have hm0 : (trimL xs).length ≤ 35184372088832 := by omega
  have HV : Hid (valB B32 (trimL xs) = valB B32 xs) := valB_trimL _ _
  have HTOP : Hid (Top (trimL xs)) := Top_trimL xs
  have HDT : Hid (Dig B32 (trimL xs)) := h.dig.trimL
  clear hlx hle
  go_enter Tryz.func144, Tryz.ntmps144
  go_wp2_with fail
  refine (rnorm_any h (by omega)).mono ?_
  rintro e w0 ⟨gd, rfl, hgd, hblk, hb0⟩
  have A0 := hblk.at_ HDT.out rfl (by unfold maxLen; omega)
  generalize trimL xs = ds at *
  obtain ⟨m, hm⟩ : ∃ m, m = ds.length := ⟨_, rfl⟩
  rw [← hm] at A0 hm0 ⊢
  have HM : Hid (m = ds.length) := hm
  clear hm hblk h
  have hNi : (m : Int).tdiv 2 = ((m / 2 : Nat) : Int) := by rw [Int.tdiv_eq_ediv_of_nonneg (by omega)]; omega
  go_wp2_with (at_make; refine wpList_make_own _ rfl _ _ 29 rfl w0.heap.size 23 i0 (.int .u64 0) 1 Tryz.underlying29 hi hz0 hz1 _ _ _ (m / 2 + 1) rfl rfl (by omega) (by rw [hz2]; omega) (by unfold maxLen; omega) (Nat.le_refl _) ?_; intro w1 hown hgrow)
  have hb1 : Below w0.heap.size w0 w1 := (Below.refl _ _).grown hgrow (Nat.le_refl _) (fun k hk => by simp at hk)
  have HO : Hid (RToR w0 w0.heap.size (m / 2 + 1) m ds 0 [] w1) := ⟨hb1, hown, rfl, Dig.nil _, fun _ => by intro x hx; simp at hx, by simp [valB]⟩
  clear hown hgrow hb1 hNi
  obtain ⟨N, hN⟩ : ∃ N, N = m / 2 + 1 := ⟨_, rfl⟩
  rw [← hN] at HO ⊢
  have HN : Hid (N = m / 2 + 1) := hN
  have hNb : N ≤ 17592186044417 := by omega
  clear hN
  go_loopg [4, 5] N (fun gk lv iv wr => ∃ (k i : Nat) (us : List Nat), k + gk = N ∧ Hid (i = 2 * k) ∧ iv = .int .i64 i ∧ lv = .slice (some ⟨w0.heap.size, 0, none⟩) k N ∧ Hid (RToR w0 w0.heap.size N m ds k us wr))
  case atStart => exact ⟨0, 0, [], by omega, rfl, rfl, rfl, HO⟩
  case round =>
    obtain ⟨k, i, us, hkg, HI, rfl, rfl, HR⟩ := hrel
    by_cases him : i < m
    · have hsp : k + 1 ≤ N := by have := HI.out; have := HN.out; omega
      obtain ⟨x, hx⟩ : ∃ x, x = ds.getD i 0 := ⟨_, rfl⟩
      obtain ⟨y, hy⟩ : ∃ y, y = ds.getD (i + 1) 0 := ⟨_, rfl⟩
      have hxb : x < B32 := by rw [hx]; exact HDT.out.getD B32_pos i
      have hyb : y < B32 := by rw [hy]; exact HDT.out.getD B32_pos (i + 1)
      rw [B32_eq] at hxb hyb
      have c0 : w0.cell? ⟨gd, i, none⟩ = some (V x) := by
        have := A0.cellAt i (by omega)
        rw [Nat.zero_add] at this
        rw [hx]; exact this
      have c1 : wr.cell? ⟨gd, i, none⟩ = some (V x) := (HR.out.bel.cell (p := ⟨gd, i, none⟩) (World.block_lt_of_cell? w0 _ c0)).trans c0
      have hxw : IntKind.u64.wrap (x : Int) = (x : Int) := wrap_mod _ _ (by omega)
      have hyw : IntKind.u64.wrap (y : Int) = (y : Int) := wrap_mod _ _ (by omega)
      obtain ⟨yh, eyh⟩ : ∃ yh, yh = 4294967296 * y := ⟨_, rfl⟩
      have f1 : IntKind.u64.wrap ((y : Int) * 4294967296) = (yh : Int) := wrap_mod _ _ (by omega)
      obtain ⟨ww, eww⟩ : ∃ ww, ww = x + yh := ⟨_, rfl⟩
      have f2 : IntKind.u64.wrap ((x : Int) + (yh : Int)) = (ww : Int) := wrap_mod _ _ (by omega)
      have hwb : ww < B64 := by rw [B64_eq]; omega
      have EW : Hid (ww = x + B32 * y) := by show _ = _; rw [B32_eq]; omega
      have HXE : Hid (x = ds.getD (2 * k) 0) := by rw [← HI.out]; exact hx
      have HYE : Hid (y = ds.getD (2 * k + 1) 0) := by rw [← HI.out]; exact hy
      have HTT : Hid (m ≤ 2 * (k + 1) → ww ≠ 0) := by
        intro hle
        have hi2 := HI.out
        by_cases h1 : i + 1 < m
        · have : y ≠ 0 := by
            refine HTOP.out y ?_
            rw [List.getLast?_eq_getElem?, ← HM.out, show m - 1 = i + 1 by omega, hy, List.getD_eq_getElem?_getD, List.getElem?_eq_getElem (by have := HM.out; omega)]; rfl
          omega
        · have : x ≠ 0 := by
            refine HTOP.out x ?_
            rw [List.getLast?_eq_getElem?, ← HM.out, show m - 1 = i by omega, hx, List.getD_eq_getElem?_getD, List.getElem?_eq_getElem (by have := HM.out; omega)]; rfl
          omega
      have HOA : Hid ((wr.alloc (.cells #[U ww] 23)).ownsRow w0.heap.size 23 1 (.slice (some ⟨w0.heap.size, 0, none⟩) k N) k (cellsU us)) := HR.out.own.alloc _
      by_cases h1 : i + 1 < m
      · have d0 : w0.cell? ⟨gd, i + 1, none⟩ = some (V y) := by
          have := A0.cellAt (i + 1) (by omega)
          rw [Nat.zero_add] at this
          rw [hy]; exact this
        have d1 : wr.cell? ⟨gd, i + 1, none⟩ = some (V y) := (HR.out.bel.cell (p := ⟨gd, i + 1, none⟩) (World.block_lt_of_cell? w0 _ d0)).trans d0
        clear hx hy c0 d0 eyh eww hxb hyb
        go_wp2_with (at_builtin; refine wpList_append_fits _ rfl (.tmp 39) (.tmp 41) 29 rfl w0.heap.size 23 i0 1 Tryz.underlying29 hi hz1 w0.heap.size k N (cellsU us) rfl HOA.out ⟨wr.heap.size, 0, none⟩ 1 1 [U ww] rfl rfl (one_cellU wr ww) (by intro u hu; simp at hu; subst hu; rfl) hsp ?_; intro w3 hw3 hgr3)
        have HR3 : Hid (RToR w0 w0.heap.size N m ds (k + 1) (us ++ [ww]) w3) := by
          have hR := HR.out
          refine ⟨(hR.bel.alloc hR.bel.size _).grown hgr3 (by have := hR.bel.size; simp; omega) (fun q hq => by simp at hq; omega), ?_, by simp [hR.len], hR.dig.append (dig1 hwb), fun hle => top_snoc us (HTT.out hle), ?_⟩
          · have e0 : cellsU (us ++ [ww]) = cellsU us ++ [U ww] := by unfold cellsU; rw [List.map_append]; rfl
            rw [e0]; exact hw3
          · rw [EW.out]; exact rto_val hR.val hR.len HXE.out HYE.out
        clear hw3 hgr3
        go_roundg (gk - 1)
        case measure => omega
        case rel => exact ⟨k + 1, i + 2, us ++ [ww], by omega, by have := HI.out; show _ = _; omega, by go_num, rfl, HR3⟩
      · have hy0 : y = 0 := by rw [hy, List.getD_eq_getElem?_getD, List.getElem?_eq_none (by have := HM.out; omega)]; rfl
        have eyx : ww = x := by omega
        subst eyx
        clear hx hy c0 eyh eww hxb hyb f1 f2 hyw
        go_wp2_with (at_builtin; refine wpList_append_fits _ rfl (.tmp 39) (.tmp 41) 29 rfl w0.heap.size 23 i0 1 Tryz.underlying29 hi hz1 w0.heap.size k N (cellsU us) rfl HOA.out ⟨wr.heap.size, 0, none⟩ 1 1 [U ww] rfl rfl (one_cellU wr ww) (by intro u hu; simp at hu; subst hu; rfl) hsp ?_; intro w3 hw3 hgr3)
        have HR3 : Hid (RToR w0 w0.heap.size N m ds (k + 1) (us ++ [ww]) w3) := by
          have hR := HR.out
          refine ⟨(hR.bel.alloc hR.bel.size _).grown hgr3 (by have := hR.bel.size; simp; omega) (fun q hq => by simp at hq; omega), ?_, by simp [hR.len], hR.dig.append (dig1 hwb), fun hle => top_snoc us (HTT.out hle), ?_⟩
          · have e0 : cellsU (us ++ [ww]) = cellsU us ++ [U ww] := by unfold cellsU; rw [List.map_append]; rfl
            rw [e0]; exact hw3
          · rw [EW.out]; exact rto_val hR.val hR.len HXE.out HYE.out
        clear hw3 hgr3
        go_roundg (gk - 1)
        case measure => omega
        case rel => exact ⟨k + 1, i + 2, us ++ [ww], by omega, by have := HI.out; show _ = _; omega, by go_num, rfl, HR3⟩
    · have hR := HR.out
      have hi2 := HI.out
      have AT := own_at hR.own hR.len hR.dig
      have HNF : Hid (Nf B64 us (valB B32 xs)) := by
        refine ⟨hR.dig, hR.top (by omega), ?_⟩
        have hv := hR.val
        rw [List.take_of_length_le (by have := HM.out; omega), HV.out] at hv; exact hv
      have hbx := Below.on hb0 hR.bel
      have hgz := hb0.size
      clear hR hi2
      go_wp2_with fail
      go_ret
      exact ⟨_, k, N, us, rfl, by omega, AT, HNF.out, hbx⟩
theorem At32.setOther {w : World} {g off n c : Nat} {xs : List Nat} (h : At32 w (some ⟨g, off, none⟩) n c xs) (g2 o2 : Nat) (v : Value) (hne : g ≠ g2) : At32 (w.setCell ⟨g2, o2, none⟩ v) (some ⟨g, off, none⟩) n c xs := by
  refine ⟨h.len, h.cap, h.big, h.dig, ?_⟩
  rcases h.cells with h0 | ⟨g', o', he, hcl⟩
  · exact .inl h0
  · refine .inr ⟨g', o', he, fun j hj => ?_⟩
    simp only [Option.some.injEq, Addr.mk.injEq, and_true] at he
    rw [World.cell?_setCell_other _ _ _ _ (by intro e; apply hne; have := congrArg Addr.block e; simp at this; omega)]
    exact hcl j hj
theorem At.setOther {w : World} {g off n c : Nat} {xs : List Nat} (h : At w (some ⟨g, off, none⟩) n c xs) (g2 o2 : Nat) (v : Value) (hne : g ≠ g2) : At (w.setCell ⟨g2, o2, none⟩ v) (some ⟨g, off, none⟩) n c xs := by
  refine ⟨h.len, h.cap, h.big, h.dig, ?_⟩
  rcases h.cells with h0 | ⟨g', o', he, hcl⟩
  · exact .inl h0
  · refine .inr ⟨g', o', he, fun j hj => ?_⟩
    simp only [Option.some.injEq, Addr.mk.injEq, and_true] at he
    rw [World.cell?_setCell_other _ _ _ _ (by intro e; apply hne; have := congrArg Addr.block e; simp at this; omega)]
    exact hcl j hj

theorem mk04 {p : Option Addr} {n c : Nat} {xs : List Nat} {w : World} (s : Bool) (h : At32 w p n c xs) (hn : n ≤ 35184372088832) :
    Calls Tryz.prog 105 #[.bool s, .slice p n c] w fun e w' => ∃ g m, m = (trimL xs).length ∧ e = .returned (.agg #[.bool (s && decide (0 < m)), .slice (some ⟨g, 0, none⟩) m m]) ∧ w.heap.size ≤ g ∧ At32 w' (some ⟨g, 0, none⟩) m m (trimL xs) ∧ Below w.heap.size w w' := by
  have hd := h.dig.trimL
  have hle := trimL_length_le xs
  have hlx := h.len
  obtain ⟨zs, hzs⟩ : ∃ zs, zs = trimL xs := ⟨_, rfl⟩
  rw [← hzs] at hd hle
  rw [← hzs]
  have HZS : Hid (zs = trimL xs) := hzs
  clear hzs
  go_enter Tryz.func105, Tryz.ntmps105
  go_wp2_with fail
  have B0 : Box (w.alloc (.cells #[.bool false, .slice none 0 0] 104)) w.heap.size (.bool false) (.slice none 0 0) := ⟨by go_simp, by go_simp, by go_simp, by go_simp⟩
  refine (rnorm_any (h.alloc _) hn).mono ?_
  rintro e w1 ⟨g, rfl, hg, hblk, hb⟩
  rw [← HZS.out] at hblk ⊢
  obtain ⟨c0, c1, f0, f1⟩ := B0.below hb
  have hbw := Below.on (below1 w _) hb
  have HA : Hid (At32 w1 (some ⟨g, 0, none⟩) zs.length zs.length zs) := hblk.at_ hd rfl (by unfold maxLen; omega)
  have hg1 : w.heap.size + 1 ≤ g := by simp at hg; exact hg
  clear B0 hb hblk hg hle hlx h
  obtain ⟨m, hm⟩ : ∃ m, m = zs.length := ⟨_, rfl⟩
  rw [← hm] at HA ⊢
  have HM : Hid (m = zs.length) := hm
  clear hm
  have key : ∀ r : Bool, Hid (At32 ((w1.setCell ⟨w.heap.size, 0, none⟩ (.bool r)).setCell ⟨w.heap.size, 1, none⟩ (.slice (some ⟨g, 0, none⟩) m m)) (some ⟨g, 0, none⟩) m m zs) := by
    intro r
    have hA := HA.out
    refine ⟨hA.len, hA.cap, hA.big, hA.dig, ?_⟩
    rcases hA.cells with h0 | ⟨g', o', he, hcl⟩
    · exact .inl h0
    · refine .inr ⟨g', o', he, fun j hj => ?_⟩
      simp only [Option.some.injEq, Addr.mk.injEq, and_true] at he
      have hne : g' ≠ w.heap.size := by omega
      rw [World.cell?_setCell_other _ _ _ _ (by intro e; apply hne; have := congrArg Addr.block e; simp at this; omega), World.cell?_setCell_other _ _ _ _ (by intro e; apply hne; have := congrArg Addr.block e; simp at this; omega)]
      exact hcl j hj
  cases s
  · go_wp2_with fail
    exact bodyPost_ret (v := .agg #[.bool false, .slice (some ⟨g, 0, none⟩) m m]) (by rw [results_cell1 rfl]; go_simp) rfl ⟨g, m, HM.out, rfl, by omega, (key false).out, bSet (bSet hbw _ _ _ (Nat.le_refl _)) _ _ _ (Nat.le_refl _)⟩
  · by_cases hm0 : 0 < m
    · have hd0 : decide ((0 : Int) < (m : Int)) = true := decide_eq_true (by omega)
      go_wp2_with fail
      exact bodyPost_ret (v := .agg #[.bool true, .slice (some ⟨g, 0, none⟩) m m]) (by rw [results_cell1 rfl]; go_simp) rfl ⟨g, m, HM.out, by simp [hm0], by omega, (key true).out, bSet (bSet hbw _ _ _ (Nat.le_refl _)) _ _ _ (Nat.le_refl _)⟩
    · have hd0 : decide ((0 : Int) < (m : Int)) = false := decide_eq_false (by omega)
      go_wp2_with fail
      exact bodyPost_ret (v := .agg #[.bool false, .slice (some ⟨g, 0, none⟩) m m]) (by rw [results_cell1 rfl]; go_simp) rfl ⟨g, m, HM.out, by simp [hm0], by omega, (key false).out, bSet (bSet hbw _ _ _ (Nat.le_refl _)) _ _ _ (Nat.le_refl _)⟩

theorem from04 {p : Option Addr} {n c : Nat} {xs : List Nat} {w : World} (s : Bool) (h : At w p n c xs) (hn : n ≤ 17592186044416) :
    Calls Tryz.prog 62 #[ZV s p n c] w fun e w' => ∃ p' m zs, e = .returned (.agg #[.bool (s && decide (0 < m)), .slice p' m m]) ∧ At32 w' p' m m zs ∧ Nf B32 zs (valB B64 xs) ∧ m ≤ 2 * n ∧ Below w.heap.size w w' := by
  go_enter Tryz.func62, Tryz.ntmps62
  go_wp2_with fail
  have B0 : Box ((w.alloc (.cells #[.bool s, .slice p n c] 31)).alloc (.cells #[.bool false, .slice none 0 0] 104)) w.heap.size (.bool s) (.slice p n c) := ⟨by go_simp, by go_simp, by go_simp, by go_simp⟩
  have B1 : Box ((w.alloc (.cells #[.bool s, .slice p n c] 31)).alloc (.cells #[.bool false, .slice none 0 0] 104)) (w.heap.size + 1) (.bool false) (.slice none 0 0) := ⟨by go_simp, by go_simp, by go_simp, by go_simp⟩
  have hbw : Below w.heap.size w ((w.alloc (.cells #[.bool s, .slice p n c] 31)).alloc (.cells #[.bool false, .slice none 0 0] 104)) := below2 w _ _
  have hsW : ((w.alloc (.cells #[.bool s, .slice p n c] 31)).alloc (.cells #[.bool false, .slice none 0 0] 104)).heap.size = w.heap.size + 1 + 1 := by simp
  generalize ((w.alloc (.cells #[.bool s, .slice p n c] 31)).alloc (.cells #[.bool false, .slice none 0 0] 104)) = W at *
  obtain ⟨hs, ehs⟩ : ∃ hs, hs = w.heap.size := ⟨_, rfl⟩
  have HHS : Hid (hs = w.heap.size) := ehs
  rw [← ehs] at B0 B1 hsW ⊢
  have HSW : Hid (W.heap.size = hs + 1 + 1) := hsW
  have HBW : Hid (Below w.heap.size w W.drew) := bDrew hbw
  have HAT : Hid (At W.drew p n c xs) := (h.below hbw).drewN 1
  have X0 : Hid (Box W.drew hs (.bool s) (.slice p n c)) := ⟨B0.c0, B0.c1, B0.f0, B0.f1⟩
  have X1 : Hid (Box W.drew (hs + 1) (.bool false) (.slice none 0 0)) := ⟨B1.c0, B1.c1, B1.f0, B1.f1⟩
  obtain ⟨c00, c01, f00, f01⟩ := B0
  obtain ⟨c10, c11, f10, f11⟩ := B1
  clear ehs hsW hbw h
  go_region_with (first
    | (go_at_call 86; refine (from_any HAT.out hn).mono ?_; rintro e w1 ⟨g1, zs, rfl, hg1, hblk1, hnf1, hl1, hb1⟩; obtain ⟨d00, d01, e00, e01⟩ := X0.out.below hb1; have Y1 : Hid (Box w1 (hs + 1) (.bool false) (.slice none 0 0)) := X1.out.below hb1; have HA1 : Hid (At32 w1 (some ⟨g1, 0, none⟩) zs.length zs.length zs) := hblk1.at_ hnf1.dig rfl (by unfold maxLen; omega); have HN1 : Hid (Nf B32 zs (valB B64 xs)) := hnf1; have HL1 : Hid (zs.length ≤ 2 * n) := hl1; have HB1 : Hid (Below w.heap.size w w1) := Below.on HBW.out hb1; have HS1 : Hid (hs + 1 + 1 ≤ w1.heap.size) := Nat.le_trans (Nat.le_of_eq HSW.out.symm) hb1.size; clear hblk1 hnf1 hl1 hb1 hg1)
    | (go_at_call 105; refine (mk04 s HA1.out (by have := HL1.out; omega)).mono ?_; rintro e w2 ⟨g2, m2, hm2, rfl, hg2, hA2, hb2⟩; obtain ⟨c10, c11, f10, f11⟩ := Y1.out.below hb2; have HM2 : Hid (m2 = (trimL zs).length) := hm2; have HA2 : Hid (At32 w2 (some ⟨g2, 0, none⟩) m2 m2 (trimL zs)) := hA2; have HB2 : Hid (Below w.heap.size w w2) := Below.on HB1.out hb2; have HG2 : Hid (hs + 1 + 1 ≤ g2) := Nat.le_trans HS1.out hg2; clear hm2 hA2 hb2 hg2))
  all_goals
    (obtain ⟨sb, esb⟩ : ∃ sb, sb = (s && decide (0 < m2)) := ⟨_, rfl⟩
     rw [← esb]
     have HSB : Hid (sb = (s && decide (0 < m2))) := esb
     clear esb
     go_wp2_with fail
     refine bodyPost_ret (v := .agg #[.bool sb, .slice (some ⟨g2, 0, none⟩) m2 m2]) (by rw [results_cell1 rfl]; go_simp) rfl ⟨_, m2, trimL zs, by rw [HSB.out], (HA2.out.setOther _ _ _ (by have := HG2.out; omega)).setOther _ _ _ (by have := HG2.out; omega), ?_, ?_, bSet (bSet HB2.out _ _ _ (by have := HHS.out; omega)) _ _ _ (by have := HHS.out; omega)⟩
     · rw [trimL_of_Top HN1.out.top]; exact HN1.out
     · have h1 := HM2.out; have h2 := HL1.out; rw [trimL_of_Top HN1.out.top] at h1; omega)
theorem to04_f {p : Option Addr} {n : Nat} {zs : List Nat} {a : Nat} {w : World} (h : At32 w p n n zs) (hx : Nf B32 zs a) (hn : n ≤ 35184372088832) :
    Calls Tryz.prog 104 #[.agg #[.bool false, .slice p n n]] w fun e w' => ∃ g k N us, e = .returned (ZV (false && decide (0 < n)) (some ⟨g, 0, none⟩) k N) ∧ At w' (some ⟨g, 0, none⟩) k N us ∧ Nf B64 us a ∧ w.heap.size ≤ g ∧ Below w.heap.size w w' := by
  have HX : Hid (Nf B32 zs a) := hx
  clear hx
  obtain ⟨sb, esb⟩ : ∃ sb, sb = (false && decide (0 < n)) := ⟨_, rfl⟩
  rw [← esb]
  have HSB : Hid (sb = (false && decide (0 < n))) := esb
  clear esb
  go_enter Tryz.func104, Tryz.ntmps104
  go_wp2_with fail
  have B0 : Box ((w.alloc (.cells #[.bool false, .slice p n n] 104)).alloc (.cells #[.bool false, .slice none 0 0] 31)) w.heap.size (.bool false) (.slice p n n) := ⟨by go_simp, by go_simp, by go_simp, by go_simp⟩
  have B1 : Box ((w.alloc (.cells #[.bool false, .slice p n n] 104)).alloc (.cells #[.bool false, .slice none 0 0] 31)) (w.heap.size + 1) (.bool false) (.slice none 0 0) := ⟨by go_simp, by go_simp, by go_simp, by go_simp⟩
  have hbw : Below w.heap.size w ((w.alloc (.cells #[.bool false, .slice p n n] 104)).alloc (.cells #[.bool false, .slice none 0 0] 31)) := below2 w _ _
  have hsW : ((w.alloc (.cells #[.bool false, .slice p n n] 104)).alloc (.cells #[.bool false, .slice none 0 0] 31)).heap.size = w.heap.size + 1 + 1 := by simp
  generalize ((w.alloc (.cells #[.bool false, .slice p n n] 104)).alloc (.cells #[.bool false, .slice none 0 0] 31)) = W at *
  obtain ⟨hs, ehs⟩ : ∃ hs, hs = w.heap.size := ⟨_, rfl⟩
  have HHS : Hid (hs = w.heap.size) := ehs
  rw [← ehs] at B0 B1 hsW ⊢
  have HSW : Hid (W.heap.size = hs + 1 + 1) := hsW
  have HBW : Hid (Below w.heap.size w W.drew) := bDrew hbw
  have HAT : Hid (At32 W.drew p n n zs) := (h.below hbw).drewN 1
  have X0 : Hid (Box W.drew hs (.bool false) (.slice p n n)) := ⟨B0.c0, B0.c1, B0.f0, B0.f1⟩
  have X1 : Hid (Box W.drew (hs + 1) (.bool false) (.slice none 0 0)) := ⟨B1.c0, B1.c1, B1.f0, B1.f1⟩
  obtain ⟨c00, c01, f00, f01⟩ := B0
  obtain ⟨c10, c11, f10, f11⟩ := B1
  clear ehs hsW hbw h
  have HF : Hid (sb = false) := by show _ = _; rw [HSB.out]; simp
  first | (go_region_with ((go_at_call 144; refine (rto_any HAT.out hn).mono ?_; rintro e w1 ⟨g1, k1, N1, us, rfl, hg1, hA1, hnf1, hb1⟩; obtain ⟨d00, d01, e00, e01⟩ := X0.out.below hb1; obtain ⟨d10, d11, e10, e11⟩ := X1.out.below hb1; have HA1 : Hid (At w1 (some ⟨g1, 0, none⟩) k1 N1 us) := hA1; have HN1 : Hid (Nf B64 us (valB B32 zs)) := hnf1; have HB1 : Hid (Below w.heap.size w w1) := Below.on HBW.out hb1; have HG1 : Hid (hs + 1 + 1 ≤ g1) := Nat.le_trans (Nat.le_of_eq HSW.out.symm) hg1; clear hA1 hnf1 hb1 hg1))) | fail
  all_goals
    (go_wp2_with fail
     refine bodyPost_ret (v := ZV false (some ⟨g1, 0, none⟩) k1 N1) (by rw [results_cell1 rfl]; go_simp) rfl ⟨g1, k1, N1, us, by rw [HF.out], (HA1.out.setOther _ _ _ (by have := HG1.out; omega)).setOther _ _ _ (by have := HG1.out; omega), ?_, by have := HG1.out; have := HHS.out; omega, bSet (bSet HB1.out _ _ _ (by have := HHS.out; omega)) _ _ _ (by have := HHS.out; omega)⟩
     have hq := HN1.out
     rw [HX.out.val] at hq; exact hq)
theorem to04_p {p : Option Addr} {n : Nat} {zs : List Nat} {a : Nat} {w : World} (h : At32 w p n n zs) (hx : Nf B32 zs a) (hn : n ≤ 35184372088832) (h0 : 0 < n) :
    Calls Tryz.prog 104 #[.agg #[.bool true, .slice p n n]] w fun e w' => ∃ g k N us, e = .returned (ZV (true && decide (0 < n)) (some ⟨g, 0, none⟩) k N) ∧ At w' (some ⟨g, 0, none⟩) k N us ∧ Nf B64 us a ∧ w.heap.size ≤ g ∧ Below w.heap.size w w' := by
  have HX : Hid (Nf B32 zs a) := hx
  clear hx
  obtain ⟨sb, esb⟩ : ∃ sb, sb = (true && decide (0 < n)) := ⟨_, rfl⟩
  rw [← esb]
  have HSB : Hid (sb = (true && decide (0 < n))) := esb
  clear esb
  go_enter Tryz.func104, Tryz.ntmps104
  go_wp2_with fail
  have B0 : Box ((w.alloc (.cells #[.bool true, .slice p n n] 104)).alloc (.cells #[.bool false, .slice none 0 0] 31)) w.heap.size (.bool true) (.slice p n n) := ⟨by go_simp, by go_simp, by go_simp, by go_simp⟩
  have B1 : Box ((w.alloc (.cells #[.bool true, .slice p n n] 104)).alloc (.cells #[.bool false, .slice none 0 0] 31)) (w.heap.size + 1) (.bool false) (.slice none 0 0) := ⟨by go_simp, by go_simp, by go_simp, by go_simp⟩
  have hbw : Below w.heap.size w ((w.alloc (.cells #[.bool true, .slice p n n] 104)).alloc (.cells #[.bool false, .slice none 0 0] 31)) := below2 w _ _
  have hsW : ((w.alloc (.cells #[.bool true, .slice p n n] 104)).alloc (.cells #[.bool false, .slice none 0 0] 31)).heap.size = w.heap.size + 1 + 1 := by simp
  generalize ((w.alloc (.cells #[.bool true, .slice p n n] 104)).alloc (.cells #[.bool false, .slice none 0 0] 31)) = W at *
  obtain ⟨hs, ehs⟩ : ∃ hs, hs = w.heap.size := ⟨_, rfl⟩
  have HHS : Hid (hs = w.heap.size) := ehs
  rw [← ehs] at B0 B1 hsW ⊢
  have HSW : Hid (W.heap.size = hs + 1 + 1) := hsW
  have HBW : Hid (Below w.heap.size w W.drew) := bDrew hbw
  have HAT : Hid (At32 W.drew p n n zs) := (h.below hbw).drewN 1
  have X0 : Hid (Box W.drew hs (.bool true) (.slice p n n)) := ⟨B0.c0, B0.c1, B0.f0, B0.f1⟩
  have X1 : Hid (Box W.drew (hs + 1) (.bool false) (.slice none 0 0)) := ⟨B1.c0, B1.c1, B1.f0, B1.f1⟩
  obtain ⟨c00, c01, f00, f01⟩ := B0
  obtain ⟨c10, c11, f10, f11⟩ := B1
  clear ehs hsW hbw h
  have HF : Hid (sb = true) := by show _ = _; rw [HSB.out]; simp [h0]
  have hd0 : decide ((0 : Int) < (n : Int)) = true := decide_eq_true (by omega)
  first | (go_region_with ((go_at_call 144; refine (rto_any HAT.out hn).mono ?_; rintro e w1 ⟨g1, k1, N1, us, rfl, hg1, hA1, hnf1, hb1⟩; obtain ⟨d00, d01, e00, e01⟩ := X0.out.below hb1; obtain ⟨d10, d11, e10, e11⟩ := X1.out.below hb1; have HA1 : Hid (At w1 (some ⟨g1, 0, none⟩) k1 N1 us) := hA1; have HN1 : Hid (Nf B64 us (valB B32 zs)) := hnf1; have HB1 : Hid (Below w.heap.size w w1) := Below.on HBW.out hb1; have HG1 : Hid (hs + 1 + 1 ≤ g1) := Nat.le_trans (Nat.le_of_eq HSW.out.symm) hg1; clear hA1 hnf1 hb1 hg1))) | fail
  all_goals
    (go_wp2_with fail
     refine bodyPost_ret (v := ZV true (some ⟨g1, 0, none⟩) k1 N1) (by rw [results_cell1 rfl]; go_simp) rfl ⟨g1, k1, N1, us, by rw [HF.out], (HA1.out.setOther _ _ _ (by have := HG1.out; omega)).setOther _ _ _ (by have := HG1.out; omega), ?_, by have := HG1.out; have := HHS.out; omega, bSet (bSet HB1.out _ _ _ (by have := HHS.out; omega)) _ _ _ (by have := HHS.out; omega)⟩
     have hq := HN1.out
     rw [HX.out.val] at hq; exact hq)
def Told (z : Int) (s : Bool) (m : Nat) (zs : List Nat) (er : Int) : Prop :=
  (z.natAbs < LIM ∧ s = decide (z < 0) ∧ Nf B64 zs z.natAbs ∧ m ≤ 8192 ∧ er = 0) ∨ (LIM ≤ z.natAbs ∧ s = false ∧ zs = [] ∧ m = 0 ∧ er = 5)
theorem AnsI.any {B : Nat} {w' : World} {e : Ending} {z : Int} (h : AnsI B w' e z) : ∃ s p m zs er, e = .returned (.tuple #[ZV s p m m, .int .i64 er]) ∧ At w' p m m zs ∧ Told z s m zs er := by
  rcases h with ⟨hz, p, m, zs, rfl, ho, hn, hm⟩ | ⟨hz, rfl⟩
  · exact ⟨_, p, m, zs, 0, rfl, ho.at_ hm, .inl ⟨hz, rfl, hn, hm, rfl⟩⟩
  · exact ⟨false, none, 0, [], 5, rfl, At.empty _ none 0 (by decide), .inr ⟨hz, rfl, rfl, rfl, rfl⟩⟩
theorem Told.inj {z : Int} {s s' : Bool} {m m' : Nat} {zs zs' : List Nat} {er er' : Int} (h : Told z s m zs er) (k : Told z s' m' zs' er') : s = s' ∧ zs = zs' ∧ er = er' := by
  rcases h with ⟨hz, rfl, hn, hm, rfl⟩ | ⟨hz, rfl, rfl, rfl, rfl⟩ <;> rcases k with ⟨kz, rfl, kn, km, rfl⟩ | ⟨kz, rfl, rfl, rfl, rfl⟩
  · exact ⟨rfl, hn.inj B64_one kn, rfl⟩
  · omega
  · omega
  · exact ⟨rfl, rfl, rfl⟩
theorem Told.er {z : Int} {s : Bool} {m : Nat} {zs : List Nat} {er : Int} (h : Told z s m zs er) : er = 0 ∨ er = 5 := by
  rcases h with ⟨_, _, _, _, rfl⟩ | ⟨_, _, _, _, rfl⟩
  · exact .inl rfl
  · exact .inr rfl
theorem Told.ok {z : Int} {s : Bool} {m : Nat} {zs : List Nat} {w : World} {p : Option Addr} (h : Told z s m zs 0) (a : At w p m m zs) : Num w p m m zs z.natAbs ∧ s = decide (z < 0) := by
  rcases h with ⟨_, h1, h2, h3, _⟩ | ⟨_, _, _, _, h⟩
  · exact ⟨⟨a, h2, h3⟩, h1⟩
  · exact absurd h (by decide)
theorem Told.no {z : Int} {s : Bool} {m : Nat} {zs : List Nat} (h : Told z s m zs 5) : LIM ≤ z.natAbs := by
  rcases h with ⟨_, _, _, _, h⟩ | ⟨h, _⟩
  · exact absurd h (by decide)
  · exact h
theorem iv_abs (z : Int) : iv (decide (z < 0)) z.natAbs = z := by
  unfold iv
  by_cases h : z < 0
  · simp only [h, decide_true, if_true]; omega
  · simp only [h, decide_false, Bool.false_eq_true, if_false]; omega
theorem iv_natAbs (s : Bool) (a : Nat) : (iv s a).natAbs = a := by cases s <;> simp [iv]
theorem sgn_pos (z : Int) : decide (z < 0) = true → 0 < z.natAbs := by intro h; have := of_decide_eq_true h; omega

theorem to04_any {p : Option Addr} {n : Nat} {zs : List Nat} {a : Nat} {w : World} (b : Bool) (h : At32 w p n n zs) (hx : Nf B32 zs a) (hn : n ≤ 35184372088832) (h0 : b = true → 0 < n) :
    Calls Tryz.prog 104 #[.agg #[.bool b, .slice p n n]] w fun e w' => ∃ g k N us, e = .returned (ZV b (some ⟨g, 0, none⟩) k N) ∧ At w' (some ⟨g, 0, none⟩) k N us ∧ Nf B64 us a ∧ w.heap.size ≤ g ∧ Below w.heap.size w w' := by
  cases b
  · exact to04_f h hx hn
  · have := to04_p h hx hn (h0 rfl)
    rwa [decide_eq_true (h0 rfl)] at this
-- the document's side
theorem B32_pow (k : Nat) : B32 ^ k = 2 ^ (32 * k) := by rw [show B32 = 2 ^ 32 from rfl, ← Nat.pow_mul]
theorem bitsN_list32 {us : List Nat} {m x : Nat} (hd : Dig B32 us) (ht : Top us) (hl : us.length = m) (hm : m ≠ 0) (hx : x = us.getD (m - 1) 0) : bitsN (valB B32 us) = 32 * (m - 1) + bitsN x := by
  have h1 := valB_lt B32_pos (hd.take (m - 1))
  rw [List.length_take, hl, Nat.min_eq_left (by omega), B32_pow] at h1
  have hx0 : x ≠ 0 := by
    rw [hx]
    refine ht _ ?_
    rw [List.getLast?_eq_getElem?, hl, List.getD_eq_getElem?_getD, List.getElem?_eq_getElem (by omega)]; rfl
  have e : valB B32 us = valB B32 (us.take (m - 1)) + B32 ^ (m - 1) * x := by
    have := valB_take_succ B32 us (m - 1) (by omega)
    rw [show m - 1 + 1 = m by omega, List.take_of_length_le (by omega), ← hx] at this
    exact this
  rw [e, B32_pow]
  exact bitsN_top h1 (bitsN_lt x) (bitsN_le x hx0) (by unfold bitsN; rw [if_neg hx0]; omega)
theorem half_int (g : Nat) : (g : Int).tdiv 2 = ((g / 2 : Nat) : Int) := by
  rw [Int.tdiv_eq_ediv_of_nonneg (Int.natCast_nonneg g)]; omega

theorem rbits_any {p : Option Addr} {n c : Nat} {zs : List Nat} {v : Nat} {w : World} (h : At32 w p n c zs) (hx : Nf B32 zs v) (hn : n ≤ 35184372088832) :
    Calls Tryz.prog 156 #[.slice p n c] w fun e w' => e = .returned (.int .i64 (bitsN v)) ∧ w' = w := by
  have hl := h.len; have hcap := h.cap; have hbig := h.big
  unfold maxLen at hbig
  by_cases h0 : n = 0
  · subst h0
    have hv : v = 0 := by rw [← hx.val]; rw [List.eq_nil_of_length_eq_zero hl]; rfl
    subst hv
    clear hx
    go_enter Tryz.func156, Tryz.ntmps156
    go_wp2_with fail
    go_ret
    exact ⟨rfl, rfl⟩
  · obtain ⟨g, off, rfl, hc⟩ := h.cells.resolve_left h0
    obtain ⟨x, hx0⟩ : ∃ x, x = zs.getD (n - 1) 0 := ⟨_, rfl⟩
    have hcx : w.cell? ⟨g, off + (n - 1), none⟩ = some (V x) := by rw [hx0]; exact hc _ (by omega)
    have hxl : x < B32 := by
      rw [hx0, List.getD_eq_getElem?_getD, List.getElem?_eq_getElem (by omega)]
      exact h.dig _ (List.getElem_mem _)
    obtain ⟨T, hT⟩ : ∃ T, T = 32 * (n - 1) + bitsN x := ⟨_, rfl⟩
    have HT : Hid (bitsN v = T) := by show _ = _; rw [← hx.val, hT]; exact bitsN_list32 hx.dig hx.top hl h0 hx0
    have HX : Hid (x < B32) := hxl
    have HTT : Hid (T = 32 * (n - 1) + bitsN x) := hT
    obtain ⟨M, hM⟩ : ∃ M, M = n - 1 := ⟨_, rfl⟩
    have hn1 : (n : Int) - 1 = (M : Int) := by omega
    have h0' : ((n : Int) == 0) = false := by simp; omega
    rw [← hM] at hcx
    have HM : Hid (M = n - 1) := hM
    have hMl : M < n := by omega
    clear hx hl hc hx0 hxl hT h hM
    go_enter Tryz.func156, Tryz.ntmps156
    go_wp2_with fail
    have hTb : T ≤ 1200000000000000 := by
      have h1 := HTT.out
      have h2 : bitsN x ≤ 32 := by
        rcases Nat.lt_or_ge 32 (bitsN x) with e | e
        · exfalso
          have h3 : x ≠ 0 := by intro e0; rw [e0, bitsN_zero] at e; omega
          have h4 := bitsN_le x h3
          have h5 : (2:Nat) ^ 32 ≤ 2 ^ (bitsN x - 1) := Nat.pow_le_pow_right (by decide) (by omega)
          have h6 := HX.out
          rw [B32_eq] at h6
          omega
        · exact e
      omega
    go_loopg [3, 4] x (fun gk nv wv wr => ∃ N : Nat, nv = .int .i64 N ∧ wv = .int .u32 gk ∧ N + bitsN gk = T ∧ gk < B32 ∧ wr = w)
    case atStart => exact ⟨32 * M, by first | rfl | (congr 1; omega) | (simp; omega), rfl, by rw [HTT.out, HM.out], HX.out, rfl⟩
    case round =>
      obtain ⟨N, rfl, rfl, hNT, hgB, hwr⟩ := hrel
      obtain rfl := hwr.symm
      clear hwr
      by_cases hg0 : gk = 0
      · subst hg0
        rw [bitsN_zero] at hNT
        have HNT : Hid (N = T) := by show _ = _; omega
        clear hNT hgB
        go_wp2_with fail
        go_ret
        exact ⟨by rw [HT.out, ← HNT.out]; rfl, rfl⟩
      · have hb := bitsN_half gk hg0
        have hN1 : N + 1 ≤ 1200000000000000 := by omega
        have hgp : (0 : Int) < (gk : Int) := by omega
        have hh := half_int gk
        obtain ⟨k2, hk2⟩ : ∃ k2, k2 = gk / 2 := ⟨_, rfl⟩
        rw [← hk2] at hh hb
        have HK2 : Hid (k2 < gk ∧ N + 1 + bitsN k2 = T ∧ k2 < B32) := ⟨by omega, by omega, by omega⟩
        have hw2 : IntKind.u32.wrap (k2 : Int) = (k2 : Int) := wrap32 k2 (by omega)
        clear hb hNT hgB hk2 hg0
        go_wp2_with fail
        go_roundg k2
        case measure => exact HK2.out.1
        case rel => exact ⟨N + 1, by first | rfl | simp, by first | rfl | simp, HK2.out.2.1, HK2.out.2.2, rfl⟩

def DocIs (v : Nat) (us : List Nat) (f : Int) : Prop := (v < LIM ∧ Nf B64 us v ∧ f = 0) ∨ (LIM ≤ v ∧ us = [] ∧ f = 5)
theorem digit_bit {b e : Nat} (hb : b = 2 ^ e) {xs : List Nat} (hd : Dig b xs) {D R : Nat} (hD : D < xs.length) (hR : R < e) : xs.getD D 0 / 2 ^ R % 2 = valB b xs / 2 ^ (e * D + R) % 2 := by
  have hbp : 0 < b := by rw [hb]; exact Nat.pow_pos (by decide)
  have h1 : valB b (xs.drop D) = valB b xs / b ^ D := by
    have h2 := valB_split b xs D (Nat.le_of_lt hD)
    have h3 := valB_lt hbp (hd.take D)
    rw [List.length_take, Nat.min_eq_left (Nat.le_of_lt hD)] at h3
    rw [h2, Nat.add_mul_div_left _ _ (Nat.pow_pos hbp), Nat.div_eq_of_lt h3, Nat.zero_add]
  have h4 := valB_drop b xs D hD
  have h5 : b ^ D = 2 ^ (e * D) := by rw [hb, ← Nat.pow_mul]
  rw [Nat.pow_add, ← Nat.div_div_eq_div_mul, ← h5, ← h1, h4]
  obtain ⟨k, hk⟩ : ∃ k, e = R + 1 + k := ⟨e - R - 1, by omega⟩
  have h6 : b = 2 ^ R * (2 * 2 ^ k) := by rw [hb, hk, Nat.pow_add, Nat.pow_add, Nat.pow_one, Nat.mul_assoc]
  rw [h6, Nat.mul_assoc (2 ^ R), Nat.add_mul_div_left _ _ (Nat.pow_pos (by decide)), Nat.mul_assoc 2, Nat.add_mul_mod_self_left]
theorem and_one_u64q (i : Nat) (_hi : i < B64) : bits BinOp.and IntKind.u64 (i : Int) 1 = ((i % 2 : Nat) : Int) := by
  have h1 : (BitVec.ofInt 64 1).toNat = 2 ^ 1 - 1 := by decide
  have key : (BitVec.ofInt 64 (i : Int) &&& BitVec.ofInt 64 1).toNat = ((i : Int) % ((2 ^ 64 : Nat) : Int)).toNat % 2 ^ 1 := by
    rw [BitVec.toNat_and, BitVec.toNat_ofInt, h1, Nat.and_two_pow_sub_one_eq_mod]
  show IntKind.u64.wrap ((BitVec.ofInt 64 (i : Int) &&& BitVec.ofInt 64 1).toNat : Nat) = _
  rw [key]
  simp only [IntKind.wrap, IntKind.signed, IntKind.bits]
  simp
  omega

theorem bit_any {p : Option Addr} {n c : Nat} {xs : List Nat} {w : World} (h : At w p n c xs) (_hn : n ≤ 17592186044416) (i : Nat) (hi : i ≤ 9223372036854775807) :
    Calls Tryz.prog 66 #[.slice p n c, .int .i64 i] w fun e w' => e = .returned (.bool (decide (valB B64 xs / 2 ^ i % 2 = 1))) ∧ w' = w := by
  have hl := h.len
  have cap := h.cap
  have big := h.big
  unfold maxLen at big
  obtain ⟨D, hD⟩ : ∃ D, D = i / 64 := ⟨_, rfl⟩
  obtain ⟨R, hR⟩ : ∃ R, R = i % 64 := ⟨_, rfl⟩
  have d1 : (i : Int).tdiv 64 = (D : Int) := by rw [Int.tdiv_eq_ediv_of_nonneg (by omega)]; omega
  have d2 : (i : Int).tmod 64 = (R : Int) := by rw [Int.tmod_eq_emod_of_nonneg (by omega)]; omega
  have hneg : ¬ (i : Int) < 0 := by omega
  have hDb : D ≤ 144115188075855871 := by omega
  have hR64 : R < 64 := by omega
  have hei : i = 64 * D + R := by omega
  obtain ⟨r, hr⟩ : ∃ r, r = decide (valB B64 xs / 2 ^ i % 2 = 1) := ⟨_, rfl⟩
  rw [← hr]
  by_cases hc : n ≤ D
  · have HR0 : Hid (r = false) := by
      show _ = _
      rw [hr]
      refine decide_eq_false ?_
      have h1 : valB B64 xs < 2 ^ i := by
        have h2 := valB_lt B64_pos h.dig
        rw [hl] at h2
        refine Nat.lt_of_lt_of_le h2 ?_
        rw [B64_pow]
        exact Nat.pow_le_pow_right (by decide) (by omega)
      rw [Nat.div_eq_of_lt h1]
      decide
    have hci : (n : Int) ≤ (D : Int) := by omega
    have hcb : decide (n ≤ D) = true := decide_eq_true hc
    clear hr hei hD hR h hl
    go_enter Tryz.func66, Tryz.ntmps66
    go_wp2_with fail
    go_ret
    exact ⟨by rw [HR0.out]; rfl, rfl⟩
  · have hDn : D < n := by omega
    have hcb : decide (n ≤ D) = false := decide_eq_false hc
    obtain ⟨g, off, rfl, hcs⟩ := h.cells.resolve_left (by omega)
    obtain ⟨x, hx⟩ : ∃ x, x = xs.getD D 0 := ⟨_, rfl⟩
    have hcx : w.cell? ⟨g, off + D, none⟩ = some (U x) := by rw [hx]; exact hcs D hDn
    have hxb : x < B64 := by rw [hx]; exact h.dig.getD B64_pos D
    obtain ⟨y, hy⟩ : ∃ y, y = x / 2 ^ R := ⟨_, rfl⟩
    have hyI : (x : Int) / 2 ^ R = (y : Int) := by rw [hy]; norm_cast
    have hyb : y < B64 := by rw [hy]; exact Nat.lt_of_le_of_lt (Nat.div_le_self _ _) hxb
    obtain ⟨z, hz⟩ : ∃ z, z = y % 2 := ⟨_, rfl⟩
    have hand : bits BinOp.and IntKind.u64 (y : Int) 1 = (z : Int) := by rw [hz]; exact and_one_u64q y hyb
    have HR1 : Hid (r = decide (z = 1)) := by
      show _ = _
      rw [hr, hz, hy, hx, digit_bit B64_two_pow h.dig (by rw [hl]; exact hDn) hR64, ← hei]
    have hwD : IntKind.i64.wrap (D : Int) = (D : Int) := by simp [IntKind.wrap, IntKind.signed, IntKind.bits]; omega
    clear hr hei hD hR h hl hcs hx hy hz hxb hyb
    go_enter Tryz.func66, Tryz.ntmps66
    go_wp2_with fail
    go_ret
    have hzz : ((z : Int) == 1) = decide (z = 1) := by rw [Bool.eq_iff_iff]; simp; omega
    exact ⟨by rw [HR1.out, ← hzz]; rfl, rfl⟩
theorem and_one_u32q (i : Nat) (_hi : i < B32) : bits BinOp.and IntKind.u32 (i : Int) 1 = ((i % 2 : Nat) : Int) := by
  have h1 : (BitVec.ofInt 32 1).toNat = 2 ^ 1 - 1 := by decide
  have key : (BitVec.ofInt 32 (i : Int) &&& BitVec.ofInt 32 1).toNat = ((i : Int) % ((2 ^ 32 : Nat) : Int)).toNat % 2 ^ 1 := by
    rw [BitVec.toNat_and, BitVec.toNat_ofInt, h1, Nat.and_two_pow_sub_one_eq_mod]
  show IntKind.u32.wrap ((BitVec.ofInt 32 (i : Int) &&& BitVec.ofInt 32 1).toNat : Nat) = _
  rw [key]
  simp only [IntKind.wrap, IntKind.signed, IntKind.bits]
  simp
  omega
theorem rbit_any {p : Option Addr} {n c : Nat} {xs : List Nat} {w : World} (h : At32 w p n c xs) (_hn : n ≤ 35184372088832) (i : Nat) (hi : i ≤ 9223372036854775807) :
    Calls Tryz.prog 142 #[.slice p n c, .int .i64 i] w fun e w' => e = .returned (.int .i64 (valB B32 xs / 2 ^ i % 2 : Nat)) ∧ w' = w := by
  have hl := h.len
  have cap := h.cap
  have big := h.big
  unfold maxLen at big
  obtain ⟨D, hD⟩ : ∃ D, D = i / 32 := ⟨_, rfl⟩
  obtain ⟨R, hR⟩ : ∃ R, R = i % 32 := ⟨_, rfl⟩
  have d1 : (i : Int).tdiv 32 = (D : Int) := by rw [Int.tdiv_eq_ediv_of_nonneg (by omega)]; omega
  have d2 : (i : Int).tmod 32 = (R : Int) := by rw [Int.tmod_eq_emod_of_nonneg (by omega)]; omega
  have hneg : ¬ (i : Int) < 0 := by omega
  have hDb : D ≤ 288230376151711743 := by omega
  have hR64 : R < 32 := by omega
  have hei : i = 32 * D + R := by omega
  obtain ⟨r, hr⟩ : ∃ r, r = valB B32 xs / 2 ^ i % 2 := ⟨_, rfl⟩
  rw [← hr]
  by_cases hc : n ≤ D
  · have HR0 : Hid (r = 0) := by
      show _ = _
      rw [hr]
      have h1 : valB B32 xs < 2 ^ i := by
        have h2 := valB_lt B32_pos h.dig
        rw [hl] at h2
        refine Nat.lt_of_lt_of_le h2 ?_
        rw [B32_pow]
        exact Nat.pow_le_pow_right (by decide) (by omega)
      rw [Nat.div_eq_of_lt h1]
    have hci : (n : Int) ≤ (D : Int) := by omega
    have hcb : decide (n ≤ D) = true := decide_eq_true hc
    clear hr hei hD hR h hl
    go_enter Tryz.func142, Tryz.ntmps142
    go_wp2_with fail
    go_ret
    exact ⟨by rw [HR0.out]; rfl, rfl⟩
  · have hDn : D < n := by omega
    have hcb : decide (n ≤ D) = false := decide_eq_false hc
    obtain ⟨g, off, rfl, hcs⟩ := h.cells.resolve_left (by omega)
    obtain ⟨x, hx⟩ : ∃ x, x = xs.getD D 0 := ⟨_, rfl⟩
    have hcx : w.cell? ⟨g, off + D, none⟩ = some (V x) := by rw [hx]; exact hcs D hDn
    have hxb : x < B32 := by rw [hx]; exact h.dig.getD B32_pos D
    obtain ⟨y, hy⟩ : ∃ y, y = x / 2 ^ R := ⟨_, rfl⟩
    have hyI : (x : Int) / 2 ^ R = (y : Int) := by rw [hy]; norm_cast
    have hyb : y < B32 := by rw [hy]; exact Nat.lt_of_le_of_lt (Nat.div_le_self _ _) hxb
    obtain ⟨z, hz⟩ : ∃ z, z = y % 2 := ⟨_, rfl⟩
    have hand : bits BinOp.and IntKind.u32 (y : Int) 1 = (z : Int) := by rw [hz]; exact and_one_u32q y hyb
    have HR1 : Hid (r = z) := by
      show _ = _
      rw [hr, hz, hy, hx, digit_bit (show B32 = 2 ^ 32 from rfl) h.dig (by rw [hl]; exact hDn) hR64, ← hei]
    have hz2 : z < 2 := by omega
    have hzw : IntKind.i64.wrap (z : Int) = (z : Int) := by simp [IntKind.wrap, IntKind.signed, IntKind.bits]; omega
    have hwD : IntKind.i64.wrap (D : Int) = (D : Int) := by simp [IntKind.wrap, IntKind.signed, IntKind.bits]; omega
    clear hr hei hD hR h hl hcs hx hy hz hxb hyb
    go_enter Tryz.func142, Tryz.ntmps142
    go_wp2_with fail
    go_ret
    exact ⟨by rw [HR1.out]; rfl, rfl⟩
def TzIs (v k : Nat) : Prop := v % 2 ^ k = 0 ∧ v / 2 ^ k % 2 = 1
theorem TzIs.inj {v k l : Nat} (h : TzIs v k) (h' : TzIs v l) : k = l := by
  have aux : ∀ {a b : Nat}, TzIs v a → TzIs v b → ¬ a < b := by
    intro a b ha hb hab
    obtain ⟨d, hd⟩ : ∃ d, b = a + (d + 1) := ⟨b - a - 1, by omega⟩
    have h1 := Nat.dvd_of_mod_eq_zero hb.1
    obtain ⟨q, hq⟩ := h1
    have h2 := ha.2
    rw [hq, hd, Nat.pow_add, Nat.mul_assoc, Nat.mul_div_cancel_left _ (Nat.pow_pos (by decide)), Nat.pow_succ, Nat.mul_comm (2 ^ d) 2, Nat.mul_assoc, Nat.mul_mod_right] at h2
    exact absurd h2 (by decide)
  rcases Nat.lt_trichotomy k l with e | e | e
  · exact absurd e (aux h h')
  · exact e
  · exact absurd e (aux h' h)
theorem TzIs.ex : ∀ (v : Nat), 0 < v → ∃ k, TzIs v k := by
  intro v
  induction v using Nat.strongRecOn with
  | _ v ih =>
    intro hv
    rcases Nat.mod_two_eq_zero_or_one v with h | h
    · obtain ⟨k, h1, h2⟩ := ih (v / 2) (by omega) (by omega)
      refine ⟨k + 1, ?_, ?_⟩
      · rw [Nat.pow_succ, Nat.mul_comm, Nat.mod_mul, h, h1]
      · rw [Nat.pow_succ, Nat.mul_comm, ← Nat.div_div_eq_div_mul]; exact h2
    · exact ⟨0, by rw [Nat.pow_zero, Nat.mod_one], by rw [Nat.pow_zero, Nat.div_one]; exact h⟩
theorem TzIs.ge {v k n : Nat} (h : TzIs v k) (hn : v % 2 ^ n = 0) : n ≤ k := by
  rcases Nat.lt_or_ge k n with e | e
  · exfalso
    obtain ⟨d, hd⟩ : ∃ d, n = k + (d + 1) := ⟨n - k - 1, by omega⟩
    obtain ⟨q, hq⟩ := Nat.dvd_of_mod_eq_zero hn
    have h2 := h.2
    rw [hq, hd, Nat.pow_add, Nat.mul_assoc, Nat.mul_div_cancel_left _ (Nat.pow_pos (by decide)), Nat.pow_succ, Nat.mul_comm (2 ^ d) 2, Nat.mul_assoc, Nat.mul_mod_right] at h2
    exact absurd h2 (by decide)
  · exact e
theorem tz_step {v n : Nat} (h : v % 2 ^ n = 0) (hb : v / 2 ^ n % 2 = 0) : v % 2 ^ (n + 1) = 0 := by
  rw [Nat.pow_succ, Nat.mod_mul, h, hb, Nat.mul_zero]

theorem rzeros_any {p : Option Addr} {n c : Nat} {xs : List Nat} {v k : Nat} {w : World} (h : At32 w p n c xs) (hx : Nf B32 xs v) (hn : n ≤ 35184372088832) (hk : TzIs v k) (hv : 0 < v) :
    Calls Tryz.prog 102 #[.slice p n c] w fun e w' => e = .returned (.int .i64 k) ∧ w' = w := by
  have HX : Hid (Nf B32 xs v) := hx
  have HA : Hid (At32 w p n c xs) := h
  have HK : Hid (TzIs v k) := hk
  have HV : Hid (0 < v) := hv
  have hl := h.len
  have cap := h.cap
  have big := h.big
  unfold maxLen at big
  have hn0 : 0 < n := by
    rcases Nat.eq_zero_or_pos n with e | e
    · exfalso
      rw [e] at hl
      have := hx.val
      rw [List.eq_nil_of_length_eq_zero hl] at this
      simp [valB] at this
      omega
    · exact e
  have hkb : k < 32 * n := by
    rcases Nat.lt_or_ge k (32 * n) with e | e
    · exact e
    · exfalso
      have h1 : v < 2 ^ k := by
        have h2 := valB_lt B32_pos hx.dig
        rw [hx.val, hl, B32_pow] at h2
        exact Nat.lt_of_lt_of_le h2 (Nat.pow_le_pow_right (by decide) e)
      have h3 := hk.2
      rw [Nat.div_eq_of_lt h1] at h3
      exact absurd h3 (by decide)
  have hne : ((n : Int) == 0) = false := by simp; omega
  have HL : Hid (xs.length = n) := hl
  obtain ⟨g, off, rfl, hcs⟩ := h.cells.resolve_left (by omega)
  have HCS : Hid (∀ j, j < n → w.cell? ⟨g, off + j, none⟩ = some (V (xs.getD j 0))) := hcs
  clear hx h hk hv hl hcs
  go_enter Tryz.func102, Tryz.ntmps102
  go_wp2_with fail
  go_loopg [3] n (fun gk nv wr => ∃ j M : Nat, j + gk = n ∧ nv = .int .i64 M ∧ M = 32 * j ∧ Hid (valB B32 (xs.take j) = 0) ∧ wr = w)
  case atStart => exact ⟨0, 0, by omega, rfl, rfl, by show _ = _; simp [valB], rfl⟩
  case round =>
    obtain ⟨j, M, hjg, rfl, hMj, HZ, hwr⟩ := hrel
    obtain rfl := hwr.symm
    clear hwr
    cases gk with
    | zero =>
      exfalso
      obtain rfl : j = n := by omega
      have h1 := HZ.out
      rw [List.take_of_length_le (by rw [HL.out]; omega), HX.out.val] at h1
      have h2 := HV.out
      omega
    | succ gg =>
      have hjn : j < n := by omega
      obtain ⟨x, hx⟩ : ∃ x, x = xs.getD j 0 := ⟨_, rfl⟩
      have hcx : w.cell? ⟨g, off + j, none⟩ = some (V x) := by rw [hx]; exact HCS.out j hjn
      have d1 : (M : Int).tdiv 32 = (j : Int) := by rw [Int.tdiv_eq_ediv_of_nonneg (by omega)]; omega
      have hjI : (j : Int) < (n : Int) := by omega
      have hwj : IntKind.i64.wrap (j : Int) = (j : Int) := by simp [IntKind.wrap, IntKind.signed, IntKind.bits]; omega
      have hMb : M ≤ 1125899906842624 := by omega
      have hjb : j ≤ 35184372088832 := by omega
      have HMj : Hid (M = 32 * j) := hMj
      clear hMj
      by_cases hx0 : x = 0
      · have HZ1 : Hid (valB B32 (xs.take (j + 1)) = 0) := by
          show _ = _
          rw [valB_take_any, HZ.out, ← hx, hx0, Nat.mul_zero]
        subst hx0
        clear hx HZ
        go_wp2_with fail
        go_roundg gg
        case measure => omega
        case rel => exact ⟨j + 1, M + 32, by omega, by go_num, by have := HMj.out; omega, HZ1, rfl⟩
      · have hxI : ((x : Int) == 0) = false := by simp; omega
        have HM0 : Hid (v % 2 ^ M = 0) := by
          show _ = _
          have h1 := valB_split B32 xs j (by rw [HL.out]; omega)
          rw [HMj.out, ← B32_pow, ← HX.out.val, h1, HZ.out, Nat.zero_add, Nat.mul_mod_right]
        have hMk : M ≤ k := HK.out.ge HM0.out
        clear hx HZ
        go_wp2_with fail
        go_loopg [3] (k - M) (fun gm nv wr => ∃ m : Nat, nv = .int .i64 m ∧ m + gm = k ∧ Hid (v % 2 ^ m = 0) ∧ wr = w)
        case atStart => exact ⟨M, rfl, by omega, HM0, rfl⟩
        case round =>
          obtain ⟨m, rfl, hmk, HB, hwr⟩ := hrel
          obtain rfl := hwr.symm
          clear hwr
          have hmb : m ≤ 1125899906842624 := by omega
          cases gk with
          | zero =>
            obtain rfl : m = k := by omega
            have hb1 := HK.out.2
            go_wp2_with fail
            refine (rbit_any HA.out hn m (by omega)).mono ?_
            rintro e w1 ⟨rfl, hw⟩
            rw [HX.out.val, hb1]
            obtain rfl := hw.symm
            clear hw hb1
            go_wp2_with fail
            go_ret
            exact ⟨rfl, rfl⟩
          | succ gg2 =>
            have hb0 : v / 2 ^ m % 2 = 0 := by
              rcases Nat.mod_two_eq_zero_or_one (v / 2 ^ m) with e | e
              · exact e
              · have := HK.out.inj ⟨HB.out, e⟩; omega
            have HB1 : Hid (v % 2 ^ (m + 1) = 0) := tz_step HB.out hb0
            go_wp2_with fail
            refine (rbit_any HA.out hn m (by omega)).mono ?_
            rintro e w1 ⟨rfl, hw⟩
            rw [HX.out.val, hb0]
            obtain rfl := hw.symm
            clear hw hb0
            go_wp2_with fail
            go_roundg gg2
            case measure => omega
            case rel => exact ⟨m + 1, by go_num, by omega, HB1, rfl⟩
def renTz : Ren := ⟨fun x => match x with | 29 => 122 | n => n, fun x => match x with | 0 => 0 | 3 => 3 | 4 => 4 | 5 => 5 | 22 => 23 | 25 => 154 | 54 => 188 | n => n, fun x => match x with | 1 => 2 | n => n⟩
theorem laysTz : Lays7.n29 Tryz.prog renTz :=
  { mixed := by kernel_rfl, f29 := Tryz.func122.trans (congrArg some (by kernel_rfl)),
    t0 := by kernel_rfl, a0 := fun w => by kernel_rfl, z0 := fun w => by kernel_rfl, v0 := fun w => by kernel_rfl, i0 := by kernel_rfl,
    t3 := Tryz.underlying3, a3 := Tryz.isAgg3, z3 := Tryz.sizeOf3, v3 := Tryz.zeroValue3, i3 := by kernel_rfl,
    t4 := Tryz.underlying4, a4 := Tryz.isAgg4, z4 := Tryz.sizeOf4, v4 := Tryz.zeroValue4, i4 := by kernel_rfl,
    t5 := Tryz.underlying5, a5 := Tryz.isAgg5, z5 := Tryz.sizeOf5, v5 := Tryz.zeroValue5, i5 := by kernel_rfl,
    t22 := Tryz.underlying23, a22 := Tryz.isAgg23, z22 := Tryz.sizeOf23, v22 := Tryz.zeroValue23, i22 := by kernel_rfl,
    t25 := Tryz.underlying154, a25 := Tryz.isAgg154, z25 := Tryz.sizeOf154, v25 := Tryz.zeroValue154, i25 := by kernel_rfl,
    t54 := Tryz.underlying188, a54 := Tryz.isAgg188, z54 := Tryz.sizeOf188, g1 := by kernel_rfl }

def Tab (w : World) : Prop := TabAt 2 Lib.deBruijn64tab w
theorem Tab.below {w w' : World} (h : Tab w) (hb : Below w.heap.size w w') : Tab w' := by
  intro j hj
  have h1 := h j hj
  have hl : 2 < w.heap.size := World.block_lt_of_cell? w _ h1
  exact (hb.cell (p := ⟨2, j, none⟩) hl).trans h1
theorem ctz_is {x : Nat} (h0 : x ≠ 0) (hx : x < B64) : TzIs x (Lib.ctz 64 x) ∧ Lib.ctz 64 x < 64 := by
  rw [B64_two_pow] at hx
  unfold Lib.ctz
  rw [if_neg h0]
  obtain ⟨m, hm, hk⟩ := Lib.ctzFrom_spec 64 x (by omega) hx
  generalize Lib.ctzFrom 64 x = k at *
  refine ⟨⟨?_, ?_⟩, hk⟩
  · rw [hm, Nat.mul_mod_right]
  · rw [hm, Nat.mul_div_cancel_left _ (Nat.pow_pos (by decide))]; omega
theorem tz_any {x r : Nat} (h0 : x ≠ 0) (hx : x < B64) (hr : TzIs x r) {w : World} (hT : Tab w) : Calls Tryz.prog 122 #[U x] w fun e w' => e = .returned (.int .i64 r) ∧ w' = w := by
  obtain ⟨h1, _⟩ := ctz_is h0 hx
  obtain rfl := hr.inj h1
  exact Any7.bits_TrailingZeros64 laysTz x (by rw [B64_eq] at hx; exact hx) w (fun _ => hT)

theorem tz_lift {xs : List Nat} (hd : Dig B64 xs) {j r : Nat} (hj : j < xs.length) (hz : valB B64 (xs.take j) = 0) (hr : TzIs (xs.getD j 0) r) (hr64 : r < 64) : TzIs (valB B64 xs) (64 * j + r) := by
  constructor
  · have h1 := valB_split B64 xs j (Nat.le_of_lt hj)
    have h2 := valB_drop B64 xs j hj
    rw [hz, Nat.zero_add, h2] at h1
    rw [h1, B64_pow, Nat.pow_add, Nat.mul_mod_mul_left]
    obtain ⟨k, hk⟩ : ∃ k, 64 = r + k := ⟨64 - r, by omega⟩
    have h3 : B64 = 2 ^ r * 2 ^ k := by rw [← Nat.pow_add, ← hk]; rfl
    rw [h3, Nat.mul_assoc, Nat.add_mul_mod_self_left, hr.1, Nat.mul_zero]
  · have h1 := digit_bit (b := B64) (e := 64) rfl hd hj hr64
    rw [← h1]
    exact hr.2

def TzO (v k : Nat) : Prop := (v = 0 ∧ k = 0) ∨ (v ≠ 0 ∧ TzIs v k)
theorem TzO.inj {v k l : Nat} (h : TzO v k) (h' : TzO v l) : k = l := by
  rcases h with ⟨h1, rfl⟩ | ⟨h1, h2⟩ <;> rcases h' with ⟨h3, rfl⟩ | ⟨h3, h4⟩
  · rfl
  · exact absurd h1 h3
  · exact absurd h3 h1
  · exact h2.inj h4
theorem TzO.ex (v : Nat) : ∃ k, TzO v k := by
  by_cases h : v = 0
  · exact ⟨0, .inl ⟨h, rfl⟩⟩
  · obtain ⟨k, hk⟩ := TzIs.ex v (by omega)
    exact ⟨k, .inr ⟨h, hk⟩⟩

theorem trail_any {p : Option Addr} {n c : Nat} {xs : List Nat} {k : Nat} {w : World} (h : At w p n c xs) (hn : n ≤ 17592186044416) (hk : TzO (valB B64 xs) k) (hT : Tab w) :
    Calls Tryz.prog 78 #[.slice p n c] w fun e w' => e = .returned (.int .i64 k) ∧ w' = w := by
  have HT : Hid (Tab w) := hT
  have HK : Hid (TzO (valB B64 xs) k) := hk
  have HD : Hid (Dig B64 xs) := h.dig
  have HL : Hid (xs.length = n) := h.len
  have cap := h.cap
  have big := h.big
  unfold maxLen at big
  have HC : Hid (n = 0 ∨ ∃ g off, p = some ⟨g, off, none⟩ ∧ ∀ j, j < n → w.cell? ⟨g, off + j, none⟩ = some (U (xs.getD j 0))) := h.cells
  clear h hk hT
  go_enter Tryz.func78, Tryz.ntmps78
  go_wp2_with fail
  go_loopg [6] n (fun gk iv wr => ∃ j : Nat, j + gk = n ∧ iv = .int .i64 j ∧ Hid (valB B64 (xs.take j) = 0) ∧ wr = w)
  case atStart => exact ⟨0, by omega, rfl, by show _ = _; simp [valB], rfl⟩
  case round =>
    obtain ⟨j, hjg, rfl, HZ, hwr⟩ := hrel
    obtain rfl := hwr.symm
    clear hwr
    cases gk with
    | zero =>
      obtain rfl : j = n := by omega
      have hnk : ¬ (j : Int) < (j : Int) := by omega
      have HK0 : Hid (k = 0) := by
        show _ = _
        have h1 := HZ.out
        rw [List.take_of_length_le (by rw [HL.out]; omega)] at h1
        exact HK.out.inj (.inl ⟨h1, rfl⟩)
      go_wp2_with fail
      go_ret
      exact ⟨ret_int (by have := HK0.out; omega), rfl⟩
    | succ gg =>
      have hjn : j < n := by omega
      obtain ⟨g, off, rfl, hcs⟩ := HC.out.resolve_left (by omega)
      obtain ⟨x, hx⟩ : ∃ x, x = xs.getD j 0 := ⟨_, rfl⟩
      have hcx : w.cell? ⟨g, off + j, none⟩ = some (U x) := by rw [hx]; exact hcs j hjn
      have hjI : (j : Int) < (n : Int) := by omega
      have hwj : IntKind.i64.wrap (j : Int) = (j : Int) := by simp [IntKind.wrap, IntKind.signed, IntKind.bits]; omega
      have hjb : j ≤ 17592186044416 := by omega
      have HXB : Hid (x < B64) := by show _ < _; rw [hx]; exact HD.out.getD B64_pos _
      clear hcs
      by_cases hx0 : x = 0
      · have HZ1 : Hid (valB B64 (xs.take (j + 1)) = 0) := by
          show _ = _
          rw [valB_take_any, HZ.out, ← hx, hx0, Nat.mul_zero]
        subst hx0
        clear hx HZ
        go_wp2_with fail
        go_roundg gg
        case measure => omega
        case rel => exact ⟨j + 1, by omega, by go_num, HZ1, rfl⟩
      · have hxI : ((x : Int) == 0) = false := by simp; omega
        obtain ⟨hr1, hr2⟩ := ctz_is hx0 HXB.out
        generalize Lib.ctz 64 x = r at *
        have HR : Hid (TzIs x r) := hr1
        have HKR : Hid (k = 64 * j + r) := by
          show _ = _
          have h1 := tz_lift HD.out (by rw [HL.out]; omega) HZ.out (hx ▸ hr1) hr2
          refine HK.out.inj (.inr ⟨fun e => ?_, h1⟩)
          have h2 := h1.2
          rw [e, Nat.zero_div] at h2
          exact absurd h2 (by decide)
        clear hr1 hx HZ
        go_wp2_with (go_at_call 122; refine (tz_any hx0 HXB.out HR.out HT.out).mono ?_; rintro e w' ⟨rfl, hw⟩; obtain rfl := hw.symm; clear hw)
        go_ret
        exact ⟨ret_int (by have := HKR.out; omega), rfl⟩
theorem smul_limb {x y z cy hi lo l1 c1 l2 c2 : Nat} (hx : x < B64) (hy : y < B64) (hz : z < B64) (hc : cy < B64) (h1 : x * y = lo + B64 * hi) (h2 : lo + cy + 0 = l1 + B64 * c1) (h3 : z + B64 * c2 = l2 + l1 + 0) (hc2 : c2 ≤ 1) (hl2 : l2 < B64) (_hl1 : l1 < B64) :
    hi + c1 < B64 ∧ hi + c1 + c2 < B64 ∧ l2 + x * y + cy = z + B64 * (hi + c1 + c2) := by
  have e0 : x * y + cy = l1 + B64 * (hi + c1) := by rw [Nat.mul_add]; omega
  have e : l2 + x * y + cy = z + B64 * (hi + c1 + c2) := by rw [Nat.mul_add]; omega
  have a1 : x * y ≤ (B64 - 1) * (B64 - 1) := Nat.mul_le_mul (by omega) (by omega)
  have a2 : (B64 - 1) * (B64 - 1) + (B64 - 1) = B64 * (B64 - 1) := by decide
  have a3 : B64 * (hi + c1) + l1 ≤ B64 * (B64 - 1) := by omega
  have a4 : hi + c1 ≤ B64 - 1 := Nat.le_of_mul_le_mul_left (by omega : B64 * (hi + c1) ≤ B64 * (B64 - 1)) B64_pos
  have hp := B64_pos
  refine ⟨by omega, ?_, e⟩
  by_cases hh : hi + c1 = B64 - 1
  · rw [hh] at a3
    have : l1 = 0 := by omega
    have : c2 = 0 := by
      rcases Nat.eq_zero_or_pos c2 with h | h
      · exact h
      · have : c2 = 1 := by omega
        subst this; omega
    omega
  · omega

structure SubMulRel (w : World) (g off m : Nat) (zs ys : List Nat) (v k cy : Nat) (dk : List Nat) (wr : World) : Prop where
  wrs : Wr g off m w wr
  row : Row wr g off m dk
  hi : dk.drop k = zs.drop k
  car : cy < B64
  sum : valB B64 (zs.take k) + B64 ^ k * cy = valB B64 (dk.take k) + valB B64 (ys.take k) * v

theorem SubMulRel.step {w : World} {g off m : Nat} {zs ys : List Nat} {v k cy : Nat} {dk : List Nat} {wr : World} (h : SubMulRel w g off m zs ys v k cy dk wr) (hk : k < m)
    {x z l d : Nat} (hz : z = dk.getD k 0) (hx : x = ys.getD k 0) (hs : l + x * v + cy = z + B64 * d) (hl : l < B64) (hd : d < B64) :
    SubMulRel w g off m zs ys v (k + 1) d (dk.set k l) (wr.setCell ⟨g, off + k, none⟩ (U l)) := by
  have hlen := h.row.len
  refine ⟨h.wrs.setCell (off + k) ⟨by omega, by omega⟩ _, h.row.set k l hk hl, ?_, hd, ?_⟩
  · rw [drop_set_lt]; exact drop_succ_of_drop h.hi
  · have hzz : z = zs.getD k 0 := hz.trans (getD_of_drop h.hi)
    rw [take_set_succ dk k l (by omega), valB_snoc, List.length_take, hlen, Nat.min_eq_left (by omega), valB_take_any _ zs k, valB_take_any _ ys k, ← hzz, ← hx, Nat.pow_succ, Nat.add_mul]
    have e1 := h.sum
    have e2 : B64 ^ k * (l + x * v + cy) = B64 ^ k * (z + B64 * d) := by rw [hs]
    rw [Nat.mul_add, Nat.mul_add, Nat.mul_add, ← Nat.mul_assoc] at e2
    have e3 : B64 ^ k * x * v = B64 ^ k * (x * v) := Nat.mul_assoc _ _ _
    have e4 : B64 ^ k * B64 * d = B64 ^ k * (B64 * d) := Nat.mul_assoc _ _ _
    rw [e3, e4]
    rw [← Nat.mul_assoc] at e2
    generalize B64 ^ k * x * v = X0 at *
    generalize B64 ^ k * (x * v) = X1 at *
    generalize B64 ^ k * B64 * d = X2 at *
    generalize B64 ^ k * (B64 * d) = X3 at *
    generalize B64 ^ k * z = X4 at *
    generalize B64 ^ k * cy = X5 at *
    generalize B64 ^ k * l = X6 at *
    omega

theorem smul_any (g off n c : Nat) (zs : List Nat) (p : Option Addr) (m d : Nat) (ys : List Nat) (v : Nat) (w : World) (hz : Row w g off m zs) (hmn : m ≤ n) (hnc : n ≤ c) (_hbig : c ≤ 9223372036854775807)
    (ha : At w p m d ys) (hv : v < B64) (hap : ∀ g2 off2, 0 < m → p = some ⟨g2, off2, none⟩ → g2 ≠ g ∨ off2 + m ≤ off ∨ off + m ≤ off2) :
    Calls Tryz.prog 161 #[.slice (some ⟨g, off, none⟩) n c, .slice p m d, U v] w fun e w' =>
      ∃ cy zs', e = .returned (U cy) ∧ cy < B64 ∧ Wr g off m w w' ∧ Row w' g off m zs' ∧ valB B64 zs + B64 ^ m * cy = valB B64 zs' + valB B64 ys * v := by
  have hl := hz.len; have al := ha.len; have acap := ha.cap; have abig := ha.big
  unfold maxLen at abig
  go_enter Tryz.func161, Tryz.ntmps161
  go_wp2_with fail
  go_loopw [7, 8, 9, 10, 11, 18] (fun cv _ _ _ _ i wr => ∃ (k cy : Nat) (dk : List Nat), k ≤ m ∧ i = .int .i64 k ∧ cv = U cy ∧ SubMulRel w g off m zs ys v k cy dk wr) (fun _ _ _ _ _ i _ => m - (intOf i).toNat)
  case atStart => exact ⟨0, 0, zs, Nat.zero_le _, rfl, rfl, ⟨Wr.refl _ _ _ _, hz, rfl, B64_pos, by simp [valB]⟩⟩
  case round =>
    obtain ⟨k, cy, dk, hk, rfl, rfl, hR⟩ := hrel
    by_cases hlt : k < m
    · obtain ⟨g2, off2, rfl, hc2⟩ := ha.cells.resolve_left (by omega)
      obtain ⟨z, hzz⟩ : ∃ z, z = dk.getD k 0 := ⟨_, rfl⟩
      obtain ⟨x, hx⟩ : ∃ x, x = ys.getD k 0 := ⟨_, rfl⟩
      have hcz : wr.cell? ⟨g, off + k, none⟩ = some (U z) := by rw [hzz]; exact hR.row.cell k (by omega)
      have hfz : wr.frozen? ⟨g, off + k, none⟩ = false := hR.row.frozen k (by omega)
      have hcx : wr.cell? ⟨g2, off2 + k, none⟩ = some (U x) := by
        rw [hx, hR.wrs.cell g2 (off2 + k) (by have := hap g2 off2 (by omega) rfl; omega)]; exact hc2 k hlt
      have hzb : z < B64 := by rw [hzz]; exact hR.row.dig.getD B64_pos k
      have hxb : x < B64 := by rw [hx]; exact ha.dig.getD B64_pos k
      obtain ⟨hi, lo, hmul, em, hlo⟩ := mul64_ex x v hxb hv
      obtain ⟨l1, c1, hrun10, e1, hl1, hc1⟩ := add64_ex lo cy 0 hlo hR.car (by omega)
      obtain ⟨l2, c2, hrun20, e2, hl2, hc2'⟩ := sub64_ex z l1 0 hzb hl1 (by omega)
      obtain ⟨hfit0, hfit, hsum⟩ := smul_limb hxb hv hzb hR.car em e1 e2 hc2' hl2 hl1
      have hrun1 : ∀ w : World, (callFunc 147 #[U lo, U cy, .int .u64 0]).run Tryz.prog w = .ok (.value (.tuple #[U l1, U c1])) w := hrun10
      have hrun2 : ∀ w : World, (callFunc 162 #[U z, U l1, .int .u64 0]).run Tryz.prog w = .ok (.value (.tuple #[U l2, U c2])) w := hrun20
      have hf0 : hi + c1 ≤ 18446744073709551615 := by rw [B64_eq] at hfit0; omega
      have hf1 : hi + c1 + c2 ≤ 18446744073709551615 := by rw [B64_eq] at hfit; omega
      have HR : Hid (SubMulRel w g off m zs ys v k cy dk wr) := hR
      have HX : Hid (x = ys.getD k 0) := hx
      have HZ : Hid (z = dk.getD k 0) := hzz
      have HS : Hid (l2 + x * v + cy = z + B64 * (hi + c1 + c2)) := hsum
      have HM : Hid (∀ w : World, Calls Tryz.prog 166 #[U x, U v] w fun e w' => e = .returned (.tuple #[U hi, U lo]) ∧ w' = w) := hmul
      clear hR hx hzz hsum hmul hc2 hrun10 hrun20 em e1 e2 hc1 hc2'
      go_wp2_with (go_at_call 166; refine (HM.out _).mono ?_; rintro e w' ⟨rfl, hw⟩; obtain rfl := hw.symm; clear hw)
      go_roundw
      case rel => exact ⟨k + 1, hi + c1 + c2, dk.set k l2, by omega, by go_num, by go_num, HR.out.step hlt HZ.out HX.out HS.out hl2 hfit⟩
      case measure => simp [intOf]; omega
    · obtain rfl : k = m := by omega
      have HR : Hid (SubMulRel w g off k zs ys v k cy dk wr) := hR
      clear hR
      go_wp2_with fail
      go_ret
      have hh := HR.out
      have h1 := hh.sum
      have h2 := hh.row.len
      rw [List.take_of_length_le (by omega), List.take_of_length_le (by omega), List.take_of_length_le (by omega)] at h1
      exact ⟨cy, dk, rfl, hh.car, hh.wrs, hh.row, h1⟩
end Go.Proofs.YtfmbifocgljieaaGreatDoor
namespace Go.Proofs.YtfmbifocgljieaaGreatDoor
open Go.RowKit
set_option maxRecDepth 100000
set_option maxHeartbeats 0
theorem bits64 {y : Nat} (h : y < B64) : bitsN y ≤ 64 := by
  by_cases e : y = 0
  · subst e; simp [bitsN]
  · have h1 := bitsN_le y e
    have h2 : bitsN y - 1 < 64 := (Nat.pow_lt_pow_iff_right (by decide : 1 < 2)).1 (Nat.lt_of_le_of_lt h1 (by rw [B64_p] at h; exact h))
    omega
theorem split32 (v : Nat) : v / 4294967296 * 4294967296 + v % 4294967296 = v := by omega
theorem quo_unique {n q y r : Nat} (h : n = q * y + r) (hr : r < y) : q = n / y ∧ r = n % y := by
  have hy : 0 < y := by omega
  have h1 : n = r + y * q := by rw [h, Nat.mul_comm]; omega
  constructor
  · rw [h1, Nat.add_mul_div_left _ _ hy, Nat.div_eq_of_lt hr, Nat.zero_add]
  · rw [h1, Nat.add_mul_mod_self_left, Nat.mod_eq_of_lt hr]

theorem div64_big (hi lo y : Nat) (w : World) (hh : hi ≠ 0) (hhy : hi < y) (hyb : y < B64) (hlo : lo < B64) :
    Calls Tryz.prog 108 #[U hi, U lo, U y] w fun e w' => e = .returned (.tuple #[U ((hi * B64 + lo) / y), U ((hi * B64 + lo) % y)]) ∧ w' = w := by
  obtain ⟨s, hs⟩ : ∃ s, s + bitsN y = 64 := ⟨64 - bitsN y, by have := bits64 hyb; omega⟩
  have hy0 : y ≠ 0 := by omega
  have hs64 : s < 64 := by
    have : bitsN y ≠ 0 := by unfold bitsN; rw [if_neg hy0]; omega
    omega
  obtain ⟨nY, nY2⟩ := norm_y hy0 hs
  have hP := Nat.two_pow_pos s
  have hhs : hi * 2 ^ s < y * 2 ^ s := Nat.mul_lt_mul_of_pos_right hhy hP
  have hls := shrW_lt lo s (by omega) hlo
  have hlse := shrW_eq lo s (by omega)
  have hjoin : (hi * 2 ^ s + lo / 2 ^ (64 - s)) * B64 + shlW lo s = 2 ^ s * (hi * B64 + lo) := by
    have e1 := Nat.mod_add_div (lo * 2 ^ s) B64
    rw [hlse, Nat.add_mul, Nat.mul_add]
    unfold shlW
    have e2 : hi * 2 ^ s * B64 = 2 ^ s * (hi * B64) := by rw [Nat.mul_comm hi, Nat.mul_assoc]
    rw [e2, Nat.mul_comm (lo * 2 ^ s / B64), Nat.mul_comm (2 ^ s) lo]
    generalize B64 * (lo * 2 ^ s / B64) = X1 at *
    generalize lo * 2 ^ s % B64 = X2 at *
    generalize lo * 2 ^ s = X3 at *
    omega
  have huY : hi * 2 ^ s + lo / 2 ^ (64 - s) < y * 2 ^ s := by
    have e1 : (hi + 1) * 2 ^ s ≤ y * 2 ^ s := Nat.mul_le_mul_right _ hhy
    rw [Nat.add_mul, Nat.one_mul] at e1
    omega
  obtain ⟨Y, hY⟩ : ∃ Y, Y = y * 2 ^ s := ⟨_, rfl⟩
  obtain ⟨u, hu⟩ : ∃ u, u = hi * 2 ^ s + lo / 2 ^ (64 - s) := ⟨_, rfl⟩
  obtain ⟨v, hv⟩ : ∃ v, v = shlW lo s := ⟨_, rfl⟩
  have hvb : v < 18446744073709551616 := by rw [hv, ← B64_eq]; exact shlW_lt lo s
  rw [← hY] at nY nY2 huY
  rw [← hu] at huY hjoin
  rw [← hv] at hjoin
  have hsplitY := split32 Y
  have HC : KnC (Y / 4294967296) (Y % 4294967296) u (v / 4294967296) := ⟨by omega, by omega, by rw [hsplitY]; exact huY, by omega⟩
  have hin := Kn.init HC
  have hq := hin.le
  have hle := Nat.div_mul_le_self u (Y / 4294967296)
  have hml := Nat.mod_lt u (show 0 < Y / 4294967296 by omega)
  have hdm := Nat.div_add_mod u (Y / 4294967296)
  rw [Nat.mul_comm] at hdm
  have hub : u < 18446744073709551616 := by omega
  have eY : IntKind.u64.wrap ((y : Int) * 2 ^ s) = (Y : Int) := by
    rw [wrap_nat, hY]; unfold shlW; rw [Nat.mod_eq_of_lt (by rw [B64_eq, ← hY]; exact nY)]
  have ehs : IntKind.u64.wrap ((hi : Int) * 2 ^ s) = ((hi * 2 ^ s : Nat) : Int) := by
    rw [wrap_nat]; unfold shlW; rw [Nat.mod_eq_of_lt (by rw [B64_eq]; rw [← hY] at hhs; omega)]
  have eu : bits .or .u64 ((hi * 2 ^ s : Nat) : Int) ((lo / 2 ^ (64 - s) : Nat) : Int) = (u : Int) := by
    rw [walk_or _ _ (by rw [B64_eq]; rw [← hY] at hhs; omega) (by rw [B64_eq]; omega), Nat.mul_comm hi, or_low s _ _ hls, hu, Nat.mul_comm hi]
  refine (div64_walk hi lo y s Y (Y / 4294967296) (Y % 4294967296) (hi * 2 ^ s) (lo / 2 ^ (64 - s)) u v (v / 4294967296) (v % 4294967296) (u / (Y / 4294967296)) (u / (Y / 4294967296) * (Y / 4294967296)) (u - u / (Y / 4294967296) * (Y / 4294967296)) w
    (by simp; omega) (by simp; omega) hhy hyb hs hs64 eY (div32 Y) (and32 Y nY) ehs (div_nat lo (64 - s)) eu (by rw [wrap_nat, hv]) (div32 v) (and32 v hvb) (Int.natCast_ediv _ _).symm (Int.natCast_mul _ _).symm (by omega) hq (by omega) (by omega) (by omega) (by omega) (by omega) (by omega) (by omega)
    HC hin hsplitY.symm nY).mono ?_
  rintro e w' ⟨q1, q0, r1, r0, rfl, hw, k1, k0⟩
  refine ⟨?_, hw⟩
  have e1 := k1.eq
  have e0 := k0.eq
  have er := k0.rlt
  rw [hsplitY] at e1 e0 er
  have ej := kn_join e1 e0
  rw [split32 v, show (4294967296 : Nat) * 4294967296 = B64 from rfl, hjoin, hY] at ej
  rw [hY] at er
  obtain ⟨f1, f2⟩ := kn_scale hP ej er
  obtain ⟨g1, g2⟩ := quo_unique f1 f2
  have g3 : jq q1 q0 = (hi * B64 + lo) / y := g1
  rw [g3, g2]

theorem div64_any (hi lo y : Nat) (w : World) (hhy : hi < y) (hyb : y < B64) (hlo : lo < B64) :
    Calls Tryz.prog 108 #[U hi, U lo, U y] w fun e w' => e = .returned (.tuple #[U ((hi * B64 + lo) / y), U ((hi * B64 + lo) % y)]) ∧ ∃ r, w' = w.drewN r := by
  by_cases hh : hi = 0
  · subst hh
    rw [Nat.zero_mul, Nat.zero_add]
    exact div64_zero lo y w (by simp; omega) hlo
  · exact (div64_big hi lo y w hh hhy hyb hlo).mono fun e w' h => ⟨h.1, 0, h.2⟩
end Go.Proofs.YtfmbifocgljieaaGreatDoor
