import Derived.Test.YtfofoookdlaipaaGreatDoorJ14
import Derived.Test.YtfofoookdlaipaaGreatDoorJ11
import Derived.Shelf.Spec.TrailingZeros
import Derived.Test.YtfofoookdlaipaaGreatDoorBs4
import Derived.Test.YtfofoookdlaipaaGreatDoorBb1
import Derived.Test.YtfofoookdlaipaaGreatDoorJ6
import Derived.Test.YtfofoookdlaipaaGreatDoorJ8
import Derived.Laws.ResultCell
import Derived.Deep.RegionWith
import Derived.Deep.DeepCutAuto
import Derived.Deep.LoopGhost
namespace Go.Proofs.YtfofoookdlaipaaGreatDoor
open Go.RowKit Go.Shelf

def Says (fn : FuncId) (x y : Value) (v u : Value) : Prop := ∀ w, Calls Tryz.prog fn #[x, y] w fun e w' => e = .returned (.tuple #[v, u]) ∧ Below w.heap.size w w'
end Go.Proofs.YtfofoookdlaipaaGreatDoor

namespace Go.Proofs.YtfofoookdlaipaaGreatDoor
open Go.RowKit Go.Shelf

variable {f p m l P E G : Int} {S I Q : Nat}
theorem Says.cast {fn : FuncId} {x y v u : Value} {v' : Value} (h : Says fn x y v u) (e : v = v') : Says fn x y v' u := e ▸ h
end Go.Proofs.YtfofoookdlaipaaGreatDoor

namespace Go.Proofs.YtfofoookdlaipaaGreatDoor
open Go.RowKit Go.Shelf

def vs (H s : Nat) : Nat := (s - (s / H - 1) * H) * 2 ^ (s / H - 1)
theorem vs_zero (H : Nat) : vs H 0 = 0 := by unfold vs; simp
theorem vs_succ {H : Nat} (hH : 0 < H) (s : Nat) : vs H s < vs H (s + 1) := by
  have h1 := Nat.div_add_mod s H
  have h2 := Nat.mod_lt s hH
  have h3 := Nat.div_add_mod (s + 1) H
  have h4 := Nat.mod_lt (s + 1) hH
  have h5 : s / H ≤ (s + 1) / H := Nat.div_le_div_right (by omega)
  have h6 : (s + 1) / H ≤ s / H + 1 := by
    have : (s + 1) / H ≤ (s + H) / H := Nat.div_le_div_right (by omega)
    rw [Nat.add_div_right _ hH] at this
    exact this
  unfold vs
  by_cases h7 : (s + 1) / H = s / H
  · rw [h7]
    have hq : (s / H - 1) * H ≤ s := by
      rw [Nat.sub_mul, Nat.mul_comm]; omega
    have hp : 0 < 2 ^ (s / H - 1) := Nat.pow_pos (by omega)
    exact Nat.mul_lt_mul_of_pos_right (by omega) hp
  · have h8 : (s + 1) / H = s / H + 1 := by omega
    rw [h8, Nat.add_sub_cancel]
    rw [h8, Nat.mul_add, Nat.mul_one] at h3
    obtain ⟨k, hk⟩ : ∃ k, k = s / H := ⟨_, rfl⟩
    rw [← hk] at h1 h3 ⊢
    obtain ⟨y, hy⟩ : ∃ y, y = H * k := ⟨_, rfl⟩
    rw [← hy] at h1 h3
    rw [Nat.mul_comm k H, ← hy]
    by_cases h9 : k = 0
    · subst h9
      have : y = 0 := by rw [hy]; simp
      simp
      omega
    · obtain ⟨j, rfl⟩ : ∃ j, k = j + 1 := ⟨k - 1, by omega⟩
      rw [Nat.add_sub_cancel, Nat.pow_succ]
      have hj : j * H + H = y := by rw [hy, Nat.mul_comm H, Nat.add_mul, Nat.one_mul]
      have hp : 0 < 2 ^ j := Nat.pow_pos (by omega)
      have e1 : s + 1 - y = H := by omega
      rw [e1, Nat.mul_comm (2 ^ j) 2, ← Nat.mul_assoc]
      exact Nat.mul_lt_mul_of_pos_right (by omega) hp
theorem vs_mono {H : Nat} (hH : 0 < H) {s t : Nat} (h : s < t) : vs H s < vs H t := by
  induction t with
  | zero => omega
  | succ t ih =>
    rcases Nat.lt_or_ge s t with h1 | h1
    · exact Nat.lt_trans (ih h1) (vs_succ hH t)
    · rw [show s = t by omega]; exact vs_succ hH t
def gR (H : Nat) (r : Int) : Int := if r < 0 then -(vs H r.natAbs : Int) else (vs H r.natAbs : Int)
def rkS (S b : Nat) : Int := if S ≤ b then -((b % S : Nat) : Int) else ((b % S : Nat) : Int)
def svS (S H b : Nat) : Int := gR H (rkS S b)
theorem svS_eq (S H b : Nat) : svS S H b = if S ≤ b then -(vs H (b % S) : Int) else (vs H (b % S) : Int) := by
  have hz := vs_zero H
  unfold svS gR rkS
  by_cases h : S ≤ b
  · rw [if_pos h, if_pos h]
    by_cases h0 : b % S = 0
    · rw [h0, hz]; simp [hz]
    · rw [if_pos (by omega), Int.natAbs_neg, Int.natAbs_natCast]
  · rw [if_neg h, if_neg h, if_neg (by omega), Int.natAbs_natCast]
structure VF (S H : Nat) (l : Int) (b : Nat) (zo eo : Int) : Prop where
  fm : DFm zo eo
  v : dv zo eo = dv (svS S H b) l
theorem vf_ex {f p m l : Int} {S I H : Nat} (F : Pm f p m l S I H) {b : Nat} (hr : b % S < I) : ∃ zo eo, VF S H l b zo eo ∧ dv zo eo = dv (if S ≤ b then -(((b % S - (b % S / H - 1) * H : Nat)) : Int) else ((b % S - (b % S / H - 1) * H : Nat) : Int)) (l + ((b % S / H - 1 : Nat) : Int)) := by
  have hst := F.st _ hr
  have hlo := F.lo
  have h9 := F.h9
  have hp := F.hp
  have e1 : dv (if S ≤ b then -(((b % S - (b % S / H - 1) * H : Nat)) : Int) else ((b % S - (b % S / H - 1) * H : Nat) : Int)) (l + ((b % S / H - 1 : Nat) : Int)) = dv (svS S H b) l := by
    rw [dv_up _ (by omega), svS_eq]
    unfold vs
    by_cases h : S ≤ b
    · rw [if_pos h, if_pos h, Int.neg_mul, ← Int.natCast_mul]
    · rw [if_neg h, if_neg h, ← Int.natCast_mul]
  have hmn : b % S - (b % S / H - 1) * H < 2 * H := by
    have h1 := Nat.div_add_mod (b % S) H
    have h2 := Nat.mod_lt (b % S) hp
    rw [Nat.mul_comm] at h1
    by_cases h3 : b % S / H = 0
    · rw [h3] at h1 ⊢; omega
    · rw [Nat.sub_mul]; omega
  obtain ⟨mn, hmn2⟩ : ∃ mn, mn = b % S - (b % S / H - 1) * H := ⟨_, rfl⟩
  rw [← hmn2] at hmn e1 ⊢
  rw [e1]
  obtain ⟨z, hz⟩ : ∃ z : Int, z = (if S ≤ b then -(mn : Int) else (mn : Int)) := ⟨_, rfl⟩
  have hzn : z.natAbs = mn := by rw [hz]; split <;> omega
  rw [← hz] at e1
  by_cases h0 : z = 0
  · exact ⟨0, 0, ⟨.inl ⟨rfl, rfl⟩, by rw [← e1, h0, dv_zero, dv_zero]⟩, by rw [← e1, h0, dv_zero, dv_zero]⟩
  · have h53 : z.natAbs ≤ 2 ^ 53 := by
      have h54 : (2 : Nat) ^ 53 = 9007199254740992 := by decide
      rw [hzn, h54]
      omega
    obtain ⟨zo, eo, g1, g2, _⟩ := form_ex (L := 53) (e := l + ((b % S / H - 1 : Nat) : Int)) h0 (by omega) h53 (by omega)
    exact ⟨zo, eo, ⟨g1, by rw [g2, e1]⟩, by rw [g2, e1]⟩
theorem value_v {f p m l : Int} {S I H : Nat} (F : Pm f p m l S I H) {b : Nat} (hb : b < 2 * S) (hr : b % S < I) {zo eo : Int} (hv : VF S H l b zo eo) (w : World) (hT : Tab w) :
    Calls Tryz.prog 9 #[.int .i64 f, U b] w fun en w' => ∃ v, en = .returned (.tuple #[v, .int .i64 0]) ∧ AnsD w.heap.size w' v zo eo ∧ Below w.heap.size w w' := by
  obtain ⟨z1, e1, v1, v2⟩ := vf_ex F hr
  refine (value_ok F b hb hr w hT).mono fun en w' ⟨h1, h2⟩ => ?_
  obtain ⟨v, h3, h4⟩ := h1.form hv.fm (by rw [hv.v, ← v2, v1.v])
  exact ⟨v, h3, h4, h2⟩
end Go.Proofs.YtfofoookdlaipaaGreatDoor

namespace Go.Proofs.YtfofoookdlaipaaGreatDoor
open Go.RowKit Go.Shelf

def qTzIs (v k : Nat) : Prop := v % 2 ^ k = 0 ∧ v / 2 ^ k % 2 = 1
theorem qTzIs.inj {v k l : Nat} (h : qTzIs v k) (h' : qTzIs v l) : k = l := by
  have aux : ∀ {a b : Nat}, qTzIs v a → qTzIs v b → ¬ a < b := by
    intro a b ha hb hab
    obtain ⟨d, hd⟩ : ∃ d, b = a + (d + 1) := ⟨b - a - 1, by omega⟩
    have h1 := Nat.dvd_of_mod_eq_zero hb.1
    obtain ⟨q, hq⟩ := h1
    have h2 := ha.2
    rw [hq, hd, Nat.pow_add, Nat.mul_assoc, Nat.mul_div_cancel_left _ (Nat.pow_pos (by decide)), Nat.pow_succ, Nat.mul_comm (2 ^ d) 2, Nat.mul_assoc, Nat.mul_mod_right] at h2
    exact absurd h2 (by decide)
  rcases Nat.lt_trichotomy k l with e | e | e
  · exact absurd e (aux h h')
  · exact e
  · exact absurd e (aux h' h)
def qTab (w : World) : Prop := TabAt 0 Lib.deBruijn64tab w
theorem qTab.below {w w' : World} (h : qTab w) (hb : Below w.heap.size w w') : qTab w' := by
  intro j hj
  have h1 := h j hj
  have hl : 0 < w.heap.size := World.block_lt_of_cell? w _ h1
  exact (hb.cell (p := ⟨0, j, none⟩) hl).trans h1
end Go.Proofs.YtfofoookdlaipaaGreatDoor

namespace Go.Proofs.YtfofoookdlaipaaGreatDoor
open Go.RowKit

end Go.Proofs.YtfofoookdlaipaaGreatDoor

namespace Go.Proofs.YtfofoookdlaipaaGreatDoor
open Go.RowKit Go.Shelf

def wV (z : Nat) : Nat :=
  if z = 0 then 0 else
  (872 + (z / 8388608 - 1) + bl_bitsN (z - (z / 8388608 - 1) * 8388608)) * 4503599627370496 + (z - (z / 8388608 - 1) * 8388608) * 2 ^ (53 - bl_bitsN (z - (z / 8388608 - 1) * 8388608))
end Go.Proofs.YtfofoookdlaipaaGreatDoor

namespace Go.Proofs.YtfofoookdlaipaaGreatDoor
open Go.RowKit Go.Shelf

structure Jm (f p m l : Int) (S I H sd : Nat) (Be : Int) : Prop where
  pm : Pm f p m l S I H
  be : ∀ w, Calls Tryz.prog 79 #[WV p m l] w fun e w' => e = .returned (.int .i64 Be) ∧ Below w.heap.size w w'
  un : ∀ (top : Int) w, -1000000000000 ≤ top → top ≤ 5000 → Calls Tryz.prog 82 #[WV p m l, .int .i64 top] w fun e w' => e = .returned (.int .i64 (max (top - sd) l)) ∧ Below w.heap.size w w'
  sz : ∀ (man q : Nat) (u : Int) w, u = l + q → q < 2046 → (q : Int) < Be - l - sd → man ≤ 2 * H → Calls Tryz.prog 83 #[WV p m l, U man, .int .i64 u] w fun e w' => e = .returned (U (q * H + man)) ∧ Below w.heap.size w w'
  hs : H = 2 ^ sd
  sl : 1 ≤ sd ∧ sd ≤ 52
  bq : ∀ s, s < I → ((s / H - 1 : Nat) : Int) ≤ Be - l - sd - 1
  bu : Be ≤ 1024 ∧ 0 < Be
theorem jm_32 : Jm 32 32 24 (-149) 2147483648 2139095040 8388608 23 128 :=
  ⟨pm_32, beyond_32, fun top w h1 h2 => unitg_32 top h1 h2 w, fun man q u w h1 _ h3 h2 => size_32 man q u (by omega) (by omega) h2 w, by decide, by decide, fun s hs => by omega, by decide⟩
theorem jm_64 : Jm 64 64 53 (-1074) 9223372036854775808 9218868437227405312 4503599627370496 52 1024 :=
  ⟨pm_64, beyond_64, fun top w h1 h2 => unitg_64 top h1 h2 w, fun man q u w h1 _ _ h2 => size_64 man q u (by omega) (by omega) h2 w, by decide, by decide, fun s hs => by omega, by decide⟩
end Go.Proofs.YtfofoookdlaipaaGreatDoor

namespace Go.Proofs.YtfofoookdlaipaaGreatDoor
open Go.RowKit Go.Shelf

structure B5 (W : World) (g : Nat) (v0 v1 v2 v3 v4 : Value) : Prop where
  c0 : W.cell? ⟨g, 0, none⟩ = some v0
  c1 : W.cell? ⟨g, 1, none⟩ = some v1
  c2 : W.cell? ⟨g, 2, none⟩ = some v2
  c3 : W.cell? ⟨g, 3, none⟩ = some v3
  c4 : W.cell? ⟨g, 4, none⟩ = some v4
  f0 : W.frozen? ⟨g, 0, none⟩ = false
  f1 : W.frozen? ⟨g, 1, none⟩ = false
  f2 : W.frozen? ⟨g, 2, none⟩ = false
  f3 : W.frozen? ⟨g, 3, none⟩ = false
  f4 : W.frozen? ⟨g, 4, none⟩ = false
theorem B5.below {W W' : World} {g : Nat} {v0 v1 v2 v3 v4 : Value} (h : B5 W g v0 v1 v2 v3 v4) (hb : Below W.heap.size W W') : B5 W' g v0 v1 v2 v3 v4 := by
  have hl : g < W.heap.size := World.block_lt_of_cell? W _ h.c0
  exact ⟨(hb.cell (p := ⟨g, 0, none⟩) hl).trans h.c0, (hb.cell (p := ⟨g, 1, none⟩) hl).trans h.c1, (hb.cell (p := ⟨g, 2, none⟩) hl).trans h.c2, (hb.cell (p := ⟨g, 3, none⟩) hl).trans h.c3, (hb.cell (p := ⟨g, 4, none⟩) hl).trans h.c4,
    (hb.frozen (p := ⟨g, 0, none⟩) hl).trans h.f0, (hb.frozen (p := ⟨g, 1, none⟩) hl).trans h.f1, (hb.frozen (p := ⟨g, 2, none⟩) hl).trans h.f2, (hb.frozen (p := ⟨g, 3, none⟩) hl).trans h.f3, (hb.frozen (p := ⟨g, 4, none⟩) hl).trans h.f4⟩
theorem B5.new (w : World) (ty : TypeId) (v0 v1 v2 v3 v4 : Value) : B5 (w.alloc (.cells #[v0, v1, v2, v3, v4] ty)) w.heap.size v0 v1 v2 v3 v4 :=
  ⟨by go_simp, by go_simp, by go_simp, by go_simp, by go_simp, by go_simp, by go_simp, by go_simp, by go_simp, by go_simp⟩
theorem DocIs.inj {v : Nat} {us us' : List Nat} {f f' : Int} (h : DocIs v us f) (k : DocIs v us' f') : us = us' ∧ f = f' := by
  rcases h with ⟨h1, h2, rfl⟩ | ⟨h1, rfl, rfl⟩ <;> rcases k with ⟨k1, k2, rfl⟩ | ⟨k1, rfl, rfl⟩
  · exact ⟨h2.inj B64_one k2, rfl⟩
  · omega
  · omega
  · exact ⟨rfl, rfl⟩
theorem DocIs.er {v : Nat} {us : List Nat} {f : Int} (h : DocIs v us f) : f = 0 ∨ f = 5 := by
  rcases h with ⟨_, _, rfl⟩ | ⟨_, _, rfl⟩ <;> simp
end Go.Proofs.YtfofoookdlaipaaGreatDoor

namespace Go.Proofs.YtfofoookdlaipaaGreatDoor
open Go.RowKit Go.Shelf

end Go.Proofs.YtfofoookdlaipaaGreatDoor

namespace Go.Proofs.YtfofoookdlaipaaGreatDoor
open Go.RowKit Go.Shelf

end Go.Proofs.YtfofoookdlaipaaGreatDoor

namespace Go.Proofs.YtfofoookdlaipaaGreatDoor
open Go.RowKit Go.Shelf

structure Op7 where
  k : Int
  f : Int
  b : Nat
  neg : Bool
  n : Int
structure Scr7 (w : World) (P : Option Addr) (N C : Nat) (its : List Op7) : Prop where
  len : its.length = N
  cap : N ≤ C
  big : C ≤ maxLen
  ats : ∀ t ∈ its, t.b < B64 ∧ -9223372036854775808 ≤ t.n ∧ t.n ≤ 9223372036854775807
  cells : N = 0 ∨ ∃ g off, P = some ⟨g, off, none⟩ ∧ ∀ i (h : i < its.length), w.cell? ⟨g, off + i * 5, none⟩ = some (.int .i64 its[i].k) ∧ w.cell? ⟨g, off + i * 5 + 1, none⟩ = some (.int .i64 its[i].f) ∧
    w.cell? ⟨g, off + i * 5 + 2, none⟩ = some (U its[i].b) ∧ w.cell? ⟨g, off + i * 5 + 3, none⟩ = some (.bool its[i].neg) ∧ w.cell? ⟨g, off + i * 5 + 4, none⟩ = some (.int .i64 its[i].n)
theorem Scr7.below {w w' : World} {P : Option Addr} {N C : Nat} {its : List Op7} (h : Scr7 w P N C its) (hb : Below w.heap.size w w') : Scr7 w' P N C its := by
  refine ⟨h.len, h.cap, h.big, h.ats, ?_⟩
  rcases h.cells with h0 | ⟨g, off, hP, hc⟩
  · exact .inl h0
  · refine .inr ⟨g, off, hP, fun i hi => ?_⟩
    obtain ⟨h0, h1, h2, h3, h4⟩ := hc i hi
    have hl : g < w.heap.size := World.block_lt_of_cell? w _ h0
    exact ⟨(hb.cell (p := ⟨g, off + i * 5, none⟩) hl).trans h0, (hb.cell (p := ⟨g, off + i * 5 + 1, none⟩) hl).trans h1, (hb.cell (p := ⟨g, off + i * 5 + 2, none⟩) hl).trans h2,
      (hb.cell (p := ⟨g, off + i * 5 + 3, none⟩) hl).trans h3, (hb.cell (p := ⟨g, off + i * 5 + 4, none⟩) hl).trans h4⟩
structure Kds (w : World) (g : Nat) (ks : List Int) : Prop where
  c : ∀ j (h : j < ks.length), w.cell? ⟨g, j, none⟩ = some (.int .i64 ks[j])
  lt : g < w.heap.size
theorem Kds.below {w w' : World} {g : Nat} {ks : List Int} (h : Kds w g ks) (hb : Below w.heap.size w w') : Kds w' g ks :=
  ⟨fun j hj => (hb.cell (p := ⟨g, j, none⟩) h.lt).trans (h.c j hj), Nat.lt_of_lt_of_le h.lt hb.size⟩

end Go.Proofs.YtfofoookdlaipaaGreatDoor

namespace Go.Proofs.YtfofoookdlaipaaGreatDoor
open Go.RowKit Go.Shelf

end Go.Proofs.YtfofoookdlaipaaGreatDoor

namespace Go.Proofs.YtfofoookdlaipaaGreatDoor
open Go.RowKit Go.Shelf

end Go.Proofs.YtfofoookdlaipaaGreatDoor

namespace Go.Proofs.YtfofoookdlaipaaGreatDoor
open Go.RowKit Go.Shelf

end Go.Proofs.YtfofoookdlaipaaGreatDoor

namespace Go.Proofs.YtfofoookdlaipaaGreatDoor
open Go.RowKit Go.Shelf

end Go.Proofs.YtfofoookdlaipaaGreatDoor

namespace Go.Proofs.YtfofoookdlaipaaGreatDoor
open Go.RowKit Go.Shelf

theorem blb_le {m k : Nat} (h : m < 2 ^ k) : bl_bitsN m ≤ k := by
  by_cases h0 : m = 0
  · rw [h0, bl_bitsN_zero]; omega
  have h1 := bl_bitsN_le m h0
  have := (Nat.pow_lt_pow_iff_right (by omega : 1 < 2)).1 (Nat.lt_of_le_of_lt h1 h)
  omega
theorem blb_pos {m : Nat} (h : m ≠ 0) : 0 < bl_bitsN m := by unfold bl_bitsN; rw [if_neg h]; omega
theorem wV_parts {z : Nat} (hz : z < 2139095040) (h0 : z ≠ 0) : ∃ q m L, q = z / 8388608 - 1 ∧ m = z - q * 8388608 ∧ L = bl_bitsN m ∧ 1 ≤ L ∧ L ≤ 24 ∧ q ≤ 253 ∧ wV z = (872 + q + L) * 4503599627370496 + m * 2 ^ (53 - L) ∧ 4503599627370496 ≤ m * 2 ^ (53 - L) ∧ m * 2 ^ (53 - L) < 2 * 4503599627370496 := by
  obtain ⟨q, hq⟩ : ∃ q, q = z / 8388608 - 1 := ⟨_, rfl⟩
  obtain ⟨m, hm⟩ : ∃ m, m = z - q * 8388608 := ⟨_, rfl⟩
  obtain ⟨L, hL⟩ : ∃ L, L = bl_bitsN m := ⟨_, rfl⟩
  have hm0 : m ≠ 0 := by omega
  have hm1 : m < 16777216 := by omega
  have l1 := blb_pos hm0
  have l2 := blb_le (m := m) (k := 24) (by omega)
  have b1 := bl_bitsN_lt m
  have b2 := bl_bitsN_le m hm0
  rw [← hL] at l1 l2 b1 b2
  have e1 : (2 : Nat) ^ 52 = 4503599627370496 := by decide
  have h1 : 2 ^ (L - 1) * 2 ^ (53 - L) ≤ m * 2 ^ (53 - L) := Nat.mul_le_mul_right _ b2
  have h2 : m * 2 ^ (53 - L) < 2 ^ L * 2 ^ (53 - L) := Nat.mul_lt_mul_of_pos_right b1 (Nat.pow_pos (by omega))
  rw [← Nat.pow_add, show L - 1 + (53 - L) = 52 from by omega, e1] at h1
  rw [← Nat.pow_add, show L + (53 - L) = 52 + 1 from by omega, Nat.pow_succ, e1] at h2
  refine ⟨q, m, L, hq, hm, hL, l1, l2, by omega, ?_, h1, by omega⟩
  unfold wV
  rw [if_neg h0, ← hq, ← hm, ← hL]
theorem wV_vs {z K : Nat} (hz : z < 2139095040) (hK : K = 925) : vs 4503599627370496 (wV z) = vs 8388608 z * 2 ^ K := by
  by_cases h0 : z = 0
  · subst h0
    unfold wV
    rw [if_pos rfl, vs_zero, vs_zero, Nat.zero_mul]
  obtain ⟨q, m, L, hq, hm, _, l1, l2, l3, hw, h1, h2⟩ := wV_parts hz h0
  have hd : wV z / 4503599627370496 - 1 = 872 + q + L := by
    rw [hw]
    generalize m * 2 ^ (53 - L) = M at *
    omega
  have e1 : vs 8388608 z = m * 2 ^ q := by unfold vs; rw [← hq, ← hm]
  have e2 : wV z - (872 + q + L) * 4503599627370496 = m * 2 ^ (53 - L) := by
    rw [hw]
    generalize m * 2 ^ (53 - L) = M at *
    omega
  rw [e1]
  unfold vs
  rw [hd, e2, Nat.mul_assoc, Nat.mul_assoc, ← Nat.pow_add, ← Nat.pow_add, show 53 - L + (872 + q + L) = q + K from by omega]
theorem wV_lt {y z : Nat} (hy : y < 2139095040) (hz : z < 2139095040) (h : y < z) : wV y < wV z := by
  rcases Nat.lt_or_ge (wV y) (wV z) with h1 | h1
  · exact h1
  · have h2 := vs_mono (H := 8388608) (by decide) h
    have h3 : vs 4503599627370496 (wV z) ≤ vs 4503599627370496 (wV y) := by
      rcases Nat.lt_or_eq_of_le h1 with h4 | h4
      · exact Nat.le_of_lt (vs_mono (by decide) h4)
      · rw [h4]; exact Nat.le_refl _
    obtain ⟨K, hK⟩ : ∃ K, K = 925 := ⟨_, rfl⟩
    rw [wV_vs hy hK, wV_vs hz hK] at h3
    have h5 := Nat.le_of_mul_le_mul_right h3 (Nat.pow_pos (by omega))
    omega
theorem wV_cls {z : Nat} (hz : z < 2139095040) : wV z < 9218868437227405312 ∧ (z = 0 → wV z = 0) ∧ (z ≠ 0 → 4503599627370496 ≤ wV z) := by
  by_cases h0 : z = 0
  · subst h0
    have : wV 0 = 0 := by unfold wV; rw [if_pos rfl]
    rw [this]
    exact ⟨by decide, fun _ => rfl, fun h => absurd rfl h⟩
  obtain ⟨q, m, L, hq, hm, _, l1, l2, l3, hw, h1, h2⟩ := wV_parts hz h0
  rw [hw]
  generalize m * 2 ^ (53 - L) = M at *
  exact ⟨by omega, fun h => absurd h h0, fun _ => by omega⟩
structure WF (a x : Nat) : Prop where
  lt : x < 2 * 9223372036854775808
  nan : 2139095040 < a % 2147483648 → 9218868437227405312 < x % 9223372036854775808
  inf : a % 2147483648 = 2139095040 → x % 9223372036854775808 = 9218868437227405312
  fin : a % 2147483648 < 2139095040 → x % 9223372036854775808 = wV (a % 2147483648) ∧ (9223372036854775808 ≤ x ↔ 2147483648 ≤ a)
theorem cls_four {H I s : Nat} (hH : H ≤ I) : (clsN H I s == 4) = decide (I < s) := by
  by_cases h : I < s
  · rw [cls_nan hH h, decide_eq_true h]; rfl
  · rw [decide_eq_false h]; simp [cls_ne (Nat.le_of_not_lt h)]
theorem WF.cls {a x : Nat} (h : WF a x) : (clsN 8388608 2139095040 (a % 2147483648) == 4) = (clsN 4503599627370496 9218868437227405312 (x % 9223372036854775808) == 4) ∧ (clsN 8388608 2139095040 (a % 2147483648) == 3) = (clsN 4503599627370496 9218868437227405312 (x % 9223372036854775808) == 3) := by
  rw [cls_four (by decide), cls_four (by decide), cls_inf (by decide) (by decide), cls_inf (by decide) (by decide)]
  have h1 := h.nan
  have h2 := h.inf
  have h3 := h.fin
  rcases Nat.lt_trichotomy (a % 2147483648) 2139095040 with k | k | k
  · have k1 := (wV_cls k).1
    rw [← (h3 k).1] at k1
    refine ⟨decide_eq_decide.2 ⟨?_, ?_⟩, decide_eq_decide.2 ⟨?_, ?_⟩⟩ <;> omega
  · have := h2 k
    refine ⟨decide_eq_decide.2 ⟨?_, ?_⟩, decide_eq_decide.2 ⟨?_, ?_⟩⟩ <;> omega
  · have := h1 k
    refine ⟨decide_eq_decide.2 ⟨?_, ?_⟩, decide_eq_decide.2 ⟨?_, ?_⟩⟩ <;> omega
theorem WF.val {zo eo : Int} {a' x' : Nat} (h : WF a' x') (hf : a' % 2147483648 < 2139095040) (hv : VF 2147483648 8388608 (-149) a' zo eo) : VF 9223372036854775808 4503599627370496 (-1074) x' zo eo := by
  obtain ⟨h1, h2⟩ := h.fin hf
  refine ⟨hv.fm, ?_⟩
  obtain ⟨K, hK⟩ : ∃ K, K = 925 := ⟨_, rfl⟩
  have h3 := wV_vs hf hK
  rw [hv.v, show (-149 : Int) = -1074 + (K : Int) from by omega, dv_up K (by decide), svS_eq, svS_eq, h1, h3]
  by_cases h4 : 2147483648 ≤ a'
  · rw [if_pos h4, if_pos (h2.2 h4), Int.neg_mul, ← Int.natCast_mul]
  · rw [if_neg h4, if_neg (fun k => h4 (h2.1 k)), ← Int.natCast_mul]
theorem WF.rank {a x b y : Nat} (h : WF a x) (k : WF b y) (ha : a % 2147483648 < 2139095040) (hb : b % 2147483648 < 2139095040) : rkS 2147483648 a < rkS 2147483648 b ↔ rkS 9223372036854775808 x < rkS 9223372036854775808 y := by
  obtain ⟨h1, h2⟩ := h.fin ha
  obtain ⟨k1, k2⟩ := k.fin hb
  have a0 := (wV_cls ha).2
  have b0 := (wV_cls hb).2
  have l1 : a % 2147483648 < b % 2147483648 → wV (a % 2147483648) < wV (b % 2147483648) := wV_lt ha hb
  have l2 : b % 2147483648 < a % 2147483648 → wV (b % 2147483648) < wV (a % 2147483648) := wV_lt hb ha
  have l3 : a % 2147483648 = b % 2147483648 → wV (a % 2147483648) = wV (b % 2147483648) := fun e => by rw [e]
  unfold rkS
  rw [h1, k1]
  generalize a % 2147483648 = A at *
  generalize b % 2147483648 = B at *
  generalize wV A = WA at *
  generalize wV B = WB at *
  by_cases c1 : 2147483648 ≤ a <;> by_cases c2 : 2147483648 ≤ b
  · rw [if_pos c1, if_pos c2, if_pos (h2.2 c1), if_pos (k2.2 c2)]; omega
  · rw [if_pos c1, if_neg c2, if_pos (h2.2 c1), if_neg (fun e => c2 (k2.1 e))]; omega
  · rw [if_neg c1, if_pos c2, if_neg (fun e => c1 (h2.1 e)), if_pos (k2.2 c2)]; omega
  · rw [if_neg c1, if_neg c2, if_neg (fun e => c1 (h2.1 e)), if_neg (fun e => c2 (k2.1 e))]; omega
end Go.Proofs.YtfofoookdlaipaaGreatDoor

namespace Go.Proofs.YtfofoookdlaipaaGreatDoor
open Go.RowKit Go.Shelf

set_option maxRecDepth 20000 in
set_option maxHeartbeats 8000000 in
theorem clsof_32 (b : Nat) (hb : b < 2 * 2147483648) (w : World) :
    Calls Tryz.prog 15 #[.int .i64 32, U b] w fun en w' => en = .returned (.tuple #[.int .i64 (clsN 8388608 2139095040 (b % 2147483648)), .int .i64 0]) ∧ Below w.heap.size w w' := by
  have hbw : Below w.heap.size w w := Below.refl _ _
  obtain ⟨z, hz⟩ : ∃ z : Nat, z = b % 2147483648 := ⟨_, rfl⟩
  obtain ⟨s, hs⟩ : ∃ s, s = decide (2147483648 ≤ b) := ⟨_, rfl⟩
  obtain ⟨c, hc⟩ : ∃ c, c = clsN 8388608 2139095040 z := ⟨_, rfl⟩
  have HPT : Hid (∀ w, Calls Tryz.prog 49 #[.int .i64 32, U b] w fun e w' => e = .returned (.tuple #[PV 32 24 (-149) s z, .int .i64 0]) ∧ Below w.heap.size w w') := by rw [hz, hs]; exact fun w => fm_32.pat b w hb
  rw [← hz, ← hc]
  have HC : Hid (clsN 8388608 2139095040 z = c) := hc.symm
  clear hz hs hc hb
  go_enter Tryz.func15, Tryz.ntmps15
  go_wp2_with fail
  refine (HPT.out _).mono ?_
  rintro e v1 ⟨rfl, hb1⟩
  replace hbw := Below.on hbw hb1
  clear hb1
  go_wp2_with fail
  have Xp0 : Hid (B5q (v1.alloc (.cells #[.int .i64 32, .int .i64 24, .int .i64 (-149), .bool s, U z] 87)) v1.heap.size (.int .i64 32) (.int .i64 24) (.int .i64 (-149)) (.bool s) (U z)) := B5q.new v1 _ _ _ _ _ _
  have hbn : Below v1.heap.size v1 (v1.alloc (.cells #[.int .i64 32, .int .i64 24, .int .i64 (-149), .bool s, U z] 87)) := below1 v1 _
  generalize v1.alloc (.cells #[.int .i64 32, .int .i64 24, .int .i64 (-149), .bool s, U z] 87) = Wp at *
  have HGp : Hid (w.heap.size ≤ v1.heap.size) := hbw.size
  replace hbw := Below.on hbw hbn
  clear hbn
  generalize v1.heap.size = gp at *
  have Xp := Xp0
  clear Xp0
  refine (class_32 rfl s z _).mono ?_
  rintro e2 v2 ⟨rfl, hb2⟩
  rw [HC.out]
  replace Xp : Hid _ := Xp.out.below hb2
  replace hbw := Below.on hbw hb2
  clear hb2
  go_wp2_with fail
  go_ret2
  exact ⟨rfl, hbw⟩
set_option maxRecDepth 20000 in
set_option maxHeartbeats 8000000 in
theorem clsof_64 (b : Nat) (hb : b < 2 * 9223372036854775808) (w : World) :
    Calls Tryz.prog 15 #[.int .i64 64, U b] w fun en w' => en = .returned (.tuple #[.int .i64 (clsN 4503599627370496 9218868437227405312 (b % 9223372036854775808)), .int .i64 0]) ∧ Below w.heap.size w w' := by
  have hbw : Below w.heap.size w w := Below.refl _ _
  obtain ⟨z, hz⟩ : ∃ z : Nat, z = b % 9223372036854775808 := ⟨_, rfl⟩
  obtain ⟨s, hs⟩ : ∃ s, s = decide (9223372036854775808 ≤ b) := ⟨_, rfl⟩
  obtain ⟨c, hc⟩ : ∃ c, c = clsN 4503599627370496 9218868437227405312 z := ⟨_, rfl⟩
  have HPT : Hid (∀ w, Calls Tryz.prog 49 #[.int .i64 64, U b] w fun e w' => e = .returned (.tuple #[PV 64 53 (-1074) s z, .int .i64 0]) ∧ Below w.heap.size w w') := by rw [hz, hs]; exact fun w => fm_64.pat b w hb
  rw [← hz, ← hc]
  have HC : Hid (clsN 4503599627370496 9218868437227405312 z = c) := hc.symm
  clear hz hs hc hb
  go_enter Tryz.func15, Tryz.ntmps15
  go_wp2_with fail
  refine (HPT.out _).mono ?_
  rintro e v1 ⟨rfl, hb1⟩
  replace hbw := Below.on hbw hb1
  clear hb1
  go_wp2_with fail
  have Xp0 : Hid (B5q (v1.alloc (.cells #[.int .i64 64, .int .i64 53, .int .i64 (-1074), .bool s, U z] 87)) v1.heap.size (.int .i64 64) (.int .i64 53) (.int .i64 (-1074)) (.bool s) (U z)) := B5q.new v1 _ _ _ _ _ _
  have hbn : Below v1.heap.size v1 (v1.alloc (.cells #[.int .i64 64, .int .i64 53, .int .i64 (-1074), .bool s, U z] 87)) := below1 v1 _
  generalize v1.alloc (.cells #[.int .i64 64, .int .i64 53, .int .i64 (-1074), .bool s, U z] 87) = Wp at *
  have HGp : Hid (w.heap.size ≤ v1.heap.size) := hbw.size
  replace hbw := Below.on hbw hbn
  clear hbn
  generalize v1.heap.size = gp at *
  have Xp := Xp0
  clear Xp0
  refine (class_64 rfl s z _).mono ?_
  rintro e2 v2 ⟨rfl, hb2⟩
  rw [HC.out]
  replace Xp : Hid _ := Xp.out.below hb2
  replace hbw := Below.on hbw hb2
  clear hb2
  go_wp2_with fail
  go_ret2
  exact ⟨rfl, hbw⟩
end Go.Proofs.YtfofoookdlaipaaGreatDoor

