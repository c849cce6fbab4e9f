import Derived.Test.YtpnpdngfjgdgfaaJ7
import Derived.BigQuiet
import Derived.Deep.LoopGhost
import Derived.Laws.Cover1
import Derived.Deep.RegionWith
import Derived.Deep.RegionLaw
import Derived.Laws.ResultCell
import Derived.Deep.DeepCutAuto
import Derived.Laws.OwnMore
import Derived.Maps.AppendAt
import Derived.Deep.AppendLies
import Derived.Test.YtpnpdngfjgdgfaaCopied
namespace Go.Proofs.Ytpnpdngfjgdgfaa
open Go.RowKit Go.Shelf
set_option maxRecDepth 20000
set_option maxHeartbeats 0
structure FrIs (B : Nat) (w : World) (s : Bool) (a d : Nat) (p : Option Addr) (m : Nat) (zs : List Nat) (x : Bool) (hf : Int) : Prop where
  own : Own B w p m zs
  nf : Nf B64 zs (a / d)
  le : m ≤ 8192
  ex : x = decide (a % d ≠ 0)
  hf : HfIs (a % d) d hf
  lim : a < LIM
theorem FrIs.below {B : Nat} {w w' : World} {s : Bool} {a d : Nat} {p : Option Addr} {m : Nat} {zs : List Nat} {x : Bool} {hf : Int} (h : FrIs B w s a d p m zs x hf) (hb : Below w.heap.size w w') : FrIs B w' s a d p m zs x hf :=
  ⟨h.own.below hb, h.nf, h.le, h.ex, h.hf, h.lim⟩
theorem FrIs.up {B : Nat} {w : World} {s : Bool} {a d : Nat} {p : Option Addr} {m : Nat} {zs : List Nat} {hf : Int} (h : FrIs B w s a d p m zs true hf) : a / d + 1 < LIM := by
  have := ce_le (of_decide_eq_true h.ex.symm)
  have := h.lim
  omega
theorem FrIs.half {B : Nat} {w : World} {s : Bool} {a d : Nat} {p : Option Addr} {m : Nat} {zs : List Nat} {x : Bool} {hf : Int} (h : FrIs B w s a d p m zs x hf) (hd : 0 < d) (h0 : 0 ≤ hf) : x = true := by
  rw [h.ex]
  refine decide_eq_true ?_
  rcases h.hf with ⟨_, e⟩ | ⟨e, _⟩ | ⟨e, _⟩ <;> omega
end Go.Proofs.Ytpnpdngfjgdgfaa
namespace Go.Proofs.Ytpnpdngfjgdgfaa
open Go.RowKit
set_option maxRecDepth 20000
set_option maxHeartbeats 0
theorem Own.empty (B : Nat) (w : World) (p : Option Addr) : Own B w p 0 [] := ⟨rfl, Dig.nil _, .inl rfl⟩
theorem At.drop {w : World} {g off n c : Nat} {xs : List Nat} (h : At w (some ⟨g, off, none⟩) n c xs) (k : Nat) (hk : k < n) : At w (some ⟨g, off + k, none⟩) (n - k) (n - k) (xs.drop k) := by
  have h1 := h.len; have h2 := h.cap; have h3 := h.big
  refine ⟨by rw [List.length_drop, h1], Nat.le_refl _, by omega, h.dig.drop k, .inr ⟨g, off + k, rfl, fun j hj => ?_⟩⟩
  obtain ⟨g', off', hp, hc⟩ := h.cells.resolve_left (by omega)
  simp only [Option.some.injEq, Addr.mk.injEq, and_true] at hp
  obtain ⟨rfl, rfl⟩ := hp
  have e : (xs.drop k).getD j 0 = xs.getD (k + j) 0 := by rw [List.getD_eq_getElem?_getD, List.getD_eq_getElem?_getD, List.getElem?_drop]
  rw [e, Nat.add_assoc]; exact hc (k + j) (by omega)
end Go.Proofs.Ytpnpdngfjgdgfaa
namespace Go.Proofs.Ytpnpdngfjgdgfaa
open Go.RowKit Go.Shelf
set_option maxRecDepth 20000
set_option maxHeartbeats 0
def GeW (B : Nat) (w : World) : Prop := B ≤ w.heap.size
theorem GeW.below {B : Nat} {w w' : World} (h : GeW B w) (hb : Below w.heap.size w w') : GeW B w' := Nat.le_trans h hb.size
theorem Nf.one {ys : List Nat} {b : Nat} (hy : Nf B64 ys b) (hl : ys.length = 1) : ys = [b] := by
  match ys, hl with
  | [y], _ => have := hy.val; simp [valB] at this; rw [this]
theorem Num.drewN {w : World} {p : Option Addr} {m c : Nat} {xs : List Nat} {a : Nat} (h : Num w p m c xs a) (r : Nat) : Num (w.drewN r) p m c xs a := ⟨h.at_.drewN r, h.nf, h.le⟩
structure ZN (w : World) (s : Bool) (p : Option Addr) (m c : Nat) (z : Int) : Prop where
  ex : ∃ xs, Num w p m c xs z.natAbs
  sg : s = decide (z < 0)
theorem ZN.below {w w' : World} {s : Bool} {p : Option Addr} {m c : Nat} {z : Int} (h : ZN w s p m c z) (hb : Below w.heap.size w w') : ZN w' s p m c z := by
  obtain ⟨xs, hx⟩ := h.ex
  exact ⟨⟨xs, hx.below hb⟩, h.sg⟩
theorem ZN.iv {w : World} {s : Bool} {p : Option Addr} {m c : Nat} {z : Int} (h : ZN w s p m c z) : iv s z.natAbs = z := by rw [h.sg]; exact iv_abs z
theorem ZN.lim {w : World} {s : Bool} {p : Option Addr} {m c : Nat} {z : Int} (h : ZN w s p m c z) : z.natAbs < LIM := by
  obtain ⟨xs, hx⟩ := h.ex
  exact hx.lim
theorem ZN.le {w : World} {s : Bool} {p : Option Addr} {m c : Nat} {z : Int} (h : ZN w s p m c z) : m ≤ 8192 := by
  obtain ⟨xs, hx⟩ := h.ex
  exact hx.le
theorem ZN.of {w : World} {p : Option Addr} {m c : Nat} {xs : List Nat} {a : Nat} {t : Bool} (h : Num w p m c xs a) (ht : t = true → 0 < a) : ZN w t p m c (Go.Proofs.Ytpnpdngfjgdgfaa.iv t a) :=
  ⟨⟨xs, by rw [iv_natAbs]; exact h⟩, by
    cases t
    · rw [iv_f]; exact (decide_eq_false (Int.not_lt.2 (Int.natCast_nonneg _))).symm
    · rw [iv_t]; have := ht rfl; exact (decide_eq_true (by omega)).symm⟩
variable {w : World} {s t : Bool} {p q : Option Addr} {m c n d : Nat} {x y : Int}
def NewAt (B : Nat) (w : World) (p : Option Addr) (m c : Nat) (us : List Nat) : Prop := At w p m c us ∧ (m = 0 ∨ ∃ g, p = some ⟨g, 0, none⟩ ∧ B ≤ g)
theorem NewAt.below {B : Nat} {w w' : World} {p : Option Addr} {m c : Nat} {us : List Nat} (h : NewAt B w p m c us) (hb : Below w.heap.size w w') : NewAt B w' p m c us := ⟨h.1.below hb, h.2⟩
theorem NewAt.mono {B B' : Nat} {w : World} {p : Option Addr} {m c : Nat} {us : List Nat} (h : NewAt B w p m c us) (hB : B' ≤ B) : NewAt B' w p m c us :=
  ⟨h.1, h.2.imp id (fun ⟨g, e, k⟩ => ⟨g, e, Nat.le_trans hB k⟩)⟩
def DocZ (z : Int) (s : Bool) (us : List Nat) (er : Int) : Prop :=
  (z.natAbs < LIM ∧ s = decide (z < 0) ∧ Nf B64 us z.natAbs ∧ er = 0) ∨ (LIM ≤ z.natAbs ∧ s = false ∧ us = [] ∧ er = 5)
theorem DocZ.inj {z : Int} {s s' : Bool} {us us' : List Nat} {er er' : Int} (h : DocZ z s us er) (k : DocZ z s' us' er') : s = s' ∧ us = us' ∧ er = er' := by
  rcases h with ⟨h0, rfl, h1, rfl⟩ | ⟨h0, rfl, rfl, rfl⟩ <;> rcases k with ⟨k0, rfl, k1, rfl⟩ | ⟨k0, rfl, rfl, rfl⟩
  · exact ⟨rfl, h1.inj B64_one k1, rfl⟩
  · omega
  · omega
  · exact ⟨rfl, rfl, rfl⟩
def formZ (s : Bool) (xs : List Nat) : Bool := formB xs && !(s && decide (xs = []))
def OneZ (r : Int → Int) (sx : Bool) (xs : List Nat) (s : Bool) (us : List Nat) (er : Int) : Prop :=
  (formZ sx xs = false ∧ s = false ∧ us = [] ∧ er = 2) ∨ (formZ sx xs = true ∧ DocZ (r (iv sx (valB B64 xs))) s us er)
def TwoZ (r : Int → Int → Int) (sx : Bool) (xs : List Nat) (sy : Bool) (ys : List Nat) (s : Bool) (us : List Nat) (er : Int) : Prop :=
  ((formZ sx xs && formZ sy ys) = false ∧ s = false ∧ us = [] ∧ er = 2) ∨ ((formZ sx xs && formZ sy ys) = true ∧ DocZ (r (iv sx (valB B64 xs)) (iv sy (valB B64 ys))) s us er)
theorem OneZ.inj {r : Int → Int} {sx : Bool} {xs : List Nat} {s s' : Bool} {us us' : List Nat} {er er' : Int} (h : OneZ r sx xs s us er) (k : OneZ r sx xs s' us' er') : s = s' ∧ us = us' ∧ er = er' := by
  rcases h with ⟨h0, rfl, rfl, rfl⟩ | ⟨h0, h1⟩ <;> rcases k with ⟨k0, rfl, rfl, rfl⟩ | ⟨k0, k1⟩
  · exact ⟨rfl, rfl, rfl⟩
  · rw [h0] at k0; cases k0
  · rw [h0] at k0; cases k0
  · exact h1.inj k1
theorem TwoZ.inj {r : Int → Int → Int} {sx sy : Bool} {xs ys : List Nat} {s s' : Bool} {us us' : List Nat} {er er' : Int} (h : TwoZ r sx xs sy ys s us er) (k : TwoZ r sx xs sy ys s' us' er') : s = s' ∧ us = us' ∧ er = er' := by
  rcases h with ⟨h0, rfl, rfl, rfl⟩ | ⟨h0, h1⟩ <;> rcases k with ⟨k0, rfl, rfl, rfl⟩ | ⟨k0, k1⟩
  · exact ⟨rfl, rfl, rfl⟩
  · rw [h0] at k0; cases k0
  · rw [h0] at k0; cases k0
  · exact h1.inj k1
end Go.Proofs.Ytpnpdngfjgdgfaa
namespace Go.Proofs.Ytpnpdngfjgdgfaa
open Go.RowKit
set_option maxRecDepth 20000
set_option maxHeartbeats 0
variable {P : Program} {md : Region.Mode} {ops : Array Oper} {Q : Exit → Act → World → Prop} {J : World → Prop}
variable {P : Program} {md : Region.Mode} {ops : Array Oper} {Q : Exit → Act → World → Prop} {J : World → Prop}
end Go.Proofs.Ytpnpdngfjgdgfaa
namespace Go.Proofs.Ytpnpdngfjgdgfaa
open Go.RowKit Go.Shelf
set_option maxRecDepth 20000
set_option maxHeartbeats 0
structure WinRel32 (w : World) (g off n : Nat) (W D d b : Nat) (ws : List Nat) (wr : World) : Prop where
  wrs : Wr g off (n + 1) w wr
  row : Row32 wr g off (n + 1) ws
  db : d < B32
  bb : b ≤ 1
  ge : W / D ≤ d
  sum : valB B32 ws + D * d = W + B32 ^ (n + 1) * b
theorem WinRel32.done {w : World} {g off n W D d : Nat} {ws : List Nat} {wr : World} (h : WinRel32 w g off n W D d 0 ws wr) (hD : 0 < D) : d = W / D ∧ valB B32 ws = W % D := by
  have h1 := h.sum; have h2 := h.ge
  rw [Nat.mul_zero, Nat.add_zero] at h1
  have h3 : d ≤ W / D := (Nat.le_div_iff_mul_le hD).2 (by rw [Nat.mul_comm]; omega)
  have h4 : d = W / D := by omega
  refine ⟨h4, ?_⟩
  have h5 := Nat.div_add_mod W D
  rw [← h4] at h5
  omega
theorem Blk32.own {w : World} {g base : Nat} {xs : List Nat} (h : Blk32 w g xs) (hb : base ≤ g) (hm : xs.length ≤ maxLen) : w.ownsRow base 64 1 (.slice (some ⟨g, 0, none⟩) xs.length xs.length) xs.length (cellsV xs) :=
  ⟨by simp [cellsV], .inr ⟨g, xs.length, (cellsV xs).toArray, rfl, hb, h, Nat.le_refl _, hm, by simp [cellsV], by rw [Nat.mul_one]; exact List.take_of_length_le (by simp [cellsV])⟩⟩
structure B5 (W : World) (g : Nat) (v0 v1 v2 v3 v4 : Value) : Prop where
  c0 : W.cell? ⟨g, 0, none⟩ = some v0
  c1 : W.cell? ⟨g, 1, none⟩ = some v1
  c2 : W.cell? ⟨g, 2, none⟩ = some v2
  c3 : W.cell? ⟨g, 3, none⟩ = some v3
  c4 : W.cell? ⟨g, 4, none⟩ = some v4
  f0 : W.frozen? ⟨g, 0, none⟩ = false
  f1 : W.frozen? ⟨g, 1, none⟩ = false
  f2 : W.frozen? ⟨g, 2, none⟩ = false
  f3 : W.frozen? ⟨g, 3, none⟩ = false
  f4 : W.frozen? ⟨g, 4, none⟩ = false
theorem B5.below {W W' : World} {g : Nat} {v0 v1 v2 v3 v4 : Value} (h : B5 W g v0 v1 v2 v3 v4) (hb : Below W.heap.size W W') : B5 W' g v0 v1 v2 v3 v4 := by
  have hl : g < W.heap.size := World.block_lt_of_cell? W _ h.c0
  exact ⟨(hb.cell (p := ⟨g, 0, none⟩) hl).trans h.c0, (hb.cell (p := ⟨g, 1, none⟩) hl).trans h.c1, (hb.cell (p := ⟨g, 2, none⟩) hl).trans h.c2, (hb.cell (p := ⟨g, 3, none⟩) hl).trans h.c3, (hb.cell (p := ⟨g, 4, none⟩) hl).trans h.c4,
    (hb.frozen (p := ⟨g, 0, none⟩) hl).trans h.f0, (hb.frozen (p := ⟨g, 1, none⟩) hl).trans h.f1, (hb.frozen (p := ⟨g, 2, none⟩) hl).trans h.f2, (hb.frozen (p := ⟨g, 3, none⟩) hl).trans h.f3, (hb.frozen (p := ⟨g, 4, none⟩) hl).trans h.f4⟩
theorem B5.new (w : World) (ty : TypeId) (v0 v1 v2 v3 v4 : Value) : B5 (w.alloc (.cells #[v0, v1, v2, v3, v4] ty)) w.heap.size v0 v1 v2 v3 v4 :=
  ⟨by go_simp, by go_simp, by go_simp, by go_simp, by go_simp, by go_simp, by go_simp, by go_simp, by go_simp, by go_simp⟩
theorem DocIs.inj {v : Nat} {us us' : List Nat} {f f' : Int} (h : DocIs v us f) (k : DocIs v us' f') : us = us' ∧ f = f' := by
  rcases h with ⟨h1, h2, rfl⟩ | ⟨h1, rfl, rfl⟩ <;> rcases k with ⟨k1, k2, rfl⟩ | ⟨k1, rfl, rfl⟩
  · exact ⟨h2.inj B64_one k2, rfl⟩
  · omega
  · omega
  · exact ⟨rfl, rfl⟩
theorem DocIs.er {v : Nat} {us : List Nat} {f : Int} (h : DocIs v us f) : f = 0 ∨ f = 5 := by
  rcases h with ⟨_, _, rfl⟩ | ⟨_, _, rfl⟩ <;> simp
structure Op5 where
  k : Int
  pa : Option Addr
  na : Nat
  ca : Nat
  xa : List Nat
  pb : Option Addr
  nb : Nat
  cb : Nat
  xb : List Nat
  nn : Int
  wd : Nat
structure Scr (w : World) (P : Option Addr) (N C : Nat) (its : List Op5) : Prop where
  len : its.length = N
  cap : N ≤ C
  big : C ≤ maxLen
  ats : ∀ t ∈ its, At w t.pa t.na t.ca t.xa ∧ At w t.pb t.nb t.cb t.xb ∧ t.na ≤ 17592186044416 ∧ t.nb ≤ 17592186044416 ∧ t.wd < B64 ∧ -9223372036854775808 ≤ t.nn ∧ t.nn ≤ 9223372036854775807
  cells : N = 0 ∨ ∃ g off, P = some ⟨g, off, none⟩ ∧ ∀ i (h : i < its.length), w.cell? ⟨g, off + i * 5, none⟩ = some (.int .i64 its[i].k) ∧ w.cell? ⟨g, off + i * 5 + 1, none⟩ = some (.slice its[i].pa its[i].na its[i].ca) ∧
    w.cell? ⟨g, off + i * 5 + 2, none⟩ = some (.slice its[i].pb its[i].nb its[i].cb) ∧ w.cell? ⟨g, off + i * 5 + 3, none⟩ = some (.int .i64 its[i].nn) ∧ w.cell? ⟨g, off + i * 5 + 4, none⟩ = some (U its[i].wd)
theorem Scr.below {w w' : World} {P : Option Addr} {N C : Nat} {its : List Op5} (h : Scr w P N C its) (hb : Below w.heap.size w w') : Scr w' P N C its := by
  refine ⟨h.len, h.cap, h.big, fun t ht => ?_, ?_⟩
  · obtain ⟨h1, h2, h3⟩ := h.ats t ht
    exact ⟨h1.below hb, h2.below hb, h3⟩
  · rcases h.cells with h0 | ⟨g, off, hP, hc⟩
    · exact .inl h0
    · refine .inr ⟨g, off, hP, fun i hi => ?_⟩
      obtain ⟨h0, h1, h2, h3, h4⟩ := hc i hi
      have hl : g < w.heap.size := World.block_lt_of_cell? w _ h0
      exact ⟨(hb.cell (p := ⟨g, off + i * 5, none⟩) hl).trans h0, (hb.cell (p := ⟨g, off + i * 5 + 1, none⟩) hl).trans h1, (hb.cell (p := ⟨g, off + i * 5 + 2, none⟩) hl).trans h2,
        (hb.cell (p := ⟨g, off + i * 5 + 3, none⟩) hl).trans h3, (hb.cell (p := ⟨g, off + i * 5 + 4, none⟩) hl).trans h4⟩
def ShIs (r : Nat → Nat → Nat) (xs : List Nat) (t : Int) (us : List Nat) (f : Int) : Prop :=
  (t < 0 ∧ us = [] ∧ f = 1) ∨ (0 ≤ t ∧ formB xs = false ∧ us = [] ∧ f = 2) ∨ (0 ≤ t ∧ formB xs = true ∧ DocIs (r (valB B64 xs) t.toNat) us f)
theorem ShIs.inj {r : Nat → Nat → Nat} {xs : List Nat} {t : Int} {us us' : List Nat} {f f' : Int} (h : ShIs r xs t us f) (k : ShIs r xs t us' f') : us = us' ∧ f = f' := by
  rcases h with ⟨h1, rfl, rfl⟩ | ⟨h1, h2, rfl, rfl⟩ | ⟨h1, h2, h3⟩ <;> rcases k with ⟨k1, rfl, rfl⟩ | ⟨k1, k2, rfl, rfl⟩ | ⟨k1, k2, k3⟩
  · exact ⟨rfl, rfl⟩
  · omega
  · omega
  · omega
  · exact ⟨rfl, rfl⟩
  · rw [k2] at h2; simp at h2
  · omega
  · rw [k2] at h2; simp at h2
  · exact h3.inj k3
theorem ShIs.er {r : Nat → Nat → Nat} {xs us : List Nat} {t f : Int} (h : ShIs r xs t us f) : f = 0 ∨ f = 1 ∨ f = 2 ∨ f = 3 ∨ f = 4 ∨ f = 5 := by
  rcases h with ⟨_, _, rfl⟩ | ⟨_, _, _, rfl⟩ | ⟨_, _, ⟨_, _, rfl⟩ | ⟨_, _, rfl⟩⟩ <;> simp
theorem rsz (b : Nat) (w : World) : Calls Try.prog 28 #[U b] w fun e w' => e = .returned (U (b % 9223372036854775808)) ∧ w' = w := by
  go_enter Try.func28, Try.ntmps28
  go_wp2_with fail
  go_ret
  exact ⟨congrArg (fun z => Ending.returned (.int .u64 z)) (by omega), rfl⟩
end Go.Proofs.Ytpnpdngfjgdgfaa
namespace Go.Proofs.Ytpnpdngfjgdgfaa
open Go.RowKit
set_option maxRecDepth 20000
set_option maxHeartbeats 0
theorem FlR.add {x y r : Nat} (h : FlR .add x y r) (hx : Fin64 x) (hy : Fin64 y) (hm : (ux x + ux y).natAbs ≤ MaxU) : Sm64 (ux x + ux y) r := by
  obtain ⟨v, h1, h2⟩ := fl_add_fin hx hy hm
  rw [h.some v h1]; exact h2
theorem FlR.sub {x y r : Nat} (h : FlR .sub x y r) (hx : Fin64 x) (hy : Fin64 y) (hm : (ux x - ux y).natAbs ≤ MaxU) : Sm64 (ux x - ux y) r := by
  obtain ⟨v, h1, h2⟩ := fl_sub_fin hx hy hm
  rw [h.some v h1]; exact h2
theorem ux_abs (b : Nat) : (ux b).natAbs = vs 4503599627370496 (b % 9223372036854775808) := by
  rw [ux_eq]; split <;> omega
theorem vs_le4 {s t : Nat} (h : s ≤ t) : vs 4503599627370496 s ≤ vs 4503599627370496 t := by
  rcases Nat.lt_or_eq_of_le h with h1 | h1
  · exact Nat.le_of_lt (vs_mono (by omega) h1)
  · rw [h1]; exact Nat.le_refl _
theorem ux_pow {b K : Nat} (h : b % 9223372036854775808 ≤ (K + 1) * 4503599627370496) : (ux b).natAbs ≤ 2 ^ (52 + K) := by
  rw [ux_abs]
  refine Nat.le_trans (vs_le4 h) (Nat.le_of_eq ?_)
  have := vs_at K 4503599627370496 (.inr (Nat.le_refl _)) (by omega)
  rw [show (K + 1) * 4503599627370496 = K * 4503599627370496 + 4503599627370496 by omega, this, Nat.pow_add, show (2 : Nat) ^ 52 = 4503599627370496 by decide]
theorem Rn.bound {p : Nat} {x s : Int} {K : Nat} (h : Rn p x s) (hx : x.natAbs ≤ 2 ^ K) : s.natAbs ≤ 2 ^ K := by
  have h1 := h.hi (Fl.pow p K) (by omega)
  have h2 := h.neg.hi (Fl.pow p K) (by omega)
  omega
theorem Rn.near1 {x s : Int} {M : Nat} (h : Rn 53 x s) (hs : s.natAbs ≤ 4 * M) : (x - s).natAbs ≤ M := by
  have h1 := h.little (by omega)
  rw [show (2 : Nat) ^ 53 = 9007199254740992 by decide] at h1
  omega
theorem max_big {K M : Nat} (hK : K = 2044) (h : M = 2 ^ (52 + K)) : 3 * M ≤ MaxU ∧ 2 ^ (53 + K) = 2 * M := by
  have h1 : 2 ^ (52 + K) = 2251799813685248 * 2 ^ (K + 1) := by
    rw [show (2251799813685248 : Nat) = 2 ^ 51 by decide, ← Nat.pow_add]
    congr 1
    omega
  have h2 : 2 ^ (53 + K) = 2 * 2 ^ (52 + K) := by rw [show 53 + K = 52 + K + 1 by omega, p2succ]
  refine ⟨?_, by rw [h2, h]⟩
  rw [MaxU_eq (show K + 1 = 2045 by omega), h, h1]
  generalize 2 ^ (K + 1) = z
  omega
theorem pow1022 {a K : Nat} (hK : K = 2044) (h : a % 9223372036854775808 ≤ 9209861237972664320) : (ux a).natAbs ≤ 2 ^ (52 + K) := ux_pow (by omega)
theorem TSR.ok {a b s r : Nat} (h : TSR a b s r) (ha : a < 18446744073709551616) (hb : b < 18446744073709551616) (ka : a % 9223372036854775808 ≤ 9209861237972664320) (kb : b % 9223372036854775808 ≤ 9209861237972664320) :
    Sm64 (ux a + ux b) s ∧ Fin64 r ∧ ux s + ux r = ux a + ux b := by
  obtain ⟨ob, oa, da, db, F1, F2, F3, F4, F5, F6⟩ := h
  have fa : Fin64 a := ⟨ha, by omega⟩
  have fb : Fin64 b := ⟨hb, by omega⟩
  obtain ⟨K, hK⟩ : ∃ K, K = 2044 := ⟨_, rfl⟩
  have ma := pow1022 hK ka
  have mb := pow1022 hK kb
  obtain ⟨M, hM⟩ : ∃ M, M = 2 ^ (52 + K) := ⟨_, rfl⟩
  obtain ⟨m3, m2⟩ := max_big hK hM
  rw [← hM] at ma mb
  have S1 := F1.add fa fb (by omega)
  have bs := S1.rn.bound (K := 53 + K) (by rw [m2]; omega)
  rw [m2] at bs
  have e1 := S1.rn.near1 (M := M) (by omega)
  have S2 := F2.sub S1.fin fa (by omega)
  have bb := S2.rn.bound (K := 53 + K) (by rw [m2]; omega)
  rw [m2] at bb
  have e2 := S2.rn.near1 (M := M) (by omega)
  have S3 := F3.sub S1.fin S2.fin (by omega)
  have ba := S3.rn.bound (K := 53 + K) (by rw [m2]; omega)
  rw [m2] at ba
  have S4 := F4.sub fa S3.fin (by omega)
  have S5 := F5.sub fb S2.fin (by omega)
  have hd := two_sum_a (by omega) fa.fl fb.fl S1.rn S2.rn S3.rn S4.rn S5.rn
  have S6 := F6.add S4.fin S5.fin (by omega)
  exact ⟨S1, S6.fin, two_sum (by omega) fa.fl fb.fl S1.rn S2.rn S3.rn S4.rn S5.rn S6.rn⟩
theorem FSR.ok {a b s r : Nat} (h : FSR a b s r) (ha : a < 18446744073709551616) (hb : b < 18446744073709551616) (ka : a % 9223372036854775808 ≤ 9209861237972664320) (kb : b % 9223372036854775808 ≤ 9209861237972664320) (hab : a % 9223372036854775808 = 0 ∨ b % 9223372036854775808 ≤ a % 9223372036854775808) :
    Sm64 (ux a + ux b) s ∧ Fin64 r ∧ ux s + ux r = ux a + ux b := by
  obtain ⟨t, F1, F2, F3⟩ := h
  have fa : Fin64 a := ⟨ha, by omega⟩
  have fb : Fin64 b := ⟨hb, by omega⟩
  obtain ⟨K, hK⟩ : ∃ K, K = 2044 := ⟨_, rfl⟩
  have ma := pow1022 hK ka
  have mb := pow1022 hK kb
  have hab : ux a = 0 ∨ (ux b).natAbs ≤ (ux a).natAbs := by
    rcases hab with h | h
    · refine .inl ?_
      have := ux_abs a
      rw [h, vs_zero] at this
      omega
    · refine .inr ?_
      rw [ux_abs, ux_abs]; exact vs_le4 h
  obtain ⟨M, hM⟩ : ∃ M, M = 2 ^ (52 + K) := ⟨_, rfl⟩
  obtain ⟨m3, m2⟩ := max_big hK hM
  rw [← hM] at ma mb
  have S1 := F1.add fa fb (by omega)
  have bs := S1.rn.bound (K := 53 + K) (by rw [m2]; omega)
  rw [m2] at bs
  have e1 := S1.rn.near1 (M := M) (by omega)
  have S2 := F2.sub S1.fin fa (by omega)
  have bb := S2.rn.bound (K := 53 + K) (by rw [m2]; omega)
  rw [m2] at bb
  have S3 := F3.sub fb S2.fin (by omega)
  exact ⟨S1, S3.fin, fast_sum (by omega) fa.fl fb.fl hab S1.rn S2.rn S3.rn⟩
end Go.Proofs.Ytpnpdngfjgdgfaa
namespace Go.Proofs.Ytpnpdngfjgdgfaa
open Go.RowKit Go.Shelf
set_option maxRecDepth 20000
set_option maxHeartbeats 0
theorem ts_awake {s r : Nat} (h : TSR 4336966441157787648 4607182418800017408 s r) : s = 4607182418800017408 ∧ r = 4336966441157787648 := by
  obtain ⟨ob, oa, da, db, F1, F2, F3, F4, F5, F6⟩ := h
  obtain rfl : s = 4607182418800017408 := F1.some _ (by decide +kernel)
  obtain rfl : ob = 4607182418800017408 := F2.some _ (by decide +kernel)
  obtain rfl : oa = 0 := F3.some _ (by decide +kernel)
  obtain rfl : da = 4336966441157787648 := F4.some _ (by decide +kernel)
  obtain rfl : db = 0 := F5.some _ (by decide +kernel)
  obtain rfl : r = 4336966441157787648 := F6.some _ (by decide +kernel)
  exact ⟨rfl, rfl⟩
theorem fs_awake {s r : Nat} (h : FSR 4607182418800017408 4336966441157787648 s r) : s = 4607182418800017408 ∧ r = 4336966441157787648 := by
  obtain ⟨t, F1, F2, F3⟩ := h
  obtain rfl : s = 4607182418800017408 := F1.some _ (by decide +kernel)
  obtain rfl : t = 0 := F2.some _ (by decide +kernel)
  obtain rfl : r = 4336966441157787648 := F3.some _ (by decide +kernel)
  exact ⟨rfl, rfl⟩
theorem sp_awake {h l : Nat} (k : SPR 4607182418804211712 h l) : h = 4607182418800017408 ∧ l = 4472074429978902528 := by
  obtain ⟨c, d, F1, F2, F3, F4⟩ := k
  obtain rfl : c = 4728779608776769536 := F1.some _ (by decide +kernel)
  obtain rfl : d = 4728779608743215104 := F2.some _ (by decide +kernel)
  obtain rfl : h = 4607182418800017408 := F3.some _ (by decide +kernel)
  obtain rfl : l = 4472074429978902528 := F4.some _ (by decide +kernel)
  exact ⟨rfl, rfl⟩
theorem tp_awake {p e : Nat} (k : TPR 4607182418804211712 4607182418804211712 p e) : p = 4607182418808406016 ∧ e = 4336966441157787648 := by
  obtain ⟨ah, al, bh, bl, x1, e1, x2, e2, x3, e3, x4, F1, S1, S2, F2, F3, F4, F5, F6, F7, F8, F9⟩ := k
  obtain ⟨rfl, rfl⟩ := sp_awake S1
  obtain ⟨rfl, rfl⟩ := sp_awake S2
  obtain rfl : p = 4607182418808406016 := F1.some _ (by decide +kernel)
  obtain rfl : x1 = 4607182418800017408 := F2.some _ (by decide +kernel)
  obtain rfl : e1 = 13699950066461048832 := F3.some _ (by decide +kernel)
  obtain rfl : x2 = 4472074429978902528 := F4.some _ (by decide +kernel)
  obtain rfl : e2 = 13695446466833678336 := F5.some _ (by decide +kernel)
  obtain rfl : x3 = 4472074429978902528 := F6.some _ (by decide +kernel)
  obtain rfl : e3 = 0 := F7.some _ (by decide +kernel)
  obtain rfl : x4 = 4336966441157787648 := F8.some _ (by decide +kernel)
  obtain rfl : e = 4336966441157787648 := F9.some _ (by decide +kernel)
  exact ⟨rfl, rfl⟩
theorem awake19 (w : World) : Calls Try.prog 9 #[] w fun e w' => e = .returned (.bool true) ∧ ∃ n, w' = w.drewN n := by
  go_enter Try.func9, Try.ntmps9
  go_wp2_with fail
  refine (sumB 4336966441157787648 4607182418800017408 _).mono ?_
  rintro e w' ⟨s, r, n1, rfl, rfl, hR⟩
  obtain ⟨rfl, rfl⟩ := ts_awake hR
  clear hR
  go_wp2_with fail
  refine (fastB 4607182418800017408 4336966441157787648 _).mono ?_
  rintro e w' ⟨s, r, n2, rfl, rfl, hR⟩
  obtain ⟨rfl, rfl⟩ := fs_awake hR
  clear hR
  go_wp2_with fail
  refine (splitB 4607182418804211712 _).mono ?_
  rintro e w' ⟨s, r, n3, rfl, rfl, hR⟩
  obtain ⟨rfl, rfl⟩ := sp_awake hR
  clear hR
  go_wp2_with fail
  refine (prodB 4607182418804211712 4607182418804211712 _).mono ?_
  rintro e w' ⟨s, r, n4, rfl, rfl, hR⟩
  obtain ⟨rfl, rfl⟩ := tp_awake hR
  clear hR
  go_wp2_with fail
  go_ret
  exact ⟨rfl, _, rfl⟩
def Ag (x y : Nat) : Prop := x = y ∨ (NanP x ∧ NanP y ∧ x < 18446744073709551616 ∧ y < 18446744073709551616)
theorem Ag.rfl {x : Nat} : Ag x x := .inl (Eq.refl x)
theorem read_nan {x : Nat} (_hx : x < 18446744073709551616) (h : NanP x) : ∃ s t, Ieee.double.read x = .nan s t := by
  have e2 : Ieee.double.binade = 4503599627370496 := by decide
  have e3 : Ieee.double.infRung = 9218868437227405312 := by decide
  have e4 : Ieee.double.signWeight = 9223372036854775808 := by decide
  unfold NanP at h
  unfold Ieee.Format.read
  rw [e2, e3, e4]
  dsimp only
  rw [if_neg (by omega), if_neg (by omega), if_neg (by omega)]
  exact ⟨_, _, _root_.rfl⟩
theorem nan_left {op : BinOp} (hop : op = .add ∨ op = .sub ∨ op = .mul) {x y : Nat} (hx : x < 18446744073709551616) (h : NanP x) : floatBits op .f64 x y = none := by
  obtain ⟨s, t, e⟩ := read_nan hx h
  rcases hop with rfl | rfl | rfl
  · show ((Ieee.double.read x).sum (Ieee.double.read y)).map Ieee.double.write = none
    rw [e]; rfl
  · show ((Ieee.double.read x).sum (Ieee.double.read y).opposite).map Ieee.double.write = none
    rw [e]; rfl
  · show ((Ieee.double.read x).product (Ieee.double.read y)).map Ieee.double.write = none
    rw [e]; rfl
theorem nan_right {op : BinOp} (hop : op = .add ∨ op = .sub ∨ op = .mul) {x y : Nat} (hy : y < 18446744073709551616) (h : NanP y) : floatBits op .f64 x y = none := by
  obtain ⟨s, t, e⟩ := read_nan hy h
  rcases hop with rfl | rfl | rfl
  · show ((Ieee.double.read x).sum (Ieee.double.read y)).map Ieee.double.write = none
    rw [e]; cases Ieee.double.read x <;> rfl
  · show ((Ieee.double.read x).sum (Ieee.double.read y).opposite).map Ieee.double.write = none
    rw [e]; cases Ieee.double.read x <;> rfl
  · show ((Ieee.double.read x).product (Ieee.double.read y)).map Ieee.double.write = none
    rw [e]; cases Ieee.double.read x <;> rfl
theorem FlR.ag {op : BinOp} (hop : op = .add ∨ op = .sub ∨ op = .mul) {x y r x' y' r' : Nat} (h : FlR op x y r) (k : FlR op x' y' r') (hx : Ag x x') (hy : Ag y y') : Ag r r' := by
  rcases hx with rfl | ⟨a1, a2, a3, a4⟩
  · rcases hy with rfl | ⟨b1, b2, b3, b4⟩
    · cases hf : floatBits op .f64 x y with
      | some v => exact .inl ((h.some v hf).trans (k.some v hf).symm)
      | none => exact .inr ⟨h.none hf, k.none hf, h.lt, k.lt⟩
    · exact .inr ⟨h.none (nan_right hop b3 b1), k.none (nan_right hop b4 b2), h.lt, k.lt⟩
  · exact .inr ⟨h.none (nan_left hop a3 a1), k.none (nan_left hop a4 a2), h.lt, k.lt⟩
theorem TSR.ag {a b s e s' e' : Nat} (h : TSR a b s e) (k : TSR a b s' e') : Ag s s' ∧ Ag e e' := by
  obtain ⟨ob, oa, da, db, F1, F2, F3, F4, F5, F6⟩ := h
  obtain ⟨ob', oa', da', db', G1, G2, G3, G4, G5, G6⟩ := k
  have A1 := F1.ag (.inl rfl) G1 .rfl .rfl
  have A2 := F2.ag (.inr (.inl rfl)) G2 A1 .rfl
  have A3 := F3.ag (.inr (.inl rfl)) G3 A1 A2
  have A4 := F4.ag (.inr (.inl rfl)) G4 .rfl A3
  have A5 := F5.ag (.inr (.inl rfl)) G5 .rfl A2
  exact ⟨A1, F6.ag (.inl rfl) G6 A4 A5⟩
theorem FSR.ag {a b s e s' e' : Nat} (h : FSR a b s e) (k : FSR a b s' e') : Ag s s' ∧ Ag e e' := by
  obtain ⟨t, F1, F2, F3⟩ := h
  obtain ⟨t', G1, G2, G3⟩ := k
  have A1 := F1.ag (.inl rfl) G1 .rfl .rfl
  have A2 := F2.ag (.inr (.inl rfl)) G2 A1 .rfl
  exact ⟨A1, F3.ag (.inr (.inl rfl)) G3 .rfl A2⟩
theorem SPR.ag {a h l h' l' : Nat} (k : SPR a h l) (k' : SPR a h' l') : Ag h h' ∧ Ag l l' := by
  obtain ⟨c, d, F1, F2, F3, F4⟩ := k
  obtain ⟨c', d', G1, G2, G3, G4⟩ := k'
  have A1 := F1.ag (.inr (.inr rfl)) G1 .rfl .rfl
  have A2 := F2.ag (.inr (.inl rfl)) G2 A1 .rfl
  have A3 := F3.ag (.inr (.inl rfl)) G3 A1 A2
  exact ⟨A3, F4.ag (.inr (.inl rfl)) G4 .rfl A3⟩
theorem TPR.ag {a b p e p' e' : Nat} (k : TPR a b p e) (k' : TPR a b p' e') : Ag p p' ∧ Ag e e' := by
  obtain ⟨ah, al, bh, bl, x1, e1, x2, e2, x3, e3, x4, F1, S1, S2, F2, F3, F4, F5, F6, F7, F8, F9⟩ := k
  obtain ⟨ah', al', bh', bl', x1', e1', x2', e2', x3', e3', x4', G1, T1, T2, G2, G3, G4, G5, G6, G7, G8, G9⟩ := k'
  obtain ⟨B1, B2⟩ := S1.ag T1
  obtain ⟨B3, B4⟩ := S2.ag T2
  have A1 := F1.ag (.inr (.inr rfl)) G1 .rfl .rfl
  have A2 := F2.ag (.inr (.inr rfl)) G2 B1 B3
  have A3 := F3.ag (.inr (.inl rfl)) G3 A2 A1
  have A4 := F4.ag (.inr (.inr rfl)) G4 B1 B4
  have A5 := F5.ag (.inl rfl) G5 A3 A4
  have A6 := F6.ag (.inr (.inr rfl)) G6 B2 B3
  have A7 := F7.ag (.inl rfl) G7 A5 A6
  have A8 := F8.ag (.inr (.inr rfl)) G8 B2 B4
  exact ⟨A1, F9.ag (.inl rfl) G9 A7 A8⟩
structure R8 (a b : Nat) (v : List Nat) : Prop where
  ex : ∃ s e p g h l t f, v = [s, e, p, g, h, l, t, f] ∧ TSR a b s e ∧ TPR a b p g ∧ SPR a h l ∧ FSR a b t f
theorem R8.len {a b : Nat} {v : List Nat} (h : R8 a b v) : v.length = 8 := by
  obtain ⟨s, e, p, g, h, l, t, f, rfl, _⟩ := h.ex; rfl
theorem R8.ag {a b : Nat} {v : List Nat} {s e p g h l t f : Nat} (k : R8 a b v) (h1 : TSR a b s e) (h2 : TPR a b p g) (h3 : SPR a h l) (h4 : FSR a b t f) : ∀ j, j < 8 → Ag (v.getD j 0) ([s, e, p, g, h, l, t, f].getD j 0) := by
  obtain ⟨s', e', p', g', h', l', t', f', rfl, k1, k2, k3, k4⟩ := k.ex
  intro j hj
  have a1 := k1.ag h1
  have a2 := k2.ag h2
  have a3 := k3.ag h3
  have a4 := k4.ag h4
  match j, hj with
  | 0, _ => exact a1.1
  | 1, _ => exact a1.2
  | 2, _ => exact a2.1
  | 3, _ => exact a2.2
  | 4, _ => exact a3.1
  | 5, _ => exact a3.2
  | 6, _ => exact a4.1
  | 7, _ => exact a4.2
theorem ragain (a b : Nat) (h : Ag a b) (w : World) : Calls Try.prog 14 #[U a, U b] w fun e w' => e = .returned (.bool true) ∧ w' = w := by
  have HA : Hid (Ag a b) := h
  clear h
  go_enter Try.func14, Try.ntmps14
  by_cases h1 : a = b
  · have c1 : ((a : Int) == (b : Int)) = true := by simp [h1]
    go_wp2_with fail
    go_ret
    exact ⟨_root_.rfl, _root_.rfl⟩
  · have c1 : ((a : Int) == (b : Int)) = false := by simp; omega
    have c2 : ¬ ((a : Int) = (b : Int)) := by omega
    have hN := HA.out.resolve_left h1
    obtain ⟨sa, hsa⟩ : ∃ z, z = a % 9223372036854775808 := ⟨_, _root_.rfl⟩
    obtain ⟨sb, hsb⟩ : ∃ z, z = b % 9223372036854775808 := ⟨_, _root_.rfl⟩
    have d1 : decide ((9218868437227405312 : Int) < (sa : Int)) = true := decide_eq_true (by have := hN.1; unfold NanP at this; omega)
    have d2 : decide ((9218868437227405312 : Int) < (sb : Int)) = true := decide_eq_true (by have := hN.2.1; unfold NanP at this; omega)
    have d3 : decide (9218868437227405312 < sa) = true := decide_eq_true (by have := hN.1; unfold NanP at this; omega)
    have d4 : decide (9218868437227405312 < sb) = true := decide_eq_true (by have := hN.2.1; unfold NanP at this; omega)
    have HS : Hid (sa = a % 9223372036854775808 ∧ sb = b % 9223372036854775808) := ⟨hsa, hsb⟩
    clear h1 hN hsa hsb HA
    go_wp2_with fail
    refine (rsz a _).mono ?_
    rintro e w' ⟨rfl, rfl⟩
    rw [← HS.out.1]
    go_wp2_with fail
    refine (rsz b _).mono ?_
    rintro e w' ⟨rfl, rfl⟩
    rw [← HS.out.2]
    go_wp2_with fail
    go_ret
    exact ⟨_root_.rfl, _root_.rfl⟩
end Go.Proofs.Ytpnpdngfjgdgfaa
namespace Go.Proofs.Ytpnpdngfjgdgfaa
open Go.RowKit
set_option maxRecDepth 20000
set_option maxHeartbeats 0
structure OwR (w : World) (hB : Nat) (lv : Value) (k : Nat) (es : List Nat) : Prop where
  row : w.ownsRow hB 24 1 lv k (cellsU es)
theorem OwR.below {w w' : World} {hB k : Nat} {lv : Value} {es : List Nat} (h : OwR w hB lv k es) (hb : Below w.heap.size w w') : OwR w' hB lv k es := by
  refine ⟨⟨h.row.1, ?_⟩⟩
  rcases h.row.2 with h2 | ⟨g, cap, cur, h2, h3, h4, h5⟩
  · exact .inl h2
  · have hg : g < w.heap.size := by
      rcases Nat.lt_or_ge g w.heap.size with h6 | h6
      · exact h6
      · rw [Array.getElem?_eq_none h6] at h4; cases h4
    exact .inr ⟨g, cap, cur, h2, h3, (hb.block _ hg).trans h4, h5⟩
theorem OwR.cells {w : World} {hB k : Nat} {lv : Value} {es : List Nat} (h : OwR w hB lv k es) : ∃ p cap, lv = .slice p k cap ∧ ∀ j, j < k → ∃ g, p = some ⟨g, 0, none⟩ ∧ w.cell? ⟨g, j, none⟩ = some (U (es.getD j 0)) := by
  rcases h.row.2 with ⟨h1, h2⟩ | ⟨g, cap, cur, h1, h2, h3, h4⟩
  · exact ⟨none, 0, by rw [h1, h2], fun j hj => by omega⟩
  · refine ⟨_, cap, h1, fun j hj => ⟨g, rfl, ?_⟩⟩
    have h5 := h.row
    rw [h1] at h5
    rw [h5.cellAt j (by omega)]
    have hl : es.length = k := by have := h.row.1; unfold cellsU at this; rw [List.length_map] at this; omega
    unfold cellsU
    rw [List.getElem?_map, List.getElem?_eq_getElem (by omega), List.getD_eq_getElem?_getD, List.getElem?_eq_getElem (by omega)]
    rfl
theorem OwR.cap {w : World} {hB k c : Nat} {p : Option Addr} {es : List Nat} (h : OwR w hB (.slice p k c) k es) : k ≤ c := by
  rcases h.row.2 with ⟨h1, h2⟩ | ⟨g, cap, cur, h1, h2, h3, h4, _⟩
  · simp only [Value.slice.injEq] at h1; omega
  · simp only [Value.slice.injEq] at h1; omega
theorem OwR.lt {w : World} {hB k : Nat} {lv : Value} {es : List Nat} (h : OwR w hB lv k es) : ∀ b, lv.ownBlock = some b → hB ≤ b ∧ b < w.heap.size := h.row.lt
theorem cells8 (w : World) (ty : TypeId) (a b c d e f g h : Value) : ∀ j u, [a, b, c, d, e, f, g, h][j]? = some u → (w.alloc (.cells #[a, b, c, d, e, f, g, h] ty)).cell? ((⟨w.heap.size, 0, none⟩ : Addr).add j) = some u := by
  intro j u hj
  match j, hj with
  | 0, hj => simp at hj; subst hj; show World.cell? _ ⟨w.heap.size, 0, none⟩ = _; go_simp
  | 1, hj => simp at hj; subst hj; show World.cell? _ ⟨w.heap.size, 1, none⟩ = _; go_simp
  | 2, hj => simp at hj; subst hj; show World.cell? _ ⟨w.heap.size, 2, none⟩ = _; go_simp
  | 3, hj => simp at hj; subst hj; show World.cell? _ ⟨w.heap.size, 3, none⟩ = _; go_simp
  | 4, hj => simp at hj; subst hj; show World.cell? _ ⟨w.heap.size, 4, none⟩ = _; go_simp
  | 5, hj => simp at hj; subst hj; show World.cell? _ ⟨w.heap.size, 5, none⟩ = _; go_simp
  | 6, hj => simp at hj; subst hj; show World.cell? _ ⟨w.heap.size, 6, none⟩ = _; go_simp
  | 7, hj => simp at hj; subst hj; show World.cell? _ ⟨w.heap.size, 7, none⟩ = _; go_simp
  | k + 8, hj => simp at hj
end Go.Proofs.Ytpnpdngfjgdgfaa
namespace Go.Proofs.Ytpnpdngfjgdgfaa
open Go.RowKit Go.Shelf
set_option maxRecDepth 20000
set_option maxHeartbeats 0
structure All8 (n : Nat) (xs : List Nat) (q : Nat) (vs : List Nat) : Prop where
  len : vs.length = 8 * q
  at_ : ∀ t, t < q → R8 (xs.getD t 0) (xs.getD ((t + 1) % n) 0) ((vs.drop (8 * t)).take 8)
theorem All8.snoc {n q : Nat} {xs vs u : List Nat} (h : All8 n xs q vs) (k : R8 (xs.getD q 0) (xs.getD ((q + 1) % n) 0) u) : All8 n xs (q + 1) (vs ++ u) := by
  have hl := k.len
  refine ⟨by rw [List.length_append, h.len, hl]; omega, fun t ht => ?_⟩
  rcases Nat.lt_or_ge t q with h1 | h1
  · rw [List.drop_append_of_le_length (by rw [h.len]; omega), List.take_append_of_le_length (by rw [List.length_drop, h.len]; omega)]
    exact h.at_ t h1
  · obtain rfl : t = q := by omega
    rw [← h.len, List.drop_left, List.take_of_length_le (by omega)]
    exact k
theorem All8.get {n q t j : Nat} {xs vs : List Nat} (_h : All8 n xs q vs) (_ht : t < q) (hj : j < 8) : ((vs.drop (8 * t)).take 8).getD j 0 = vs.getD (8 * t + j) 0 := by
  rw [List.getD_eq_getElem?_getD, List.getD_eq_getElem?_getD, List.getElem?_take_of_lt hj, List.getElem?_drop]
theorem wr_succ {i : Nat} (h : i ≤ 2097152) : wrap64 ((i : Int) + 1) = (i : Int) + 1 := by simp only [wrap64]; omega
theorem wi_succ {i : Nat} (h : i ≤ 2097152) : IntKind.i64.wrap ((i : Int) + 1) = (i : Int) + 1 := by rw [IntKind.wrap_i64]; omega
theorem wi_id {i : Nat} (h : i ≤ 2097152) : IntKind.i64.wrap (i : Int) = (i : Int) := by rw [IntKind.wrap_i64]; omega
theorem cells8n (w : World) (ty : TypeId) (x1 x2 x3 x4 x5 x6 x7 x8 : Nat) : ∀ j, j < 8 → (w.alloc (.cells #[U x1, U x2, U x3, U x4, U x5, U x6, U x7, U x8] ty)).cell? ⟨w.heap.size, j, none⟩ = some (U ([x1, x2, x3, x4, x5, x6, x7, x8].getD j 0)) := by
  intro j hj
  match j, hj with
  | 0, _ => exact cells8 w ty (U x1) (U x2) (U x3) (U x4) (U x5) (U x6) (U x7) (U x8) 0 _ rfl
  | 1, _ => exact cells8 w ty (U x1) (U x2) (U x3) (U x4) (U x5) (U x6) (U x7) (U x8) 1 _ rfl
  | 2, _ => exact cells8 w ty (U x1) (U x2) (U x3) (U x4) (U x5) (U x6) (U x7) (U x8) 2 _ rfl
  | 3, _ => exact cells8 w ty (U x1) (U x2) (U x3) (U x4) (U x5) (U x6) (U x7) (U x8) 3 _ rfl
  | 4, _ => exact cells8 w ty (U x1) (U x2) (U x3) (U x4) (U x5) (U x6) (U x7) (U x8) 4 _ rfl
  | 5, _ => exact cells8 w ty (U x1) (U x2) (U x3) (U x4) (U x5) (U x6) (U x7) (U x8) 5 _ rfl
  | 6, _ => exact cells8 w ty (U x1) (U x2) (U x3) (U x4) (U x5) (U x6) (U x7) (U x8) 6 _ rfl
  | 7, _ => exact cells8 w ty (U x1) (U x2) (U x3) (U x4) (U x5) (U x6) (U x7) (U x8) 7 _ rfl
structure Kp (w : World) (gK gn k : Nat) (vs ys : List Nat) : Prop where
  kept : ∀ j, j < k → w.cell? ⟨gK, j, none⟩ = some (U (vs.getD j 0))
  now : ∀ j, j < 8 → w.cell? ⟨gn, j, none⟩ = some (U (ys.getD j 0))
theorem Kp.below {w w' : World} {gK gn k : Nat} {vs ys : List Nat} (h : Kp w gK gn k vs ys) (hb : Below w.heap.size w w') : Kp w' gK gn k vs ys :=
  ⟨fun j hj => (hb.cell (p := ⟨gK, j, none⟩) (World.block_lt_of_cell? w _ (h.kept j hj))).trans (h.kept j hj), fun j hj => (hb.cell (p := ⟨gn, j, none⟩) (World.block_lt_of_cell? w _ (h.now j hj))).trans (h.now j hj)⟩
theorem wr_sub {i q t : Nat} (h : i = q + t) (hq : i ≤ 2097152) : wrap64 ((i : Int) - (q : Int)) = (t : Int) := by simp only [wrap64]; omega
theorem wi_sub {i q t : Nat} (h : i = q + t) (hq : i ≤ 2097152) : IntKind.i64.wrap ((i : Int) - (q : Int)) = (t : Int) := by rw [IntKind.wrap_i64]; omega
theorem wr_mul {t m : Nat} (h : m = 8 * t) (hq : t ≤ 2097152) : wrap64 (8 * (t : Int)) = (m : Int) := by simp only [wrap64]; omega
theorem wi_mul {t m : Nat} (h : m = 8 * t) (hq : t ≤ 2097152) : IntKind.i64.wrap (8 * (t : Int)) = (m : Int) := by rw [IntKind.wrap_i64]; omega
theorem wr_add {m j r : Nat} (h : r = m + j) (hq : r ≤ 20971520) : wrap64 ((m : Int) + (j : Int)) = (r : Int) := by simp only [wrap64]; omega
theorem wi_add {m j r : Nat} (h : r = m + j) (hq : r ≤ 20971520) : IntKind.i64.wrap ((m : Int) + (j : Int)) = (r : Int) := by rw [IntKind.wrap_i64]; omega
theorem eftAgain_w {p : Option Addr} {n c : Nat} {xs : List Nat} {w : World} (h : At w p n c xs) (hn : n ≤ 1048576) :
    Calls Try.prog 3 #[.slice p n c] w fun en w' => en = .returned (.bool true) ∧ Below w.heap.size w w' := by
  have H : Hid (At w p n c xs ∧ n ≤ 1048576) := ⟨h, hn⟩
  have hbw : Below w.heap.size w w := Below.refl _ _
  have cap := h.cap; have big := h.big
  unfold maxLen at big
  obtain ⟨n2, hn2⟩ : ∃ n2, n2 = 2 * n := ⟨_, rfl⟩
  have w1 : wrap64 (2 * (n : Int)) = (n2 : Int) := by rw [hn2]; simp only [wrap64]; omega
  have w2 : IntKind.i64.wrap (2 * (n : Int)) = (n2 : Int) := by rw [hn2]; simp [IntKind.wrap, IntKind.signed, IntKind.bits]; omega
  have HN : Hid (n2 = 2 * n ∧ n ≤ 1048576) := ⟨hn2, hn⟩
  clear h hn hn2
  go_enter Try.func3, Try.ntmps3
  go_wp2_with fail
  refine (awake19 _).mono ?_
  rintro e w' ⟨rfl, n1, rfl⟩
  have hbr := bDrewN (Below.refl w.heap.size w) n1
  generalize w.drewN n1 = V0 at *
  replace hbw := Below.on hbw hbr
  clear hbr
  go_wp2_with fail
  obtain ⟨hB, hhB⟩ : ∃ hB, hB = V0.heap.size := ⟨_, rfl⟩
  have HHB : Hid (w.heap.size ≤ hB) := by rw [hhB]; exact hbw.size
  obtain ⟨i0, hi, hz0, hz1, hz2⟩ := info_parts Try.infoU64
  go_loopg [3, 4] n2 (fun gk lv iv wr => ∃ (i q : Nat) (vs : List Nat), i + gk = n2 ∧ iv = .int .i64 i ∧ q = min i n ∧ OwR wr hB lv (8 * q) vs ∧ All8 n xs q vs ∧ hB ≤ wr.heap.size ∧ Below w.heap.size w wr)
  case atStart => exact ⟨0, 0, [], by omega, rfl, by omega, ⟨World.ownsRow_nil _ _ _ _⟩, ⟨rfl, fun t ht => by omega⟩, by omega, hbw⟩
  case round =>
    clear hbw hhB
    obtain ⟨i, q, vs, hig, rfl, hq, hown, hall, hhb, hbw⟩ := hrel
    have OW : Hid (OwR wr hB u3 (8 * q) vs) := hown
    have HQ : Hid (q = min i n ∧ All8 n xs q vs) := ⟨hq, hall⟩
    have HO : Hid (hB ≤ wr.heap.size) := hhb
    have HOL : Hid (∀ b, u3.ownBlock = some b → hB ≤ b ∧ b < wr.heap.size) := hown.lt
    clear hq hown hall hhb
    cases gk with
    | zero =>
      obtain rfl : i = n2 := by omega
      have hnk : ¬ (i : Int) < (i : Int) := by omega
      go_wp2_with fail
      go_ret
      exact ⟨rfl, hbw⟩
    | succ gg =>
      have hi2 : i < n2 := by omega
      have hn0 : n ≠ 0 := by have := HN.out.1; omega
      obtain ⟨gp, off, rfl, hc⟩ := H.out.1.cells.resolve_left hn0
      obtain ⟨ia, hia⟩ : ∃ z, z = i % n := ⟨_, rfl⟩
      obtain ⟨ib, hib⟩ : ∃ z, z = (i + 1) % n := ⟨_, rfl⟩
      have la : ia < n := by rw [hia]; exact Nat.mod_lt _ (by omega)
      have lb : ib < n := by rw [hib]; exact Nat.mod_lt _ (by omega)
      obtain ⟨a, ha⟩ : ∃ a, a = xs.getD ia 0 := ⟨_, rfl⟩
      obtain ⟨b, hb⟩ : ∃ b, b = xs.getD ib 0 := ⟨_, rfl⟩
      have hca0 : w.cell? ⟨gp, off + ia, none⟩ = some (U a) := by rw [ha]; exact hc ia la
      have hcb0 : w.cell? ⟨gp, off + ib, none⟩ = some (U b) := by rw [hb]; exact hc ib lb
      have hca : wr.cell? ⟨gp, off + ia, none⟩ = some (U a) := (hbw.cell (p := ⟨gp, off + ia, none⟩) (World.block_lt_of_cell? w _ hca0)).trans hca0
      have hcb : wr.cell? ⟨gp, off + ib, none⟩ = some (U b) := (hbw.cell (p := ⟨gp, off + ib, none⟩) (World.block_lt_of_cell? w _ hcb0)).trans hcb0
      have m1 : (i : Int).tmod (n : Int) = (ia : Int) := by rw [hia, Int.tmod_eq_emod_of_nonneg (by omega)]; exact (Int.natCast_emod i n).symm
      have m2 : ((i : Int) + 1).tmod (n : Int) = (ib : Int) := by rw [hib, Int.tmod_eq_emod_of_nonneg (by omega)]; exact (Int.natCast_emod (i + 1) n).symm
      have hs : i ≤ 2097152 ∧ ia ≤ 2097152 ∧ ib ≤ 2097152 := by have h1 := HN.out.1; have h2 := HN.out.2; clear w1 w2; omega
      have w3 := wr_succ (i := i) hs.1
      have w4 := wi_succ (i := i) hs.1
      have w5 := wi_id (i := ia) hs.2.1
      have w6 := wi_id (i := ib) hs.2.2
      clear hs
      have HI : Hid (ia = i % n ∧ ib = (i + 1) % n ∧ a = xs.getD ia 0 ∧ b = xs.getD ib 0 ∧ i < n2) := ⟨hia, hib, ha, hb, hi2⟩
      have hi3 : (i : Int) < (n2 : Int) := by omega
      have hn3 : ¬ (n : Int) = 0 := by omega
      have la3 : (ia : Int) < (n : Int) := by omega
      have lb3 : (ib : Int) < (n : Int) := by omega
      clear hc hia hib ha hb hca0 hcb0 hi2
      go_wp2_with fail
      clear w1 w2
      obtain ⟨W1, hW1⟩ : ∃ W1, W1 = wr.drew := ⟨_, rfl⟩
      have hbd : Below wr.heap.size wr W1 := by rw [hW1]; exact bDrew1 (Below.refl _ _)
      have HJ : Hid ((fun W' : World => W'.cell? ⟨gp, off + ia, none⟩ = some (U a) ∧ W'.cell? ⟨gp, off + ib, none⟩ = some (U b)) W1) := ⟨(hbd.cell (p := ⟨gp, off + ia, none⟩) (World.block_lt_of_cell? wr _ hca)).trans hca, (hbd.cell (p := ⟨gp, off + ib, none⟩) (World.block_lt_of_cell? wr _ hcb)).trans hcb⟩
      have HO1 : Hid (hB ≤ W1.heap.size) := Nat.le_trans HO.out hbd.size
      have HOL1 : Hid (∀ b, u3.ownBlock = some b → hB ≤ b ∧ b < W1.heap.size) := fun b hb => ⟨(HOL.out b hb).1, Nat.lt_of_lt_of_le (HOL.out b hb).2 hbd.size⟩
      clear HO HOL hca hcb
      replace OW : Hid (OwR W1 hB u3 (8 * q) vs) := OW.out.below hbd
      replace hbw := Below.on hbw hbd
      clear hbd
      refine wp_region_J (fun W' => W'.cell? ⟨gp, off + ia, none⟩ = some (U a) ∧ W'.cell? ⟨gp, off + ib, none⟩ = some (U b)) (by kernel_rfl) ?_
      rw [← hW1]
      clear hW1
      refine wpJ_tq 0 rfl HJ.out ?_
      refine wpJ_tq 1 rfl HJ.out ?_
      refine wpJ_tq 2 rfl HJ.out ?_
      refine wpJ_tq 3 rfl HJ.out ?_
      refine wpJ_tq 4 rfl HJ.out ?_
      go_simp
      refine wpJ_tq 5 rfl HJ.out ?_
      refine wpJ_tq 6 rfl HJ.out ?_
      refine wpJ_tq 7 rfl HJ.out ?_
      refine wpJ_tq 8 rfl HJ.out ?_
      refine wpJ_tq 9 rfl HJ.out ?_
      go_simp
      refine wpJ_tq 10 rfl HJ.out ?_
      refine wpJ_tq 11 rfl HJ.out ?_
      refine wpJ_tq 12 rfl HJ.out ?_
      refine wpJ_tq 13 rfl HJ.out ?_
      refine wpJ_tq 14 rfl HJ.out ?_
      go_simp
      refine wpJ_tq 15 rfl HJ.out ?_
      refine wpJ_tq 16 rfl HJ.out ?_
      refine wpJ_done (by kernel_rfl) ?_ _
      clear HJ
      clear m1 m2 w3 w4 w5 w6
      go_wp2_with fail
      refine (sumB a b _).mono ?_
      rintro e9 w9 ⟨x1, x2, n5, rfl, rfl, R9⟩
      have HR5 : Hid (TSR a b x1 x2) := R9
      have HO5 : Hid (hB ≤ (W1.drewN n5).heap.size ∧ W1.heap.size ≤ (W1.drewN n5).heap.size) := ⟨HO1.out, Nat.le_refl _⟩
      clear R9
      have hbr := bDrewN (Below.refl W1.heap.size W1) n5
      generalize W1.drewN n5 = W5 at *
      replace OW : Hid (OwR W5 hB u3 (8 * q) vs) := OW.out.below hbr
      replace hbw := Below.on hbw hbr
      clear hbr
      go_wp2_with fail
      refine (prodB a b _).mono ?_
      rintro e9 w9 ⟨x3, x4, n6, rfl, rfl, R9⟩
      have HR6 : Hid (TPR a b x3 x4) := R9
      have HO6 : Hid (hB ≤ (W5.drewN n6).heap.size ∧ W1.heap.size ≤ (W5.drewN n6).heap.size) := HO5.out
      clear R9
      have hbr := bDrewN (Below.refl W5.heap.size W5) n6
      generalize W5.drewN n6 = W6 at *
      replace OW : Hid (OwR W6 hB u3 (8 * q) vs) := OW.out.below hbr
      replace hbw := Below.on hbw hbr
      clear hbr
      go_wp2_with fail
      refine (splitB a _).mono ?_
      rintro e9 w9 ⟨x5, x6, n7, rfl, rfl, R9⟩
      have HR7 : Hid (SPR a x5 x6) := R9
      have HO7 : Hid (hB ≤ (W6.drewN n7).heap.size ∧ W1.heap.size ≤ (W6.drewN n7).heap.size) := HO6.out
      clear R9
      have hbr := bDrewN (Below.refl W6.heap.size W6) n7
      generalize W6.drewN n7 = W7 at *
      replace OW : Hid (OwR W7 hB u3 (8 * q) vs) := OW.out.below hbr
      replace hbw := Below.on hbw hbr
      clear hbr
      go_wp2_with fail
      refine (fastB a b _).mono ?_
      rintro e9 w9 ⟨x7, x8, n8, rfl, rfl, R9⟩
      have HR8 : Hid (FSR a b x7 x8) := R9
      have HO8 : Hid (hB ≤ (W7.drewN n8).heap.size ∧ W1.heap.size ≤ (W7.drewN n8).heap.size) := HO7.out
      clear R9
      have hbr := bDrewN (Below.refl W7.heap.size W7) n8
      generalize W7.drewN n8 = W8 at *
      replace OW : Hid (OwR W8 hB u3 (8 * q) vs) := OW.out.below hbr
      replace hbw := Below.on hbw hbr
      clear hbr
      have hqn := HQ.out.1
      have hq8 : q ≤ 1048576 := by have := HN.out.2; omega
      by_cases hin : i < n
      · have hin3 : (i : Int) < (n : Int) := by omega
        have hqi : q = i := by omega
        clear hqn
        subst hqi
        have hb9 : Below W8.heap.size W8 (W8.alloc (.cells #[U x1, U x2, U x3, U x4, U x5, U x6, U x7, U x8] 24)) := below1 W8 _
        have OWA : Hid ((W8.alloc (.cells #[U x1, U x2, U x3, U x4, U x5, U x6, U x7, U x8] 24)).ownsRow hB 24 1 u3 (8 * q) (cellsU vs)) := OW.out.row.alloc _
        have hbwa := Below.on hbw hb9
        have HSZ : Hid (hB ≤ (W8.alloc (.cells #[U x1, U x2, U x3, U x4, U x5, U x6, U x7, U x8] 24)).heap.size ∧ (W8.alloc (.cells #[U x1, U x2, U x3, U x4, U x5, U x6, U x7, U x8] 24)).heap.size = W8.heap.size + 1) := ⟨by have := HO8.out; simp; omega, by simp⟩
        go_wp2_with (at_builtin; refine wpList_append_own_at _ rfl _ _ 22 rfl hB 24 i0 (.int .u64 0) 1 8 Try.underlying22 hi hz0 hz1 hz2 rfl (by decide) _ _ _ rfl OWA.out ⟨W8.heap.size, 0, none⟩ 8 8 [U x1, U x2, U x3, U x4, U x5, U x6, U x7, U x8] rfl rfl (cells8 _ _ _ _ _ _ _ _ _ _) (by intro u hu; simp only [List.mem_cons, List.not_mem_nil, or_false] at hu; rcases hu with rfl | rfl | rfl | rfl | rfl | rfl | rfl | rfl <;> rfl) (by unfold maxLen; omega) (by omega) HSZ.out.1 ?_; intro v6 w6 hown6 hgr6 hnil6 hat6)
        go_roundg gg
        case measure => omega
        case rel =>
          refine ⟨q + 1, q + 1, vs ++ [x1, x2, x3, x4, x5, x6, x7, x8], by omega, by go_num, by omega, ⟨?_⟩, HQ.out.2.snoc ?_, Nat.le_trans HSZ.out.1 hgr6.size, hbwa.grown hgr6 hbwa.size fun b hb => Nat.le_trans HHB.out (HOL1.out b hb).1⟩
          · have e0 : cellsU (vs ++ [x1, x2, x3, x4, x5, x6, x7, x8]) = cellsU vs ++ [U x1, U x2, U x3, U x4, U x5, U x6, U x7, U x8] := by unfold cellsU; rw [List.map_append]; rfl
            rw [e0]; exact hown6
          · have e1 : ia = q := HI.out.1.trans (Nat.mod_eq_of_lt hin)
            have e2 : xs.getD q 0 = a := by rw [← e1]; exact HI.out.2.2.1.symm
            have e3 : xs.getD ((q + 1) % n) 0 = b := by rw [← HI.out.2.1]; exact HI.out.2.2.2.1.symm
            rw [e2, e3]
            exact ⟨_, _, _, _, _, _, _, _, rfl, HR5.out, HR6.out, HR7.out, HR8.out⟩
      · have hin3 : ¬ (i : Int) < (n : Int) := by omega
        have hqi : q = n := by omega
        clear hqn
        subst hqi
        go_wp2_with fail
        have hb9 : Below W8.heap.size W8 (W8.alloc (.cells #[U x1, U x2, U x3, U x4, U x5, U x6, U x7, U x8] 24)) := below1 W8 _
        have NC0 := cells8n W8 24 x1 x2 x3 x4 x5 x6 x7 x8
        have HO9 : Hid (hB ≤ (W8.alloc (.cells #[U x1, U x2, U x3, U x4, U x5, U x6, U x7, U x8] 24)).heap.size) := Nat.le_trans HO8.out.1 hb9.size
        obtain ⟨W9, hW9⟩ : ∃ W9, W9 = (W8.alloc (.cells #[U x1, U x2, U x3, U x4, U x5, U x6, U x7, U x8] 24)) := ⟨_, rfl⟩
        obtain ⟨gn, hgn⟩ : ∃ gn, gn = W8.heap.size := ⟨_, rfl⟩
        rw [← hW9] at hb9 NC0 HO9
        rw [← hgn] at NC0
        rw [← hW9, ← hgn]
        clear hW9 hgn
        replace OW : Hid (OwR W9 hB u3 (8 * q) vs) := OW.out.below hb9
        replace hbw := Below.on hbw hb9
        clear hb9
        obtain ⟨ys, hys⟩ : ∃ ys, ys = [x1, x2, x3, x4, x5, x6, x7, x8] := ⟨_, rfl⟩
        rw [← hys] at NC0
        obtain ⟨t, hit⟩ : ∃ t, i = q + t := ⟨i - q, by omega⟩
        have htq : t < q := by have h1 := HI.out.2.2.2.2; have h2 := HN.out.1; omega
        have HAg : Hid (∀ j, j < 8 → Ag (vs.getD (8 * t + j) 0) (ys.getD j 0)) := by
          intro j hj
          have h8 := HQ.out.2.at_ t htq
          have e1 : t = ia := by rw [HI.out.1, hit, Nat.add_mod_left, Nat.mod_eq_of_lt htq]
          have e4 : (t + 1) % q = ib := by rw [HI.out.2.1, hit, Nat.add_assoc, Nat.add_mod_left]
          rw [e4, ← HI.out.2.2.2.1, show xs.getD t 0 = a from by rw [e1]; exact HI.out.2.2.1.symm] at h8
          rw [← HQ.out.2.get htq hj, hys]
          exact h8.ag HR5.out HR6.out HR7.out HR8.out j hj
        obtain ⟨pL, capL, hv, hcell⟩ := OW.out.cells
        subst hv
        have hcap : 8 * q ≤ capL := OwR.cap OW.out
        obtain ⟨gK, rfl, _⟩ := hcell 0 (by omega)
        have KP : Hid (Kp W9 gK gn (8 * q) vs ys) := ⟨fun j hj => by obtain ⟨g, h1, h2⟩ := hcell j hj; cases h1; exact h2, NC0⟩
        have HT : Hid (i = q + t ∧ t < q ∧ q ≤ 1048576) := ⟨hit, htq, hq8⟩
        clear hcell NC0 hys hit htq
        go_loopg [16] 8 (fun gk iv wr => ∃ (j : Nat), j + gk = 8 ∧ iv = .int .i64 j ∧ Kp wr gK gn (8 * q) vs ys ∧ OwR wr hB (.slice (some ⟨gK, 0, none⟩) (8 * q) capL) (8 * q) vs ∧ hB ≤ wr.heap.size ∧ Below w.heap.size w wr)
        case atStart => exact ⟨0, by omega, rfl, KP.out, OW.out, HO9.out, hbw⟩
        case round =>
          clear KP OW HO9 hbw
          obtain ⟨j, hjg, rfl, kp, ow, ho, hbw⟩ := hrel
          have KP : Hid (Kp wr gK gn (8 * q) vs ys) := kp
          have OW : Hid (OwR wr hB (.slice (some ⟨gK, 0, none⟩) (8 * q) capL) (8 * q) vs) := ow
          have HO9 : Hid (hB ≤ wr.heap.size) := ho
          clear kp ow ho
          cases gk with
          | zero =>
            obtain rfl : j = 8 := by omega
            have hnj : ¬ ((8 : Nat) : Int) < 8 := by omega
            have hi9 : i ≤ 2097152 := by have := HT.out; omega
            go_wp2_with fail
            go_roundg gg
            case measure => omega
            case rel => exact ⟨i + 1, q, vs, by omega, by go_num, by omega, OW.out, HQ.out.2, HO9.out, hbw⟩
          | succ gj =>
            have hj8 : j < 8 := by omega
            obtain ⟨m, hm⟩ : ∃ m, m = 8 * t := ⟨_, rfl⟩
            obtain ⟨r, hr⟩ : ∃ r, r = m + j := ⟨_, rfl⟩
            have hrq : r < 8 * q := by have := HT.out; omega
            have hcy := KP.out.kept r hrq
            have hcz := KP.out.now j hj8
            have hag := HAg.out j hj8
            rw [← hm, ← hr] at hag
            generalize vs.getD r 0 = y at hcy hag
            generalize ys.getD j 0 = z at hcz hag
            have HY : Hid (Ag y z) := hag
            have hj3 : (j : Int) < 8 := by omega
            have hr3 : (r : Int) < 8 * (q : Int) := by omega
            have hs : i ≤ 2097152 ∧ t ≤ 2097152 ∧ r ≤ 20971520 := by have := HT.out; omega
            have v1 := wr_sub HT.out.1 hs.1
            have v2 := wi_sub HT.out.1 hs.1
            have v3 := wr_mul hm hs.2.1
            have v4 := wi_mul hm hs.2.1
            have v5 := wr_add hr hs.2.2
            have v6 := wi_add hr hs.2.2
            have HV : Hid ((wrap64 ((i : Int) - (q : Int)) = (t : Int) ∧ IntKind.i64.wrap ((i : Int) - (q : Int)) = (t : Int)) ∧ (wrap64 (8 * (t : Int)) = (m : Int) ∧ IntKind.i64.wrap (8 * (t : Int)) = (m : Int)) ∧ wrap64 ((m : Int) + (j : Int)) = (r : Int) ∧ IntKind.i64.wrap ((m : Int) + (j : Int)) = (r : Int)) := ⟨⟨v1, v2⟩, ⟨v3, v4⟩, v5, v6⟩
            clear v1 v2 v3 v4 v5 v6 hs
            clear hm hr hag
            go_wp2_with fail
            obtain ⟨Wd, hWd⟩ : ∃ Wd, Wd = wr.drew := ⟨_, rfl⟩
            have hbd : Below wr.heap.size wr Wd := by rw [hWd]; exact bDrew1 (Below.refl _ _)
            have HJ : Hid ((fun W' : World => W'.cell? ⟨gK, r, none⟩ = some (U y) ∧ W'.cell? ⟨gn, j, none⟩ = some (U z)) Wd) := ⟨(hbd.cell (p := ⟨gK, r, none⟩) (World.block_lt_of_cell? wr _ hcy)).trans hcy, (hbd.cell (p := ⟨gn, j, none⟩) (World.block_lt_of_cell? wr _ hcz)).trans hcz⟩
            have HOd : Hid (hB ≤ Wd.heap.size) := Nat.le_trans HO9.out hbd.size
            clear HO9 hcy hcz
            replace OW : Hid (OwR Wd hB (.slice (some ⟨gK, 0, none⟩) (8 * q) capL) (8 * q) vs) := OW.out.below hbd
            replace KP : Hid (Kp Wd gK gn (8 * q) vs ys) := KP.out.below hbd
            replace hbw := Below.on hbw hbd
            clear hbd
            refine wp_region_J (fun W' => W'.cell? ⟨gK, r, none⟩ = some (U y) ∧ W'.cell? ⟨gn, j, none⟩ = some (U z)) (by kernel_rfl) ?_
            rw [← hWd]
            clear hWd
            obtain ⟨⟨v1, v2⟩, ⟨v3, v4⟩, v5, v6⟩ := HV.out
            refine wpJ_tq 0 rfl HJ.out ?_
            refine wpJ_tq 1 rfl HJ.out ?_
            refine wpJ_tq 2 rfl HJ.out ?_
            refine wpJ_tq 3 rfl HJ.out ?_
            refine wpJ_tq 4 rfl HJ.out ?_
            go_simp
            refine wpJ_tq 5 rfl HJ.out ?_
            refine wpJ_tq 6 rfl HJ.out ?_
            refine wpJ_tq 7 rfl HJ.out ?_
            refine wpJ_tq 8 rfl HJ.out ?_
            refine wpJ_tq 9 rfl HJ.out ?_
            go_simp
            refine wpJ_tq 10 rfl HJ.out ?_
            refine wpJ_tq 11 rfl HJ.out ?_
            refine wpJ_tq 12 rfl HJ.out ?_
            refine wpJ_tq 13 rfl HJ.out ?_
            go_simp
            refine wpJ_on 14 rfl fun KJ hK => ?_
            go_simp
            refine (ragain y z HY.out _).mono ?_
            rintro e9 w9 ⟨rfl, hw⟩
            obtain rfl := hw.symm
            clear hw
            refine hK _ _ HJ.out ?_
            clear hK
            refine wpJ_tq 15 rfl HJ.out ?_
            refine wpJ_done (by kernel_rfl) ?_ _
            clear HJ
            clear v1 v2 v3 v4 v5 v6 HV
            go_wp2_with fail
            go_roundg gj
            case measure => omega
            case rel => exact ⟨j + 1, by omega, by go_num, KP.out, OW.out, HOd.out, hbw⟩
end Go.Proofs.Ytpnpdngfjgdgfaa
