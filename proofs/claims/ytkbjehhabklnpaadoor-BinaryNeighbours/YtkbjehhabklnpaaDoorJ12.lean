import Derived.Shelf.Spec.TrailingZeros
import Derived.Test.YtkbjehhabklnpaaDoorJ8
import Derived.Test.YtkbjehhabklnpaaDoorJ11
import Derived.Deep.LoopGhost
namespace Go.Proofs.YtkbjehhabklnpaaDoor
open Go.RowKit Go.Shelf

def qTzIs (v k : Nat) : Prop := v % 2 ^ k = 0 ∧ v / 2 ^ k % 2 = 1
theorem qTzIs.inj {v k l : Nat} (h : qTzIs v k) (h' : qTzIs v l) : k = l := by
  have aux : ∀ {a b : Nat}, qTzIs v a → qTzIs v b → ¬ a < b := by
    intro a b ha hb hab
    obtain ⟨d, hd⟩ : ∃ d, b = a + (d + 1) := ⟨b - a - 1, by omega⟩
    have h1 := Nat.dvd_of_mod_eq_zero hb.1
    obtain ⟨q, hq⟩ := h1
    have h2 := ha.2
    rw [hq, hd, Nat.pow_add, Nat.mul_assoc, Nat.mul_div_cancel_left _ (Nat.pow_pos (by decide)), Nat.pow_succ, Nat.mul_comm (2 ^ d) 2, Nat.mul_assoc, Nat.mul_mod_right] at h2
    exact absurd h2 (by decide)
  rcases Nat.lt_trichotomy k l with e | e | e
  · exact absurd e (aux h h')
  · exact e
  · exact absurd e (aux h' h)
def qrenTz : Ren := ⟨fun x => match x with | 29 => 38 | n => n, fun x => match x with | 0 => 0 | 3 => 3 | 4 => 4 | 5 => 5 | 22 => 22 | 25 => 93 | 54 => 92 | n => n, fun x => match x with | 1 => 0 | n => n⟩
theorem qlaysTz : Lays7.n29 Tryd.prog qrenTz :=
  { mixed := by kernel_rfl, f29 := Tryd.func38.trans (congrArg some (by kernel_rfl)),
    t0 := by kernel_rfl, a0 := fun w => by kernel_rfl, z0 := fun w => by kernel_rfl, v0 := fun w => by kernel_rfl, i0 := by kernel_rfl,
    t3 := Tryd.underlying3, a3 := Tryd.isAgg3, z3 := Tryd.sizeOf3, v3 := Tryd.zeroValue3, i3 := by kernel_rfl,
    t4 := Tryd.underlying4, a4 := Tryd.isAgg4, z4 := Tryd.sizeOf4, v4 := Tryd.zeroValue4, i4 := by kernel_rfl,
    t5 := Tryd.underlying5, a5 := Tryd.isAgg5, z5 := Tryd.sizeOf5, v5 := Tryd.zeroValue5, i5 := by kernel_rfl,
    t22 := Tryd.underlying22, a22 := Tryd.isAgg22, z22 := Tryd.sizeOf22, v22 := Tryd.zeroValue22, i22 := by kernel_rfl,
    t25 := Tryd.underlying93, a25 := Tryd.isAgg93, z25 := Tryd.sizeOf93, v25 := Tryd.zeroValue93, i25 := by kernel_rfl,
    t54 := Tryd.underlying92, a54 := Tryd.isAgg92, z54 := Tryd.sizeOf92, g1 := by kernel_rfl }

def qTab (w : World) : Prop := TabAt 0 Lib.deBruijn64tab w
theorem qTab.below {w w' : World} (h : qTab w) (hb : Below w.heap.size w w') : qTab w' := by
  intro j hj
  have h1 := h j hj
  have hl : 0 < w.heap.size := World.block_lt_of_cell? w _ h1
  exact (hb.cell (p := ⟨0, j, none⟩) hl).trans h1
theorem qctz_is {x : Nat} (h0 : x ≠ 0) (hx : x < B64) : qTzIs x (Lib.ctz 64 x) ∧ Lib.ctz 64 x < 64 := by
  rw [(show B64 = 2 ^ 64 from rfl)] at hx
  unfold Lib.ctz
  rw [if_neg h0]
  obtain ⟨m, hm, hk⟩ := Lib.ctzFrom_spec 64 x (by omega) hx
  generalize Lib.ctzFrom 64 x = k at *
  refine ⟨⟨?_, ?_⟩, hk⟩
  · rw [hm, Nat.mul_mod_right]
  · rw [hm, Nat.mul_div_cancel_left _ (Nat.pow_pos (by decide))]; omega
theorem qtz_any {x r : Nat} (h0 : x ≠ 0) (hx : x < B64) (hr : qTzIs x r) {w : World} (hT : qTab w) : Calls Tryd.prog 38 #[U x] w fun e w' => e = .returned (.int .i64 r) ∧ w' = w := by
  obtain ⟨h1, _⟩ := qctz_is h0 hx
  obtain rfl := hr.inj h1
  exact Any7.bits_TrailingZeros64 qlaysTz x (by rw [B64_eq] at hx; exact hx) w (fun _ => hT)

set_option maxRecDepth 20000 in
set_option maxHeartbeats 4000000 in
theorem qsigned_64 (neg : Bool) (s : Nat) (hs : s < 9223372036854775808) (w : World) : Calls Tryd.prog 31 #[WV 64 53 (-1074), .bool neg, U s] w fun e w' => e = .returned (U (if neg then 9223372036854775808 + s else s)) ∧ Below w.heap.size w w' := by
  have e1 : bits BinOp.or IntKind.u64 9223372036854775808 (s : Int) = _ := sign_or s 9223372036854775808 63 (by decide) (by decide) hs
  obtain ⟨r, hr⟩ : ∃ r, r = 9223372036854775808 + s := ⟨_, rfl⟩
  rw [← hr] at e1 ⊢
  clear hr hs
  cases neg
  · clear e1
    go_enter Tryd.func31, Tryd.ntmps31
    go_wp2_with fail
    go_ret
    exact ⟨rfl, bwAlloc w _⟩
  · go_enter Tryd.func31, Tryd.ntmps31
    go_wp2_with fail
    refine (sign_64 _).mono ?_
    rintro e w1 ⟨rfl, hb1⟩
    have HB1 : Hid (Below w.heap.size w w1) := bwOn (bwAlloc w _) hb1
    clear hb1
    go_wp2_with fail
    go_ret
    exact ⟨rfl, HB1.out⟩
set_option maxRecDepth 20000 in
set_option maxHeartbeats 4000000 in
theorem join_norm (neg : Bool) (man t mo L q : Nat) (exp top : Int) (hm0 : man ≠ 0) (hm9 : man < B64) (ht : qTzIs man t) (hmo : mo = man / 2 ^ t) (hL : L = bl_bitsN mo) (hL53 : L ≤ 53) (htop : top = exp + t + L - 1) (h1 : -1022 ≤ top) (h2 : top < 1024) (hex : -1137 ≤ exp) (hex2 : exp < 1024) (ht64 : t < 64) (hq : (q : Int) = top + 1022)
    (w : World) (hT : qTab w) : Calls Tryd.prog 15 #[.int .i64 64, .bool neg, U man, .int .i64 exp] w fun e w' => e = .returned (.tuple #[U (if neg then 9223372036854775808 + (q * 4503599627370496 + mo * 2 ^ (53 - L)) else q * 4503599627370496 + mo * 2 ^ (53 - L)), .int .i64 0]) ∧ Below w.heap.size w w' := by
  have hmb : ((man : Int) == 0) = false := by simp; omega
  obtain ⟨ex2, hex3⟩ : ∃ ex2 : Int, ex2 = exp + t := ⟨_, rfl⟩
  obtain ⟨s1, hs1⟩ : ∃ s1 : Int, s1 = ex2 + L := ⟨_, rfl⟩
  obtain ⟨un, hun⟩ : ∃ un : Int, un = top - 52 := ⟨_, rfl⟩
  obtain ⟨sf, hsf⟩ : ∃ sf : Nat, sf = 53 - L := ⟨_, rfl⟩
  obtain ⟨y, hy⟩ : ∃ y : Nat, y = mo * 2 ^ sf := ⟨_, rfl⟩
  obtain ⟨r, hr⟩ : ∃ r : Nat, r = (if neg then 9223372036854775808 + (q * 4503599627370496 + y) else q * 4503599627370496 + y) := ⟨_, rfl⟩
  rw [← hsf, ← hy, ← hr]
  have hyl : y < 9007199254740992 := by
    have hA := bl_bitsN_lt mo
    rw [← hL] at hA
    have hB : mo * 2 ^ sf < 2 ^ L * 2 ^ sf := Nat.mul_lt_mul_of_pos_right hA (Nat.two_pow_pos _)
    rw [← Nat.pow_add, show L + sf = 53 by omega] at hB
    rw [hy]
    exact Nat.lt_of_lt_of_le hB (by decide)
  have hmo9 : mo < B64 := by rw [hmo]; exact Nat.lt_of_le_of_lt (Nat.div_le_self _ _) hm9
  have a1 : (man : Int) / 2 ^ t = (mo : Int) := by rw [hmo]; simp
  have a2 : IntKind.i64.wrap (exp + (t : Int)) = ex2 := by rw [hex3]; simp [IntKind.wrap, IntKind.signed, IntKind.bits]; omega
  have a3 : IntKind.i64.wrap (ex2 + (L : Int)) = s1 := by rw [hs1]; simp [IntKind.wrap, IntKind.signed, IntKind.bits]; omega
  have a4 : IntKind.i64.wrap (s1 - 1) = top := by simp [IntKind.wrap, IntKind.signed, IntKind.bits]; omega
  have a5 : IntKind.i64.wrap (ex2 - un) = (sf : Int) := by simp [IntKind.wrap, IntKind.signed, IntKind.bits]; omega
  have a6 : IntKind.u64.wrap ((mo : Int) * 2 ^ sf) = (y : Int) := by
    have hyc : ((mo : Int) * 2 ^ sf) = (y : Int) := by rw [hy]; simp
    rw [hyc, IntKind.wrap_u64]; omega
  have c1 : decide (exp < -1137) = false := decide_eq_false (by omega)
  have c2 : decide (1024 ≤ exp) = false := decide_eq_false (by omega)
  have c3 : decide (ex2 < un) = false := decide_eq_false (by omega)
  have c4 : decide (1024 ≤ top) = false := decide_eq_false (by omega)
  have hsf64 : sf < 64 := by omega
  have HUN : Hid (un = top - 52) := hun
  have HUQ : Hid (un = (q : Int) - 1074) := by show _ = _; omega
  have HQ2 : Hid (q < 2048) := by show _ < _; omega
  have HT1 : Hid (-1022 ≤ top ∧ top ≤ 5000) := ⟨h1, by omega⟩
  have HYL : Hid (y < 9007199254740992) := hyl
  have HQY : Hid (q * 4503599627370496 + y < 9223372036854775808) := by show _ < _; omega
  have HR : Hid (r = (if neg then 9223372036854775808 + (q * 4503599627370496 + y) else q * 4503599627370496 + y)) := hr
  have HMO9 : Hid (mo < B64) := hmo9
  have HL : Hid (L = bl_bitsN mo) := hL
  have HM9 : Hid (man < B64) := hm9
  have HT0 : Hid (qTab w) := hT
  have HTZ : Hid (qTzIs man t) := ht
  have HM0 : Hid (man ≠ 0) := hm0
  clear hq htop hL hmo hm9 hT ht hm0 hex3 hs1 hun hsf hy hr hyl hmo9 h1 h2 hex hex2 hL53
  go_enter Tryd.func15, Tryd.ntmps15
  go_wp2_with fail
  refine (of_64 _).mono ?_
  rintro e w1 ⟨rfl, hb1⟩
  go_wp2_with fail
  clear c1
  have X := B3.new (w1) 56 (.int .i64 64) (.int .i64 53) (.int .i64 (-1074))
  have hb2 := bwAlloc (w1) (.cells #[.int .i64 64, .int .i64 53, .int .i64 (-1074)] 56)
  generalize (w1).alloc (.cells #[.int .i64 64, .int .i64 53, .int .i64 (-1074)] 56) = W at *
  obtain ⟨g, hg⟩ : ∃ g, g = (w1).heap.size := ⟨_, rfl⟩
  have HGg : Hid ((w1).heap.size ≤ g) := by show _ ≤ _; omega
  rw [← hg] at X ⊢
  clear hg
  have hbx := bwOn hb1 hb2
  have HTW : Hid (qTab W) := HT0.out.below hbx
  have HBW : Hid (Below w.heap.size w W) := hbx
  clear hb1 hb2 hbx HT0
  refine (beyond_64 _).mono ?_
  rintro e w3 ⟨rfl, hb3⟩
  have X3 : Hid (B3 w3 g (.int .i64 64) (.int .i64 53) (.int .i64 (-1074))) := X.below hb3
  have HT3 : Hid (qTab w3) := HTW.out.below hb3
  have HB3 : Hid (Below w.heap.size w w3) := bwOn HBW.out hb3
  clear hb3 X HTW HBW
  go_wp2_with fail
  clear c2
  refine (qtz_any HM0.out HM9.out HTZ.out HT3.out).mono ?_
  rintro e w4 ⟨rfl, hw⟩
  obtain rfl := hw.symm
  clear hw
  go_wp2_with fail
  refine (bl_len_any mo _ HMO9.out).mono ?_
  rintro e w4 ⟨rfl, hw⟩
  rw [← HL.out]
  obtain rfl := hw.symm
  clear hw
  obtain ⟨x0, x1, x2, x3, x4, x5⟩ := X3.out
  go_wp2_with fail
  refine (unit_64 top HT1.out.1 HT1.out.2 _).mono ?_
  rintro e w5 ⟨rfl, hb5⟩
  rw [← HUN.out]
  have X5 : Hid (B3 w5 g (.int .i64 64) (.int .i64 53) (.int .i64 (-1074))) := X3.out.below hb5
  have HB5 : Hid (Below w.heap.size w w5) := bwOn HB3.out hb5
  clear hb5 HT3 HB3 x0 x1 x2 x3 x4 x5 X3 a1 a2 a3 a4
  obtain ⟨x0, x1, x2, x3, x4, x5⟩ := X5.out
  go_wp2_with fail
  refine (beyond_64 _).mono ?_
  rintro e w6 ⟨rfl, hb6⟩
  have X6 : Hid (B3 w6 g (.int .i64 64) (.int .i64 53) (.int .i64 (-1074))) := X5.out.below hb6
  have HB6 : Hid (Below w.heap.size w w6) := bwOn HB5.out hb6
  clear hb6 HB5 x0 x1 x2 x3 x4 x5 X5 c3
  obtain ⟨x0, x1, x2, x3, x4, x5⟩ := X6.out
  go_wp2_with fail
  clear x0 x1 x2 x3 x4 x5 c4
  have X7 : Hid (B3 w6.drew g (.int .i64 64) (.int .i64 53) (.int .i64 (-1074))) := X6.out.drew
  have HB7 : Hid (Below w.heap.size w w6.drew) := bwDrew HB6.out
  refine wp_region_J (fun W' => B3 W' g (.int .i64 64) (.int .i64 53) (.int .i64 (-1074))) (by kernel_rfl) ?_
  refine wpJ_take (i := 0) (v := ?v1x0) rfl (by kernel_rfl) (by kernel_rfl) (by kernel_rfl) (fun _ _ _ h => h) (by rfl) ?hy1x0 X7.out ?rest1x0
  case hy1x0 => (intro W' hJ; obtain ⟨x0, x1, x2, x3, x4, x5⟩ := hJ; go_simp; first | done | with_reducible rfl)
  refine wpJ_take (i := 1) (v := ?v2x1) rfl (by kernel_rfl) (by kernel_rfl) (by kernel_rfl) (fun _ _ _ h => h) (by rfl) ?hy2x1 X7.out ?rest2x1
  case hy2x1 => (intro W' hJ; obtain ⟨x0, x1, x2, x3, x4, x5⟩ := hJ; go_simp; first | done | with_reducible rfl)
  refine wpJ_take (i := 2) (v := ?v3x2) rfl (by kernel_rfl) (by kernel_rfl) (by kernel_rfl) (fun _ _ _ h => h) (by rfl) ?hy3x2 X7.out ?rest3x2
  case hy3x2 => (intro W' hJ; obtain ⟨x0, x1, x2, x3, x4, x5⟩ := hJ; go_simp; first | done | with_reducible rfl)
  refine wpJ_take (i := 3) (v := ?v4x3) rfl (by kernel_rfl) (by kernel_rfl) (by kernel_rfl) (fun _ _ _ h => h) (by rfl) ?hy4x3 X7.out ?rest4x3
  case hy4x3 => (intro W' hJ; obtain ⟨x0, x1, x2, x3, x4, x5⟩ := hJ; go_simp; first | done | with_reducible rfl)
  refine wpJ_take (i := 4) (v := ?v5x4) rfl (by kernel_rfl) (by kernel_rfl) (by kernel_rfl) (fun _ _ _ h => h) (by rfl) ?hy5x4 X7.out ?rest5x4
  case hy5x4 => (intro W' hJ; obtain ⟨x0, x1, x2, x3, x4, x5⟩ := hJ; go_simp; first | done | with_reducible rfl)
  refine wpJ_take (i := 5) (v := ?v6x5) rfl (by kernel_rfl) (by kernel_rfl) (by kernel_rfl) (fun _ _ _ h => h) (by rfl) ?hy6x5 X7.out ?rest6x5
  case hy6x5 => (intro W' hJ; obtain ⟨x0, x1, x2, x3, x4, x5⟩ := hJ; go_simp; first | done | with_reducible rfl)
  refine wpJ_take (i := 6) (v := ?v7x6) rfl (by kernel_rfl) (by kernel_rfl) (by kernel_rfl) (fun _ _ _ h => h) (by rfl) ?hy7x6 X7.out ?rest7x6
  case hy7x6 => (intro W' hJ; obtain ⟨x0, x1, x2, x3, x4, x5⟩ := hJ; go_simp; first | done | with_reducible rfl)
  refine wpJ_take (i := 7) (v := ?v8x7) rfl (by kernel_rfl) (by kernel_rfl) (by kernel_rfl) (fun _ _ _ h => h) (by rfl) ?hy8x7 X7.out ?rest8x7
  case hy8x7 => (intro W' hJ; obtain ⟨x0, x1, x2, x3, x4, x5⟩ := hJ; go_simp; first | done | with_reducible rfl)
  refine wpJ_take (i := 8) (v := ?v9x8) rfl (by kernel_rfl) (by kernel_rfl) (by kernel_rfl) (fun _ _ _ h => h) (by rfl) ?hy9x8 X7.out ?rest9x8
  case hy9x8 => (intro W' hJ; obtain ⟨x0, x1, x2, x3, x4, x5⟩ := hJ; go_simp; first | done | with_reducible rfl)
  refine wpJ_one (i := 9) (by kernel_rfl) rfl (by rfl) (fun K hK => ?_)
  go_simp
  refine (size_64 y q un HUQ.out HQ2.out HYL.out _).mono ?_
  rintro e w8 ⟨rfl, hb8⟩
  have X8 : Hid (B3 w8 g (.int .i64 64) (.int .i64 53) (.int .i64 (-1074))) := X7.out.below hb8
  have HB8 : Hid (Below w.heap.size w w8) := bwOn HB7.out hb8
  clear hb8
  refine hK _ _ X8.out ?_
  clear hK
  refine wpJ_one (i := 10) (by kernel_rfl) rfl (by rfl) (fun K hK => ?_)
  go_simp
  refine (qsigned_64 neg (q * 4503599627370496 + y) HQY.out _).mono ?_
  rintro e w9 ⟨rfl, hb9⟩
  rw [← HR.out]
  have X9 : Hid (B3 w9 g (.int .i64 64) (.int .i64 53) (.int .i64 (-1074))) := X8.out.below hb9
  have HB9 : Hid (Below w.heap.size w w9) := bwOn HB8.out hb9
  clear hb9
  refine hK _ _ X9.out ?_
  clear hK
  refine wpJ_take (i := 11) (v := ?v10x11) rfl (by kernel_rfl) (by kernel_rfl) (by kernel_rfl) (fun _ _ _ h => h) (by rfl) ?hy10x11 X9.out ?rest10x11
  case hy10x11 => (intro W' hJ; obtain ⟨x0, x1, x2, x3, x4, x5⟩ := hJ; go_simp; first | done | with_reducible rfl)
  refine wpJ_take (i := 12) (v := ?v11x12) rfl (by kernel_rfl) (by kernel_rfl) (by kernel_rfl) (fun _ _ _ h => h) (by rfl) ?hy11x12 X9.out ?rest11x12
  case hy11x12 => (intro W' hJ; obtain ⟨x0, x1, x2, x3, x4, x5⟩ := hJ; go_simp; first | done | with_reducible rfl)
  refine wpJ_done (by kernel_rfl) ?_ _
  go_wp2_with fail
  go_ret2
  exact ⟨rfl, HB9.out⟩
end Go.Proofs.YtkbjehhabklnpaaDoor

namespace Go.Proofs.YtkbjehhabklnpaaDoor
open Go.RowKit Go.Shelf

end Go.Proofs.YtkbjehhabklnpaaDoor

namespace Go.Proofs.YtkbjehhabklnpaaDoor
open Go.RowKit Go.Shelf

structure Op7 where
  k : Int
  f : Int
  b : Nat
  neg : Bool
  n : Int
structure Scr7 (w : World) (P : Option Addr) (N C : Nat) (its : List Op7) : Prop where
  len : its.length = N
  cap : N ≤ C
  big : C ≤ maxLen
  ats : ∀ t ∈ its, t.b < B64 ∧ -9223372036854775808 ≤ t.n ∧ t.n ≤ 9223372036854775807
  cells : N = 0 ∨ ∃ g off, P = some ⟨g, off, none⟩ ∧ ∀ i (h : i < its.length), w.cell? ⟨g, off + i * 5, none⟩ = some (.int .i64 its[i].k) ∧ w.cell? ⟨g, off + i * 5 + 1, none⟩ = some (.int .i64 its[i].f) ∧
    w.cell? ⟨g, off + i * 5 + 2, none⟩ = some (U its[i].b) ∧ w.cell? ⟨g, off + i * 5 + 3, none⟩ = some (.bool its[i].neg) ∧ w.cell? ⟨g, off + i * 5 + 4, none⟩ = some (.int .i64 its[i].n)
theorem Scr7.below {w w' : World} {P : Option Addr} {N C : Nat} {its : List Op7} (h : Scr7 w P N C its) (hb : Below w.heap.size w w') : Scr7 w' P N C its := by
  refine ⟨h.len, h.cap, h.big, h.ats, ?_⟩
  rcases h.cells with h0 | ⟨g, off, hP, hc⟩
  · exact .inl h0
  · refine .inr ⟨g, off, hP, fun i hi => ?_⟩
    obtain ⟨h0, h1, h2, h3, h4⟩ := hc i hi
    have hl : g < w.heap.size := World.block_lt_of_cell? w _ h0
    exact ⟨(hb.cell (p := ⟨g, off + i * 5, none⟩) hl).trans h0, (hb.cell (p := ⟨g, off + i * 5 + 1, none⟩) hl).trans h1, (hb.cell (p := ⟨g, off + i * 5 + 2, none⟩) hl).trans h2,
      (hb.cell (p := ⟨g, off + i * 5 + 3, none⟩) hl).trans h3, (hb.cell (p := ⟨g, off + i * 5 + 4, none⟩) hl).trans h4⟩
structure Kds (w : World) (g : Nat) (ks : List Int) : Prop where
  c : ∀ j (h : j < ks.length), w.cell? ⟨g, j, none⟩ = some (.int .i64 ks[j])
  lt : g < w.heap.size
theorem Kds.below {w w' : World} {g : Nat} {ks : List Int} (h : Kds w g ks) (hb : Below w.heap.size w w') : Kds w' g ks :=
  ⟨fun j hj => (hb.cell (p := ⟨g, j, none⟩) h.lt).trans (h.c j hj), Nat.lt_of_lt_of_le h.lt hb.size⟩

end Go.Proofs.YtkbjehhabklnpaaDoor

namespace Go.Proofs.YtkbjehhabklnpaaDoor
open Go.RowKit Go.Shelf

theorem say_n : Says 21 (.int .i64 64) (.int .u64 9223372036854775808) (.int .u64 1) (.int .i64 0) :=
  to_Next (b := 9223372036854775808) (fun w => step_B fm_64 9223372036854775808 (by decide) (by decide) false (by decide) w)
theorem say_p : Says 22 (.int .i64 32) (.int .u64 1) (.int .u64 0) (.int .i64 0) :=
  to_Prev (b := 1) (fun w => step_D fm_32 1 (by decide) (by decide) true (by decide) (by decide) w)
theorem say_r : Says 13 (.int .i64 32) (.int .u64 2147483653) (.int .i64 (-5)) (.int .i64 0) :=
  fun w => rank_ok fm_32 2147483653 (by decide) (by decide) w
theorem say_d : Says 51 (.int .i64 64) (.int .i64 77) (.int .u64 77) (.int .i64 0) :=
  fun w => rkd_ok_pos fm_64 77 (by decide) (by decide) w

set_option maxRecDepth 20000 in
set_option maxHeartbeats 4000000 in
theorem steps_true (w : World) : Calls Tryd.prog 20 #[] w fun e w' => e = .returned (.bool true) ∧ Below w.heap.size w w' := by
  go_enter Tryd.func20, Tryd.ntmps20
  go_wp2_with fail
  refine (say_n _).mono ?_
  rintro e w1 ⟨rfl, hb1⟩
  go_wp2_with fail
  refine (say_p _).mono ?_
  rintro e w2 ⟨rfl, hb2⟩
  go_wp2_with fail
  refine (say_r _).mono ?_
  rintro e w3 ⟨rfl, hb3⟩
  go_wp2_with fail
  refine (say_d _).mono ?_
  rintro e w4 ⟨rfl, hb4⟩
  have hbw := bwOn (bwOn (bwOn hb1 hb2) hb3) hb4
  clear hb1 hb2 hb3 hb4
  go_wp2_with fail
  go_ret
  exact ⟨rfl, hbw⟩

end Go.Proofs.YtkbjehhabklnpaaDoor

namespace Go.Proofs.YtkbjehhabklnpaaDoor
open Go.RowKit Go.Shelf

theorem xor_nat (a k : Nat) (ha : a < 2 ^ (k + 1)) : a ^^^ 2 ^ k = xsS (2 ^ k) a := by
  unfold xsS
  have hp := Nat.two_pow_pos k
  have h1 : 2 ^ (k + 1) = 2 * 2 ^ k := by rw [Nat.pow_succ]; omega
  by_cases h : 2 ^ k ≤ a
  · rw [if_pos h]
    obtain ⟨c, rfl⟩ : ∃ c, a = 2 ^ k + c := ⟨a - 2 ^ k, by omega⟩
    have hc : c < 2 ^ k := by omega
    have h2 := Nat.two_pow_add_eq_or_of_lt (i := k) (b := c) hc 1
    rw [Nat.mul_one] at h2
    rw [show 2 ^ k + c - 2 ^ k = c from by omega, h2]
    refine Nat.eq_of_testBit_eq fun i => ?_
    rw [Nat.testBit_xor, Nat.testBit_or, Nat.testBit_two_pow]
    by_cases hi : k = i
    · subst hi
      rw [Nat.testBit_lt_two_pow hc]
      simp
    · simp [hi]
  · rw [if_neg h]
    have hc : a < 2 ^ k := by omega
    have h2 := Nat.two_pow_add_eq_or_of_lt (i := k) (b := a) hc 1
    rw [Nat.mul_one] at h2
    rw [show a + 2 ^ k = 2 ^ k + a from by omega, h2]
    refine Nat.eq_of_testBit_eq fun i => ?_
    rw [Nat.testBit_xor, Nat.testBit_or, Nat.testBit_two_pow]
    by_cases hi : k = i
    · subst hi
      rw [Nat.testBit_lt_two_pow hc]
      simp
    · simp [hi]
theorem sign_xor (b S k : Nat) (hS : S = 2 ^ k) (hk : k < 64) (hb : b < 2 * S) : bits BinOp.xor IntKind.u64 (b : Int) (S : Int) = ((xsS S b : Nat) : Int) := by
  have h1 : S ≤ 9223372036854775808 := by rw [hS]; exact Nat.le_trans (Nat.pow_le_pow_right (by decide) (by omega : k ≤ 63)) (by decide)
  have hb2 : b < 2 ^ (k + 1) := by rw [Nat.pow_succ, ← hS]; omega
  show IntKind.u64.wrap ((BitVec.ofInt 64 (b : Int) ^^^ BitVec.ofInt 64 (S : Int)).toNat : Int) = _
  rw [BitVec.ofInt_natCast, BitVec.ofInt_natCast, BitVec.toNat_xor, BitVec.toNat_ofNat, BitVec.toNat_ofNat, Nat.mod_eq_of_lt (by omega), Nat.mod_eq_of_lt (by omega), hS, xor_nat b k hb2, ← hS, IntKind.wrap_u64]
  unfold xsS
  split <;> omega
set_option maxRecDepth 20000 in
set_option maxHeartbeats 8000000 in
theorem lsign_32 (w : World) :
    Calls Tryd.prog 16 #[.int .i64 32] w fun en w' => en = .returned (.int .u64 2147483648) ∧ Below w.heap.size w w' := by
  go_enter Tryd.func16, Tryd.ntmps16
  go_wp2_with fail
  go_ret
  exact ⟨rfl, Below.refl _ _⟩
set_option maxRecDepth 20000 in
set_option maxHeartbeats 8000000 in
theorem lfin_32tt (b z : Nat) (hz : z = b % 2147483648) (w : World) (h1 : b < 4294967296) (h2 : z < 2139095040) :
    Calls Tryd.prog 9 #[.int .i64 32, U b] w fun en w' => en = .returned (.bool true) ∧ Below w.heap.size w w' := by
  have f1 : (b : Int).tmod 2147483648 = (z : Int) := by rw [Int.tmod_eq_emod_of_nonneg (by omega), hz]; omega
  have f2 : (b : Int) % 2147483648 = (z : Int) := by rw [hz]; omega
  have f3 : (b : Int) < 4294967296 := by omega
  have f4 : (z : Int) < 2139095040 := by omega
  clear hz h1 h2
  go_enter Tryd.func9, Tryd.ntmps9
  go_wp2_with fail
  go_ret
  exact ⟨rfl, Below.refl _ _⟩
set_option maxRecDepth 20000 in
set_option maxHeartbeats 8000000 in
theorem lfin_32tf (b z : Nat) (hz : z = b % 2147483648) (w : World) (h1 : b < 4294967296) (h2 : ¬ z < 2139095040) :
    Calls Tryd.prog 9 #[.int .i64 32, U b] w fun en w' => en = .returned (.bool false) ∧ Below w.heap.size w w' := by
  have f1 : (b : Int).tmod 2147483648 = (z : Int) := by rw [Int.tmod_eq_emod_of_nonneg (by omega), hz]; omega
  have f2 : (b : Int) % 2147483648 = (z : Int) := by rw [hz]; omega
  have f3 : (b : Int) < 4294967296 := by omega
  have f4 : ¬ (z : Int) < 2139095040 := by omega
  clear hz h1 h2
  go_enter Tryd.func9, Tryd.ntmps9
  go_wp2_with fail
  go_ret
  exact ⟨rfl, Below.refl _ _⟩
set_option maxRecDepth 20000 in
set_option maxHeartbeats 8000000 in
theorem lfin_32ff (b z : Nat) (hz : z = b % 2147483648) (w : World) (h1 : ¬ b < 4294967296) :
    Calls Tryd.prog 9 #[.int .i64 32, U b] w fun en w' => en = .returned (.bool false) ∧ Below w.heap.size w w' := by
  have f1 : (b : Int).tmod 2147483648 = (z : Int) := by rw [Int.tmod_eq_emod_of_nonneg (by omega), hz]; omega
  have f2 : (b : Int) % 2147483648 = (z : Int) := by rw [hz]; omega
  have f3 : ¬ (b : Int) < 4294967296 := by omega
  clear hz h1 
  go_enter Tryd.func9, Tryd.ntmps9
  go_wp2_with fail
  go_ret
  exact ⟨rfl, Below.refl _ _⟩
set_option maxRecDepth 20000 in
set_option maxHeartbeats 8000000 in
theorem lsign_64 (w : World) :
    Calls Tryd.prog 16 #[.int .i64 64] w fun en w' => en = .returned (.int .u64 9223372036854775808) ∧ Below w.heap.size w w' := by
  go_enter Tryd.func16, Tryd.ntmps16
  go_wp2_with fail
  go_ret
  exact ⟨rfl, Below.refl _ _⟩
set_option maxRecDepth 20000 in
set_option maxHeartbeats 8000000 in
theorem lfin_64tt (b z : Nat) (hz : z = b % 9223372036854775808) (w : World) (h1 : b < 18446744073709551616) (h2 : z < 9218868437227405312) :
    Calls Tryd.prog 9 #[.int .i64 64, U b] w fun en w' => en = .returned (.bool true) ∧ Below w.heap.size w w' := by
  have f1 : (b : Int).tmod 9223372036854775808 = (z : Int) := by rw [Int.tmod_eq_emod_of_nonneg (by omega), hz]; omega
  have f2 : (b : Int) % 9223372036854775808 = (z : Int) := by rw [hz]; omega
  have f3 : (b : Int) < 18446744073709551616 := by omega
  have f4 : (z : Int) < 9218868437227405312 := by omega
  clear hz h1 h2
  go_enter Tryd.func9, Tryd.ntmps9
  go_wp2_with fail
  go_ret
  exact ⟨rfl, Below.refl _ _⟩
set_option maxRecDepth 20000 in
set_option maxHeartbeats 8000000 in
theorem lfin_64tf (b z : Nat) (hz : z = b % 9223372036854775808) (w : World) (h1 : b < 18446744073709551616) (h2 : ¬ z < 9218868437227405312) :
    Calls Tryd.prog 9 #[.int .i64 64, U b] w fun en w' => en = .returned (.bool false) ∧ Below w.heap.size w w' := by
  have f1 : (b : Int).tmod 9223372036854775808 = (z : Int) := by rw [Int.tmod_eq_emod_of_nonneg (by omega), hz]; omega
  have f2 : (b : Int) % 9223372036854775808 = (z : Int) := by rw [hz]; omega
  have f3 : (b : Int) < 18446744073709551616 := by omega
  have f4 : ¬ (z : Int) < 9218868437227405312 := by omega
  clear hz h1 h2
  go_enter Tryd.func9, Tryd.ntmps9
  go_wp2_with fail
  go_ret
  exact ⟨rfl, Below.refl _ _⟩
end Go.Proofs.YtkbjehhabklnpaaDoor

namespace Go.Proofs.YtkbjehhabklnpaaDoor
open Go.RowKit Go.Shelf

theorem aw_v : ∃ b : Nat, b = 13832806255468478464 ∧ dv (-3) (-1) = dv (if 9223372036854775808 ≤ b then -(((b % 9223372036854775808 - (b % 9223372036854775808 / 4503599627370496 - 1) * 4503599627370496 : Nat)) : Int) else ((b % 9223372036854775808 - (b % 9223372036854775808 / 4503599627370496 - 1) * 4503599627370496 : Nat) : Int)) (-1074 + ((b % 9223372036854775808 / 4503599627370496 - 1 : Nat) : Int)) := by
  refine ⟨13832806255468478464, rfl, ?_⟩
  rw [if_pos (by decide), show 13832806255468478464 % 9223372036854775808 / 4503599627370496 - 1 = 1022 from by decide, show 13832806255468478464 % 9223372036854775808 - 1022 * 4503599627370496 = 6755399441055744 from by decide, dv_shift (z := -3) (e := -1) (f := -52) (by decide) (by decide)]
  rfl
set_option maxRecDepth 20000 in
set_option maxHeartbeats 8000000 in
theorem clsof_nan (w : World) :
    Calls Tryd.prog 10 #[.int .i64 32, .int .u64 4286578689] w fun en w' => en = .returned (.tuple #[.int .i64 4, .int .i64 0]) ∧ Below w.heap.size w w' := by
  have hbw : Below w.heap.size w w := Below.refl _ _
  go_enter Tryd.func10, Tryd.ntmps10
  go_wp2_with fail
  obtain ⟨z, hz⟩ : ∃ z : Nat, z = 4286578689 % 2147483648 := ⟨_, rfl⟩
  obtain ⟨B, hB⟩ : ∃ B : Nat, B = 4286578689 := ⟨_, rfl⟩
  have HPT := fun w => fm_32.pat 4286578689 w (by decide)
  rw [show decide (2147483648 ≤ 4286578689) = true from by decide, ← hz] at HPT
  have HZ : Hid (2139095040 < z) := by rw [hz]; show _ < _; decide
  clear hz hB
  refine (HPT _).mono ?_
  rintro e v1 ⟨rfl, hb1⟩
  replace hbw := Below.on hbw hb1
  clear hb1
  clear HPT
  go_wp2_with fail
  have Xp0 : Hid (B5q (v1.alloc (.cells #[.int .i64 32, .int .i64 24, .int .i64 (-149), .bool true, U z] 58)) v1.heap.size (.int .i64 32) (.int .i64 24) (.int .i64 (-149)) (.bool true) (U z)) := B5q.new v1 _ _ _ _ _ _
  have hbn : Below v1.heap.size v1 (v1.alloc (.cells #[.int .i64 32, .int .i64 24, .int .i64 (-149), .bool true, U z] 58)) := below1 v1 _
  generalize v1.alloc (.cells #[.int .i64 32, .int .i64 24, .int .i64 (-149), .bool true, U z] 58) = Wp at *
  have HGp : Hid (w.heap.size ≤ v1.heap.size) := hbw.size
  replace hbw := Below.on hbw hbn
  clear hbn
  generalize v1.heap.size = gp at *
  have Xp := Xp0
  clear Xp0
  refine (class_32 rfl true z _).mono ?_
  rintro e2 v2 ⟨rfl, hb2⟩
  rw [cls_nan (by decide) HZ.out]
  replace Xp : Hid _ := Xp.out.below hb2
  replace hbw := Below.on hbw hb2
  clear hb2
  go_wp2_with fail
  go_ret2
  exact ⟨rfl, hbw⟩
set_option maxRecDepth 20000 in
set_option maxHeartbeats 8000000 in
theorem awake7 (w : World) (hT : Tab w) :
    Calls Tryd.prog 7 #[] w fun en w' => en = .returned (.bool true) ∧ Below w.heap.size w w' := by
  have hbw : Below w.heap.size w w := Below.refl _ _
  have TB : Hid (Tab w) := hT
  obtain ⟨B, hB, hv⟩ := aw_v
  have HB : Hid (B = 13832806255468478464) := hB
  have HV : Hid (dv (-3) (-1) = dv (if 9223372036854775808 ≤ B then -(((B % 9223372036854775808 - (B % 9223372036854775808 / 4503599627370496 - 1) * 4503599627370496 : Nat)) : Int) else ((B % 9223372036854775808 - (B % 9223372036854775808 / 4503599627370496 - 1) * 4503599627370496 : Nat) : Int)) (-1074 + ((B % 9223372036854775808 / 4503599627370496 - 1 : Nat) : Int))) := hv
  have HJ : Hid (∀ w, Tab w → Calls Tryd.prog 15 #[.int .i64 64, .bool true, .int .u64 3, .int .i64 (-1)] w fun e w' => e = .returned (.tuple #[U B, .int .i64 0]) ∧ Below w.heap.size w w') := by
    intro w hT
    have := join_norm true 3 0 3 2 1022 (-1) 0 (by decide) (by decide) ⟨by decide, by decide⟩ (by decide) (by decide) (by decide) (by decide) (by decide) (by decide) (by decide) (by decide) (by decide) (by decide) w hT
    rw [show (if true = true then 9223372036854775808 + (1022 * 4503599627370496 + 3 * 2 ^ (53 - 2)) else 1022 * 4503599627370496 + 3 * 2 ^ (53 - 2)) = B from by rw [hB]; decide] at this
    exact this
  clear hT hB hv
  go_enter Tryd.func7, Tryd.ntmps7
  go_wp2_with fail
  refine (HJ.out _ (TB.out.below hbw)).mono ?_
  rintro e v1 ⟨rfl, hb1⟩
  replace hbw := Below.on hbw hb1
  clear hb1
  go_wp2_with fail
  refine (value_ok pm_64 B (by rw [HB.out]; decide) (by rw [HB.out]; decide) _ (TB.out.below hbw)).mono ?_
  rintro e2 v2 ⟨hv, hb2⟩
  obtain ⟨v, rfl, hv2⟩ := hv.form (.inr ⟨by decide, by decide, by decide⟩) (HV.out)
  obtain ⟨s2, p2, m2, rfl, hd2⟩ := hv2.dn (.inr ⟨by decide, by decide, by decide⟩)
  clear hv hv2
  replace hbw := Below.on hbw hb2
  clear hb2
  have D2 : Hid (DN v2 s2 p2 m2 m2 (-1) (-3)) := hd2
  clear hd2
  clear HV HJ
  have hB9 := HB.out
  clear HB
  subst hB9
  go_wp2_with fail
  have Xv0 : Hid (B3q (v2.alloc (.cells #[.bool s2, .slice p2 m2 m2, .int .i64 (-1)] 36)) v2.heap.size (.bool s2) (.slice p2 m2 m2) (.int .i64 (-1))) := B3q.new v2 _ _ _ _
  have hbn : Below v2.heap.size v2 (v2.alloc (.cells #[.bool s2, .slice p2 m2 m2, .int .i64 (-1)] 36)) := below1 v2 _
  generalize v2.alloc (.cells #[.bool s2, .slice p2 m2 m2, .int .i64 (-1)] 36) = Wv at *
  have HGv : Hid (w.heap.size ≤ v2.heap.size) := hbw.size
  replace D2 : Hid _ := D2.out.below hbn
  replace hbw := Below.on hbw hbn
  clear hbn
  generalize v2.heap.size = gv at *
  have Xv := Xv0
  clear Xv0
  refine (clsof_nan _).mono ?_
  rintro e v3 ⟨rfl, hb3⟩
  replace Xv : Hid _ := Xv.out.below hb3
  replace D2 : Hid _ := D2.out.below hb3
  replace hbw := Below.on hbw hb3
  clear hb3
  have hs2 : s2 = true := by rw [D2.out.zn.sg]; rfl
  obtain ⟨cv0, cv1, cv2, fv0, fv1, fv2⟩ := Xv.out
  have hnev : gv < v3.heap.size := World.block_lt_of_cell? v3 _ cv0
  go_wp2_with fail
  clear cv0 cv1 cv2 fv0 fv1 fv2 hnev
  obtain ⟨xs, hX⟩ := (D2.out.zn.below (below1 _ (.cells #[.int .u64 3] 22))).ex
  have hx3 : xs = [3] := hX.nf.inj B64_one (nf_one (x := 3) (by decide) (by decide))
  subst hx3
  refine (same_t hX.at_ (lit_at v3 _ [3] 1 rfl rfl (dig1 (by decide)) (by decide))).mono ?_
  rintro e2 v4 ⟨rfl, hb4⟩
  have hbw4 := Below.on (Below.on hbw (below1 _ _)) hb4
  clear hX hb4 hs2
  go_wp2_with fail
  go_ret
  exact ⟨rfl, hbw4⟩
end Go.Proofs.YtkbjehhabklnpaaDoor

namespace Go.Proofs.YtkbjehhabklnpaaDoor
open Go.RowKit Go.Shelf

set_option maxRecDepth 20000 in
set_option maxHeartbeats 8000000 in
theorem lfin_x (f : Int) (h1 : f ≠ 32) (h2 : f ≠ 64) (b : Nat) (w : World) :
    Calls Tryd.prog 9 #[.int .i64 f, U b] w fun en w' => en = .returned (.bool false) ∧ Below w.heap.size w w' := by
  have f1 : (f == 32) = false := by simp [h1]
  have f2 : (f == 64) = false := by simp [h2]
  go_enter Tryd.func9, Tryd.ntmps9
  go_wp2_with fail
  go_ret
  exact ⟨rfl, Below.refl _ _⟩
structure Lf (f : Int) (S I : Nat) : Prop where
  fin : ∀ (b : Nat) w, b < B64 → Calls Tryd.prog 9 #[.int .i64 f, U b] w fun en w' => en = .returned (.bool (decide (b < 2 * S ∧ b % S < I))) ∧ Below w.heap.size w w'
  sg : ∀ w, Calls Tryd.prog 16 #[.int .i64 f] w fun en w' => en = .returned (U S) ∧ Below w.heap.size w w'
  xr : ∀ b, b < 2 * S → bits BinOp.xor IntKind.u64 (b : Int) (S : Int) = ((xsS S b : Nat) : Int)
  up : 2 * S ≤ B64
theorem lf_32 : Lf 32 2147483648 2139095040 := by
  refine ⟨fun b w hb => ?_, fun w => lsign_32 w, fun b hb => sign_xor b _ 31 (by decide) (by decide) hb, by decide⟩
  by_cases h1 : b < 4294967296
  · by_cases h2 : b % 2147483648 < 2139095040
    · rw [decide_eq_true ⟨by omega, h2⟩]; exact lfin_32tt b _ rfl w h1 h2
    · rw [decide_eq_false (fun h => h2 h.2)]; exact lfin_32tf b _ rfl w h1 h2
  · rw [decide_eq_false (fun h => h1 (by omega))]; exact lfin_32ff b _ rfl w h1
theorem lf_64 : Lf 64 9223372036854775808 9218868437227405312 := by
  refine ⟨fun b w hb => ?_, fun w => lsign_64 w, fun b hb => sign_xor b _ 63 (by decide) (by decide) hb, by decide⟩
  rw [B64_eq] at hb
  by_cases h2 : b % 9223372036854775808 < 9218868437227405312
  · rw [decide_eq_true ⟨by omega, h2⟩]; exact lfin_64tt b _ rfl w hb h2
  · rw [decide_eq_false (fun h => h2 h.2)]; exact lfin_64tf b _ rfl w hb h2
theorem cmpI_ge {a b : Int} (h : b ≤ a) : 0 ≤ cmpI a b := by
  unfold cmpI
  rw [if_neg (by omega)]
  split <;> omega
theorem cmp_dv {x y l : Int} {zx ex zy ey : Int} (hx : dv zx ex = dv x l) (hy : dv zy ey = dv y l) : (y ≤ x → 0 ≤ cmpI (dv zx ex) (dv zy ey)) ∧ (x < y → cmpI (dv zx ex) (dv zy ey) = -1) := by
  rw [hx, hy]
  refine ⟨fun h => cmpI_ge (dv_le l h), fun h => cmp_l ?_⟩
  have h1 : (0 : Int) < ((2 ^ (l + 4194304).toNat : Nat) : Int) := by have := Nat.pow_pos (n := (l + 4194304).toNat) (show 0 < 2 by omega); omega
  exact Int.mul_lt_mul_of_pos_right h h1
set_option maxRecDepth 20000 in
set_option maxHeartbeats 8000000 in
theorem binaryNeighbours_x (f : Int) (h1 : f ≠ 32) (h2 : f ≠ 64) (a o : Nat) (w : World) (hT : Tab w) :
    Calls Tryd.prog 5 #[.int .i64 f, U a, U o] w fun en w' => en = .returned (.bool true) ∧ Below w.heap.size w w' := by
  have hbw : Below w.heap.size w w := Below.refl _ _
  have TB : Hid (Tab w) := hT
  have HX : Hid (f ≠ 32 ∧ f ≠ 64) := ⟨h1, h2⟩
  clear h1 h2 hT
  go_enter Tryd.func5, Tryd.ntmps5
  go_wp2_with fail
  refine (awake7 _ (TB.out.below hbw)).mono ?_
  rintro e v1 ⟨rfl, hb1⟩
  replace hbw := Below.on hbw hb1
  clear hb1
  go_wp2_with fail
  refine (steps_true _).mono ?_
  rintro e v2 ⟨rfl, hb2⟩
  replace hbw := Below.on hbw hb2
  clear hb2
  go_wp2_with fail
  refine (lfin_x f HX.out.1 HX.out.2 a _).mono ?_
  rintro e v3 ⟨rfl, hb3⟩
  replace hbw := Below.on hbw hb3
  clear hb3
  go_wp2_with fail
  go_ret
  exact ⟨rfl, hbw⟩
set_option maxRecDepth 20000 in
set_option maxHeartbeats 8000000 in
theorem binaryNeighbours_f {f p m l : Int} {S I H : Nat} (F : Pm f p m l S I H) (L : Lf f S I) (a o : Nat) (ha : a < B64) (ho : o < B64) (w : World) (hT : Tab w) :
    Calls Tryd.prog 5 #[.int .i64 f, U a, U o] w fun en w' => en = .returned (.bool true) ∧ Below w.heap.size w w' := by
  have hbw : Below w.heap.size w w := Below.refl _ _
  have TB : Hid (Tab w) := hT
  have HF : Hid (Pm f p m l S I H) := F
  have HL : Hid (Lf f S I) := L
  have HA : Hid (a < B64 ∧ o < B64) := ⟨ha, ho⟩
  clear hT F L ha ho
  go_enter Tryd.func5, Tryd.ntmps5
  go_wp2_with fail
  refine (awake7 _ (TB.out.below hbw)).mono ?_
  rintro e v1 ⟨rfl, hb1⟩
  replace hbw := Below.on hbw hb1
  clear hb1
  go_wp2_with fail
  refine (steps_true _).mono ?_
  rintro e v2 ⟨rfl, hb2⟩
  replace hbw := Below.on hbw hb2
  clear hb2
  go_wp2_with fail
  refine (HL.out.fin a _ HA.out.1).mono ?_
  rintro e v3 ⟨rfl, hb3⟩
  replace hbw := Below.on hbw hb3
  clear hb3
  by_cases hfa : a < 2 * S ∧ a % S < I
  · rw [decide_eq_true hfa]
    have HFa : Hid (a < 2 * S ∧ a % S < I) := hfa
    clear hfa
    go_wp2_with fail
    refine (HL.out.fin o _ HA.out.2).mono ?_
    rintro e v4 ⟨rfl, hb4⟩
    replace hbw := Below.on hbw hb4
    clear hb4
    by_cases hfo : o < 2 * S ∧ o % S < I
    · rw [decide_eq_true hfo]
      have HFo : Hid (o < 2 * S ∧ o % S < I) := hfo
      clear hfo
      go_wp2_with fail
      obtain ⟨b, c, d, hnb⟩ := nb_ex HF.out.fm HFa.out.1 HFa.out.2
      have NB : Hid (NbF f S I a b c d) := hnb
      clear hnb
      refine (NB.out.nx _).mono ?_
      rintro e v5 ⟨rfl, hb5⟩
      replace hbw := Below.on hbw hb5
      clear hb5
      go_wp2_with fail
      refine (NB.out.pv _).mono ?_
      rintro e v6 ⟨rfl, hb6⟩
      replace hbw := Below.on hbw hb6
      clear hb6
      by_cases hca : c = a
      · have hb1 : ((c : Int) == (a : Int)) = true := by simp [hca]
        have hb2 : ((c : Int) != (a : Int)) = false := by simp [hca]
        clear hca
        go_wp2_with fail
        clear hb1 hb2
        refine (HL.out.sg _).mono ?_
        rintro e v8 ⟨rfl, hb8⟩
        replace hbw := Below.on hbw hb8
        clear hb8
        have hx1 := HL.out.xr a HFa.out.1
        go_wp2_with fail
        clear hx1
        refine (NB.out.px _).mono ?_
        rintro e v9 ⟨rfl, hb9⟩
        replace hbw := Below.on hbw hb9
        clear hb9
        go_wp2_with fail
        refine (HL.out.sg _).mono ?_
        rintro e v10 ⟨rfl, hb10⟩
        replace hbw := Below.on hbw hb10
        clear hb10
        have hx2 := HL.out.xr b NB.out.b2
        have hd1 : ((d : Int) == ((xsS S b : Nat) : Int)) = true := by rw [NB.out.hd]; simp
        have hd2 : ((d : Int) != ((xsS S b : Nat) : Int)) = false := by rw [NB.out.hd]; simp
        go_wp2_with fail
        clear hx2 hd1 hd2
        obtain ⟨za, ea, hva, _⟩ := vf_ex HF.out HFa.out.2
        obtain ⟨zo, eo, hvo, _⟩ := vf_ex HF.out HFo.out.2
        have VA : Hid (VF S H l a za ea) := hva
        have VO : Hid (VF S H l o zo eo) := hvo
        clear hva hvo
        refine (value_v HF.out HFa.out.1 HFa.out.2 VA.out _ (TB.out.below hbw)).mono ?_
        rintro e2 v11 ⟨v, rfl, hv, hb11⟩
        obtain ⟨s11, p11, m11, rfl, hd11⟩ := hv.dn (VA.out.fm)
        clear hv
        replace hbw := Below.on hbw hb11
        clear hb11
        have D11 : Hid (DN v11 s11 p11 m11 m11 (ea) (za)) := hd11
        clear hd11
        go_wp2_with fail
        have Xv0 : Hid (B3q (v11.alloc (.cells #[.bool s11, .slice p11 m11 m11, .int .i64 (ea)] 36)) v11.heap.size (.bool s11) (.slice p11 m11 m11) (.int .i64 (ea))) := B3q.new v11 _ _ _ _
        have hbn : Below v11.heap.size v11 (v11.alloc (.cells #[.bool s11, .slice p11 m11 m11, .int .i64 (ea)] 36)) := below1 v11 _
        generalize v11.alloc (.cells #[.bool s11, .slice p11 m11 m11, .int .i64 (ea)] 36) = Wv at *
        have HGv : Hid (w.heap.size ≤ v11.heap.size) := hbw.size
        replace D11 : Hid _ := D11.out.below hbn
        replace hbw := Below.on hbw hbn
        clear hbn
        generalize v11.heap.size = gv at *
        have Xv := Xv0
        clear Xv0
        refine (value_v HF.out HFo.out.1 HFo.out.2 VO.out _ (TB.out.below hbw)).mono ?_
        rintro e2 v12 ⟨v, rfl, hv, hb12⟩
        obtain ⟨s12, p12, m12, rfl, hd12⟩ := hv.dn (VO.out.fm)
        clear hv
        replace Xv : Hid _ := Xv.out.below hb12
        replace D11 : Hid _ := D11.out.below hb12
        replace hbw := Below.on hbw hb12
        clear hb12
        have D12 : Hid (DN v12 s12 p12 m12 m12 (eo) (zo)) := hd12
        clear hd12
        obtain ⟨cv0, cv1, cv2, fv0, fv1, fv2⟩ := Xv.out
        have hnev : gv < v12.heap.size := World.block_lt_of_cell? v12 _ cv0
        go_wp2_with fail
        clear cv0 cv1 cv2 fv0 fv1 fv2 hnev
        have Xu0 : Hid (B3q (v12.alloc (.cells #[.bool s12, .slice p12 m12 m12, .int .i64 (eo)] 36)) v12.heap.size (.bool s12) (.slice p12 m12 m12) (.int .i64 (eo))) := B3q.new v12 _ _ _ _
        have hbn : Below v12.heap.size v12 (v12.alloc (.cells #[.bool s12, .slice p12 m12 m12, .int .i64 (eo)] 36)) := below1 v12 _
        generalize v12.alloc (.cells #[.bool s12, .slice p12 m12 m12, .int .i64 (eo)] 36) = Wu at *
        have HGu : Hid (w.heap.size ≤ v12.heap.size) := hbw.size
        replace Xv : Hid _ := Xv.out.below hbn
        replace D11 : Hid _ := D11.out.below hbn
        replace D12 : Hid _ := D12.out.below hbn
        replace hbw := Below.on hbw hbn
        clear hbn
        generalize v12.heap.size = gu at *
        have Xu := Xu0
        clear Xu0
        obtain ⟨k1, hk1⟩ : ∃ k1, k1 = cmpI (dv za ea) (dv zo eo) := ⟨_, rfl⟩
        have HK1 : Hid (cmpI (dv za ea) (dv zo eo) = k1) := hk1.symm
        clear hk1
        refine (dcmp D11.out D12.out).mono ?_
        rintro e v13 ⟨rfl, hb13⟩
        rw [HK1.out]
        replace Xv : Hid _ := Xv.out.below hb13
        replace Xu : Hid _ := Xu.out.below hb13
        replace D11 : Hid _ := D11.out.below hb13
        replace D12 : Hid _ := D12.out.below hb13
        replace hbw := Below.on hbw hb13
        clear hb13
        go_wp2_with fail
        have hbB : b < B64 := Nat.lt_of_lt_of_le NB.out.b2 HL.out.up
        refine (HL.out.fin b _ hbB).mono ?_
        rintro e v14 ⟨rfl, hb14⟩
        replace Xv : Hid _ := Xv.out.below hb14
        replace Xu : Hid _ := Xu.out.below hb14
        replace D11 : Hid _ := D11.out.below hb14
        replace D12 : Hid _ := D12.out.below hb14
        replace hbw := Below.on hbw hb14
        clear hb14
        clear hbB
        by_cases hfb : b < 2 * S ∧ b % S < I
        · rw [decide_eq_true hfb]
          have HFb : Hid (b < 2 * S ∧ b % S < I) := hfb
          clear hfb
          go_wp2_with fail
          obtain ⟨zb, eb, hvb, _⟩ := vf_ex HF.out HFb.out.2
          have VB : Hid (VF S H l b zb eb) := hvb
          clear hvb
          refine (value_v HF.out HFb.out.1 HFb.out.2 VB.out _ (TB.out.below hbw)).mono ?_
          rintro e2 v15 ⟨v, rfl, hv, hb15⟩
          obtain ⟨s15, p15, m15, rfl, hd15⟩ := hv.dn (VB.out.fm)
          clear hv
          replace Xv : Hid _ := Xv.out.below hb15
          replace Xu : Hid _ := Xu.out.below hb15
          replace D11 : Hid _ := D11.out.below hb15
          replace D12 : Hid _ := D12.out.below hb15
          replace hbw := Below.on hbw hb15
          clear hb15
          have D15 : Hid (DN v15 s15 p15 m15 m15 (eb) (zb)) := hd15
          clear hd15
          obtain ⟨cu0, cu1, cu2, fu0, fu1, fu2⟩ := Xu.out
          have hneu : gu < v15.heap.size := World.block_lt_of_cell? v15 _ cu0
          go_wp2_with fail
          clear cu0 cu1 cu2 fu0 fu1 fu2 hneu
          have Xx0 : Hid (B3q (v15.alloc (.cells #[.bool s15, .slice p15 m15 m15, .int .i64 (eb)] 36)) v15.heap.size (.bool s15) (.slice p15 m15 m15) (.int .i64 (eb))) := B3q.new v15 _ _ _ _
          have hbn : Below v15.heap.size v15 (v15.alloc (.cells #[.bool s15, .slice p15 m15 m15, .int .i64 (eb)] 36)) := below1 v15 _
          generalize v15.alloc (.cells #[.bool s15, .slice p15 m15 m15, .int .i64 (eb)] 36) = Wx at *
          have HGx : Hid (w.heap.size ≤ v15.heap.size) := hbw.size
          replace Xv : Hid _ := Xv.out.below hbn
          replace Xu : Hid _ := Xu.out.below hbn
          replace D11 : Hid _ := D11.out.below hbn
          replace D12 : Hid _ := D12.out.below hbn
          replace D15 : Hid _ := D15.out.below hbn
          replace hbw := Below.on hbw hbn
          clear hbn
          generalize v15.heap.size = gx at *
          have Xx := Xx0
          clear Xx0
          obtain ⟨k2, hk2⟩ : ∃ k2, k2 = cmpI (dv zo eo) (dv zb eb) := ⟨_, rfl⟩
          have HK2 : Hid (cmpI (dv zo eo) (dv zb eb) = k2) := hk2.symm
          clear hk2
          obtain ⟨k3, hk3⟩ : ∃ k3, k3 = cmpI (dv za ea) (dv zb eb) := ⟨_, rfl⟩
          have HK3 : Hid (cmpI (dv za ea) (dv zb eb) = k3) := hk3.symm
          clear hk3
          refine (dcmp D12.out D15.out).mono ?_
          rintro e v16 ⟨rfl, hb16⟩
          rw [HK2.out]
          replace Xv : Hid _ := Xv.out.below hb16
          replace Xu : Hid _ := Xu.out.below hb16
          replace Xx : Hid _ := Xx.out.below hb16
          replace D11 : Hid _ := D11.out.below hb16
          replace D12 : Hid _ := D12.out.below hb16
          replace D15 : Hid _ := D15.out.below hb16
          replace hbw := Below.on hbw hb16
          clear hb16
          obtain ⟨cv0, cv1, cv2, fv0, fv1, fv2⟩ := Xv.out
          have hnev : gv < v16.heap.size := World.block_lt_of_cell? v16 _ cv0
          obtain ⟨cx0, cx1, cx2, fx0, fx1, fx2⟩ := Xx.out
          have hnex : gx < v16.heap.size := World.block_lt_of_cell? v16 _ cx0
          go_wp2_with fail
          clear cv0 cv1 cv2 fv0 fv1 fv2 hnev
          clear cx0 cx1 cx2 fx0 fx1 fx2 hnex
          refine (dcmp D11.out D15.out).mono ?_
          rintro e v17 ⟨rfl, hb17⟩
          rw [HK3.out]
          replace Xv : Hid _ := Xv.out.below hb17
          replace Xu : Hid _ := Xu.out.below hb17
          replace Xx : Hid _ := Xx.out.below hb17
          replace D11 : Hid _ := D11.out.below hb17
          replace D12 : Hid _ := D12.out.below hb17
          replace D15 : Hid _ := D15.out.below hb17
          replace hbw := Below.on hbw hb17
          clear hb17
          obtain ⟨ho1, ho2⟩ := (NB.out.order HF.out HFa.out.2 HFo.out.2).1 HFb.out.2
          have h3 : k3 = -1 := by rw [← HK3.out]; exact (cmp_dv VA.out.v VB.out.v).2 ho1
          have h3b : k3 < 0 := by omega
          have h12 : 0 ≤ k1 ∨ 0 ≤ k2 := by
            rcases ho2 with h | h
            · exact .inl (by rw [← HK1.out]; exact (cmp_dv VA.out.v VO.out.v).1 h)
            · exact .inr (by rw [← HK2.out]; exact (cmp_dv VO.out.v VB.out.v).1 h)
          clear ho1 ho2 h3
          by_cases h1 : 0 ≤ k1
          · clear h12
            go_wp2_with fail
            go_ret
            exact ⟨rfl, hbw⟩
          · have h2 : 0 ≤ k2 := by rcases h12 with h | h; (exact absurd h h1); exact h
            clear h12
            go_wp2_with fail
            first | (go_ret; exact ⟨rfl, hbw⟩) | (go_ret; refine ⟨?_, hbw⟩; show Ending.returned (.bool (decide (0 ≤ k2))) = _; rw [decide_eq_true h2])
        · have ho := (NB.out.order HF.out HFa.out.2 HFo.out.2).2 (fun h => hfb ⟨NB.out.b2, h⟩)
          have h1 : 0 ≤ k1 := by rw [← HK1.out]; exact (cmp_dv VA.out.v VO.out.v).1 ho
          rw [decide_eq_false hfb]
          clear hfb ho
          go_wp2_with fail
          first | (go_ret; exact ⟨rfl, hbw⟩) | (go_ret; refine ⟨?_, hbw⟩; show Ending.returned (.bool (decide (0 ≤ k1))) = _; rw [decide_eq_true h1])
      · obtain ⟨hz, hc0⟩ : a % S = 0 ∧ c = 0 := by rcases NB.out.hc with h | h; (exact absurd h hca); exact h
        have hb1 : ((c : Int) == (a : Int)) = false := by simp; omega
        have hb2 : ((c : Int) != (a : Int)) = true := by simp; omega
        have HZ : Hid (a % S = 0) := hz
        have hc1 : ((c : Int) == 0) = true := by simp [hc0]
        clear hca hz hc0
        go_wp2_with fail
        refine (HL.out.sg _).mono ?_
        rintro e v7 ⟨rfl, hb7⟩
        replace hbw := Below.on hbw hb7
        clear hb7
        have hS0 : ((S : Int) == 0) = false := by have := HF.out.fm.lt; have := HF.out.fm.pos; simp; omega
        have hS1 : ¬ (S : Int) = 0 := by have := HF.out.fm.lt; have := HF.out.fm.pos; omega
        have hS2 : ¬ S = 0 := by have := HF.out.fm.lt; have := HF.out.fm.pos; omega
        have hm1 : (a : Int).tmod S = 0 := by rw [Int.tmod_eq_emod_of_nonneg (by omega)]; have := HZ.out; omega
        have hm2 : (a : Int) % S = 0 := by have := HZ.out; omega
        go_wp2_with fail
        clear hb1 hb2 hc1 hS0 hS1 hS2 hm1 hm2
        refine (HL.out.sg _).mono ?_
        rintro e v8 ⟨rfl, hb8⟩
        replace hbw := Below.on hbw hb8
        clear hb8
        have hx1 := HL.out.xr a HFa.out.1
        go_wp2_with fail
        clear hx1
        refine (NB.out.px _).mono ?_
        rintro e v9 ⟨rfl, hb9⟩
        replace hbw := Below.on hbw hb9
        clear hb9
        go_wp2_with fail
        refine (HL.out.sg _).mono ?_
        rintro e v10 ⟨rfl, hb10⟩
        replace hbw := Below.on hbw hb10
        clear hb10
        have hx2 := HL.out.xr b NB.out.b2
        have hd1 : ((d : Int) == ((xsS S b : Nat) : Int)) = true := by rw [NB.out.hd]; simp
        have hd2 : ((d : Int) != ((xsS S b : Nat) : Int)) = false := by rw [NB.out.hd]; simp
        go_wp2_with fail
        clear hx2 hd1 hd2
        obtain ⟨za, ea, hva, _⟩ := vf_ex HF.out HFa.out.2
        obtain ⟨zo, eo, hvo, _⟩ := vf_ex HF.out HFo.out.2
        have VA : Hid (VF S H l a za ea) := hva
        have VO : Hid (VF S H l o zo eo) := hvo
        clear hva hvo
        refine (value_v HF.out HFa.out.1 HFa.out.2 VA.out _ (TB.out.below hbw)).mono ?_
        rintro e2 v11 ⟨v, rfl, hv, hb11⟩
        obtain ⟨s11, p11, m11, rfl, hd11⟩ := hv.dn (VA.out.fm)
        clear hv
        replace hbw := Below.on hbw hb11
        clear hb11
        have D11 : Hid (DN v11 s11 p11 m11 m11 (ea) (za)) := hd11
        clear hd11
        go_wp2_with fail
        have Xv0 : Hid (B3q (v11.alloc (.cells #[.bool s11, .slice p11 m11 m11, .int .i64 (ea)] 36)) v11.heap.size (.bool s11) (.slice p11 m11 m11) (.int .i64 (ea))) := B3q.new v11 _ _ _ _
        have hbn : Below v11.heap.size v11 (v11.alloc (.cells #[.bool s11, .slice p11 m11 m11, .int .i64 (ea)] 36)) := below1 v11 _
        generalize v11.alloc (.cells #[.bool s11, .slice p11 m11 m11, .int .i64 (ea)] 36) = Wv at *
        have HGv : Hid (w.heap.size ≤ v11.heap.size) := hbw.size
        replace D11 : Hid _ := D11.out.below hbn
        replace hbw := Below.on hbw hbn
        clear hbn
        generalize v11.heap.size = gv at *
        have Xv := Xv0
        clear Xv0
        refine (value_v HF.out HFo.out.1 HFo.out.2 VO.out _ (TB.out.below hbw)).mono ?_
        rintro e2 v12 ⟨v, rfl, hv, hb12⟩
        obtain ⟨s12, p12, m12, rfl, hd12⟩ := hv.dn (VO.out.fm)
        clear hv
        replace Xv : Hid _ := Xv.out.below hb12
        replace D11 : Hid _ := D11.out.below hb12
        replace hbw := Below.on hbw hb12
        clear hb12
        have D12 : Hid (DN v12 s12 p12 m12 m12 (eo) (zo)) := hd12
        clear hd12
        obtain ⟨cv0, cv1, cv2, fv0, fv1, fv2⟩ := Xv.out
        have hnev : gv < v12.heap.size := World.block_lt_of_cell? v12 _ cv0
        go_wp2_with fail
        clear cv0 cv1 cv2 fv0 fv1 fv2 hnev
        have Xu0 : Hid (B3q (v12.alloc (.cells #[.bool s12, .slice p12 m12 m12, .int .i64 (eo)] 36)) v12.heap.size (.bool s12) (.slice p12 m12 m12) (.int .i64 (eo))) := B3q.new v12 _ _ _ _
        have hbn : Below v12.heap.size v12 (v12.alloc (.cells #[.bool s12, .slice p12 m12 m12, .int .i64 (eo)] 36)) := below1 v12 _
        generalize v12.alloc (.cells #[.bool s12, .slice p12 m12 m12, .int .i64 (eo)] 36) = Wu at *
        have HGu : Hid (w.heap.size ≤ v12.heap.size) := hbw.size
        replace Xv : Hid _ := Xv.out.below hbn
        replace D11 : Hid _ := D11.out.below hbn
        replace D12 : Hid _ := D12.out.below hbn
        replace hbw := Below.on hbw hbn
        clear hbn
        generalize v12.heap.size = gu at *
        have Xu := Xu0
        clear Xu0
        obtain ⟨k1, hk1⟩ : ∃ k1, k1 = cmpI (dv za ea) (dv zo eo) := ⟨_, rfl⟩
        have HK1 : Hid (cmpI (dv za ea) (dv zo eo) = k1) := hk1.symm
        clear hk1
        refine (dcmp D11.out D12.out).mono ?_
        rintro e v13 ⟨rfl, hb13⟩
        rw [HK1.out]
        replace Xv : Hid _ := Xv.out.below hb13
        replace Xu : Hid _ := Xu.out.below hb13
        replace D11 : Hid _ := D11.out.below hb13
        replace D12 : Hid _ := D12.out.below hb13
        replace hbw := Below.on hbw hb13
        clear hb13
        go_wp2_with fail
        have hbB : b < B64 := Nat.lt_of_lt_of_le NB.out.b2 HL.out.up
        refine (HL.out.fin b _ hbB).mono ?_
        rintro e v14 ⟨rfl, hb14⟩
        replace Xv : Hid _ := Xv.out.below hb14
        replace Xu : Hid _ := Xu.out.below hb14
        replace D11 : Hid _ := D11.out.below hb14
        replace D12 : Hid _ := D12.out.below hb14
        replace hbw := Below.on hbw hb14
        clear hb14
        clear hbB
        by_cases hfb : b < 2 * S ∧ b % S < I
        · rw [decide_eq_true hfb]
          have HFb : Hid (b < 2 * S ∧ b % S < I) := hfb
          clear hfb
          go_wp2_with fail
          obtain ⟨zb, eb, hvb, _⟩ := vf_ex HF.out HFb.out.2
          have VB : Hid (VF S H l b zb eb) := hvb
          clear hvb
          refine (value_v HF.out HFb.out.1 HFb.out.2 VB.out _ (TB.out.below hbw)).mono ?_
          rintro e2 v15 ⟨v, rfl, hv, hb15⟩
          obtain ⟨s15, p15, m15, rfl, hd15⟩ := hv.dn (VB.out.fm)
          clear hv
          replace Xv : Hid _ := Xv.out.below hb15
          replace Xu : Hid _ := Xu.out.below hb15
          replace D11 : Hid _ := D11.out.below hb15
          replace D12 : Hid _ := D12.out.below hb15
          replace hbw := Below.on hbw hb15
          clear hb15
          have D15 : Hid (DN v15 s15 p15 m15 m15 (eb) (zb)) := hd15
          clear hd15
          obtain ⟨cu0, cu1, cu2, fu0, fu1, fu2⟩ := Xu.out
          have hneu : gu < v15.heap.size := World.block_lt_of_cell? v15 _ cu0
          go_wp2_with fail
          clear cu0 cu1 cu2 fu0 fu1 fu2 hneu
          have Xx0 : Hid (B3q (v15.alloc (.cells #[.bool s15, .slice p15 m15 m15, .int .i64 (eb)] 36)) v15.heap.size (.bool s15) (.slice p15 m15 m15) (.int .i64 (eb))) := B3q.new v15 _ _ _ _
          have hbn : Below v15.heap.size v15 (v15.alloc (.cells #[.bool s15, .slice p15 m15 m15, .int .i64 (eb)] 36)) := below1 v15 _
          generalize v15.alloc (.cells #[.bool s15, .slice p15 m15 m15, .int .i64 (eb)] 36) = Wx at *
          have HGx : Hid (w.heap.size ≤ v15.heap.size) := hbw.size
          replace Xv : Hid _ := Xv.out.below hbn
          replace Xu : Hid _ := Xu.out.below hbn
          replace D11 : Hid _ := D11.out.below hbn
          replace D12 : Hid _ := D12.out.below hbn
          replace D15 : Hid _ := D15.out.below hbn
          replace hbw := Below.on hbw hbn
          clear hbn
          generalize v15.heap.size = gx at *
          have Xx := Xx0
          clear Xx0
          obtain ⟨k2, hk2⟩ : ∃ k2, k2 = cmpI (dv zo eo) (dv zb eb) := ⟨_, rfl⟩
          have HK2 : Hid (cmpI (dv zo eo) (dv zb eb) = k2) := hk2.symm
          clear hk2
          obtain ⟨k3, hk3⟩ : ∃ k3, k3 = cmpI (dv za ea) (dv zb eb) := ⟨_, rfl⟩
          have HK3 : Hid (cmpI (dv za ea) (dv zb eb) = k3) := hk3.symm
          clear hk3
          refine (dcmp D12.out D15.out).mono ?_
          rintro e v16 ⟨rfl, hb16⟩
          rw [HK2.out]
          replace Xv : Hid _ := Xv.out.below hb16
          replace Xu : Hid _ := Xu.out.below hb16
          replace Xx : Hid _ := Xx.out.below hb16
          replace D11 : Hid _ := D11.out.below hb16
          replace D12 : Hid _ := D12.out.below hb16
          replace D15 : Hid _ := D15.out.below hb16
          replace hbw := Below.on hbw hb16
          clear hb16
          obtain ⟨cv0, cv1, cv2, fv0, fv1, fv2⟩ := Xv.out
          have hnev : gv < v16.heap.size := World.block_lt_of_cell? v16 _ cv0
          obtain ⟨cx0, cx1, cx2, fx0, fx1, fx2⟩ := Xx.out
          have hnex : gx < v16.heap.size := World.block_lt_of_cell? v16 _ cx0
          go_wp2_with fail
          clear cv0 cv1 cv2 fv0 fv1 fv2 hnev
          clear cx0 cx1 cx2 fx0 fx1 fx2 hnex
          refine (dcmp D11.out D15.out).mono ?_
          rintro e v17 ⟨rfl, hb17⟩
          rw [HK3.out]
          replace Xv : Hid _ := Xv.out.below hb17
          replace Xu : Hid _ := Xu.out.below hb17
          replace Xx : Hid _ := Xx.out.below hb17
          replace D11 : Hid _ := D11.out.below hb17
          replace D12 : Hid _ := D12.out.below hb17
          replace D15 : Hid _ := D15.out.below hb17
          replace hbw := Below.on hbw hb17
          clear hb17
          obtain ⟨ho1, ho2⟩ := (NB.out.order HF.out HFa.out.2 HFo.out.2).1 HFb.out.2
          have h3 : k3 = -1 := by rw [← HK3.out]; exact (cmp_dv VA.out.v VB.out.v).2 ho1
          have h3b : k3 < 0 := by omega
          have h12 : 0 ≤ k1 ∨ 0 ≤ k2 := by
            rcases ho2 with h | h
            · exact .inl (by rw [← HK1.out]; exact (cmp_dv VA.out.v VO.out.v).1 h)
            · exact .inr (by rw [← HK2.out]; exact (cmp_dv VO.out.v VB.out.v).1 h)
          clear ho1 ho2 h3
          by_cases h1 : 0 ≤ k1
          · clear h12
            go_wp2_with fail
            go_ret
            exact ⟨rfl, hbw⟩
          · have h2 : 0 ≤ k2 := by rcases h12 with h | h; (exact absurd h h1); exact h
            clear h12
            go_wp2_with fail
            first | (go_ret; exact ⟨rfl, hbw⟩) | (go_ret; refine ⟨?_, hbw⟩; show Ending.returned (.bool (decide (0 ≤ k2))) = _; rw [decide_eq_true h2])
        · have ho := (NB.out.order HF.out HFa.out.2 HFo.out.2).2 (fun h => hfb ⟨NB.out.b2, h⟩)
          have h1 : 0 ≤ k1 := by rw [← HK1.out]; exact (cmp_dv VA.out.v VO.out.v).1 ho
          rw [decide_eq_false hfb]
          clear hfb ho
          go_wp2_with fail
          first | (go_ret; exact ⟨rfl, hbw⟩) | (go_ret; refine ⟨?_, hbw⟩; show Ending.returned (.bool (decide (0 ≤ k1))) = _; rw [decide_eq_true h1])
    · rw [decide_eq_false hfo]
      clear hfo
      go_wp2_with fail
      go_ret
      exact ⟨rfl, hbw⟩
  · rw [decide_eq_false hfa]
    clear hfa
    go_wp2_with fail
    go_ret
    exact ⟨rfl, hbw⟩
theorem binaryNeighbours_w (f : Int) (a o : Nat) (ha : a < B64) (ho : o < B64) (w : World) (hT : Tab w) :
    Calls Tryd.prog 5 #[.int .i64 f, U a, U o] w fun en w' => en = .returned (.bool true) ∧ Below w.heap.size w w' := by
  by_cases h1 : f = 32
  · subst h1; exact binaryNeighbours_f pm_32 lf_32 a o ha ho w hT
  by_cases h2 : f = 64
  · subst h2; exact binaryNeighbours_f pm_64 lf_64 a o ha ho w hT
  exact binaryNeighbours_x f h1 h2 a o w hT
end Go.Proofs.YtkbjehhabklnpaaDoor

