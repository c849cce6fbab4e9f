import Derived.Shelf.Spec.TrailingZeros
import Derived.Test.YthfkkcfjneppmaaDoorJ11
import Derived.Test.YthfkkcfjneppmaaDoorJ8
import Derived.Test.YthfkkcfjneppmaaDoorJ10
import Derived.Test.YthfkkcfjneppmaaDoorJ9
import Derived.Laws.ResultCell
import Derived.Deep.RegionWith
import Derived.Deep.DeepCutAuto
import Derived.Deep.LoopGhost
import Derived.Laws.Cover1
import Derived.Deep.RegionLaw
namespace Go.Proofs.YthfkkcfjneppmaaDoor
open Go.RowKit Go.Shelf
set_option maxRecDepth 20000
set_option maxHeartbeats 0
def qTzIs (v k : Nat) : Prop := v % 2 ^ k = 0 ∧ v / 2 ^ k % 2 = 1
theorem qTzIs.inj {v k l : Nat} (h : qTzIs v k) (h' : qTzIs v l) : k = l := by
  have aux : ∀ {a b : Nat}, qTzIs v a → qTzIs v b → ¬ a < b := by
    intro a b ha hb hab
    obtain ⟨d, hd⟩ : ∃ d, b = a + (d + 1) := ⟨b - a - 1, by omega⟩
    have h1 := Nat.dvd_of_mod_eq_zero hb.1
    obtain ⟨q, hq⟩ := h1
    have h2 := ha.2
    rw [hq, hd, Nat.pow_add, Nat.mul_assoc, Nat.mul_div_cancel_left _ (Nat.pow_pos (by decide)), Nat.pow_succ, Nat.mul_comm (2 ^ d) 2, Nat.mul_assoc, Nat.mul_mod_right] at h2
    exact absurd h2 (by decide)
  rcases Nat.lt_trichotomy k l with e | e | e
  · exact absurd e (aux h h')
  · exact e
  · exact absurd e (aux h' h)
def qrenTz : Ren := ⟨fun x => match x with | 29 => 14 | n => n, fun x => match x with | 0 => 0 | 3 => 3 | 4 => 4 | 5 => 5 | 22 => 26 | 25 => 79 | 54 => 78 | n => n, fun x => match x with | 1 => 0 | n => n⟩
theorem qlaysTz : Lays7.n29 Tryd.prog qrenTz :=
  { mixed := by kernel_rfl, f29 := Tryd.func14.trans (congrArg some (by kernel_rfl)),
    t0 := by kernel_rfl, a0 := fun w => by kernel_rfl, z0 := fun w => by kernel_rfl, v0 := fun w => by kernel_rfl, i0 := by kernel_rfl,
    t3 := Tryd.underlying3, a3 := Tryd.isAgg3, z3 := Tryd.sizeOf3, v3 := Tryd.zeroValue3, i3 := by kernel_rfl,
    t4 := Tryd.underlying4, a4 := Tryd.isAgg4, z4 := Tryd.sizeOf4, v4 := Tryd.zeroValue4, i4 := by kernel_rfl,
    t5 := Tryd.underlying5, a5 := Tryd.isAgg5, z5 := Tryd.sizeOf5, v5 := Tryd.zeroValue5, i5 := by kernel_rfl,
    t22 := Tryd.underlying26, a22 := Tryd.isAgg26, z22 := Tryd.sizeOf26, v22 := Tryd.zeroValue26, i22 := by kernel_rfl,
    t25 := Tryd.underlying79, a25 := Tryd.isAgg79, z25 := Tryd.sizeOf79, v25 := Tryd.zeroValue79, i25 := by kernel_rfl,
    t54 := Tryd.underlying78, a54 := Tryd.isAgg78, z54 := Tryd.sizeOf78, g1 := by kernel_rfl }

def qTab (w : World) : Prop := TabAt 0 Lib.deBruijn64tab w
theorem qTab.below {w w' : World} (h : qTab w) (hb : Below w.heap.size w w') : qTab w' := by
  intro j hj
  have h1 := h j hj
  have hl : 0 < w.heap.size := World.block_lt_of_cell? w _ h1
  exact (hb.cell (p := ⟨0, j, none⟩) hl).trans h1
theorem qctz_is {x : Nat} (h0 : x ≠ 0) (hx : x < B64) : qTzIs x (Lib.ctz 64 x) ∧ Lib.ctz 64 x < 64 := by
  rw [(show B64 = 2 ^ 64 from rfl)] at hx
  unfold Lib.ctz
  rw [if_neg h0]
  obtain ⟨m, hm, hk⟩ := Lib.ctzFrom_spec 64 x (by omega) hx
  generalize Lib.ctzFrom 64 x = k at *
  refine ⟨⟨?_, ?_⟩, hk⟩
  · rw [hm, Nat.mul_mod_right]
  · rw [hm, Nat.mul_div_cancel_left _ (Nat.pow_pos (by decide))]; omega
theorem qtz_any {x r : Nat} (h0 : x ≠ 0) (hx : x < B64) (hr : qTzIs x r) {w : World} (hT : qTab w) : Calls Tryd.prog 14 #[U x] w fun e w' => e = .returned (.int .i64 r) ∧ w' = w := by
  obtain ⟨h1, _⟩ := qctz_is h0 hx
  obtain rfl := hr.inj h1
  exact Any7.bits_TrailingZeros64 qlaysTz x (by rw [B64_eq] at hx; exact hx) w (fun _ => hT)

theorem qsigned_64 (neg : Bool) (s : Nat) (hs : s < 9223372036854775808) (w : World) : Calls Tryd.prog 12 #[WV 64 53 (-1074), .bool neg, U s] w fun e w' => e = .returned (U (if neg then 9223372036854775808 + s else s)) ∧ Below w.heap.size w w' := by
  have e1 : bits BinOp.or IntKind.u64 9223372036854775808 (s : Int) = _ := sign_or s 9223372036854775808 63 (by decide) (by decide) hs
  obtain ⟨r, hr⟩ : ∃ r, r = 9223372036854775808 + s := ⟨_, rfl⟩
  rw [← hr] at e1 ⊢
  clear hr hs
  cases neg
  · clear e1
    go_enter Tryd.func12, Tryd.ntmps12
    go_wp2_with fail
    go_ret
    exact ⟨rfl, bwAlloc w _⟩
  · go_enter Tryd.func12, Tryd.ntmps12
    go_wp2_with fail
    refine (sign_64 _).mono ?_
    rintro e w1 ⟨rfl, hb1⟩
    have HB1 : Hid (Below w.heap.size w w1) := bwOn (bwAlloc w _) hb1
    clear hb1
    go_wp2_with fail
    go_ret
    exact ⟨rfl, HB1.out⟩
theorem join_norm (neg : Bool) (man t mo L q : Nat) (exp top : Int) (hm0 : man ≠ 0) (hm9 : man < B64) (ht : qTzIs man t) (hmo : mo = man / 2 ^ t) (hL : L = bl_bitsN mo) (hL53 : L ≤ 53) (htop : top = exp + t + L - 1) (h1 : -1022 ≤ top) (h2 : top < 1024) (hex : -1137 ≤ exp) (hex2 : exp < 1024) (ht64 : t < 64) (hq : (q : Int) = top + 1022)
    (w : World) (hT : qTab w) : Calls Tryd.prog 6 #[.int .i64 64, .bool neg, U man, .int .i64 exp] w fun e w' => e = .returned (.tuple #[U (if neg then 9223372036854775808 + (q * 4503599627370496 + mo * 2 ^ (53 - L)) else q * 4503599627370496 + mo * 2 ^ (53 - L)), .int .i64 0]) ∧ Below w.heap.size w w' := by
  have hmb : ((man : Int) == 0) = false := by simp; omega
  obtain ⟨ex2, hex3⟩ : ∃ ex2 : Int, ex2 = exp + t := ⟨_, rfl⟩
  obtain ⟨s1, hs1⟩ : ∃ s1 : Int, s1 = ex2 + L := ⟨_, rfl⟩
  obtain ⟨un, hun⟩ : ∃ un : Int, un = top - 52 := ⟨_, rfl⟩
  obtain ⟨sf, hsf⟩ : ∃ sf : Nat, sf = 53 - L := ⟨_, rfl⟩
  obtain ⟨y, hy⟩ : ∃ y : Nat, y = mo * 2 ^ sf := ⟨_, rfl⟩
  obtain ⟨r, hr⟩ : ∃ r : Nat, r = (if neg then 9223372036854775808 + (q * 4503599627370496 + y) else q * 4503599627370496 + y) := ⟨_, rfl⟩
  rw [← hsf, ← hy, ← hr]
  have hyl : y < 9007199254740992 := by
    have hA := bl_bitsN_lt mo
    rw [← hL] at hA
    have hB : mo * 2 ^ sf < 2 ^ L * 2 ^ sf := Nat.mul_lt_mul_of_pos_right hA (Nat.two_pow_pos _)
    rw [← Nat.pow_add, show L + sf = 53 by omega] at hB
    rw [hy]
    exact Nat.lt_of_lt_of_le hB (by decide)
  have hmo9 : mo < B64 := by rw [hmo]; exact Nat.lt_of_le_of_lt (Nat.div_le_self _ _) hm9
  have a1 : (man : Int) / 2 ^ t = (mo : Int) := by rw [hmo]; simp
  have a2 : IntKind.i64.wrap (exp + (t : Int)) = ex2 := by rw [hex3]; simp [IntKind.wrap, IntKind.signed, IntKind.bits]; omega
  have a3 : IntKind.i64.wrap (ex2 + (L : Int)) = s1 := by rw [hs1]; simp [IntKind.wrap, IntKind.signed, IntKind.bits]; omega
  have a4 : IntKind.i64.wrap (s1 - 1) = top := by simp [IntKind.wrap, IntKind.signed, IntKind.bits]; omega
  have a5 : IntKind.i64.wrap (ex2 - un) = (sf : Int) := by simp [IntKind.wrap, IntKind.signed, IntKind.bits]; omega
  have a6 : IntKind.u64.wrap ((mo : Int) * 2 ^ sf) = (y : Int) := by
    have hyc : ((mo : Int) * 2 ^ sf) = (y : Int) := by rw [hy]; simp
    rw [hyc, IntKind.wrap_u64]; omega
  have c1 : decide (exp < -1137) = false := decide_eq_false (by omega)
  have c2 : decide (1024 ≤ exp) = false := decide_eq_false (by omega)
  have c3 : decide (ex2 < un) = false := decide_eq_false (by omega)
  have c4 : decide (1024 ≤ top) = false := decide_eq_false (by omega)
  have hsf64 : sf < 64 := by omega
  have HUN : Hid (un = top - 52) := hun
  have HUQ : Hid (un = (q : Int) - 1074) := by show _ = _; omega
  have HQ2 : Hid (q < 2048) := by show _ < _; omega
  have HT1 : Hid (-1022 ≤ top ∧ top ≤ 5000) := ⟨h1, by omega⟩
  have HYL : Hid (y < 9007199254740992) := hyl
  have HQY : Hid (q * 4503599627370496 + y < 9223372036854775808) := by show _ < _; omega
  have HR : Hid (r = (if neg then 9223372036854775808 + (q * 4503599627370496 + y) else q * 4503599627370496 + y)) := hr
  have HMO9 : Hid (mo < B64) := hmo9
  have HL : Hid (L = bl_bitsN mo) := hL
  have HM9 : Hid (man < B64) := hm9
  have HT0 : Hid (qTab w) := hT
  have HTZ : Hid (qTzIs man t) := ht
  have HM0 : Hid (man ≠ 0) := hm0
  clear hq htop hL hmo hm9 hT ht hm0 hex3 hs1 hun hsf hy hr hyl hmo9 h1 h2 hex hex2 hL53
  go_enter Tryd.func6, Tryd.ntmps6
  go_wp2_with fail
  refine (of_64 _).mono ?_
  rintro e w1 ⟨rfl, hb1⟩
  go_wp2_with fail
  clear c1
  have X := B3.new (w1) 47 (.int .i64 64) (.int .i64 53) (.int .i64 (-1074))
  have hb2 := bwAlloc (w1) (.cells #[.int .i64 64, .int .i64 53, .int .i64 (-1074)] 47)
  generalize (w1).alloc (.cells #[.int .i64 64, .int .i64 53, .int .i64 (-1074)] 47) = W at *
  obtain ⟨g, hg⟩ : ∃ g, g = (w1).heap.size := ⟨_, rfl⟩
  have HGg : Hid ((w1).heap.size ≤ g) := by show _ ≤ _; omega
  rw [← hg] at X ⊢
  clear hg
  have hbx := bwOn hb1 hb2
  have HTW : Hid (qTab W) := HT0.out.below hbx
  have HBW : Hid (Below w.heap.size w W) := hbx
  clear hb1 hb2 hbx HT0
  refine (beyond_64 _).mono ?_
  rintro e w3 ⟨rfl, hb3⟩
  have X3 : Hid (B3 w3 g (.int .i64 64) (.int .i64 53) (.int .i64 (-1074))) := X.below hb3
  have HT3 : Hid (qTab w3) := HTW.out.below hb3
  have HB3 : Hid (Below w.heap.size w w3) := bwOn HBW.out hb3
  clear hb3 X HTW HBW
  go_wp2_with fail
  clear c2
  refine (qtz_any HM0.out HM9.out HTZ.out HT3.out).mono ?_
  rintro e w4 ⟨rfl, hw⟩
  obtain rfl := hw.symm
  clear hw
  go_wp2_with fail
  refine (bl_len_any mo _ HMO9.out).mono ?_
  rintro e w4 ⟨rfl, hw⟩
  rw [← HL.out]
  obtain rfl := hw.symm
  clear hw
  obtain ⟨x0, x1, x2, x3, x4, x5⟩ := X3.out
  go_wp2_with fail
  refine (unit_64 top HT1.out.1 HT1.out.2 _).mono ?_
  rintro e w5 ⟨rfl, hb5⟩
  rw [← HUN.out]
  have X5 : Hid (B3 w5 g (.int .i64 64) (.int .i64 53) (.int .i64 (-1074))) := X3.out.below hb5
  have HB5 : Hid (Below w.heap.size w w5) := bwOn HB3.out hb5
  clear hb5 HT3 HB3 x0 x1 x2 x3 x4 x5 X3 a1 a2 a3 a4
  obtain ⟨x0, x1, x2, x3, x4, x5⟩ := X5.out
  go_wp2_with fail
  refine (beyond_64 _).mono ?_
  rintro e w6 ⟨rfl, hb6⟩
  have X6 : Hid (B3 w6 g (.int .i64 64) (.int .i64 53) (.int .i64 (-1074))) := X5.out.below hb6
  have HB6 : Hid (Below w.heap.size w w6) := bwOn HB5.out hb6
  clear hb6 HB5 x0 x1 x2 x3 x4 x5 X5 c3
  obtain ⟨x0, x1, x2, x3, x4, x5⟩ := X6.out
  go_wp2_with fail
  clear x0 x1 x2 x3 x4 x5 c4
  have X7 : Hid (B3 w6.drew g (.int .i64 64) (.int .i64 53) (.int .i64 (-1074))) := X6.out.drew
  have HB7 : Hid (Below w.heap.size w w6.drew) := bwDrew HB6.out
  refine wp_region_J (fun W' => B3 W' g (.int .i64 64) (.int .i64 53) (.int .i64 (-1074))) (by kernel_rfl) ?_
  refine wpJ_take (i := 0) (v := ?v1x0) rfl (by kernel_rfl) (by kernel_rfl) (by kernel_rfl) (fun _ _ _ h => h) (by rfl) ?hy1x0 X7.out ?rest1x0
  case hy1x0 => (intro W' hJ; obtain ⟨x0, x1, x2, x3, x4, x5⟩ := hJ; go_simp; first | done | with_reducible rfl)
  refine wpJ_take (i := 1) (v := ?v2x1) rfl (by kernel_rfl) (by kernel_rfl) (by kernel_rfl) (fun _ _ _ h => h) (by rfl) ?hy2x1 X7.out ?rest2x1
  case hy2x1 => (intro W' hJ; obtain ⟨x0, x1, x2, x3, x4, x5⟩ := hJ; go_simp; first | done | with_reducible rfl)
  refine wpJ_take (i := 2) (v := ?v3x2) rfl (by kernel_rfl) (by kernel_rfl) (by kernel_rfl) (fun _ _ _ h => h) (by rfl) ?hy3x2 X7.out ?rest3x2
  case hy3x2 => (intro W' hJ; obtain ⟨x0, x1, x2, x3, x4, x5⟩ := hJ; go_simp; first | done | with_reducible rfl)
  refine wpJ_take (i := 3) (v := ?v4x3) rfl (by kernel_rfl) (by kernel_rfl) (by kernel_rfl) (fun _ _ _ h => h) (by rfl) ?hy4x3 X7.out ?rest4x3
  case hy4x3 => (intro W' hJ; obtain ⟨x0, x1, x2, x3, x4, x5⟩ := hJ; go_simp; first | done | with_reducible rfl)
  refine wpJ_take (i := 4) (v := ?v5x4) rfl (by kernel_rfl) (by kernel_rfl) (by kernel_rfl) (fun _ _ _ h => h) (by rfl) ?hy5x4 X7.out ?rest5x4
  case hy5x4 => (intro W' hJ; obtain ⟨x0, x1, x2, x3, x4, x5⟩ := hJ; go_simp; first | done | with_reducible rfl)
  refine wpJ_take (i := 5) (v := ?v6x5) rfl (by kernel_rfl) (by kernel_rfl) (by kernel_rfl) (fun _ _ _ h => h) (by rfl) ?hy6x5 X7.out ?rest6x5
  case hy6x5 => (intro W' hJ; obtain ⟨x0, x1, x2, x3, x4, x5⟩ := hJ; go_simp; first | done | with_reducible rfl)
  refine wpJ_take (i := 6) (v := ?v7x6) rfl (by kernel_rfl) (by kernel_rfl) (by kernel_rfl) (fun _ _ _ h => h) (by rfl) ?hy7x6 X7.out ?rest7x6
  case hy7x6 => (intro W' hJ; obtain ⟨x0, x1, x2, x3, x4, x5⟩ := hJ; go_simp; first | done | with_reducible rfl)
  refine wpJ_take (i := 7) (v := ?v8x7) rfl (by kernel_rfl) (by kernel_rfl) (by kernel_rfl) (fun _ _ _ h => h) (by rfl) ?hy8x7 X7.out ?rest8x7
  case hy8x7 => (intro W' hJ; obtain ⟨x0, x1, x2, x3, x4, x5⟩ := hJ; go_simp; first | done | with_reducible rfl)
  refine wpJ_take (i := 8) (v := ?v9x8) rfl (by kernel_rfl) (by kernel_rfl) (by kernel_rfl) (fun _ _ _ h => h) (by rfl) ?hy9x8 X7.out ?rest9x8
  case hy9x8 => (intro W' hJ; obtain ⟨x0, x1, x2, x3, x4, x5⟩ := hJ; go_simp; first | done | with_reducible rfl)
  refine wpJ_on 9 rfl fun K hK => ?_
  go_simp
  refine (size_64 y q un HUQ.out HQ2.out (Nat.le_of_lt HYL.out) _).mono ?_
  rintro e w8 ⟨rfl, hb8⟩
  have X8 : Hid (B3 w8 g (.int .i64 64) (.int .i64 53) (.int .i64 (-1074))) := X7.out.below hb8
  have HB8 : Hid (Below w.heap.size w w8) := bwOn HB7.out hb8
  clear hb8
  refine hK _ _ X8.out ?_
  clear hK
  refine wpJ_on 10 rfl fun K hK => ?_
  go_simp
  refine (qsigned_64 neg (q * 4503599627370496 + y) HQY.out _).mono ?_
  rintro e w9 ⟨rfl, hb9⟩
  rw [← HR.out]
  have X9 : Hid (B3 w9 g (.int .i64 64) (.int .i64 53) (.int .i64 (-1074))) := X8.out.below hb9
  have HB9 : Hid (Below w.heap.size w w9) := bwOn HB8.out hb9
  clear hb9
  refine hK _ _ X9.out ?_
  clear hK
  refine wpJ_take (i := 11) (v := ?v10x11) rfl (by kernel_rfl) (by kernel_rfl) (by kernel_rfl) (fun _ _ _ h => h) (by rfl) ?hy10x11 X9.out ?rest10x11
  case hy10x11 => (intro W' hJ; obtain ⟨x0, x1, x2, x3, x4, x5⟩ := hJ; go_simp; first | done | with_reducible rfl)
  refine wpJ_take (i := 12) (v := ?v11x12) rfl (by kernel_rfl) (by kernel_rfl) (by kernel_rfl) (fun _ _ _ h => h) (by rfl) ?hy11x12 X9.out ?rest11x12
  case hy11x12 => (intro W' hJ; obtain ⟨x0, x1, x2, x3, x4, x5⟩ := hJ; go_simp; first | done | with_reducible rfl)
  refine wpJ_done (by kernel_rfl) ?_ _
  go_wp2_with fail
  go_ret2
  exact ⟨rfl, HB9.out⟩
end Go.Proofs.YthfkkcfjneppmaaDoor
namespace Go.Proofs.YthfkkcfjneppmaaDoor
open Go.RowKit
set_option maxRecDepth 20000
set_option maxHeartbeats 0
theorem wquiet_32 (w : World) : Calls Tryd.prog 80 #[WV 32 24 (-149)] w fun e w' => e = .returned (.int .u64 2143289345) ∧ Below w.heap.size w w' := by
  go_enter Tryd.func80, Tryd.ntmps80
  go_wp2_with fail
  have X0 : B3 (w.alloc (.cells #[.int .i64 32, .int .i64 24, .int .i64 (-149)] 47)) w.heap.size (.int .i64 32) (.int .i64 24) (.int .i64 (-149)) := B3.new ..
  have hb0 : Below w.heap.size w (w.alloc (.cells #[.int .i64 32, .int .i64 24, .int .i64 (-149)] 47)) := bwAlloc w _
  generalize w.alloc (.cells #[.int .i64 32, .int .i64 24, .int .i64 (-149)] 47) = W at *
  obtain ⟨g, hg⟩ : ∃ g, g = w.heap.size := ⟨_, rfl⟩
  have HG : Hid (w.heap.size ≤ g) := by show _ ≤ _; omega
  rw [← hg] at X0 ⊢
  clear hg
  have XB : Hid (B3 W.drew g (.int .i64 32) (.int .i64 24) (.int .i64 (-149))) := ⟨X0.c0, X0.c1, X0.c2, X0.f0, X0.f1, X0.f2⟩
  have HBW : Hid (Below w.heap.size w W.drew) := bwDrew hb0
  obtain ⟨c0, c1, c2, c3, c4, c5⟩ := X0
  have hwr : IntKind.i64.wrap 22 = 22 := by decide
  clear hb0
  go_region_with (first
      | (go_at_call 35; (with_reducible refine (infinity_32 _).mono ?_); rintro e w1 ⟨rfl, hb1⟩; obtain ⟨d0, d1, d2, d3, d4, d5⟩ := XB.out.below hb1; have HBW1 : Hid (Below w.heap.size w w1) := bwOn HBW.out hb1; clear hb1)
      | (go_at_call 36; (with_reducible refine (stored_32 _).mono ?_); rintro e w2 ⟨rfl, hb2⟩; have HBW2 : Hid (Below w.heap.size w w2) := bwOn HBW1.out hb2; clear hb2))
  all_goals
    (go_wp2_with fail
     go_ret
     exact ⟨rfl, HBW2.out⟩)
theorem quiet_32 (w : World) : Calls Tryd.prog 55 #[.int .i64 32] w fun e w' => e = .returned (.tuple #[.int .u64 2143289345, .int .i64 0]) ∧ Below w.heap.size w w' := by
  go_enter Tryd.func55, Tryd.ntmps55
  go_wp2_with fail
  refine (of_32 _).mono ?_
  rintro e w1 ⟨rfl, hb1⟩
  go_wp2_with fail
  refine (wquiet_32 _).mono ?_
  rintro e w2 ⟨rfl, hb2⟩
  have hbw := bwOn (bwOn hb1 (bwAlloc w1 _)) hb2
  clear hb1 hb2
  go_wp2_with fail
  go_ret2
  exact ⟨rfl, hbw⟩
theorem wquiet_64 (w : World) : Calls Tryd.prog 80 #[WV 64 53 (-1074)] w fun e w' => e = .returned (.int .u64 9221120237041090561) ∧ Below w.heap.size w w' := by
  go_enter Tryd.func80, Tryd.ntmps80
  go_wp2_with fail
  have X0 : B3 (w.alloc (.cells #[.int .i64 64, .int .i64 53, .int .i64 (-1074)] 47)) w.heap.size (.int .i64 64) (.int .i64 53) (.int .i64 (-1074)) := B3.new ..
  have hb0 : Below w.heap.size w (w.alloc (.cells #[.int .i64 64, .int .i64 53, .int .i64 (-1074)] 47)) := bwAlloc w _
  generalize w.alloc (.cells #[.int .i64 64, .int .i64 53, .int .i64 (-1074)] 47) = W at *
  obtain ⟨g, hg⟩ : ∃ g, g = w.heap.size := ⟨_, rfl⟩
  have HG : Hid (w.heap.size ≤ g) := by show _ ≤ _; omega
  rw [← hg] at X0 ⊢
  clear hg
  have XB : Hid (B3 W.drew g (.int .i64 64) (.int .i64 53) (.int .i64 (-1074))) := ⟨X0.c0, X0.c1, X0.c2, X0.f0, X0.f1, X0.f2⟩
  have HBW : Hid (Below w.heap.size w W.drew) := bwDrew hb0
  obtain ⟨c0, c1, c2, c3, c4, c5⟩ := X0
  have hwr : IntKind.i64.wrap 51 = 51 := by decide
  clear hb0
  go_region_with (first
      | (go_at_call 35; (with_reducible refine (infinity_64 _).mono ?_); rintro e w1 ⟨rfl, hb1⟩; obtain ⟨d0, d1, d2, d3, d4, d5⟩ := XB.out.below hb1; have HBW1 : Hid (Below w.heap.size w w1) := bwOn HBW.out hb1; clear hb1)
      | (go_at_call 36; (with_reducible refine (stored_64 _).mono ?_); rintro e w2 ⟨rfl, hb2⟩; have HBW2 : Hid (Below w.heap.size w w2) := bwOn HBW1.out hb2; clear hb2))
  all_goals
    (go_wp2_with fail
     go_ret
     exact ⟨rfl, HBW2.out⟩)
theorem quiet_64 (w : World) : Calls Tryd.prog 55 #[.int .i64 64] w fun e w' => e = .returned (.tuple #[.int .u64 9221120237041090561, .int .i64 0]) ∧ Below w.heap.size w w' := by
  go_enter Tryd.func55, Tryd.ntmps55
  go_wp2_with fail
  refine (of_64 _).mono ?_
  rintro e w1 ⟨rfl, hb1⟩
  go_wp2_with fail
  refine (wquiet_64 _).mono ?_
  rintro e w2 ⟨rfl, hb2⟩
  have hbw := bwOn (bwOn hb1 (bwAlloc w1 _)) hb2
  clear hb1 hb2
  go_wp2_with fail
  go_ret2
  exact ⟨rfl, hbw⟩
end Go.Proofs.YthfkkcfjneppmaaDoor
namespace Go.Proofs.YthfkkcfjneppmaaDoor
open Go.RowKit Go.Shelf
set_option maxRecDepth 20000
set_option maxHeartbeats 0
def wV (z : Nat) : Nat :=
  if z = 0 then 0 else
  (872 + (z / 8388608 - 1) + bl_bitsN (z - (z / 8388608 - 1) * 8388608)) * 4503599627370496 + (z - (z / 8388608 - 1) * 8388608) * 2 ^ (53 - bl_bitsN (z - (z / 8388608 - 1) * 8388608))
theorem bits_shift {m t : Nat} (hm : m ≠ 0) : bl_bitsN (m * 2 ^ t) = bl_bitsN m + t := by
  have h1 := bl_bitsN_lt m
  have h2 := bl_bitsN_le m hm
  have h3 : bl_bitsN m ≠ 0 := by unfold bl_bitsN; rw [if_neg hm]; omega
  have hp := Nat.two_pow_pos t
  refine bl_bitsN_unique ?_ (fun _ => ?_) (fun e => ?_)
  · rw [Nat.pow_add]; exact Nat.mul_lt_mul_of_pos_right h1 hp
  · rw [show bl_bitsN m + t - 1 = (bl_bitsN m - 1) + t by omega, Nat.pow_add]; exact Nat.mul_le_mul_right _ h2
  · exfalso
    rcases Nat.mul_eq_zero.1 e with e | e
    · exact hm e
    · omega
structure Jm (f p m l : Int) (S I H sd : Nat) (Be : Int) : Prop where
  pm : Pm f p m l S I H
  be : ∀ w, Calls Tryd.prog 13 #[WV p m l] w fun e w' => e = .returned (.int .i64 Be) ∧ Below w.heap.size w w'
  un : ∀ (top : Int) w, -1000000000000 ≤ top → top ≤ 5000 → Calls Tryd.prog 16 #[WV p m l, .int .i64 top] w fun e w' => e = .returned (.int .i64 (max (top - sd) l)) ∧ Below w.heap.size w w'
  sz : ∀ (man q : Nat) (u : Int) w, u = l + q → q < 2046 → (q : Int) < Be - l - sd → man ≤ 2 * H → Calls Tryd.prog 17 #[WV p m l, U man, .int .i64 u] w fun e w' => e = .returned (U (q * H + man)) ∧ Below w.heap.size w w'
  hs : H = 2 ^ sd
  sl : 1 ≤ sd ∧ sd ≤ 52
  bq : ∀ s, s < I → ((s / H - 1 : Nat) : Int) ≤ Be - l - sd - 1
  bu : Be ≤ 1024 ∧ 0 < Be
theorem jm_32 : Jm 32 32 24 (-149) 2147483648 2139095040 8388608 23 128 :=
  ⟨pm_32, beyond_32, fun top w h1 h2 => unitg_32 top h1 h2 w, fun man q u w h1 _ h3 h2 => size_32 man q u (by omega) (by omega) h2 w, by decide, by decide, fun s hs => by omega, by decide⟩
theorem jm_64 : Jm 64 64 53 (-1074) 9223372036854775808 9218868437227405312 4503599627370496 52 1024 :=
  ⟨pm_64, beyond_64, fun top w h1 h2 => unitg_64 top h1 h2 w, fun man q u w h1 _ _ h2 => size_64 man q u (by omega) (by omega) h2 w, by decide, by decide, fun s hs => by omega, by decide⟩
theorem join_z {f p m l : Int} {S I H sd : Nat} {Be : Int} (J : Jm f p m l S I H sd Be) (neg : Bool) (ex : Int) (w : World) :
    Calls Tryd.prog 6 #[.int .i64 f, .bool neg, .int .u64 0, .int .i64 ex] w fun en w' => en = .returned (.tuple #[U (if neg then S else 0), .int .i64 0]) ∧ Below w.heap.size w w' := by
  have hbw : Below w.heap.size w w := Below.refl _ _
  have HJM : Hid (Jm f p m l S I H sd Be) := J
  have HS : Hid (0 < S) := by have := J.pm.fm.lt; show _ < _; omega
  obtain ⟨r, hr⟩ : ∃ r, r = (if neg then S else 0) := ⟨_, rfl⟩
  rw [← hr]
  have HR : Hid ((if neg then S + 0 else 0) = r) := hr.symm
  clear J hr
  go_enter Tryd.func6, Tryd.ntmps6
  go_wp2_with fail
  refine (HJM.out.pm.fm.of _).mono ?_
  rintro e v1 ⟨rfl, hb1⟩
  replace hbw := Below.on hbw hb1
  clear hb1
  go_wp2_with fail
  have Xg0 : Hid (B3q (v1.alloc (.cells #[.int .i64 p, .int .i64 m, .int .i64 l] 47)) v1.heap.size (.int .i64 p) (.int .i64 m) (.int .i64 l)) := B3q.new v1 _ _ _ _
  have hbn : Below v1.heap.size v1 (v1.alloc (.cells #[.int .i64 p, .int .i64 m, .int .i64 l] 47)) := below1 v1 _
  generalize v1.alloc (.cells #[.int .i64 p, .int .i64 m, .int .i64 l] 47) = Wg at *
  have HGg : Hid (w.heap.size ≤ v1.heap.size) := hbw.size
  replace hbw := Below.on hbw hbn
  clear hbn
  generalize v1.heap.size = gg at *
  have Xg := Xg0
  clear Xg0
  refine (HJM.out.pm.fm.sgn neg 0 _ HS.out).mono ?_
  rintro e v2 ⟨rfl, hb2⟩
  rw [HR.out]
  replace Xg : Hid _ := Xg.out.below hb2
  replace hbw := Below.on hbw hb2
  clear hb2
  go_wp2_with fail
  go_ret2
  exact ⟨rfl, hbw⟩
structure B5 (W : World) (g : Nat) (v0 v1 v2 v3 v4 : Value) : Prop where
  c0 : W.cell? ⟨g, 0, none⟩ = some v0
  c1 : W.cell? ⟨g, 1, none⟩ = some v1
  c2 : W.cell? ⟨g, 2, none⟩ = some v2
  c3 : W.cell? ⟨g, 3, none⟩ = some v3
  c4 : W.cell? ⟨g, 4, none⟩ = some v4
  f0 : W.frozen? ⟨g, 0, none⟩ = false
  f1 : W.frozen? ⟨g, 1, none⟩ = false
  f2 : W.frozen? ⟨g, 2, none⟩ = false
  f3 : W.frozen? ⟨g, 3, none⟩ = false
  f4 : W.frozen? ⟨g, 4, none⟩ = false
theorem B5.below {W W' : World} {g : Nat} {v0 v1 v2 v3 v4 : Value} (h : B5 W g v0 v1 v2 v3 v4) (hb : Below W.heap.size W W') : B5 W' g v0 v1 v2 v3 v4 := by
  have hl : g < W.heap.size := World.block_lt_of_cell? W _ h.c0
  exact ⟨(hb.cell (p := ⟨g, 0, none⟩) hl).trans h.c0, (hb.cell (p := ⟨g, 1, none⟩) hl).trans h.c1, (hb.cell (p := ⟨g, 2, none⟩) hl).trans h.c2, (hb.cell (p := ⟨g, 3, none⟩) hl).trans h.c3, (hb.cell (p := ⟨g, 4, none⟩) hl).trans h.c4,
    (hb.frozen (p := ⟨g, 0, none⟩) hl).trans h.f0, (hb.frozen (p := ⟨g, 1, none⟩) hl).trans h.f1, (hb.frozen (p := ⟨g, 2, none⟩) hl).trans h.f2, (hb.frozen (p := ⟨g, 3, none⟩) hl).trans h.f3, (hb.frozen (p := ⟨g, 4, none⟩) hl).trans h.f4⟩
theorem B5.new (w : World) (ty : TypeId) (v0 v1 v2 v3 v4 : Value) : B5 (w.alloc (.cells #[v0, v1, v2, v3, v4] ty)) w.heap.size v0 v1 v2 v3 v4 :=
  ⟨by go_simp, by go_simp, by go_simp, by go_simp, by go_simp, by go_simp, by go_simp, by go_simp, by go_simp, by go_simp⟩
theorem DocIs.inj {v : Nat} {us us' : List Nat} {f f' : Int} (h : DocIs v us f) (k : DocIs v us' f') : us = us' ∧ f = f' := by
  rcases h with ⟨h1, h2, rfl⟩ | ⟨h1, rfl, rfl⟩ <;> rcases k with ⟨k1, k2, rfl⟩ | ⟨k1, rfl, rfl⟩
  · exact ⟨h2.inj B64_one k2, rfl⟩
  · omega
  · omega
  · exact ⟨rfl, rfl⟩
theorem DocIs.er {v : Nat} {us : List Nat} {f : Int} (h : DocIs v us f) : f = 0 ∨ f = 5 := by
  rcases h with ⟨_, _, rfl⟩ | ⟨_, _, rfl⟩ <;> simp
theorem aw_v : ∃ b : Nat, b = 13832806255468478464 ∧ dv (-3) (-1) = dv (if 9223372036854775808 ≤ b then -(((b % 9223372036854775808 - (b % 9223372036854775808 / 4503599627370496 - 1) * 4503599627370496 : Nat)) : Int) else ((b % 9223372036854775808 - (b % 9223372036854775808 / 4503599627370496 - 1) * 4503599627370496 : Nat) : Int)) (-1074 + ((b % 9223372036854775808 / 4503599627370496 - 1 : Nat) : Int)) := by
  refine ⟨13832806255468478464, rfl, ?_⟩
  rw [if_pos (by decide), show 13832806255468478464 % 9223372036854775808 / 4503599627370496 - 1 = 1022 from by decide, show 13832806255468478464 % 9223372036854775808 - 1022 * 4503599627370496 = 6755399441055744 from by decide, dv_shift (z := -3) (e := -1) (f := -52) (by decide) (by decide)]
  rfl
theorem clsof_nan (w : World) :
    Calls Tryd.prog 8 #[.int .i64 32, .int .u64 4286578689] w fun en w' => en = .returned (.tuple #[.int .i64 4, .int .i64 0]) ∧ Below w.heap.size w w' := by
  have hbw : Below w.heap.size w w := Below.refl _ _
  go_enter Tryd.func8, Tryd.ntmps8
  go_wp2_with fail
  obtain ⟨z, hz⟩ : ∃ z : Nat, z = 4286578689 % 2147483648 := ⟨_, rfl⟩
  obtain ⟨B, hB⟩ : ∃ B : Nat, B = 4286578689 := ⟨_, rfl⟩
  have HPT := fun w => fm_32.pat 4286578689 w (by decide)
  rw [show decide (2147483648 ≤ 4286578689) = true from by decide, ← hz] at HPT
  have HZ : Hid (2139095040 < z) := by rw [hz]; show _ < _; decide
  clear hz hB
  refine (HPT _).mono ?_
  rintro e v1 ⟨rfl, hb1⟩
  replace hbw := Below.on hbw hb1
  clear hb1
  clear HPT
  go_wp2_with fail
  have Xp0 : Hid (B5q (v1.alloc (.cells #[.int .i64 32, .int .i64 24, .int .i64 (-149), .bool true, U z] 60)) v1.heap.size (.int .i64 32) (.int .i64 24) (.int .i64 (-149)) (.bool true) (U z)) := B5q.new v1 _ _ _ _ _ _
  have hbn : Below v1.heap.size v1 (v1.alloc (.cells #[.int .i64 32, .int .i64 24, .int .i64 (-149), .bool true, U z] 60)) := below1 v1 _
  generalize v1.alloc (.cells #[.int .i64 32, .int .i64 24, .int .i64 (-149), .bool true, U z] 60) = Wp at *
  have HGp : Hid (w.heap.size ≤ v1.heap.size) := hbw.size
  replace hbw := Below.on hbw hbn
  clear hbn
  generalize v1.heap.size = gp at *
  have Xp := Xp0
  clear Xp0
  refine (class_32 rfl true z _).mono ?_
  rintro e2 v2 ⟨rfl, hb2⟩
  rw [cls_nan (by decide) HZ.out]
  replace Xp : Hid _ := Xp.out.below hb2
  replace hbw := Below.on hbw hb2
  clear hb2
  go_wp2_with fail
  go_ret2
  exact ⟨rfl, hbw⟩
theorem awake7 (w : World) (hT : Tab w) :
    Calls Tryd.prog 4 #[] w fun en w' => en = .returned (.bool true) ∧ Below w.heap.size w w' := by
  have hbw : Below w.heap.size w w := Below.refl _ _
  have TB : Hid (Tab w) := hT
  obtain ⟨B, hB, hv⟩ := aw_v
  have HB : Hid (B = 13832806255468478464) := hB
  have HV : Hid (dv (-3) (-1) = dv (if 9223372036854775808 ≤ B then -(((B % 9223372036854775808 - (B % 9223372036854775808 / 4503599627370496 - 1) * 4503599627370496 : Nat)) : Int) else ((B % 9223372036854775808 - (B % 9223372036854775808 / 4503599627370496 - 1) * 4503599627370496 : Nat) : Int)) (-1074 + ((B % 9223372036854775808 / 4503599627370496 - 1 : Nat) : Int))) := hv
  have HJ : Hid (∀ w, Tab w → Calls Tryd.prog 6 #[.int .i64 64, .bool true, .int .u64 3, .int .i64 (-1)] w fun e w' => e = .returned (.tuple #[U B, .int .i64 0]) ∧ Below w.heap.size w w') := by
    intro w hT
    have := join_norm true 3 0 3 2 1022 (-1) 0 (by decide) (by decide) ⟨by decide, by decide⟩ (by decide) (by decide) (by decide) (by decide) (by decide) (by decide) (by decide) (by decide) (by decide) (by decide) w hT
    rw [show (if true = true then 9223372036854775808 + (1022 * 4503599627370496 + 3 * 2 ^ (53 - 2)) else 1022 * 4503599627370496 + 3 * 2 ^ (53 - 2)) = B from by rw [hB]; decide] at this
    exact this
  clear hT hB hv
  go_enter Tryd.func4, Tryd.ntmps4
  go_wp2_with fail
  refine (HJ.out _ (TB.out.below hbw)).mono ?_
  rintro e v1 ⟨rfl, hb1⟩
  replace hbw := Below.on hbw hb1
  clear hb1
  go_wp2_with fail
  refine (value_ok pm_64 B (by rw [HB.out]; decide) (by rw [HB.out]; decide) _ (TB.out.below hbw)).mono ?_
  rintro e2 v2 ⟨hv, hb2⟩
  obtain ⟨v, rfl, hv2⟩ := hv.form (.inr ⟨by decide, by decide, by decide⟩) (HV.out)
  obtain ⟨s2, p2, m2, rfl, hd2⟩ := hv2.dn (.inr ⟨by decide, by decide, by decide⟩)
  clear hv hv2
  replace hbw := Below.on hbw hb2
  clear hb2
  have D2 : Hid (DN v2 s2 p2 m2 m2 (-1) (-3)) := hd2
  clear hd2
  clear HV HJ
  have hB9 := HB.out
  clear HB
  subst hB9
  go_wp2_with fail
  have Xv0 : Hid (B3q (v2.alloc (.cells #[.bool s2, .slice p2 m2 m2, .int .i64 (-1)] 35)) v2.heap.size (.bool s2) (.slice p2 m2 m2) (.int .i64 (-1))) := B3q.new v2 _ _ _ _
  have hbn : Below v2.heap.size v2 (v2.alloc (.cells #[.bool s2, .slice p2 m2 m2, .int .i64 (-1)] 35)) := below1 v2 _
  generalize v2.alloc (.cells #[.bool s2, .slice p2 m2 m2, .int .i64 (-1)] 35) = Wv at *
  have HGv : Hid (w.heap.size ≤ v2.heap.size) := hbw.size
  replace D2 : Hid _ := D2.out.below hbn
  replace hbw := Below.on hbw hbn
  clear hbn
  generalize v2.heap.size = gv at *
  have Xv := Xv0
  clear Xv0
  refine (clsof_nan _).mono ?_
  rintro e v3 ⟨rfl, hb3⟩
  replace Xv : Hid _ := Xv.out.below hb3
  replace D2 : Hid _ := D2.out.below hb3
  replace hbw := Below.on hbw hb3
  clear hb3
  have hs2 : s2 = true := by rw [D2.out.zn.sg]; rfl
  obtain ⟨cv0, cv1, cv2, fv0, fv1, fv2⟩ := Xv.out
  have hnev : gv < v3.heap.size := World.block_lt_of_cell? v3 _ cv0
  go_wp2_with fail
  clear cv0 cv1 cv2 fv0 fv1 fv2 hnev
  obtain ⟨xs, hX⟩ := (D2.out.zn.below (below1 _ (.cells #[.int .u64 3] 26))).ex
  have hx3 : xs = [3] := hX.nf.inj B64_one (nf_one (x := 3) (by decide) (by decide))
  subst hx3
  refine (same_t hX.at_ (lit_at v3 _ [3] 1 rfl rfl (dig1 (by decide)) (by decide))).mono ?_
  rintro e2 v4 ⟨rfl, hb4⟩
  have hbw4 := Below.on (Below.on hbw (below1 _ _)) hb4
  clear hX hb4 hs2
  go_wp2_with fail
  go_ret
  exact ⟨rfl, hbw4⟩
theorem blb_le {m k : Nat} (h : m < 2 ^ k) : bl_bitsN m ≤ k := by
  by_cases h0 : m = 0
  · rw [h0, bl_bitsN_zero]; omega
  have h1 := bl_bitsN_le m h0
  have := (Nat.pow_lt_pow_iff_right (by omega : 1 < 2)).1 (Nat.lt_of_le_of_lt h1 h)
  omega
theorem blb_pos {m : Nat} (h : m ≠ 0) : 0 < bl_bitsN m := by unfold bl_bitsN; rw [if_neg h]; omega
theorem wV_parts {z : Nat} (hz : z < 2139095040) (h0 : z ≠ 0) : ∃ q m L, q = z / 8388608 - 1 ∧ m = z - q * 8388608 ∧ L = bl_bitsN m ∧ 1 ≤ L ∧ L ≤ 24 ∧ q ≤ 253 ∧ wV z = (872 + q + L) * 4503599627370496 + m * 2 ^ (53 - L) ∧ 4503599627370496 ≤ m * 2 ^ (53 - L) ∧ m * 2 ^ (53 - L) < 2 * 4503599627370496 := by
  obtain ⟨q, hq⟩ : ∃ q, q = z / 8388608 - 1 := ⟨_, rfl⟩
  obtain ⟨m, hm⟩ : ∃ m, m = z - q * 8388608 := ⟨_, rfl⟩
  obtain ⟨L, hL⟩ : ∃ L, L = bl_bitsN m := ⟨_, rfl⟩
  have hm0 : m ≠ 0 := by omega
  have hm1 : m < 16777216 := by omega
  have l1 := blb_pos hm0
  have l2 := blb_le (m := m) (k := 24) (by omega)
  have b1 := bl_bitsN_lt m
  have b2 := bl_bitsN_le m hm0
  rw [← hL] at l1 l2 b1 b2
  have e1 : (2 : Nat) ^ 52 = 4503599627370496 := by decide
  have h1 : 2 ^ (L - 1) * 2 ^ (53 - L) ≤ m * 2 ^ (53 - L) := Nat.mul_le_mul_right _ b2
  have h2 : m * 2 ^ (53 - L) < 2 ^ L * 2 ^ (53 - L) := Nat.mul_lt_mul_of_pos_right b1 (Nat.pow_pos (by omega))
  rw [← Nat.pow_add, show L - 1 + (53 - L) = 52 from by omega, e1] at h1
  rw [← Nat.pow_add, show L + (53 - L) = 52 + 1 from by omega, Nat.pow_succ, e1] at h2
  refine ⟨q, m, L, hq, hm, hL, l1, l2, by omega, ?_, h1, by omega⟩
  unfold wV
  rw [if_neg h0, ← hq, ← hm, ← hL]
theorem wV_vs {z K : Nat} (hz : z < 2139095040) (hK : K = 925) : vs 4503599627370496 (wV z) = vs 8388608 z * 2 ^ K := by
  by_cases h0 : z = 0
  · subst h0
    unfold wV
    rw [if_pos rfl, vs_zero, vs_zero, Nat.zero_mul]
  obtain ⟨q, m, L, hq, hm, _, l1, l2, l3, hw, h1, h2⟩ := wV_parts hz h0
  have hd : wV z / 4503599627370496 - 1 = 872 + q + L := by
    rw [hw]
    generalize m * 2 ^ (53 - L) = M at *
    omega
  have e1 : vs 8388608 z = m * 2 ^ q := by unfold vs; rw [← hq, ← hm]
  have e2 : wV z - (872 + q + L) * 4503599627370496 = m * 2 ^ (53 - L) := by
    rw [hw]
    generalize m * 2 ^ (53 - L) = M at *
    omega
  rw [e1]
  unfold vs
  rw [hd, e2, Nat.mul_assoc, Nat.mul_assoc, ← Nat.pow_add, ← Nat.pow_add, show 53 - L + (872 + q + L) = q + K from by omega]
theorem wV_lt {y z : Nat} (hy : y < 2139095040) (hz : z < 2139095040) (h : y < z) : wV y < wV z := by
  rcases Nat.lt_or_ge (wV y) (wV z) with h1 | h1
  · exact h1
  · have h2 := vs_mono (H := 8388608) (by decide) h
    have h3 : vs 4503599627370496 (wV z) ≤ vs 4503599627370496 (wV y) := by
      rcases Nat.lt_or_eq_of_le h1 with h4 | h4
      · exact Nat.le_of_lt (vs_mono (by decide) h4)
      · rw [h4]; exact Nat.le_refl _
    obtain ⟨K, hK⟩ : ∃ K, K = 925 := ⟨_, rfl⟩
    rw [wV_vs hy hK, wV_vs hz hK] at h3
    have h5 := Nat.le_of_mul_le_mul_right h3 (Nat.pow_pos (by omega))
    omega
theorem wV_cls {z : Nat} (hz : z < 2139095040) : wV z < 9218868437227405312 ∧ (z = 0 → wV z = 0) ∧ (z ≠ 0 → 4503599627370496 ≤ wV z) := by
  by_cases h0 : z = 0
  · subst h0
    have : wV 0 = 0 := by unfold wV; rw [if_pos rfl]
    rw [this]
    exact ⟨by decide, fun _ => rfl, fun h => absurd rfl h⟩
  obtain ⟨q, m, L, hq, hm, _, l1, l2, l3, hw, h1, h2⟩ := wV_parts hz h0
  rw [hw]
  generalize m * 2 ^ (53 - L) = M at *
  exact ⟨by omega, fun h => absurd h h0, fun _ => by omega⟩
structure WF (a x : Nat) : Prop where
  lt : x < 2 * 9223372036854775808
  nan : 2139095040 < a % 2147483648 → 9218868437227405312 < x % 9223372036854775808
  inf : a % 2147483648 = 2139095040 → x % 9223372036854775808 = 9218868437227405312
  fin : a % 2147483648 < 2139095040 → x % 9223372036854775808 = wV (a % 2147483648) ∧ (9223372036854775808 ≤ x ↔ 2147483648 ≤ a)
theorem cls_four {H I s : Nat} (hH : H ≤ I) : (clsN H I s == 4) = decide (I < s) := by
  by_cases h : I < s
  · rw [cls_nan hH h, decide_eq_true h]; rfl
  · rw [decide_eq_false h]; simp [cls_ne (Nat.le_of_not_lt h)]
theorem WF.cls {a x : Nat} (h : WF a x) : (clsN 8388608 2139095040 (a % 2147483648) == 4) = (clsN 4503599627370496 9218868437227405312 (x % 9223372036854775808) == 4) ∧ (clsN 8388608 2139095040 (a % 2147483648) == 3) = (clsN 4503599627370496 9218868437227405312 (x % 9223372036854775808) == 3) := by
  rw [cls_four (by decide), cls_four (by decide), cls_inf (by decide) (by decide), cls_inf (by decide) (by decide)]
  have h1 := h.nan
  have h2 := h.inf
  have h3 := h.fin
  rcases Nat.lt_trichotomy (a % 2147483648) 2139095040 with k | k | k
  · have k1 := (wV_cls k).1
    rw [← (h3 k).1] at k1
    refine ⟨decide_eq_decide.2 ⟨?_, ?_⟩, decide_eq_decide.2 ⟨?_, ?_⟩⟩ <;> omega
  · have := h2 k
    refine ⟨decide_eq_decide.2 ⟨?_, ?_⟩, decide_eq_decide.2 ⟨?_, ?_⟩⟩ <;> omega
  · have := h1 k
    refine ⟨decide_eq_decide.2 ⟨?_, ?_⟩, decide_eq_decide.2 ⟨?_, ?_⟩⟩ <;> omega
theorem WF.val {zo eo : Int} {a' x' : Nat} (h : WF a' x') (hf : a' % 2147483648 < 2139095040) (hv : VF 2147483648 8388608 (-149) a' zo eo) : VF 9223372036854775808 4503599627370496 (-1074) x' zo eo := by
  obtain ⟨h1, h2⟩ := h.fin hf
  refine ⟨hv.fm, ?_⟩
  obtain ⟨K, hK⟩ : ∃ K, K = 925 := ⟨_, rfl⟩
  have h3 := wV_vs hf hK
  rw [hv.v, show (-149 : Int) = -1074 + (K : Int) from by omega, dv_up K (by decide), svS_eq, svS_eq, h1, h3]
  by_cases h4 : 2147483648 ≤ a'
  · rw [if_pos h4, if_pos (h2.2 h4), Int.neg_mul, ← Int.natCast_mul]
  · rw [if_neg h4, if_neg (fun k => h4 (h2.1 k)), ← Int.natCast_mul]
theorem WF.rank {a x b y : Nat} (h : WF a x) (k : WF b y) (ha : a % 2147483648 < 2139095040) (hb : b % 2147483648 < 2139095040) : rkS 2147483648 a < rkS 2147483648 b ↔ rkS 9223372036854775808 x < rkS 9223372036854775808 y := by
  obtain ⟨h1, h2⟩ := h.fin ha
  obtain ⟨k1, k2⟩ := k.fin hb
  have a0 := (wV_cls ha).2
  have b0 := (wV_cls hb).2
  have l1 : a % 2147483648 < b % 2147483648 → wV (a % 2147483648) < wV (b % 2147483648) := wV_lt ha hb
  have l2 : b % 2147483648 < a % 2147483648 → wV (b % 2147483648) < wV (a % 2147483648) := wV_lt hb ha
  have l3 : a % 2147483648 = b % 2147483648 → wV (a % 2147483648) = wV (b % 2147483648) := fun e => by rw [e]
  unfold rkS
  rw [h1, k1]
  generalize a % 2147483648 = A at *
  generalize b % 2147483648 = B at *
  generalize wV A = WA at *
  generalize wV B = WB at *
  by_cases c1 : 2147483648 ≤ a <;> by_cases c2 : 2147483648 ≤ b
  · rw [if_pos c1, if_pos c2, if_pos (h2.2 c1), if_pos (k2.2 c2)]; omega
  · rw [if_pos c1, if_neg c2, if_pos (h2.2 c1), if_neg (fun e => c2 (k2.1 e))]; omega
  · rw [if_neg c1, if_pos c2, if_neg (fun e => c1 (h2.1 e)), if_pos (k2.2 c2)]; omega
  · rw [if_neg c1, if_neg c2, if_neg (fun e => c1 (h2.1 e)), if_neg (fun e => c2 (k2.1 e))]; omega
theorem clsof_32 (b : Nat) (hb : b < 2 * 2147483648) (w : World) :
    Calls Tryd.prog 8 #[.int .i64 32, U b] w fun en w' => en = .returned (.tuple #[.int .i64 (clsN 8388608 2139095040 (b % 2147483648)), .int .i64 0]) ∧ Below w.heap.size w w' := by
  have hbw : Below w.heap.size w w := Below.refl _ _
  obtain ⟨z, hz⟩ : ∃ z : Nat, z = b % 2147483648 := ⟨_, rfl⟩
  obtain ⟨s, hs⟩ : ∃ s, s = decide (2147483648 ≤ b) := ⟨_, rfl⟩
  obtain ⟨c, hc⟩ : ∃ c, c = clsN 8388608 2139095040 z := ⟨_, rfl⟩
  have HPT : Hid (∀ w, Calls Tryd.prog 21 #[.int .i64 32, U b] w fun e w' => e = .returned (.tuple #[PV 32 24 (-149) s z, .int .i64 0]) ∧ Below w.heap.size w w') := by rw [hz, hs]; exact fun w => fm_32.pat b w hb
  rw [← hz, ← hc]
  have HC : Hid (clsN 8388608 2139095040 z = c) := hc.symm
  clear hz hs hc hb
  go_enter Tryd.func8, Tryd.ntmps8
  go_wp2_with fail
  refine (HPT.out _).mono ?_
  rintro e v1 ⟨rfl, hb1⟩
  replace hbw := Below.on hbw hb1
  clear hb1
  go_wp2_with fail
  have Xp0 : Hid (B5q (v1.alloc (.cells #[.int .i64 32, .int .i64 24, .int .i64 (-149), .bool s, U z] 60)) v1.heap.size (.int .i64 32) (.int .i64 24) (.int .i64 (-149)) (.bool s) (U z)) := B5q.new v1 _ _ _ _ _ _
  have hbn : Below v1.heap.size v1 (v1.alloc (.cells #[.int .i64 32, .int .i64 24, .int .i64 (-149), .bool s, U z] 60)) := below1 v1 _
  generalize v1.alloc (.cells #[.int .i64 32, .int .i64 24, .int .i64 (-149), .bool s, U z] 60) = Wp at *
  have HGp : Hid (w.heap.size ≤ v1.heap.size) := hbw.size
  replace hbw := Below.on hbw hbn
  clear hbn
  generalize v1.heap.size = gp at *
  have Xp := Xp0
  clear Xp0
  refine (class_32 rfl s z _).mono ?_
  rintro e2 v2 ⟨rfl, hb2⟩
  rw [HC.out]
  replace Xp : Hid _ := Xp.out.below hb2
  replace hbw := Below.on hbw hb2
  clear hb2
  go_wp2_with fail
  go_ret2
  exact ⟨rfl, hbw⟩
theorem clsof_64 (b : Nat) (hb : b < 2 * 9223372036854775808) (w : World) :
    Calls Tryd.prog 8 #[.int .i64 64, U b] w fun en w' => en = .returned (.tuple #[.int .i64 (clsN 4503599627370496 9218868437227405312 (b % 9223372036854775808)), .int .i64 0]) ∧ Below w.heap.size w w' := by
  have hbw : Below w.heap.size w w := Below.refl _ _
  obtain ⟨z, hz⟩ : ∃ z : Nat, z = b % 9223372036854775808 := ⟨_, rfl⟩
  obtain ⟨s, hs⟩ : ∃ s, s = decide (9223372036854775808 ≤ b) := ⟨_, rfl⟩
  obtain ⟨c, hc⟩ : ∃ c, c = clsN 4503599627370496 9218868437227405312 z := ⟨_, rfl⟩
  have HPT : Hid (∀ w, Calls Tryd.prog 21 #[.int .i64 64, U b] w fun e w' => e = .returned (.tuple #[PV 64 53 (-1074) s z, .int .i64 0]) ∧ Below w.heap.size w w') := by rw [hz, hs]; exact fun w => fm_64.pat b w hb
  rw [← hz, ← hc]
  have HC : Hid (clsN 4503599627370496 9218868437227405312 z = c) := hc.symm
  clear hz hs hc hb
  go_enter Tryd.func8, Tryd.ntmps8
  go_wp2_with fail
  refine (HPT.out _).mono ?_
  rintro e v1 ⟨rfl, hb1⟩
  replace hbw := Below.on hbw hb1
  clear hb1
  go_wp2_with fail
  have Xp0 : Hid (B5q (v1.alloc (.cells #[.int .i64 64, .int .i64 53, .int .i64 (-1074), .bool s, U z] 60)) v1.heap.size (.int .i64 64) (.int .i64 53) (.int .i64 (-1074)) (.bool s) (U z)) := B5q.new v1 _ _ _ _ _ _
  have hbn : Below v1.heap.size v1 (v1.alloc (.cells #[.int .i64 64, .int .i64 53, .int .i64 (-1074), .bool s, U z] 60)) := below1 v1 _
  generalize v1.alloc (.cells #[.int .i64 64, .int .i64 53, .int .i64 (-1074), .bool s, U z] 60) = Wp at *
  have HGp : Hid (w.heap.size ≤ v1.heap.size) := hbw.size
  replace hbw := Below.on hbw hbn
  clear hbn
  generalize v1.heap.size = gp at *
  have Xp := Xp0
  clear Xp0
  refine (class_64 rfl s z _).mono ?_
  rintro e2 v2 ⟨rfl, hb2⟩
  rw [HC.out]
  replace Xp : Hid _ := Xp.out.below hb2
  replace hbw := Below.on hbw hb2
  clear hb2
  go_wp2_with fail
  go_ret2
  exact ⟨rfl, hbw⟩
theorem same7 {p q : Option Addr} {m c n d : Nat} {w : World} {z e : Int} {s t : Bool} (h : DN w s p m c e z) (k : DN w t q n d e z) :
    Calls Tryd.prog 26 #[DV s p m c e, DV t q n d e] w fun en w' => en = .returned (.bool true) ∧ Below w.heap.size w w' := by
  obtain rfl : s = t := by rw [h.zn.sg, k.zn.sg]
  have H : Hid (DN w s p m c e z) := h
  have K : Hid (DN w s q n d e z) := k
  have hbb : (s == s) = true := by simp
  have hee : (e == e) = true := by simp
  clear h k
  go_enter Tryd.func26, Tryd.ntmps26
  go_wp2_with fail
  obtain ⟨W0, hW0⟩ : ∃ W0, W0 = ((w.alloc (.cells #[.bool s, .slice p m c, .int .i64 e] 35)).alloc (.cells #[.bool s, .slice q n d, .int .i64 e] 35)) := ⟨_, rfl⟩
  have Xa : Hid (B3q W0 (w.heap.size) (.bool s) (.slice p m c) (.int .i64 e)) := by rw [hW0]; exact ⟨by go_simp, by go_simp, by go_simp, by go_simp, by go_simp, by go_simp⟩
  have Xb : Hid (B3q W0 (w.heap.size + 1) (.bool s) (.slice q n d) (.int .i64 e)) := by rw [hW0]; exact ⟨by go_simp, by go_simp, by go_simp, by go_simp, by go_simp, by go_simp⟩
  have hb0 : Below w.heap.size w W0 := by rw [hW0]; exact below2 w _ _
  rw [← hW0]
  clear hW0
  have hbw : Below w.heap.size w w := Below.refl _ _
  obtain ⟨gb, hgb⟩ : ∃ g, g = w.heap.size + 1 := ⟨_, rfl⟩
  have HGb : Hid (w.heap.size ≤ gb) := by rw [hgb]; show _ ≤ _; omega
  rw [← hgb] at Xb
  try rw [← hgb]
  obtain ⟨ga, hga⟩ : ∃ g, g = w.heap.size := ⟨_, rfl⟩
  have HGa : Hid (w.heap.size ≤ ga) := by rw [hga]; show _ ≤ _; omega
  rw [← hga] at Xa
  try rw [← hga]
  have HGD : Hid (ga ≠ gb ∧ gb ≠ ga) := by rw [hga, hgb]; exact ⟨by omega, by omega⟩
  clear hga hgb
  replace hbw := Below.on hbw hb0
  clear hb0
  obtain ⟨xs, hX⟩ := (H.out.zn.below hbw).ex
  obtain ⟨ys, hY⟩ := (K.out.zn.below hbw).ex
  obtain rfl := hX.nf.inj B64_one hY.nf
  refine (same_t hX.at_ hY.at_).mono ?_
  rintro e2 v1 ⟨rfl, hb1⟩
  clear hX hY
  replace Xa : Hid _ := Xa.out.below hb1
  replace Xb : Hid _ := Xb.out.below hb1
  replace hbw := Below.on hbw hb1
  clear hb1
  obtain ⟨ca0, ca1, ca2, fa0, fa1, fa2⟩ := Xa.out
  have hnea : ga < v1.heap.size := World.block_lt_of_cell? v1 _ ca0
  obtain ⟨cb0, cb1, cb2, fb0, fb1, fb2⟩ := Xb.out
  have hneb : gb < v1.heap.size := World.block_lt_of_cell? v1 _ cb0
  go_wp2_with fail
  clear ca0 ca1 ca2 fa0 fa1 fa2 hnea
  clear cb0 cb1 cb2 fb0 fb1 fb2 hneb
  go_ret
  exact ⟨rfl, hbw⟩
theorem finite_e {f : Int} {b : Nat} {er : Int} (hB : ∀ w, Calls Tryd.prog 54 #[.int .i64 f, U b] w fun e w' => e = .returned (.tuple #[PV 0 0 0 false 0, .int .i64 er]) ∧ Below w.heap.size w w') (he : er ≠ 0) (w : World) :
    Calls Tryd.prog 37 #[.int .i64 f, U b] w fun en w' => en = .returned (.tuple #[PV 0 0 0 false 0, .int .i64 er]) ∧ Below w.heap.size w w' := by
  have HB : Hid (∀ w, Calls Tryd.prog 54 #[.int .i64 f, U b] w fun e w' => e = .returned (.tuple #[PV 0 0 0 false 0, .int .i64 er]) ∧ Below w.heap.size w w') := hB
  have e1 : (er == 0) = false := by simp [he]
  clear hB he
  go_enter Tryd.func37, Tryd.ntmps37
  go_wp2_with fail
  obtain ⟨W0, hW0⟩ : ∃ W0, W0 = (w.alloc (.cells #[.int .i64 0, .int .i64 0, .int .i64 0, .bool false, .int .u64 0] 60)) := ⟨_, rfl⟩
  have Xr : Hid (B5q W0 (w.heap.size) (.int .i64 0) (.int .i64 0) (.int .i64 0) (.bool false) (.int .u64 0)) := by rw [hW0]; exact ⟨by go_simp, by go_simp, by go_simp, by go_simp, by go_simp, by go_simp, by go_simp, by go_simp, by go_simp, by go_simp⟩
  have hb0 : Below w.heap.size w W0 := by rw [hW0]; exact below1 w _
  rw [← hW0]
  clear hW0
  have hbw : Below w.heap.size w w := Below.refl _ _
  obtain ⟨gr, hgr⟩ : ∃ g, g = w.heap.size := ⟨_, rfl⟩
  have HGr : Hid (w.heap.size ≤ gr) := by rw [hgr]; show _ ≤ _; omega
  rw [← hgr] at Xr
  try rw [← hgr]
  clear hgr
  replace hbw := Below.on hbw hb0
  clear hb0
  refine (HB.out _).mono ?_
  rintro e v1 ⟨rfl, hb1⟩
  replace Xr : Hid _ := Xr.out.below hb1
  replace hbw := Below.on hbw hb1
  clear hb1
  obtain ⟨cr0, cr1, cr2, cr3, cr4, fr0, fr1, fr2, fr3, fr4⟩ := Xr.out
  have hner : gr < v1.heap.size := World.block_lt_of_cell? v1 _ cr0
  go_wp2_with fail
  refine bodyPost_ret (v := .tuple #[PV 0 0 0 false 0, .int .i64 er]) (by rw [results_cell_tmp rfl]; go_simp) rfl ⟨rfl, ?_⟩
  first | exact Below.on hbw (below1 _ _) | exact Below.on (bSet (bSet (bSet (bSet (bSet hbw _ _ _ HGr.out) _ _ _ HGr.out) _ _ _ HGr.out) _ _ _ HGr.out) _ _ _ HGr.out) (below1 _ _)
theorem finite_i {f p m l : Int} {S I H : Nat} (F : Pm f p m l S I H) (b : Nat) (hb : b < 2 * S) (hr : b % S = I) (w : World) :
    Calls Tryd.prog 37 #[.int .i64 f, U b] w fun en w' => en = .returned (.tuple #[PV 0 0 0 false 0, .int .i64 6]) ∧ Below w.heap.size w w' := by
  have HF : Hid (Pm f p m l S I H) := F
  have HR : Hid (b < 2 * S ∧ b % S ≤ I ∧ decide (b % S = I) = true) := ⟨hb, by omega, decide_eq_true hr⟩
  obtain ⟨z, hz⟩ : ∃ z, z = b % S := ⟨_, rfl⟩
  obtain ⟨s, hs⟩ : ∃ s, s = decide (S ≤ b) := ⟨_, rfl⟩
  have HZ : Hid (b % S = z ∧ decide (S ≤ b) = s) := ⟨hz.symm, hs.symm⟩
  clear F hb hr hz hs
  go_enter Tryd.func37, Tryd.ntmps37
  go_wp2_with fail
  obtain ⟨W0, hW0⟩ : ∃ W0, W0 = (w.alloc (.cells #[.int .i64 0, .int .i64 0, .int .i64 0, .bool false, .int .u64 0] 60)) := ⟨_, rfl⟩
  have Xr : Hid (B5q W0 (w.heap.size) (.int .i64 0) (.int .i64 0) (.int .i64 0) (.bool false) (.int .u64 0)) := by rw [hW0]; exact ⟨by go_simp, by go_simp, by go_simp, by go_simp, by go_simp, by go_simp, by go_simp, by go_simp, by go_simp, by go_simp⟩
  have hb0 : Below w.heap.size w W0 := by rw [hW0]; exact below1 w _
  rw [← hW0]
  clear hW0
  have hbw : Below w.heap.size w w := Below.refl _ _
  obtain ⟨gr, hgr⟩ : ∃ g, g = w.heap.size := ⟨_, rfl⟩
  have HGr : Hid (w.heap.size ≤ gr) := by rw [hgr]; show _ ≤ _; omega
  rw [← hgr] at Xr
  try rw [← hgr]
  clear hgr
  replace hbw := Below.on hbw hb0
  clear hb0
  refine (ranked_ok HF.out.fm b HR.out.1 HR.out.2.1 _).mono ?_
  rintro e v1 ⟨rfl, hb1⟩
  rw [HZ.out.1, HZ.out.2]
  replace Xr : Hid _ := Xr.out.below hb1
  replace hbw := Below.on hbw hb1
  clear hb1
  go_wp2_with fail
  have Xp0 : Hid (B5q (v1.alloc (.cells #[.int .i64 p, .int .i64 m, .int .i64 l, .bool s, U z] 60)) v1.heap.size (.int .i64 p) (.int .i64 m) (.int .i64 l) (.bool s) (U z)) := B5q.new v1 _ _ _ _ _ _
  have hbn : Below v1.heap.size v1 (v1.alloc (.cells #[.int .i64 p, .int .i64 m, .int .i64 l, .bool s, U z] 60)) := below1 v1 _
  generalize v1.alloc (.cells #[.int .i64 p, .int .i64 m, .int .i64 l, .bool s, U z] 60) = Wp at *
  have HGp : Hid (w.heap.size ≤ v1.heap.size) := hbw.size
  replace Xr : Hid _ := Xr.out.below hbn
  replace hbw := Below.on hbw hbn
  clear hbn
  generalize v1.heap.size = gp at *
  have Xp := Xp0
  clear Xp0
  refine (HF.out.fm.cls s z _).mono ?_
  rintro e2 v2 ⟨c, rfl, hc4, hc3, hb2⟩
  have hc0 : (c == 3) = true := by rw [hc3, ← HZ.out.1]; exact HR.out.2.2
  clear hc4 hc3
  replace Xr : Hid _ := Xr.out.below hb2
  replace Xp : Hid _ := Xp.out.below hb2
  replace hbw := Below.on hbw hb2
  clear hb2
  obtain ⟨cr0, cr1, cr2, cr3, cr4, fr0, fr1, fr2, fr3, fr4⟩ := Xr.out
  have hner : gr < v2.heap.size := World.block_lt_of_cell? v2 _ cr0
  go_wp2_with fail
  refine bodyPost_ret (v := .tuple #[PV 0 0 0 false 0, .int .i64 6]) (by rw [results_cell_tmp rfl]; go_simp) rfl ⟨rfl, ?_⟩
  first | exact hbw | exact bSet (bSet (bSet (bSet (bSet hbw _ _ _ HGr.out) _ _ _ HGr.out) _ _ _ HGr.out) _ _ _ HGr.out) _ _ _ HGr.out
theorem split_e {f : Int} {b : Nat} {er : Int} (hB : ∀ w, Calls Tryd.prog 37 #[.int .i64 f, U b] w fun e w' => e = .returned (.tuple #[PV 0 0 0 false 0, .int .i64 er]) ∧ Below w.heap.size w w') (he : er ≠ 0) (w : World) :
    Calls Tryd.prog 18 #[.int .i64 f, U b] w fun en w' => en = .returned (.tuple #[.bool false, .int .u64 0, .int .i64 0, .int .i64 er]) ∧ Below w.heap.size w w' := by
  have hbw : Below w.heap.size w w := Below.refl _ _
  have HB : Hid (∀ w, Calls Tryd.prog 37 #[.int .i64 f, U b] w fun e w' => e = .returned (.tuple #[PV 0 0 0 false 0, .int .i64 er]) ∧ Below w.heap.size w w') := hB
  have e1 : (er == 0) = false := by simp [he]
  have e2 : (er != 0) = true := by simp [he]
  clear hB he
  go_enter Tryd.func18, Tryd.ntmps18
  go_wp2_with fail
  refine (HB.out _).mono ?_
  rintro e v1 ⟨rfl, hb1⟩
  replace hbw := Below.on hbw hb1
  clear hb1
  go_wp2_with fail
  refine bodyPost_ret (v := .tuple #[.bool false, .int .u64 0, .int .i64 0, .int .i64 er]) (by rw [results_t4 rfl]; go_simp) rfl ⟨rfl, ?_⟩
  first | exact hbw | exact Below.on hbw (below1 _ _)
theorem value_e {f : Int} {b : Nat} {er : Int} (hB : ∀ w, Calls Tryd.prog 37 #[.int .i64 f, U b] w fun e w' => e = .returned (.tuple #[PV 0 0 0 false 0, .int .i64 er]) ∧ Below w.heap.size w w') (he : er ≠ 0) (w : World) :
    Calls Tryd.prog 7 #[.int .i64 f, U b] w fun en w' => en = .returned (.tuple #[DV false none 0 0 0, .int .i64 er]) ∧ Below w.heap.size w w' := by
  have HB : Hid (∀ w, Calls Tryd.prog 37 #[.int .i64 f, U b] w fun e w' => e = .returned (.tuple #[PV 0 0 0 false 0, .int .i64 er]) ∧ Below w.heap.size w w') := hB
  have HE : Hid (er ≠ 0) := he
  have e1 : (er == 0) = false := by simp [he]
  have e2 : (er != 0) = true := by simp [he]
  clear hB he
  go_enter Tryd.func7, Tryd.ntmps7
  go_wp2_with fail
  obtain ⟨W0, hW0⟩ : ∃ W0, W0 = (w.alloc (.cells #[.bool false, .slice none 0 0, .int .i64 0] 35)) := ⟨_, rfl⟩
  have Xr : Hid (B3q W0 (w.heap.size) (.bool false) (.slice none 0 0) (.int .i64 0)) := by rw [hW0]; exact ⟨by go_simp, by go_simp, by go_simp, by go_simp, by go_simp, by go_simp⟩
  have hb0 : Below w.heap.size w W0 := by rw [hW0]; exact below1 w _
  rw [← hW0]
  clear hW0
  have hbw : Below w.heap.size w w := Below.refl _ _
  obtain ⟨gr, hgr⟩ : ∃ g, g = w.heap.size := ⟨_, rfl⟩
  have HGr : Hid (w.heap.size ≤ gr) := by rw [hgr]; show _ ≤ _; omega
  rw [← hgr] at Xr
  try rw [← hgr]
  clear hgr
  replace hbw := Below.on hbw hb0
  clear hb0
  refine (split_e HB.out HE.out _).mono ?_
  rintro e v1 ⟨rfl, hb1⟩
  replace Xr : Hid _ := Xr.out.below hb1
  replace hbw := Below.on hbw hb1
  clear hb1
  obtain ⟨cr0, cr1, cr2, fr0, fr1, fr2⟩ := Xr.out
  have hner : gr < v1.heap.size := World.block_lt_of_cell? v1 _ cr0
  go_wp2_with fail
  refine bodyPost_ret (v := .tuple #[DV false none 0 0 0, .int .i64 er]) (by rw [results_cell_tmp rfl]; go_simp) rfl ⟨rfl, ?_⟩
  first | exact hbw | exact bSet (bSet (bSet hbw _ _ _ HGr.out) _ _ _ HGr.out) _ _ _ HGr.out
def JnR (H I : Nat) (l : Int) (man : Nat) (ex : Int) (s : Nat) : Prop := s < I ∧ man * 2 ^ (ex - l).toNat = vs H s * 2 ^ (l - ex).toNat
theorem JnR.uniq {H I : Nat} {l : Int} {man : Nat} {ex : Int} {s t : Nat} (hH : 0 < H) (h : JnR H I l man ex s) (k : JnR H I l man ex t) : s = t := by
  have h1 : vs H s * 2 ^ (l - ex).toNat = vs H t * 2 ^ (l - ex).toNat := h.2.symm.trans k.2
  have h2 : vs H s = vs H t := Nat.eq_of_mul_eq_mul_right (Nat.two_pow_pos _) h1
  rcases Nat.lt_trichotomy s t with h3 | h3 | h3
  · have := vs_mono hH h3; omega
  · exact h3
  · have := vs_mono hH h3; omega
def JA (S H I : Nat) (l : Int) (neg : Bool) (man : Nat) (ex : Int) (r : Nat) (er : Int) : Prop :=
  (er = 0 ∧ ∃ s, JnR H I l man ex s ∧ r = if neg then S + s else s) ∨ (er = 5 ∧ r = 0 ∧ ∀ s, ¬ JnR H I l man ex s)
theorem JA.uniq {S H I : Nat} {l : Int} {neg : Bool} {man : Nat} {ex : Int} {r r' : Nat} {er er' : Int} (hH : 0 < H) (h : JA S H I l neg man ex r er) (k : JA S H I l neg man ex r' er') : r = r' ∧ er = er' := by
  rcases h with ⟨h1, s, h2, h3⟩ | ⟨h1, h2, h3⟩ <;> rcases k with ⟨k1, t, k2, k3⟩ | ⟨k1, k2, k3⟩
  · obtain rfl := h2.uniq hH k2
    exact ⟨h3.trans k3.symm, h1.trans k1.symm⟩
  · exact absurd h2 (k3 s)
  · exact absurd k2 (h3 t)
  · exact ⟨h2.trans k2.symm, h1.trans k1.symm⟩
theorem sz_parts {H : Nat} (hp : 0 < H) (z : Nat) : ∃ q mn, q = z / H - 1 ∧ z = q * H + mn ∧ vs H z = mn * 2 ^ q ∧ mn < 2 * H ∧ (q = 0 ∨ H ≤ mn) := by
  have h1 := Nat.div_add_mod z H
  have h2 := Nat.mod_lt z hp
  rw [Nat.mul_comm] at h1
  refine ⟨z / H - 1, z - (z / H - 1) * H, rfl, ?_⟩
  obtain ⟨q, hq⟩ : ∃ q, q = z / H - 1 := ⟨_, rfl⟩
  have hv : vs H z = (z - q * H) * 2 ^ q := by unfold vs; rw [← hq]
  rw [hv, ← hq]
  by_cases h3 : z / H ≤ 1
  · have hq0 : q = 0 := by omega
    have h4 : z / H * H ≤ 1 * H := Nat.mul_le_mul_right _ h3
    rw [hq0, Nat.zero_mul]
    exact ⟨by omega, rfl, by omega, .inl rfl⟩
  · have h5 : q + 1 = z / H := by omega
    have h6 : q * H + H = z / H * H := by rw [← h5, Nat.add_mul, Nat.one_mul]
    exact ⟨by omega, rfl, by omega, .inr (by omega)⟩
theorem vs_of {H q mn : Nat} (hp : 0 < H) (h2 : mn < 2 * H) (hq : q = 0 ∨ H ≤ mn) : vs H (q * H + mn) = mn * 2 ^ q := by
  have h1 : (q * H + mn) / H - 1 = q := by
    rw [Nat.mul_comm, Nat.mul_add_div hp]
    have : mn / H < 2 := by rw [Nat.div_lt_iff_lt_mul hp]; exact h2
    rcases hq with rfl | h3
    · omega
    · have : 1 ≤ mn / H := (Nat.le_div_iff_mul_le hp).2 (by omega)
      omega
  unfold vs
  rw [h1, Nat.add_sub_cancel_left]
theorem jn_none {H I sd mo t L n : Nat} {l Be ex : Int} (hs : H = 2 ^ sd) (hn : Be = l + sd + n) (hI : I = (n + 1) * H) (h1n : 1 ≤ n) (ho : mo % 2 = 1) (hL : 2 ^ (L - 1) ≤ mo) (hL0 : 1 ≤ L) (h : ex + t < max (ex + t + L - 1 - sd) l ∨ Be ≤ ex + t + L - 1) (s : Nat) : ¬ JnR H I l (mo * 2 ^ t) ex s := by
  rintro ⟨h1, h2⟩
  have hp : 0 < H := by rw [hs]; exact Nat.two_pow_pos _
  obtain ⟨q, mn, -, h3, h4, h5, h6⟩ := sz_parts hp s
  rw [h4, Nat.mul_assoc, Nat.mul_assoc, ← Nat.pow_add, ← Nat.pow_add] at h2
  have h7 : q + (l - ex).toNat ≤ t + (ex - l).toNat := by
    rcases Nat.lt_or_ge (t + (ex - l).toNat) (q + (l - ex).toNat) with e | e
    · exfalso
      obtain ⟨k, hk⟩ : ∃ k, q + (l - ex).toNat = k + 1 + (t + (ex - l).toNat) := ⟨q + (l - ex).toNat - 1 - (t + (ex - l).toNat), by omega⟩
      rw [hk, Nat.pow_add 2 (k + 1), ← Nat.mul_assoc] at h2
      have h8 := Nat.eq_of_mul_eq_mul_right (Nat.two_pow_pos _) h2
      rw [Nat.pow_succ, ← Nat.mul_assoc] at h8
      omega
    · exact e
  obtain ⟨k, hk⟩ : ∃ k, t + (ex - l).toNat = k + (q + (l - ex).toNat) := ⟨t + (ex - l).toNat - (q + (l - ex).toNat), by omega⟩
  rw [hk, Nat.pow_add 2 k, ← Nat.mul_assoc] at h2
  have h8 := Nat.eq_of_mul_eq_mul_right (Nat.two_pow_pos _) h2
  have h9 : 2 ^ (L - 1 + k) < 2 ^ (sd + 1) := by
    rw [Nat.pow_add]
    have := Nat.mul_le_mul_right (2 ^ k) hL
    rw [Nat.pow_succ 2 sd, ← hs]
    omega
  have h10 := (Nat.pow_lt_pow_iff_right (by omega : 1 < 2)).1 h9
  rcases h with h | h
  · omega
  · have h11 : n ≤ q := by omega
    have h12 : H ≤ mn := by
      rcases h6 with h6 | h6
      · omega
      · exact h6
    have h13 : n * H ≤ q * H := Nat.mul_le_mul_right _ h11
    rw [hI, Nat.add_mul, Nat.one_mul] at h1
    omega
theorem jn_some {H I sd mo t L n k q : Nat} {l Be ex : Int} (hs : H = 2 ^ sd) (hn : Be = l + sd + n) (hI : I = (n + 1) * H) (h1n : 1 ≤ n) (h0 : mo < 2 ^ L) (hL : 2 ^ (L - 1) ≤ mo) (hL0 : 1 ≤ L) (hu : l + (q : Int) = max (ex + t + L - 1 - sd) l) (hk : ex + t = l + (q : Int) + (k : Int)) (ht : ex + t + L - 1 < Be) : JnR H I l (mo * 2 ^ t) ex (q * H + mo * 2 ^ k) ∧ mo * 2 ^ k < 2 * H ∧ q + 1 ≤ n := by
  have hp : 0 < H := by rw [hs]; exact Nat.two_pow_pos _
  have h1 : L + k ≤ sd + 1 := by omega
  have h2 : mo * 2 ^ k < 2 * H := by
    have h3 := Nat.mul_lt_mul_of_pos_right h0 (Nat.two_pow_pos k)
    rw [← Nat.pow_add] at h3
    have h4 : 2 ^ (L + k) ≤ 2 ^ (sd + 1) := Nat.pow_le_pow_right (by decide) h1
    rw [Nat.pow_succ 2 sd, ← hs] at h4
    omega
  have h3 : q = 0 ∨ H ≤ mo * 2 ^ k := by
    by_cases hq : q = 0
    · exact .inl hq
    · refine .inr ?_
      have h4 : sd = L - 1 + k := by omega
      rw [hs, h4, Nat.pow_add]
      exact Nat.mul_le_mul_right _ hL
  have h4 : q + 1 ≤ n := by omega
  refine ⟨⟨?_, ?_⟩, h2, h4⟩
  · have : (q + 1) * H ≤ n * H := Nat.mul_le_mul_right _ h4
    rw [hI, Nat.add_mul, Nat.one_mul]
    rw [Nat.add_mul, Nat.one_mul] at this
    omega
  · rw [vs_of hp h2 h3, Nat.mul_assoc, Nat.mul_assoc, Nat.mul_assoc, ← Nat.pow_add, ← Nat.pow_add, ← Nat.pow_add, show t + (ex - l).toNat = k + (q + (l - ex).toNat) by omega]
structure Jsp (man t mo L : Nat) : Prop where
  tz : qTzIs man t
  t6 : t < 64
  ma : mo = man / 2 ^ t
  eq : man = mo * 2 ^ t
  od : mo % 2 = 1
  lb : bl_bitsN mo = L
  l1 : 1 ≤ L
  l6 : L ≤ 64
  lt : mo < 2 ^ L
  le : 2 ^ (L - 1) ≤ mo
  m0 : man ≠ 0
  m9 : man < B64
  o9 : mo < B64
theorem jsp_ex {man : Nat} (h0 : man ≠ 0) (h9 : man < B64) : ∃ t mo L, Jsp man t mo L := by
  obtain ⟨htz, ht64⟩ := qctz_is h0 h9
  obtain ⟨t, ht⟩ : ∃ t, t = Lib.ctz 64 man := ⟨_, rfl⟩
  rw [← ht] at htz ht64
  obtain ⟨mo, hmo⟩ : ∃ mo, mo = man / 2 ^ t := ⟨_, rfl⟩
  have hmt : man = mo * 2 ^ t := by
    have := Nat.div_add_mod man (2 ^ t)
    rw [htz.1, Nat.add_zero, ← hmo, Nat.mul_comm] at this
    exact this.symm
  have hmo0 : mo ≠ 0 := by intro h; rw [h, Nat.zero_mul] at hmt; exact h0 hmt
  have ho9 : mo < B64 := by rw [hmo]; exact Nat.lt_of_le_of_lt (Nat.div_le_self _ _) h9
  have hB1 := bl_bitsN_lt mo
  have hB2 := bl_bitsN_le mo hmo0
  have hLp : 1 ≤ bl_bitsN mo := by unfold bl_bitsN; rw [if_neg hmo0]; omega
  refine ⟨t, mo, bl_bitsN mo, htz, ht64, hmo, hmt, by rw [hmo]; exact htz.2, rfl, hLp, ?_, hB1, hB2, h0, h9, ho9⟩
  have : 2 ^ (bl_bitsN mo - 1) < 2 ^ 64 := by rw [B64_eq] at ho9; exact Nat.lt_of_le_of_lt hB2 ho9
  have := (Nat.pow_lt_pow_iff_right (by omega : 1 < 2)).1 this
  omega
theorem jw {a : Int} (h1 : -100000 ≤ a) (h2 : a ≤ 100000) : IntKind.i64.wrap a = a ∧ wrap64 a = a := ⟨by simp [IntKind.wrap, IntKind.signed, IntKind.bits]; omega, by simp only [wrap64]; omega⟩
theorem jw_z {a : Nat} (h : a ≠ 0) : ((a : Int) == 0) = false := by simp; exact h
theorem jw_u {a : Nat} (h : a < 9007199254740992) : IntKind.u64.wrap (a : Int) = (a : Int) := by rw [IntKind.wrap_u64]; omega
theorem jw_un {ex un l lb ex2 s1 top : Int} {t L sd : Nat} (hB : lb = l - 63 ∧ ex2 = ex + t ∧ s1 = ex2 + L ∧ top = s1 - 1) (hu : un = max (ex + t + L - 1 - sd) l) : max (top - sd) l = un := by
  rw [hB.2.2.2, hB.2.2.1, hB.2.1, hu]
theorem jw_b {f p m l : Int} {S I H sd : Nat} {Be : Int} (J : Jm f p m l S I H sd Be) {man t mo L : Nat} (P : Jsp man t mo L) {ex lb ex2 s1 top : Int} (h1 : l - 63 ≤ ex) (h2 : ex < Be) (hB : lb = l - 63 ∧ ex2 = ex + t ∧ s1 = ex2 + L ∧ top = s1 - 1) :
    (-100000 ≤ l - 63 ∧ l - 63 ≤ 100000) ∧ (-100000 ≤ ex + (t : Int) ∧ ex + (t : Int) ≤ 100000) ∧ (-100000 ≤ ex2 + (L : Int) ∧ ex2 + (L : Int) ≤ 100000) ∧ (-100000 ≤ s1 - 1 ∧ s1 - 1 ≤ 100000) ∧ ¬ ex < lb ∧ -1000000000000 ≤ top ∧ top ≤ 5000 := by
  have hlo := J.pm.lo
  have hbu := J.bu
  have hl6 := P.l6
  have ht6 := P.t6
  clear J P
  omega
theorem jw_k6 {man t mo L k H : Nat} (P : Jsp man t mo L) (hm : mo * 2 ^ k < 2 * H) (h9 : 2 * H ≤ 9007199254740992) : k < 64 := by
  rcases Nat.lt_or_ge k 64 with e | e
  · exact e
  · exfalso
    have h1 : 2 ^ 64 ≤ 2 ^ k := Nat.pow_le_pow_right (by decide) e
    have h2 : 1 * 2 ^ k ≤ mo * 2 ^ k := Nat.mul_le_mul_right _ (by have := P.od; omega)
    have h3 : (2 : Nat) ^ 64 = 18446744073709551616 := by decide
    omega
theorem jw_k {f p m l : Int} {S I H sd : Nat} {Be : Int} (J : Jm f p m l S I H sd Be) {man t mo L : Nat} (P : Jsp man t mo L) {ex lb ex2 s1 top un : Int} {k q : Nat} (_h1 : l - 63 ≤ ex) (h2 : ex < Be) (hB : lb = l - 63 ∧ ex2 = ex + t ∧ s1 = ex2 + L ∧ top = s1 - 1) (hk : ex + t = un + k) (hq : un = l + q) (hq2 : q < 2046 ∧ (q : Int) < Be - l - sd) :
    ¬ ex2 < un ∧ ex2 - un = (k : Int) ∧ -100000 ≤ (k : Int) ∧ (k : Int) ≤ 100000 := by
  have hlo := J.pm.lo
  have hbu := J.bu
  have ht6 := P.t6
  clear J P
  omega
theorem join_lo {f p m l : Int} {S I H sd : Nat} {Be : Int} (J : Jm f p m l S I H sd Be) (neg : Bool) {man : Nat} (h0 : man ≠ 0) (ex : Int) (hx : ex < l - 63) (w : World) :
    Calls Tryd.prog 6 #[.int .i64 f, .bool neg, U man, .int .i64 ex] w fun en w' => en = .returned (.tuple #[.int .u64 0, .int .i64 5]) ∧ Below w.heap.size w w' := by
  have hbw : Below w.heap.size w w := Below.refl _ _
  have HJM : Hid (Jm f p m l S I H sd Be) := J
  have hlo := J.pm.lo
  obtain ⟨lb, hlb⟩ : ∃ e : Int, e = l - 63 := ⟨_, rfl⟩
  have b1 : ((man : Int) == 0) = false := by simp; omega
  have v1 : IntKind.i64.wrap (l - 63) = lb := by rw [hlb]; simp [IntKind.wrap, IntKind.signed, IntKind.bits]; omega
  have v2 : wrap64 (l - 63) = lb := by rw [hlb]; simp only [wrap64]; omega
  have c1 : decide (ex < lb) = true := decide_eq_true (by omega)
  clear J hlo hlb h0 hx
  go_enter Tryd.func6, Tryd.ntmps6
  go_wp2_with fail
  refine (HJM.out.pm.fm.of _).mono ?_
  rintro e v1 ⟨rfl, hb1⟩
  replace hbw := Below.on hbw hb1
  clear hb1
  go_wp2_with fail
  have Xg0 : Hid (B3q (v1.alloc (.cells #[.int .i64 p, .int .i64 m, .int .i64 l] 47)) v1.heap.size (.int .i64 p) (.int .i64 m) (.int .i64 l)) := B3q.new v1 _ _ _ _
  have hbn : Below v1.heap.size v1 (v1.alloc (.cells #[.int .i64 p, .int .i64 m, .int .i64 l] 47)) := below1 v1 _
  generalize v1.alloc (.cells #[.int .i64 p, .int .i64 m, .int .i64 l] 47) = Wg at *
  have HGg : Hid (w.heap.size ≤ v1.heap.size) := hbw.size
  replace hbw := Below.on hbw hbn
  clear hbn
  generalize v1.heap.size = gg at *
  have Xg := Xg0
  clear Xg0
  obtain ⟨cg0, cg1, cg2, fg0, fg1, fg2⟩ := Xg.out
  have hneg : gg < Wg.heap.size := World.block_lt_of_cell? Wg _ cg0
  go_wp2_with fail
  clear cg0 cg1 cg2 fg0 fg1 fg2 hneg
  go_ret2
  exact ⟨rfl, hbw⟩
theorem join_hi {f p m l : Int} {S I H sd : Nat} {Be : Int} (J : Jm f p m l S I H sd Be) (neg : Bool) {man : Nat} (h0 : man ≠ 0) (ex : Int) (hx : l - 63 ≤ ex) (hx2 : Be ≤ ex) (w : World) :
    Calls Tryd.prog 6 #[.int .i64 f, .bool neg, U man, .int .i64 ex] w fun en w' => en = .returned (.tuple #[.int .u64 0, .int .i64 5]) ∧ Below w.heap.size w w' := by
  have hbw : Below w.heap.size w w := Below.refl _ _
  have HJM : Hid (Jm f p m l S I H sd Be) := J
  have hlo := J.pm.lo
  obtain ⟨lb, hlb⟩ : ∃ e : Int, e = l - 63 := ⟨_, rfl⟩
  have b1 : ((man : Int) == 0) = false := by simp; omega
  have v1 : IntKind.i64.wrap (l - 63) = lb := by rw [hlb]; simp [IntKind.wrap, IntKind.signed, IntKind.bits]; omega
  have v2 : wrap64 (l - 63) = lb := by rw [hlb]; simp only [wrap64]; omega
  have c1 : decide (ex < lb) = false := decide_eq_false (by omega)
  have c2 : decide (Be ≤ ex) = true := decide_eq_true hx2
  clear J hlo hlb h0 hx hx2
  go_enter Tryd.func6, Tryd.ntmps6
  go_wp2_with fail
  refine (HJM.out.pm.fm.of _).mono ?_
  rintro e v1 ⟨rfl, hb1⟩
  replace hbw := Below.on hbw hb1
  clear hb1
  go_wp2_with fail
  have Xg0 : Hid (B3q (v1.alloc (.cells #[.int .i64 p, .int .i64 m, .int .i64 l] 47)) v1.heap.size (.int .i64 p) (.int .i64 m) (.int .i64 l)) := B3q.new v1 _ _ _ _
  have hbn : Below v1.heap.size v1 (v1.alloc (.cells #[.int .i64 p, .int .i64 m, .int .i64 l] 47)) := below1 v1 _
  generalize v1.alloc (.cells #[.int .i64 p, .int .i64 m, .int .i64 l] 47) = Wg at *
  have HGg : Hid (w.heap.size ≤ v1.heap.size) := hbw.size
  replace hbw := Below.on hbw hbn
  clear hbn
  generalize v1.heap.size = gg at *
  have Xg := Xg0
  clear Xg0
  refine (HJM.out.be _).mono ?_
  rintro e v2 ⟨rfl, hb2⟩
  replace Xg : Hid _ := Xg.out.below hb2
  replace hbw := Below.on hbw hb2
  clear hb2
  obtain ⟨cg0, cg1, cg2, fg0, fg1, fg2⟩ := Xg.out
  have hneg : gg < v2.heap.size := World.block_lt_of_cell? v2 _ cg0
  go_wp2_with fail
  clear cg0 cg1 cg2 fg0 fg1 fg2 hneg
  go_ret2
  exact ⟨rfl, hbw⟩
theorem join_u {f p m l : Int} {S I H sd : Nat} {Be : Int} (J : Jm f p m l S I H sd Be) (neg : Bool) {man t mo L : Nat} (P : Jsp man t mo L) (ex un : Int) (h1 : l - 63 ≤ ex) (h2 : ex < Be) (hu : un = max (ex + t + L - 1 - sd) l) (h3 : ex + t < un) (w : World) (hT : qTab w) :
    Calls Tryd.prog 6 #[.int .i64 f, .bool neg, U man, .int .i64 ex] w fun en w' => en = .returned (.tuple #[.int .u64 0, .int .i64 5]) ∧ Below w.heap.size w w' := by
  obtain ⟨lb, ex2, s1, top, hB⟩ : ∃ lb ex2 s1 top : Int, lb = l - 63 ∧ ex2 = ex + t ∧ s1 = ex2 + L ∧ top = s1 - 1 := ⟨_, _, _, _, rfl, rfl, rfl, rfl⟩
  have hC := jw_b J P h1 h2 hB
  have hun : max (top - sd) l = un := jw_un hB hu
  have hbw : Below w.heap.size w w := Below.refl _ _
  have HJM : Hid (Jm f p m l S I H sd Be) := J
  have TB : Hid (qTab w) := hT
  have b1 : ((man : Int) == 0) = false := jw_z P.m0
  have v1 : IntKind.i64.wrap (l - 63) = lb := by rw [hB.1]; exact (jw hC.1.1 hC.1.2).1
  have v2 : wrap64 (l - 63) = lb := by rw [hB.1]; exact (jw hC.1.1 hC.1.2).2
  have a1 : (man : Int) / 2 ^ t = (mo : Int) := by rw [P.ma]; simp
  have a2 : IntKind.i64.wrap (ex + (t : Int)) = ex2 := by rw [hB.2.1]; exact (jw hC.2.1.1 hC.2.1.2).1
  have a3 : IntKind.i64.wrap (ex2 + (L : Int)) = s1 := by rw [hB.2.2.1]; exact (jw hC.2.2.1.1 hC.2.2.1.2).1
  have a4 : IntKind.i64.wrap (s1 - 1) = top := by rw [hB.2.2.2]; exact (jw hC.2.2.2.1.1 hC.2.2.2.1.2).1
  have w2 : wrap64 (ex + (t : Int)) = ex2 := by rw [hB.2.1]; exact (jw hC.2.1.1 hC.2.1.2).2
  have w3 : wrap64 (ex2 + (L : Int)) = s1 := by rw [hB.2.2.1]; exact (jw hC.2.2.1.1 hC.2.2.1.2).2
  have w4 : wrap64 (s1 - 1) = top := by rw [hB.2.2.2]; exact (jw hC.2.2.2.1.1 hC.2.2.2.1.2).2
  have ht64 : t < 64 := P.t6
  have c1 : decide (ex < lb) = false := decide_eq_false hC.2.2.2.2.1
  have c2 : decide (Be ≤ ex) = false := decide_eq_false (Int.not_le.2 h2)
  have HTP : Hid (-1000000000000 ≤ top ∧ top ≤ 5000 ∧ max (top - sd) l = un) := ⟨hC.2.2.2.2.2.1, hC.2.2.2.2.2.2, hun⟩
  have HMO : Hid (mo < B64 ∧ bl_bitsN mo = L ∧ man ≠ 0 ∧ man < B64 ∧ qTzIs man t) := ⟨P.o9, P.lb, P.m0, P.m9, P.tz⟩
  have c3 : decide (ex2 < un) = true := decide_eq_true (by rw [hB.2.1]; exact h3)
  clear J hT hB hC hun P h1 h2 hu h3
  go_enter Tryd.func6, Tryd.ntmps6
  go_wp2_with fail
  refine (HJM.out.pm.fm.of _).mono ?_
  rintro e v1 ⟨rfl, hb1⟩
  replace hbw := Below.on hbw hb1
  clear hb1
  go_wp2_with fail
  have Xg0 : Hid (B3q (v1.alloc (.cells #[.int .i64 p, .int .i64 m, .int .i64 l] 47)) v1.heap.size (.int .i64 p) (.int .i64 m) (.int .i64 l)) := B3q.new v1 _ _ _ _
  have hbn : Below v1.heap.size v1 (v1.alloc (.cells #[.int .i64 p, .int .i64 m, .int .i64 l] 47)) := below1 v1 _
  generalize v1.alloc (.cells #[.int .i64 p, .int .i64 m, .int .i64 l] 47) = Wg at *
  have HGg : Hid (w.heap.size ≤ v1.heap.size) := hbw.size
  replace hbw := Below.on hbw hbn
  clear hbn
  generalize v1.heap.size = gg at *
  have Xg := Xg0
  clear Xg0
  refine (HJM.out.be _).mono ?_
  rintro e v2 ⟨rfl, hb2⟩
  replace Xg : Hid _ := Xg.out.below hb2
  replace hbw := Below.on hbw hb2
  clear hb2
  obtain ⟨cg0, cg1, cg2, fg0, fg1, fg2⟩ := Xg.out
  have hneg : gg < v2.heap.size := World.block_lt_of_cell? v2 _ cg0
  go_wp2_with fail
  clear cg0 cg1 cg2 fg0 fg1 fg2 hneg
  refine (qtz_any HMO.out.2.2.1 HMO.out.2.2.2.1 HMO.out.2.2.2.2 (TB.out.below hbw)).mono ?_
  rintro e2 v3 ⟨rfl, hw⟩
  obtain rfl := hw.symm
  clear hw
  obtain ⟨cg0, cg1, cg2, fg0, fg1, fg2⟩ := Xg.out
  have hneg : gg < v2.heap.size := World.block_lt_of_cell? v2 _ cg0
  go_wp2_with fail
  clear cg0 cg1 cg2 fg0 fg1 fg2 hneg
  refine (bl_len_any mo _ HMO.out.1).mono ?_
  rintro e2 v3 ⟨rfl, hw⟩
  obtain rfl := hw.symm
  clear hw
  rw [HMO.out.2.1]
  obtain ⟨cg0, cg1, cg2, fg0, fg1, fg2⟩ := Xg.out
  have hneg : gg < v2.heap.size := World.block_lt_of_cell? v2 _ cg0
  go_wp2_with fail
  clear cg0 cg1 cg2 fg0 fg1 fg2 hneg
  refine (HJM.out.un top _ HTP.out.1 HTP.out.2.1).mono ?_
  rintro e v4 ⟨rfl, hb4⟩
  rw [HTP.out.2.2]
  replace Xg : Hid _ := Xg.out.below hb4
  replace hbw := Below.on hbw hb4
  clear hb4
  obtain ⟨cg0, cg1, cg2, fg0, fg1, fg2⟩ := Xg.out
  have hneg : gg < v4.heap.size := World.block_lt_of_cell? v4 _ cg0
  go_wp2_with fail
  clear cg0 cg1 cg2 fg0 fg1 fg2 hneg
  go_ret2
  exact ⟨rfl, hbw⟩
theorem join_t {f p m l : Int} {S I H sd : Nat} {Be : Int} (J : Jm f p m l S I H sd Be) (neg : Bool) {man t mo L : Nat} (P : Jsp man t mo L) (ex un : Int) (h1 : l - 63 ≤ ex) (h2 : ex < Be) (hu : un = max (ex + t + L - 1 - sd) l) (h3 : un ≤ ex + t) (h4 : Be ≤ ex + t + L - 1) (w : World) (hT : qTab w) :
    Calls Tryd.prog 6 #[.int .i64 f, .bool neg, U man, .int .i64 ex] w fun en w' => en = .returned (.tuple #[.int .u64 0, .int .i64 5]) ∧ Below w.heap.size w w' := by
  obtain ⟨lb, ex2, s1, top, hB⟩ : ∃ lb ex2 s1 top : Int, lb = l - 63 ∧ ex2 = ex + t ∧ s1 = ex2 + L ∧ top = s1 - 1 := ⟨_, _, _, _, rfl, rfl, rfl, rfl⟩
  have hC := jw_b J P h1 h2 hB
  have hun : max (top - sd) l = un := jw_un hB hu
  have hbw : Below w.heap.size w w := Below.refl _ _
  have HJM : Hid (Jm f p m l S I H sd Be) := J
  have TB : Hid (qTab w) := hT
  have b1 : ((man : Int) == 0) = false := jw_z P.m0
  have v1 : IntKind.i64.wrap (l - 63) = lb := by rw [hB.1]; exact (jw hC.1.1 hC.1.2).1
  have v2 : wrap64 (l - 63) = lb := by rw [hB.1]; exact (jw hC.1.1 hC.1.2).2
  have a1 : (man : Int) / 2 ^ t = (mo : Int) := by rw [P.ma]; simp
  have a2 : IntKind.i64.wrap (ex + (t : Int)) = ex2 := by rw [hB.2.1]; exact (jw hC.2.1.1 hC.2.1.2).1
  have a3 : IntKind.i64.wrap (ex2 + (L : Int)) = s1 := by rw [hB.2.2.1]; exact (jw hC.2.2.1.1 hC.2.2.1.2).1
  have a4 : IntKind.i64.wrap (s1 - 1) = top := by rw [hB.2.2.2]; exact (jw hC.2.2.2.1.1 hC.2.2.2.1.2).1
  have w2 : wrap64 (ex + (t : Int)) = ex2 := by rw [hB.2.1]; exact (jw hC.2.1.1 hC.2.1.2).2
  have w3 : wrap64 (ex2 + (L : Int)) = s1 := by rw [hB.2.2.1]; exact (jw hC.2.2.1.1 hC.2.2.1.2).2
  have w4 : wrap64 (s1 - 1) = top := by rw [hB.2.2.2]; exact (jw hC.2.2.2.1.1 hC.2.2.2.1.2).2
  have ht64 : t < 64 := P.t6
  have c1 : decide (ex < lb) = false := decide_eq_false hC.2.2.2.2.1
  have c2 : decide (Be ≤ ex) = false := decide_eq_false (Int.not_le.2 h2)
  have HTP : Hid (-1000000000000 ≤ top ∧ top ≤ 5000 ∧ max (top - sd) l = un) := ⟨hC.2.2.2.2.2.1, hC.2.2.2.2.2.2, hun⟩
  have HMO : Hid (mo < B64 ∧ bl_bitsN mo = L ∧ man ≠ 0 ∧ man < B64 ∧ qTzIs man t) := ⟨P.o9, P.lb, P.m0, P.m9, P.tz⟩
  have c3 : decide (ex2 < un) = false := decide_eq_false (by rw [hB.2.1]; exact Int.not_lt.2 h3)
  have c4 : decide (Be ≤ top) = true := decide_eq_true (by rw [hB.2.2.2, hB.2.2.1, hB.2.1]; exact h4)
  clear J hT hB hC hun P h1 h2 hu h3 h4
  go_enter Tryd.func6, Tryd.ntmps6
  go_wp2_with fail
  refine (HJM.out.pm.fm.of _).mono ?_
  rintro e v1 ⟨rfl, hb1⟩
  replace hbw := Below.on hbw hb1
  clear hb1
  go_wp2_with fail
  have Xg0 : Hid (B3q (v1.alloc (.cells #[.int .i64 p, .int .i64 m, .int .i64 l] 47)) v1.heap.size (.int .i64 p) (.int .i64 m) (.int .i64 l)) := B3q.new v1 _ _ _ _
  have hbn : Below v1.heap.size v1 (v1.alloc (.cells #[.int .i64 p, .int .i64 m, .int .i64 l] 47)) := below1 v1 _
  generalize v1.alloc (.cells #[.int .i64 p, .int .i64 m, .int .i64 l] 47) = Wg at *
  have HGg : Hid (w.heap.size ≤ v1.heap.size) := hbw.size
  replace hbw := Below.on hbw hbn
  clear hbn
  generalize v1.heap.size = gg at *
  have Xg := Xg0
  clear Xg0
  refine (HJM.out.be _).mono ?_
  rintro e v2 ⟨rfl, hb2⟩
  replace Xg : Hid _ := Xg.out.below hb2
  replace hbw := Below.on hbw hb2
  clear hb2
  obtain ⟨cg0, cg1, cg2, fg0, fg1, fg2⟩ := Xg.out
  have hneg : gg < v2.heap.size := World.block_lt_of_cell? v2 _ cg0
  go_wp2_with fail
  clear cg0 cg1 cg2 fg0 fg1 fg2 hneg
  refine (qtz_any HMO.out.2.2.1 HMO.out.2.2.2.1 HMO.out.2.2.2.2 (TB.out.below hbw)).mono ?_
  rintro e2 v3 ⟨rfl, hw⟩
  obtain rfl := hw.symm
  clear hw
  obtain ⟨cg0, cg1, cg2, fg0, fg1, fg2⟩ := Xg.out
  have hneg : gg < v2.heap.size := World.block_lt_of_cell? v2 _ cg0
  go_wp2_with fail
  clear cg0 cg1 cg2 fg0 fg1 fg2 hneg
  refine (bl_len_any mo _ HMO.out.1).mono ?_
  rintro e2 v3 ⟨rfl, hw⟩
  obtain rfl := hw.symm
  clear hw
  rw [HMO.out.2.1]
  obtain ⟨cg0, cg1, cg2, fg0, fg1, fg2⟩ := Xg.out
  have hneg : gg < v2.heap.size := World.block_lt_of_cell? v2 _ cg0
  go_wp2_with fail
  clear cg0 cg1 cg2 fg0 fg1 fg2 hneg
  refine (HJM.out.un top _ HTP.out.1 HTP.out.2.1).mono ?_
  rintro e v4 ⟨rfl, hb4⟩
  rw [HTP.out.2.2]
  replace Xg : Hid _ := Xg.out.below hb4
  replace hbw := Below.on hbw hb4
  clear hb4
  obtain ⟨cg0, cg1, cg2, fg0, fg1, fg2⟩ := Xg.out
  have hneg : gg < v4.heap.size := World.block_lt_of_cell? v4 _ cg0
  go_wp2_with fail
  clear cg0 cg1 cg2 fg0 fg1 fg2 hneg
  refine (HJM.out.be _).mono ?_
  rintro e v5 ⟨rfl, hb5⟩
  replace Xg : Hid _ := Xg.out.below hb5
  replace hbw := Below.on hbw hb5
  clear hb5
  obtain ⟨cg0, cg1, cg2, fg0, fg1, fg2⟩ := Xg.out
  have hneg : gg < v5.heap.size := World.block_lt_of_cell? v5 _ cg0
  go_wp2_with fail
  clear cg0 cg1 cg2 fg0 fg1 fg2 hneg
  go_ret2
  exact ⟨rfl, hbw⟩
theorem join_k {f p m l : Int} {S I H sd : Nat} {Be : Int} (J : Jm f p m l S I H sd Be) (neg : Bool) {man t mo L : Nat} (P : Jsp man t mo L) (ex un : Int) (h1 : l - 63 ≤ ex) (h2 : ex < Be) (hu : un = max (ex + t + L - 1 - sd) l) (q k z : Nat) (hq : un = l + q) (hk : ex + t = un + k) (h4 : ex + t + L - 1 < Be) (hm : mo * 2 ^ k < 2 * H) (hq2 : q < 2046 ∧ (q : Int) < Be - l - sd) (hz : z = q * H + mo * 2 ^ k ∧ z < S) (w : World) (hT : qTab w) :
    Calls Tryd.prog 6 #[.int .i64 f, .bool neg, U man, .int .i64 ex] w fun en w' => en = .returned (.tuple #[U (if neg then S + z else z), .int .i64 0]) ∧ Below w.heap.size w w' := by
  obtain ⟨lb, ex2, s1, top, hB⟩ : ∃ lb ex2 s1 top : Int, lb = l - 63 ∧ ex2 = ex + t ∧ s1 = ex2 + L ∧ top = s1 - 1 := ⟨_, _, _, _, rfl, rfl, rfl, rfl⟩
  have hC := jw_b J P h1 h2 hB
  have hun : max (top - sd) l = un := jw_un hB hu
  have hD := jw_k J P h1 h2 hB hk hq hq2
  have h9 := J.pm.h9
  have hbw : Below w.heap.size w w := Below.refl _ _
  have HJM : Hid (Jm f p m l S I H sd Be) := J
  have TB : Hid (qTab w) := hT
  have b1 : ((man : Int) == 0) = false := jw_z P.m0
  have v1 : IntKind.i64.wrap (l - 63) = lb := by rw [hB.1]; exact (jw hC.1.1 hC.1.2).1
  have v2 : wrap64 (l - 63) = lb := by rw [hB.1]; exact (jw hC.1.1 hC.1.2).2
  have a1 : (man : Int) / 2 ^ t = (mo : Int) := by rw [P.ma]; simp
  have a2 : IntKind.i64.wrap (ex + (t : Int)) = ex2 := by rw [hB.2.1]; exact (jw hC.2.1.1 hC.2.1.2).1
  have a3 : IntKind.i64.wrap (ex2 + (L : Int)) = s1 := by rw [hB.2.2.1]; exact (jw hC.2.2.1.1 hC.2.2.1.2).1
  have a4 : IntKind.i64.wrap (s1 - 1) = top := by rw [hB.2.2.2]; exact (jw hC.2.2.2.1.1 hC.2.2.2.1.2).1
  have w2 : wrap64 (ex + (t : Int)) = ex2 := by rw [hB.2.1]; exact (jw hC.2.1.1 hC.2.1.2).2
  have w3 : wrap64 (ex2 + (L : Int)) = s1 := by rw [hB.2.2.1]; exact (jw hC.2.2.1.1 hC.2.2.1.2).2
  have w4 : wrap64 (s1 - 1) = top := by rw [hB.2.2.2]; exact (jw hC.2.2.2.1.1 hC.2.2.2.1.2).2
  have ht64 : t < 64 := P.t6
  have c1 : decide (ex < lb) = false := decide_eq_false hC.2.2.2.2.1
  have c2 : decide (Be ≤ ex) = false := decide_eq_false (Int.not_le.2 h2)
  have HTP : Hid (-1000000000000 ≤ top ∧ top ≤ 5000 ∧ max (top - sd) l = un) := ⟨hC.2.2.2.2.2.1, hC.2.2.2.2.2.2, hun⟩
  have HMO : Hid (mo < B64 ∧ bl_bitsN mo = L ∧ man ≠ 0 ∧ man < B64 ∧ qTzIs man t) := ⟨P.o9, P.lb, P.m0, P.m9, P.tz⟩
  have c3 : decide (ex2 < un) = false := decide_eq_false hD.1
  have c4 : decide (Be ≤ top) = false := decide_eq_false (by rw [hB.2.2.2, hB.2.2.1, hB.2.1]; exact Int.not_le.2 h4)
  have a5 : IntKind.i64.wrap (ex2 - un) = (k : Int) := by rw [hD.2.1]; exact (jw hD.2.2.1 hD.2.2.2).1
  have w5 : wrap64 (ex2 - un) = (k : Int) := by rw [hD.2.1]; exact (jw hD.2.2.1 hD.2.2.2).2
  have hk64 : k < 64 := jw_k6 P hm J.pm.h9
  obtain ⟨mn, hmn⟩ : ∃ mn, mn = mo * 2 ^ k := ⟨_, rfl⟩
  rw [← hmn] at hm hz
  have a6 : IntKind.u64.wrap ((mo : Int) * 2 ^ k) = (mn : Int) := by
    have hyc : ((mo : Int) * 2 ^ k) = (mn : Int) := by rw [hmn]; simp
    rw [hyc]; exact jw_u (Nat.lt_of_lt_of_le hm h9)
  have HSZ : Hid (un = l + q ∧ q < 2046 ∧ (q : Int) < Be - l - sd ∧ mn ≤ 2 * H ∧ q * H + mn = z ∧ z < S) := ⟨hq, hq2.1, hq2.2, Nat.le_of_lt hm, hz.1.symm, hz.2⟩
  obtain ⟨r, hr⟩ : ∃ r, r = (if neg then S + z else z) := ⟨_, rfl⟩
  rw [← hr]
  have HR : Hid ((if neg then S + z else z) = r) := hr.symm
  clear J hT hB hC hun P h1 h2 hu hq hk h4 hm hq2 hz h9 hmn hr hD
  go_enter Tryd.func6, Tryd.ntmps6
  go_wp2_with fail
  refine (HJM.out.pm.fm.of _).mono ?_
  rintro e v1 ⟨rfl, hb1⟩
  replace hbw := Below.on hbw hb1
  clear hb1
  go_wp2_with fail
  have Xg0 : Hid (B3q (v1.alloc (.cells #[.int .i64 p, .int .i64 m, .int .i64 l] 47)) v1.heap.size (.int .i64 p) (.int .i64 m) (.int .i64 l)) := B3q.new v1 _ _ _ _
  have hbn : Below v1.heap.size v1 (v1.alloc (.cells #[.int .i64 p, .int .i64 m, .int .i64 l] 47)) := below1 v1 _
  generalize v1.alloc (.cells #[.int .i64 p, .int .i64 m, .int .i64 l] 47) = Wg at *
  have HGg : Hid (w.heap.size ≤ v1.heap.size) := hbw.size
  replace hbw := Below.on hbw hbn
  clear hbn
  generalize v1.heap.size = gg at *
  have Xg := Xg0
  clear Xg0
  refine (HJM.out.be _).mono ?_
  rintro e v2 ⟨rfl, hb2⟩
  replace Xg : Hid _ := Xg.out.below hb2
  replace hbw := Below.on hbw hb2
  clear hb2
  obtain ⟨cg0, cg1, cg2, fg0, fg1, fg2⟩ := Xg.out
  have hneg : gg < v2.heap.size := World.block_lt_of_cell? v2 _ cg0
  go_wp2_with fail
  clear cg0 cg1 cg2 fg0 fg1 fg2 hneg
  refine (qtz_any HMO.out.2.2.1 HMO.out.2.2.2.1 HMO.out.2.2.2.2 (TB.out.below hbw)).mono ?_
  rintro e2 v3 ⟨rfl, hw⟩
  obtain rfl := hw.symm
  clear hw
  obtain ⟨cg0, cg1, cg2, fg0, fg1, fg2⟩ := Xg.out
  have hneg : gg < v2.heap.size := World.block_lt_of_cell? v2 _ cg0
  go_wp2_with fail
  clear cg0 cg1 cg2 fg0 fg1 fg2 hneg
  refine (bl_len_any mo _ HMO.out.1).mono ?_
  rintro e2 v3 ⟨rfl, hw⟩
  obtain rfl := hw.symm
  clear hw
  rw [HMO.out.2.1]
  obtain ⟨cg0, cg1, cg2, fg0, fg1, fg2⟩ := Xg.out
  have hneg : gg < v2.heap.size := World.block_lt_of_cell? v2 _ cg0
  go_wp2_with fail
  clear cg0 cg1 cg2 fg0 fg1 fg2 hneg
  refine (HJM.out.un top _ HTP.out.1 HTP.out.2.1).mono ?_
  rintro e v4 ⟨rfl, hb4⟩
  rw [HTP.out.2.2]
  replace Xg : Hid _ := Xg.out.below hb4
  replace hbw := Below.on hbw hb4
  clear hb4
  obtain ⟨cg0, cg1, cg2, fg0, fg1, fg2⟩ := Xg.out
  have hneg : gg < v4.heap.size := World.block_lt_of_cell? v4 _ cg0
  go_wp2_with fail
  clear cg0 cg1 cg2 fg0 fg1 fg2 hneg
  refine (HJM.out.be _).mono ?_
  rintro e v5 ⟨rfl, hb5⟩
  replace Xg : Hid _ := Xg.out.below hb5
  replace hbw := Below.on hbw hb5
  clear hb5
  obtain ⟨cg0, cg1, cg2, fg0, fg1, fg2⟩ := Xg.out
  have hneg : gg < v5.heap.size := World.block_lt_of_cell? v5 _ cg0
  go_wp2_with fail
  clear cg0 cg1 cg2 fg0 fg1 fg2 hneg
  obtain ⟨Wr, hWr⟩ : ∃ W1, W1 = v5.drew := ⟨_, rfl⟩
  have hbd : Below v5.heap.size v5 Wr := by rw [hWr]; exact bDrew1 (Below.refl _ _)
  replace Xg : Hid _ := Xg.out.below hbd
  replace hbw := Below.on hbw hbd
  clear hbd
  have HJ : Hid ((fun W' : World => W'.cell? ⟨gg, 0, none⟩ = some (.int .i64 p) ∧ W'.cell? ⟨gg, 1, none⟩ = some (.int .i64 m) ∧ W'.cell? ⟨gg, 2, none⟩ = some (.int .i64 l)) Wr) := ⟨Xg.out.c0, Xg.out.c1, Xg.out.c2⟩
  refine wp_region_J (fun W' => W'.cell? ⟨gg, 0, none⟩ = some (.int .i64 p) ∧ W'.cell? ⟨gg, 1, none⟩ = some (.int .i64 m) ∧ W'.cell? ⟨gg, 2, none⟩ = some (.int .i64 l)) (by kernel_rfl) ?_
  rw [← hWr]
  clear hWr
  refine wpJ_tq 0 rfl HJ.out ?_
  refine wpJ_tq 1 rfl HJ.out ?_
  refine wpJ_tq 2 rfl HJ.out ?_
  refine wpJ_tq 3 rfl HJ.out ?_
  refine wpJ_tq 4 rfl HJ.out ?_
  go_simp
  refine wpJ_tq 5 rfl HJ.out ?_
  refine wpJ_tq 6 rfl HJ.out ?_
  refine wpJ_tq 7 rfl HJ.out ?_
  refine wpJ_tq 8 rfl HJ.out ?_
  refine wpJ_on 9 rfl fun KJ hK => ?_
  go_simp
  refine (HJM.out.sz mn q un _ HSZ.out.1 HSZ.out.2.1 HSZ.out.2.2.1 HSZ.out.2.2.2.1).mono ?_
  rintro e v6 ⟨rfl, hb6⟩
  rw [HSZ.out.2.2.2.2.1]
  replace Xg : Hid _ := Xg.out.below hb6
  replace hbw := Below.on hbw hb6
  clear hb6
  refine hK _ _ ⟨Xg.out.c0, Xg.out.c1, Xg.out.c2⟩ ?_
  clear hK
  refine wpJ_on 10 rfl fun KJ hK => ?_
  go_simp
  refine (HJM.out.pm.fm.sgn neg z _ HSZ.out.2.2.2.2.2).mono ?_
  rintro e v7 ⟨rfl, hb7⟩
  rw [HR.out]
  replace Xg : Hid _ := Xg.out.below hb7
  replace hbw := Below.on hbw hb7
  clear hb7
  clear HJ
  have HJ : Hid ((fun W' : World => W'.cell? ⟨gg, 0, none⟩ = some (.int .i64 p) ∧ W'.cell? ⟨gg, 1, none⟩ = some (.int .i64 m) ∧ W'.cell? ⟨gg, 2, none⟩ = some (.int .i64 l)) v7) := ⟨Xg.out.c0, Xg.out.c1, Xg.out.c2⟩
  refine hK _ _ HJ.out ?_
  clear hK
  refine wpJ_tq 11 rfl HJ.out ?_
  refine wpJ_tq 12 rfl HJ.out ?_
  refine wpJ_done (by kernel_rfl) ?_ _
  clear HJ
  go_wp2_with fail
  go_ret2
  exact ⟨rfl, hbw⟩
theorem join_all {f p m l : Int} {S I H sd : Nat} {Be : Int} (J : Jm f p m l S I H sd Be) {n : Nat} (hn : Be = l + sd + n) (hI : I = (n + 1) * H) (h1n : 1 ≤ n ∧ n ≤ 2046) (neg : Bool) {man : Nat} (hm9 : man < B64) (ex : Int) (w : World) (hT : qTab w) :
    Calls Tryd.prog 6 #[.int .i64 f, .bool neg, U man, .int .i64 ex] w fun en w' => ∃ r er, en = .returned (.tuple #[U r, .int .i64 er]) ∧ JA S H I l neg man ex r er ∧ Below w.heap.size w w' := by
  have hp := J.pm.hp
  have hlt := J.pm.fm.lt
  by_cases h0 : man = 0
  · subst h0
    refine (join_z J neg ex w).mono fun en w' ⟨h1, h2⟩ => ⟨_, _, h1, .inl ⟨rfl, 0, ⟨?_, ?_⟩, ?_⟩, h2⟩
    · have := J.pm.fm.pos; omega
    · rw [vs_zero, Nat.zero_mul, Nat.zero_mul]
    · cases neg <;> rfl
  · obtain ⟨t, mo, L, P⟩ := jsp_ex h0 hm9
    have hno : ∀ s, (ex + t < max (ex + t + L - 1 - sd) l ∨ Be ≤ ex + t + L - 1) → ¬ JnR H I l man ex s := fun s h => by
      rw [P.eq]
      exact jn_none J.hs hn hI h1n.1 P.od P.le P.l1 h s
    have ht6 := P.t6
    have hl1 := P.l1
    by_cases h1 : ex < l - 63
    · exact (join_lo J neg h0 ex h1 w).mono fun en w' ⟨h2, h3⟩ => ⟨0, 5, h2, .inr ⟨rfl, rfl, fun s => hno s (.inl (by omega))⟩, h3⟩
    by_cases h2 : Be ≤ ex
    · exact (join_hi J neg h0 ex (by omega) h2 w).mono fun en w' ⟨h2, h3⟩ => ⟨0, 5, h2, .inr ⟨rfl, rfl, fun s => hno s (.inr (by omega))⟩, h3⟩
    by_cases h3 : ex + t < max (ex + t + L - 1 - sd) l
    · exact (join_u J neg P ex _ (by omega) (by omega) rfl h3 w hT).mono fun en w' ⟨h2, h4⟩ => ⟨0, 5, h2, .inr ⟨rfl, rfl, fun s => hno s (.inl h3)⟩, h4⟩
    by_cases h4 : Be ≤ ex + t + L - 1
    · exact (join_t J neg P ex _ (by omega) (by omega) rfl (by omega) h4 w hT).mono fun en w' ⟨h2, h5⟩ => ⟨0, 5, h2, .inr ⟨rfl, rfl, fun s => hno s (.inr h4)⟩, h5⟩
    · obtain ⟨q, hq⟩ : ∃ q : Nat, l + (q : Int) = max (ex + t + L - 1 - sd) l := ⟨(max (ex + t + L - 1 - sd) l - l).toNat, by omega⟩
      obtain ⟨k, hk⟩ : ∃ k : Nat, ex + t = l + (q : Int) + (k : Int) := ⟨(ex + t - (l + q)).toNat, by omega⟩
      obtain ⟨h5, h6, h7⟩ := jn_some J.hs hn hI h1n.1 P.lt P.le P.l1 hq hk (by omega)
      refine (join_k J neg P ex (l + q) (by omega) (by omega) hq q k _ rfl hk (by omega) h6 ⟨by omega, by omega⟩ ⟨rfl, Nat.lt_trans h5.1 hlt⟩ w hT).mono fun en w' ⟨h2, h8⟩ => ⟨_, _, h2, .inl ⟨rfl, _, ?_, rfl⟩, h8⟩
      rw [P.eq]
      exact h5
theorem rsign04 {p : Option Addr} {m : Nat} {w : World} {z : Int} (s : Bool) (h : ZR w s p m z) :
    Calls Tryd.prog 70 #[.agg #[.bool s, .slice p m m]] w fun e w' => e = .returned (.int .i64 (sgnI z)) ∧ Below w.heap.size w w' := by
  have hz := h.zero
  have hsg := h.sg
  obtain ⟨sg, hs⟩ : ∃ sg, sg = sgnI z := ⟨_, rfl⟩
  rw [← hs]
  by_cases hm : m = 0
  · have hv : sg = 0 := by rw [hs, hz.1 hm]; rfl
    subst hv
    subst hm
    clear h hz hsg hs
    go_enter Tryd.func70, Tryd.ntmps70
    go_wp2_with fail
    go_ret
    exact ⟨rfl, below1 w _⟩
  · have hm0 : ((m : Int) == 0) = false := by simp; omega
    have hz0 : z ≠ 0 := fun e => hm (hz.2 e)
    cases s
    · have hv : sg = 1 := by rw [hs]; unfold sgnI; have := of_decide_eq_false hsg.symm; rw [if_neg this, if_neg hz0]
      subst hv
      clear h hz hsg hs hz0
      go_enter Tryd.func70, Tryd.ntmps70
      go_wp2_with fail
      go_ret
      exact ⟨rfl, below1 w _⟩
    · have hv : sg = -1 := by rw [hs]; unfold sgnI; have := of_decide_eq_true hsg.symm; rw [if_pos this]
      subst hv
      clear h hz hsg hs hz0
      go_enter Tryd.func70, Tryd.ntmps70
      go_wp2_with fail
      go_ret
      exact ⟨rfl, below1 w _⟩
def NewAt (B : Nat) (w : World) (p : Option Addr) (m c : Nat) (us : List Nat) : Prop := At w p m c us ∧ (m = 0 ∨ ∃ g, p = some ⟨g, 0, none⟩ ∧ B ≤ g)
theorem NewAt.below {B : Nat} {w w' : World} {p : Option Addr} {m c : Nat} {us : List Nat} (h : NewAt B w p m c us) (hb : Below w.heap.size w w') : NewAt B w' p m c us := ⟨h.1.below hb, h.2⟩
theorem NewAt.mono {B B' : Nat} {w : World} {p : Option Addr} {m c : Nat} {us : List Nat} (h : NewAt B w p m c us) (hB : B' ≤ B) : NewAt B' w p m c us :=
  ⟨h.1, h.2.imp id (fun ⟨g, e, k⟩ => ⟨g, e, Nat.le_trans hB k⟩)⟩
theorem NewAt.set {B : Nat} {w : World} {p : Option Addr} {m c : Nat} {us : List Nat} (h : NewAt B w p m c us) {r : Nat} (hr : r < B) (o : Nat) (v : Value) : NewAt B (w.setCell ⟨r, o, none⟩ v) p m c us := by
  refine ⟨?_, h.2⟩
  rcases h.2 with h0 | ⟨g, rfl, hg⟩
  · subst h0
    obtain rfl : us = [] := List.eq_nil_of_length_eq_zero h.1.len
    exact At.empty _ _ _ h.1.big
  · exact h.1.setOther _ _ _ (by omega)
def DocZ (z : Int) (s : Bool) (us : List Nat) (er : Int) : Prop :=
  (z.natAbs < LIM ∧ s = decide (z < 0) ∧ Nf B64 us z.natAbs ∧ er = 0) ∨ (LIM ≤ z.natAbs ∧ s = false ∧ us = [] ∧ er = 5)
theorem DocZ.inj {z : Int} {s s' : Bool} {us us' : List Nat} {er er' : Int} (h : DocZ z s us er) (k : DocZ z s' us' er') : s = s' ∧ us = us' ∧ er = er' := by
  rcases h with ⟨h0, rfl, h1, rfl⟩ | ⟨h0, rfl, rfl, rfl⟩ <;> rcases k with ⟨k0, rfl, k1, rfl⟩ | ⟨k0, rfl, rfl, rfl⟩
  · exact ⟨rfl, h1.inj B64_one k1, rfl⟩
  · omega
  · omega
  · exact ⟨rfl, rfl, rfl⟩
theorem lim32 {zs : List Nat} {a : Nat} (h : Nf B32 zs a) : zs.length ≤ 16384 ↔ a < LIM := by
  rw [h.len_le B32_one]
  obtain ⟨K, hK⟩ : ∃ K, K = 8192 := ⟨_, rfl⟩
  rw [LIM_eq K hK, ← B32_two, show (16384 : Nat) = 2 * K by omega, Nat.pow_mul, Nat.pow_two]
def OneZ (r : Int → Int) (sx : Bool) (xs : List Nat) (s : Bool) (us : List Nat) (er : Int) : Prop :=
  (formZ sx xs = false ∧ s = false ∧ us = [] ∧ er = 2) ∨ (formZ sx xs = true ∧ DocZ (r (iv sx (valB B64 xs))) s us er)
def TwoZ (r : Int → Int → Int) (sx : Bool) (xs : List Nat) (sy : Bool) (ys : List Nat) (s : Bool) (us : List Nat) (er : Int) : Prop :=
  ((formZ sx xs && formZ sy ys) = false ∧ s = false ∧ us = [] ∧ er = 2) ∨ ((formZ sx xs && formZ sy ys) = true ∧ DocZ (r (iv sx (valB B64 xs)) (iv sy (valB B64 ys))) s us er)
theorem OneZ.inj {r : Int → Int} {sx : Bool} {xs : List Nat} {s s' : Bool} {us us' : List Nat} {er er' : Int} (h : OneZ r sx xs s us er) (k : OneZ r sx xs s' us' er') : s = s' ∧ us = us' ∧ er = er' := by
  rcases h with ⟨h0, rfl, rfl, rfl⟩ | ⟨h0, h1⟩ <;> rcases k with ⟨k0, rfl, rfl, rfl⟩ | ⟨k0, k1⟩
  · exact ⟨rfl, rfl, rfl⟩
  · rw [h0] at k0; cases k0
  · rw [h0] at k0; cases k0
  · exact h1.inj k1
theorem TwoZ.inj {r : Int → Int → Int} {sx sy : Bool} {xs ys : List Nat} {s s' : Bool} {us us' : List Nat} {er er' : Int} (h : TwoZ r sx xs sy ys s us er) (k : TwoZ r sx xs sy ys s' us' er') : s = s' ∧ us = us' ∧ er = er' := by
  rcases h with ⟨h0, rfl, rfl, rfl⟩ | ⟨h0, h1⟩ <;> rcases k with ⟨k0, rfl, rfl, rfl⟩ | ⟨k0, k1⟩
  · exact ⟨rfl, rfl, rfl⟩
  · rw [h0] at k0; cases k0
  · rw [h0] at k0; cases k0
  · exact h1.inj k1
def OffR (g m g2 : Nat) : Prop := m = 0 ∨ g ≠ g2
theorem ZR.setOff {w : World} {s : Bool} {g m : Nat} {z : Int} (h : ZR w s (some ⟨g, 0, none⟩) m z) {g2 : Nat} (hf : OffR g m g2) (o2 : Nat) (v : Value) : ZR (w.setCell ⟨g2, o2, none⟩ v) s (some ⟨g, 0, none⟩) m z := by
  rcases hf with h0 | h0
  · subst h0
    obtain ⟨zs, hA, hN⟩ := h.ex
    obtain rfl : zs = [] := List.eq_nil_of_length_eq_zero hA.len
    exact ⟨⟨[], At32.empty _ _ _ (by decide), hN⟩, h.sg⟩
  · exact h.set g2 o2 v h0
structure WinRel32 (w : World) (g off n : Nat) (W D d b : Nat) (ws : List Nat) (wr : World) : Prop where
  wrs : Wr g off (n + 1) w wr
  row : Row32 wr g off (n + 1) ws
  db : d < B32
  bb : b ≤ 1
  ge : W / D ≤ d
  sum : valB B32 ws + D * d = W + B32 ^ (n + 1) * b
theorem WinRel32.done {w : World} {g off n W D d : Nat} {ws : List Nat} {wr : World} (h : WinRel32 w g off n W D d 0 ws wr) (hD : 0 < D) : d = W / D ∧ valB B32 ws = W % D := by
  have h1 := h.sum; have h2 := h.ge
  rw [Nat.mul_zero, Nat.add_zero] at h1
  have h3 : d ≤ W / D := (Nat.le_div_iff_mul_le hD).2 (by rw [Nat.mul_comm]; omega)
  have h4 : d = W / D := by omega
  refine ⟨h4, ?_⟩
  have h5 := Nat.div_add_mod W D
  rw [← h4] at h5
  omega
structure DgS (w : World) (g off n : Nat) (us vs : List Nat) (q k cy ow : Nat) (dk : List Nat) (wr : World) : Prop where
  wrs : Wr g off (n + 1) w wr
  row : Row32 wr g off (n + 1) dk
  hi : dk.drop k = us.drop k
  car : cy < B32
  owb : ow ≤ 1
  fin : k = n + 1 → cy = 0
  sum : valB B32 (dk.take k) + valB B32 (vs.take k) * q = valB B32 (us.take k) + B32 ^ k * (ow + cy)
theorem dgs_abs {P B S V U q d y u o c o' c' : Nat} (h : S + V * q = U + P * (o + c)) (hs : o + c + d + y * q = u + B * (o' + c')) : S + P * d + (V + P * y) * q = U + P * u + P * B * (o' + c') := by
  have e1 : P * (o + c + d + y * q) = P * (u + B * (o' + c')) := by rw [hs]
  rw [Nat.mul_add P (o + c + d) (y * q), Nat.mul_add P (o + c) d, Nat.mul_add P u] at e1
  have e2 : P * (y * q) = P * y * q := (Nat.mul_assoc _ _ _).symm
  have e3 : P * (B * (o' + c')) = P * B * (o' + c') := (Nat.mul_assoc _ _ _).symm
  rw [e2, e3] at e1
  rw [Nat.add_mul]
  generalize P * y * q = X1 at *
  generalize P * B * (o' + c') = X2 at *
  generalize P * (o + c) = X3 at *
  generalize P * d = X4 at *
  generalize P * u = X5 at *
  omega
theorem DgS.step {w : World} {g off n : Nat} {us vs : List Nat} {q k cy ow : Nat} {dk : List Nat} {wr : World} (h : DgS w g off n us vs q k cy ow dk wr) (hk : k < n + 1) (hvl : vs.length = n)
    {y u c1 lo cy' ow' d : Nat} (hy : y = vs.getD k 0) (hu : u = dk.getD k 0) (hc1 : c1 = cy + y * q) (hlo : c1 = lo + B32 * cy') (hcy' : cy' < B32) (how' : ow' ≤ 1) (hd : d + lo + ow = u + B32 * ow') (hdb : d < B32) :
    DgS w g off n us vs q (k + 1) cy' ow' (dk.set k d) (wr.setCell ⟨g, off + k, none⟩ (V d)) := by
  have hlen := h.row.len
  refine ⟨h.wrs.setCell (off + k) ⟨by omega, by omega⟩ _, h.row.set k d hk hdb, ?_, hcy', how', ?_, ?_⟩
  · rw [drop_set_lt]; exact drop_succ_of_drop h.hi
  · intro hkn
    have h0 : y = 0 := by
      rw [hy, List.getD_eq_getElem?_getD, List.getElem?_eq_none (by omega)]; rfl
    rw [h0, Nat.zero_mul] at hc1
    have := h.car
    rcases Nat.eq_zero_or_pos cy' with e | e
    · exact e
    · have : B32 * 1 ≤ B32 * cy' := Nat.mul_le_mul_left _ e
      omega
  · have huu : u = us.getD k 0 := hu.trans (getD_of_drop h.hi)
    rw [take_set_succ dk k d (by omega), valB_snoc, List.length_take, hlen, Nat.min_eq_left (by omega), valB_take_any _ us k, valB_take_any _ vs k, ← huu, ← hy, Nat.pow_succ]
    refine dgs_abs h.sum ?_
    rw [Nat.mul_add]
    omega
structure DgA (w : World) (g off n : Nat) (ws vs : List Nat) (k cy : Nat) (dk : List Nat) (wr : World) : Prop where
  wrs : Wr g off (n + 1) w wr
  row : Row32 wr g off (n + 1) dk
  hi : dk.drop k = ws.drop k
  car : cy ≤ 1
  sum : valB B32 (dk.take k) + B32 ^ k * cy = valB B32 (ws.take k) + valB B32 (vs.take k)
theorem DgA.step {w : World} {g off n : Nat} {ws vs : List Nat} {k cy : Nat} {dk : List Nat} {wr : World} (h : DgA w g off n ws vs k cy dk wr) (hk : k < n + 1)
    {y u lo cy' : Nat} (hy : y = vs.getD k 0) (hu : u = dk.getD k 0) (hs : cy + u + y = lo + B32 * cy') (hlo : lo < B32) (hcy' : cy' ≤ 1) :
    DgA w g off n ws vs (k + 1) cy' (dk.set k lo) (wr.setCell ⟨g, off + k, none⟩ (V lo)) := by
  have hlen := h.row.len
  refine ⟨h.wrs.setCell (off + k) ⟨by omega, by omega⟩ _, h.row.set k lo hk hlo, ?_, hcy', ?_⟩
  · rw [drop_set_lt]; exact drop_succ_of_drop h.hi
  · have huu : u = ws.getD k 0 := hu.trans (getD_of_drop h.hi)
    rw [take_set_succ dk k lo (by omega), valB_snoc, List.length_take, hlen, Nat.min_eq_left (by omega), valB_take_any _ ws k, valB_take_any _ vs k, ← huu, ← hy, Nat.pow_succ]
    have e1 := h.sum
    have e2 : B32 ^ k * (cy + u + y) = B32 ^ k * (lo + B32 * cy') := by rw [hs]
    rw [Nat.mul_add, Nat.mul_add, Nat.mul_add, ← Nat.mul_assoc] at e2
    omega
theorem Blk32.own {w : World} {g base : Nat} {xs : List Nat} (h : Blk32 w g xs) (hb : base ≤ g) (hm : xs.length ≤ maxLen) : w.ownsRow base 132 1 (.slice (some ⟨g, 0, none⟩) xs.length xs.length) xs.length (cellsV xs) :=
  ⟨by simp [cellsV], .inr ⟨g, xs.length, (cellsV xs).toArray, rfl, hb, h, Nat.le_refl _, hm, by simp [cellsV], by rw [Nat.mul_one]; exact List.take_of_length_le (by simp [cellsV])⟩⟩
structure RSmR (w : World) (g N : Nat) (xs : List Nat) (v c i cy : Nat) (ss : List Nat) (wr : World) : Prop where
  bel : Below g w wr
  own : wr.ownsRow g 132 1 (.slice (some ⟨g, 0, none⟩) i N) i (cellsV ss)
  len : ss.length = i
  dig : Dig B32 ss
  car : cy < B32
  sum : valB B32 ss + B32 ^ i * cy = valB B32 (xs.take i) * v + c
theorem rsm_step {xs ss : List Nat} {i cy x v c lo hh : Nat} (h : valB B32 ss + B32 ^ i * cy = valB B32 (xs.take i) * v + c) (hl : ss.length = i) (ex : x = xs.getD i 0) (hs : cy + x * v = lo + B32 * hh) :
    valB B32 (ss ++ [lo]) + B32 ^ (i + 1) * hh = valB B32 (xs.take (i + 1)) * v + c := by
  rw [valB_snoc, hl, valB_take_any _ xs i, ← ex, Nat.pow_succ, Nat.add_mul]
  have e1 : B32 ^ i * (cy + x * v) = B32 ^ i * (lo + B32 * hh) := by rw [hs]
  rw [Nat.mul_add, Nat.mul_add, ← Nat.mul_assoc, ← Nat.mul_assoc] at e1
  omega
theorem own_at32 {wr : World} {g i N : Nat} {ss : List Nat} (ho : wr.ownsRow g 132 1 (.slice (some ⟨g, 0, none⟩) i N) i (cellsV ss)) (hl : ss.length = i) (hd : Dig B32 ss) : At32 wr (some ⟨g, 0, none⟩) i N ss := by
  rcases ho.2 with ⟨h', _⟩ | ⟨g', cap', cur, h', hbase, hgc, hcap', hmx, hsz, htake⟩
  · simp at h'
  · simp only [Value.slice.injEq, Option.some.injEq, Addr.mk.injEq, and_true, true_and] at h'
    obtain ⟨rfl, rfl⟩ := h'
    refine ⟨hl, hcap', hmx, hd, .inr ⟨g, 0, rfl, fun jj hj => ?_⟩⟩
    rw [Nat.zero_add, cell_of_row wr g jj _ _ _ hgc]
    have e1 := cellsV_get ss jj (by rw [hl]; exact hj)
    rw [← htake, Nat.mul_one, List.getElem?_take, if_pos hj] at e1
    rw [← Array.getElem?_toList]; exact e1

theorem rsmall_any {p : Option Addr} {n c : Nat} {xs : List Nat} {a v u : Nat} {w : World} (h : At32 w p n c xs) (hx : Nf B32 xs a) (hn : n ≤ 4398046511104) (hv : v < B32) (hu : u < B32) :
    Calls Tryd.prog 90 #[.slice p n c, V v, V u] w fun e w' => ∃ g zs, e = .returned (.slice (some ⟨g, 0, none⟩) zs.length zs.length) ∧ Blk32 w' g zs ∧ Nf B32 zs (a * v + u) ∧ zs.length ≤ n + 1 ∧ Below w.heap.size w w' := by
  obtain ⟨i0, hi, hz0, hz1, hz2⟩ := info_parts Tryd.infoU32
  have HX : Hid (Nf B32 xs a) := hx
  have HLX : Hid (xs.length = n) := h.len
  have hcap := h.cap; have hbig := h.big
  unfold maxLen at hbig
  have huw : IntKind.u64.wrap (u : Int) = (u : Int) := wrap_mod _ _ (by rw [B32_eq] at hu; omega)
  clear hx
  go_enter Tryd.func90, Tryd.ntmps90
  go_wp2_with (at_make; refine wpList_make_own _ rfl _ _ 97 rfl w.heap.size 132 i0 (.int .u32 0) 1 Tryd.underlying97 hi hz0 hz1 _ _ _ (n + 1) rfl rfl (by omega) (by rw [hz2]; omega) (by unfold maxLen; omega) (Nat.le_refl _) ?_; intro w1 hown hgrow)
  have hb1 : Below w.heap.size w w1 := (Below.refl _ _).grown hgrow (Nat.le_refl _) (fun k hk => by simp at hk)
  have HO : Hid (RSmR w w.heap.size (n + 1) xs v u 0 u [] w1) := ⟨hb1, hown, rfl, Dig.nil _, hu, by simp [valB]⟩
  clear hown hgrow hb1
  obtain ⟨N, hN⟩ : ∃ N, N = n + 1 := ⟨_, rfl⟩
  rw [← hN] at HO ⊢
  have HN : Hid (N = n + 1) := hN
  clear hN
  go_loopg [7, 8, 9] n (fun gk sv cv iv wr => ∃ (i cy : Nat) (ss : List Nat), i + gk = n ∧ iv = .int .i64 i ∧ cv = U cy ∧ sv = .slice (some ⟨w.heap.size, 0, none⟩) i N ∧ Hid (RSmR w w.heap.size N xs v u i cy ss wr))
  case atStart => exact ⟨0, u, [], by omega, rfl, rfl, rfl, HO⟩
  case round =>
    obtain ⟨i, cy, ss, hig, rfl, rfl, rfl, HR⟩ := hrel
    have hcyb := HR.out.car
    cases gk with
    | zero =>
      obtain rfl : i = n := by omega
      have hni : ¬ i < i := by omega
      have hw32 : IntKind.u32.wrap (cy : Int) = (cy : Int) := wrap32 cy hcyb
      have HOA : Hid ((wr.alloc (.cells #[V cy] 132)).ownsRow w.heap.size 132 1 (.slice (some ⟨w.heap.size, 0, none⟩) i N) i (cellsV ss)) := HR.out.own.alloc _
      have hsp : i + 1 ≤ N := by have := HN.out; omega
      go_wp2_with (at_builtin; refine wpList_append_fits _ rfl (.tmp 40) (.tmp 43) 97 rfl w.heap.size 132 i0 1 Tryd.underlying97 hi hz1 w.heap.size i N (cellsV ss) rfl HOA.out ⟨wr.heap.size, 0, none⟩ 1 1 [V cy] rfl rfl (one_cell wr cy) (by intro u hu; simp at hu; subst hu; rfl) hsp ?_; intro w3 hw3 hgr3)
      have hR := HR.out
      have hbx : Below w.heap.size w w3 := (hR.bel.alloc hR.bel.size _).grown hgr3 (by have := hR.bel.size; simp; omega) (fun q hq => by simp at hq; omega)
      have e0 : cellsV (ss ++ [cy]) = cellsV ss ++ [V cy] := by unfold cellsV; rw [List.map_append]; rfl
      rw [← e0] at hw3
      have hl3 : (ss ++ [cy]).length = i + 1 := by simp [hR.len]
      have hd3 : Dig B32 (ss ++ [cy]) := hR.dig.append (Dig.cons hcyb (Dig.nil _))
      have A32 := own_at32 hw3 hl3 hd3
      have HNF : Hid (Nf B32 (trimL (ss ++ [cy])) (a * v + u)) := by
        have h1 := Nf.trim hd3
        have h2 := hR.sum
        rw [List.take_of_length_le (by rw [HLX.out]; omega), HX.out.val] at h2
        rw [valB_snoc, hR.len, h2] at h1; exact h1
      have hle := trimL_length_le (ss ++ [cy])
      have HLE : Hid ((trimL (ss ++ [cy])).length ≤ i + 1) := by show _ ≤ _; omega
      clear hw3 hgr3 e0 hl3 hd3 hle hR
      refine (rnorm_any A32 (by omega)).mono ?_
      rintro e w5 ⟨g5, rfl, hg5, hblk5, hb5⟩
      generalize trimL (ss ++ [cy]) = zs at *
      go_wp2_with fail
      go_ret
      exact ⟨g5, zs, rfl, hblk5, HNF.out, HLE.out, Below.on hbx hb5⟩
    | succ gg =>
      obtain ⟨g, off, rfl, hc⟩ := h.cells.resolve_left (by omega)
      obtain ⟨x, hxx⟩ : ∃ x, x = xs.getD i 0 := ⟨_, rfl⟩
      have hin : i < n := by omega
      have hcx0 : w.cell? ⟨g, off + i, none⟩ = some (V x) := by rw [hxx]; exact hc i hin
      have hcx : wr.cell? ⟨g, off + i, none⟩ = some (V x) := (HR.out.bel.cell (p := ⟨g, off + i, none⟩) (World.block_lt_of_cell? w _ hcx0)).trans hcx0
      have hxb : x < B32 := by rw [hxx]; exact HX.out.dig.getD B32_pos i
      have hxw : IntKind.u64.wrap (x : Int) = (x : Int) := wrap_mod _ _ (by rw [B32_eq] at hxb; omega)
      have hvw : IntKind.u64.wrap (v : Int) = (v : Int) := wrap_mod _ _ (by rw [B32_eq] at hv; omega)
      have HXE : Hid (x = xs.getD i 0) := hxx
      have hall := rmul_digit hxb hv B32_pos hcyb
      obtain ⟨xy, exy⟩ : ∃ xy, xy = x * v := ⟨_, rfl⟩
      rw [← exy] at hall
      rw [B64_eq] at hall
      have f1 : IntKind.u64.wrap ((x : Int) * (v : Int)) = (xy : Int) := by
        have e : ((x : Int) * (v : Int)) = ((x * v : Nat) : Int) := by simp
        rw [e, ← exy]; exact wrap_mod _ _ (by omega)
      obtain ⟨s2, es2⟩ : ∃ s2, s2 = cy + xy := ⟨_, rfl⟩
      have f3 : IntKind.u64.wrap ((cy : Int) + (xy : Int)) = (s2 : Int) := wrap_mod _ _ (by omega)
      have hs2 : s2 < 18446744073709551616 := by omega
      obtain ⟨lo, elo⟩ : ∃ lo, lo = s2 % B32 := ⟨_, rfl⟩
      obtain ⟨hh, ehh⟩ : ∃ hh, hh = s2 / B32 := ⟨_, rfl⟩
      have hlob : lo < B32 := by rw [elo]; exact Nat.mod_lt _ B32_pos
      have hhhb : hh < B32 := by rw [ehh]; exact Nat.div_lt_of_lt_mul (by rw [B32_two, B64_eq]; exact hs2)
      have f4 : bits .and .u64 (s2 : Int) 4294967295 = (lo : Int) := by rw [elo, B32_eq]; exact and32 s2 hs2
      have f5 : (s2 : Int) / 4294967296 = (hh : Int) := by rw [ehh, B32_eq]; exact div32 s2
      have f6 : IntKind.u32.wrap (lo : Int) = (lo : Int) := wrap32 lo hlob
      have HSUM : Hid (cy + x * v = lo + B32 * hh) := by
        have := Nat.mod_add_div s2 B32
        rw [← elo, ← ehh] at this
        show _ = _; omega
      have HOA : Hid ((wr.alloc (.cells #[V lo] 132)).ownsRow w.heap.size 132 1 (.slice (some ⟨w.heap.size, 0, none⟩) i N) i (cellsV ss)) := HR.out.own.alloc _
      have hsp : i + 1 ≤ N := by have := HN.out; omega
      clear hall exy es2 elo ehh hxx hcx0 hc
      go_wp2_with (at_builtin; refine wpList_append_fits _ rfl (.tmp 32) (.tmp 36) 97 rfl w.heap.size 132 i0 1 Tryd.underlying97 hi hz1 w.heap.size i N (cellsV ss) rfl HOA.out ⟨wr.heap.size, 0, none⟩ 1 1 [V lo] rfl rfl (one_cell wr lo) (by intro u hu; simp at hu; subst hu; rfl) hsp ?_; intro w3 hw3 hgr3)
      have HR3 : Hid (RSmR w w.heap.size N xs v u (i + 1) hh (ss ++ [lo]) w3) := by
        have hR := HR.out
        refine ⟨(hR.bel.alloc hR.bel.size _).grown hgr3 (by have := hR.bel.size; simp; omega) (fun q hq => by simp at hq; omega), ?_, by simp [hR.len], hR.dig.append (Dig.cons hlob (Dig.nil _)), hhhb, rsm_step hR.sum hR.len HXE.out HSUM.out⟩
        have e0 : cellsV (ss ++ [lo]) = cellsV ss ++ [V lo] := by unfold cellsV; rw [List.map_append]; rfl
        rw [e0]; exact hw3
      clear hw3 hgr3
      go_roundg gg
      case measure => omega
      case rel => exact ⟨i + 1, hh, ss ++ [lo], by omega, by go_num, rfl, rfl, HR3⟩
theorem wpList_make_room {P : Program} (w : World) {ops : Array Oper} {rest : List Oper} {o : Oper} {a : Act} {Q : Exit → Act → World → Prop}
    (hg : o.guard = none) (l c : Operand) (t : TypeId) (hop : o.op = Op.makeSlice t l c)
    (base : Nat) (e : TypeId) (i : TypeInfo) (z : Value) (size : Nat) (h1 : P.underlying t = some (.slice e)) (h2 : P.info? e = some i) (h3 : i.zero = some z) (h4 : i.size = size)
    (kl kc : IntKind) (L C : Int) (n m : Nat) (hl : a.eval l = .int kl L) (hc : a.eval c = .int kc C) (hL : L = (n : Int)) (hC : C = (m : Int)) (hnm : n ≤ m) (b2 : i.bytes * m ≤ 281474976710656) (b3 : m ≤ maxLen) (b4 : base ≤ w.heap.size)
    (hK : ∀ w', w'.ownsRow base e size (.slice (some ⟨w.heap.size, 0, none⟩) n m) n ((madeCells z.cells (m * size)).toList.take (n * size)) → w.grownBy w' none → wpList P ops Q rest (a.put o.dst (.slice (some ⟨w.heap.size, 0, none⟩) n m)) w') :
    wpList P ops Q (o :: rest) a w := by
  refine wpList_plain hg fun K hK' => ?_
  subst h4
  have h63' : (m : Int) ≤ 9223372036854775807 := by
    have h := b3
    simp [maxLen] at h
    omega
  have hb' : (i.bytes : Int) * (m : Int) ≤ 281474976710656 := by
    have h : ((i.bytes * m : Nat) : Int) ≤ 281474976710656 := by omega
    rwa [Int.natCast_mul] at h
  have hr := run_make (P := P) w t e i z h1 h2 h3 kl kc n m (by omega) (by omega) hb' h63'
  simp only [Int.toNat_natCast] at hr
  subst hL
  subst hC
  unfold Oper.wp
  simp [execOp, hop, hl, hc, hr, Result.andThen]
  refine hK' _ _ (hK _ ⟨?_, .inr ⟨_, m, _, rfl, b4, heap_alloc_new w _, hnm, b3, size_madeCells _ _, rfl⟩⟩ (World.grownBy_alloc w _ none))
  rw [List.length_take, Nat.min_eq_left]
  rw [Array.length_toList, size_madeCells]
  exact Nat.mul_le_mul_right _ hnm
theorem made_take (D M : Nat) (h : D ≤ M) : (madeCells (Value.cells (.int .u32 0)) (M * 1)).toList.take (D * 1) = cellsV (List.replicate D 0) := by
  rw [madeV, Nat.mul_one]
  unfold cellsV
  rw [List.map_replicate, List.map_replicate, List.take_replicate, Nat.min_eq_left h]
theorem valB_zeros (D : Nat) (zs : List Nat) : valB B32 (List.replicate D 0 ++ zs) = B32 ^ D * valB B32 zs := by
  rw [valB_append, valB_replicate, List.length_replicate, Nat.zero_add]

theorem own_below {w w' : World} {base g n m size : Nat} {e : TypeId} {xs : List Value} (h : w.ownsRow base e size (.slice (some ⟨g, 0, none⟩) n m) n xs) (hb : Below w.heap.size w w') (hg : g < w.heap.size) : w'.ownsRow base e size (.slice (some ⟨g, 0, none⟩) n m) n xs := by
  refine ⟨h.1, ?_⟩
  rcases h.2 with ⟨h', _⟩ | ⟨g', cap', cur, h', hbase, hgc, hr⟩
  · simp at h'
  · have h2 := h'
    simp only [Value.slice.injEq, Option.some.injEq, Addr.mk.injEq, and_true] at h2
    obtain ⟨rfl, _⟩ := h2
    exact .inr ⟨_, cap', cur, h', hbase, (hb.block _ hg).trans hgc, hr⟩
theorem blk_src {w : World} {g : Nat} {xs : List Nat} (h : Blk32 w g xs) : ∀ j u, (cellsV xs)[j]? = some u → w.cell? ((⟨g, 0, none⟩ : Addr).add j) = some u := by
  intro j u hu
  have hj : j < xs.length := by
    have := (List.getElem?_eq_some_iff.1 hu).1
    rwa [cellsV_length] at this
  have hadd : (⟨g, 0, none⟩ : Addr).add j = ⟨g, j, none⟩ := by unfold Addr.add; split <;> simp_all
  rw [hadd, h.cell j hj]
  rw [cellsV_get xs j hj] at hu
  exact hu

theorem rshl_any {p : Option Addr} {n c : Nat} {xs : List Nat} {a : Nat} {w : World} (h : At32 w p n c xs) (hx : Nf B32 xs a) (hn0 : 0 < n) (hn : n ≤ 16384) (N : Nat) (hN2 : N ≤ 524288) :
    Calls Tryd.prog 74 #[.slice p n c, .int .i64 N] w fun e w' => ∃ p' m' zs, e = .returned (.slice p' m' m') ∧ At32 w' p' m' m' zs ∧ Nf B32 zs (a * 2 ^ N) ∧ m' ≤ 40000 ∧ Below w.heap.size w w' := by
  obtain ⟨i0, hi, hz0, hz1, hz2⟩ := info_parts Tryd.infoU32
  have HX : Hid (Nf B32 xs a) := hx
  have HA : Hid (At32 w p n c xs) := h
  have HLX : Hid (xs.length = n) := h.len
  have cap := h.cap
  have big := h.big
  unfold maxLen at big
  have hne : ((n : Int) == 0) = false := by simp; omega
  clear hx h
  by_cases hN0 : N = 0
  · subst hN0
    go_enter Tryd.func74, Tryd.ntmps74
    go_wp2_with fail
    refine (rnorm_any HA.out (by omega)).mono ?_
    rw [trimL_of_Top HX.out.top]
    rintro e w1 ⟨g, rfl, hg, hb, hbl⟩
    have HB : Hid (Blk32 w1 g xs) := hb
    rw [HLX.out]
    clear hb
    go_wp2_with fail
    go_ret
    exact ⟨_, n, xs, rfl, HB.out.at_ HX.out.dig HLX.out (by unfold maxLen; omega), by rw [Nat.pow_zero, Nat.mul_one]; exact HX.out, by omega, hbl⟩
  · obtain ⟨D, hD⟩ : ∃ D, D = N / 32 := ⟨_, rfl⟩
    obtain ⟨R, hR⟩ : ∃ R, R = N % 32 := ⟨_, rfl⟩
    have d1 : (N : Int).tdiv 32 = (D : Int) := by rw [Int.tdiv_eq_ediv_of_nonneg (by omega)]; omega
    have d2 : (N : Int).tmod 32 = (R : Int) := by rw [Int.tmod_eq_emod_of_nonneg (by omega)]; omega
    have hNp : ¬ (N : Int) ≤ 0 := by omega
    have hR32 : R < 32 := by omega
    have hDb : D ≤ 16384 := by omega
    have HD : Hid (2 ^ N = B32 ^ D * 2 ^ R) := by show _ = _; rw [show B32 = 2 ^ 32 from rfl, ← Nat.pow_mul, ← Nat.pow_add]; congr 1; omega
    obtain ⟨M, hM⟩ : ∃ M, M = D + n + 1 := ⟨_, rfl⟩
    have hMI : (D : Int) + (n : Int) + 1 = (M : Int) := by omega
    have HM : Hid (M = D + n + 1) := hM
    have hMb : M ≤ 33000 := by omega
    have hDM : D ≤ M := by omega
    obtain ⟨d, hd⟩ : ∃ d, d = 2 ^ R := ⟨_, rfl⟩
    have hd1 : 1 ≤ d := by rw [hd]; exact Nat.pow_pos (by decide)
    have hdB : d < B32 := by rw [hd, show B32 = 2 ^ 32 from rfl]; exact Nat.pow_lt_pow_right (by decide) hR32
    have hdw : IntKind.u32.wrap (d : Int) = (d : Int) := wrap32 d hdB
    have hdI : (2 : Int) ^ R = (d : Int) := by rw [hd]; norm_cast
    have HDD : Hid (d = 2 ^ R ∧ 1 ≤ d ∧ d < B32) := ⟨hd, hd1, hdB⟩
    clear hD hR hM hd hd1 hdB
    go_enter Tryd.func74, Tryd.ntmps74
    go_wp2_with (at_make; refine wpList_make_room _ rfl _ _ 97 rfl w.heap.size 132 i0 (.int .u32 0) 1 Tryd.underlying97 hi hz0 hz1 _ _ _ _ D M rfl rfl (by omega) (by omega) hDM (by rw [hz2]; omega) (by unfold maxLen; omega) (Nat.le_refl _) ?_; intro w1 hown hgrow)
    have hb1 : Below w.heap.size w w1 := (Below.refl _ _).grown hgrow (Nat.le_refl _) (fun k hk => by simp at hk)
    rw [made_take D M hDM] at hown
    have HO : Hid (w1.ownsRow w.heap.size 132 1 (.slice (some ⟨w.heap.size, 0, none⟩) D M) D (cellsV (List.replicate D 0))) := hown
    have HA1 : Hid (At32 w1 p n c xs) := HA.out.below hb1
    have HB1 : Hid (Below w.heap.size w w1) := hb1
    have HSZ : Hid (w.heap.size < w1.heap.size) := by
      rcases HO.out.2 with ⟨h', _⟩ | ⟨g', _, _, h', _, hgc, _⟩
      · simp at h'
      · simp only [Value.slice.injEq, Option.some.injEq, Addr.mk.injEq, and_true] at h'
        obtain ⟨rfl, _⟩ := h'
        exact (Array.getElem?_eq_some_iff.1 hgc).1
    clear hown hgrow hb1 HA
    rw [show Value.int IntKind.u32 (d : Int) = V d from rfl, show Value.int IntKind.u32 0 = V 0 from rfl]
    refine (rsmall_any HA1.out HX.out (by omega) HDD.out.2.2 (show 0 < B32 by decide)).mono ?_
    rintro e w2 ⟨g2, z2, rfl, hk2, hn2, hl2, hb2⟩
    rw [Nat.add_zero] at hn2
    have HO2 : Hid (w2.ownsRow w.heap.size 132 1 (.slice (some ⟨w.heap.size, 0, none⟩) D M) D (cellsV (List.replicate D 0))) := own_below HO.out hb2 HSZ.out
    have HK2 : Hid (Blk32 w2 g2 z2) := hk2
    have HN2 : Hid (Nf B32 z2 (a * d)) := hn2
    have HB2 : Hid (Below w.heap.size w w2) := Below.on HB1.out hb2
    obtain ⟨l2, hle2⟩ : ∃ l2, l2 = z2.length := ⟨_, rfl⟩
    have HL2 : Hid (z2.length = l2) := hle2.symm
    rw [← hle2] at hl2 ⊢
    have hsp : D + l2 ≤ M := by have := HM.out; omega
    clear hk2 hn2 hb2 hle2 HO HA1 HB1
    go_wp2_with (at_builtin; refine wpList_append_fits _ rfl (.tmp 24) (.tmp 29) 97 rfl w.heap.size 132 i0 1 Tryd.underlying97 hi hz1 w.heap.size D M (cellsV (List.replicate D 0)) rfl HO2.out ⟨g2, 0, none⟩ l2 l2 (cellsV z2) rfl (by rw [cellsV_length, HL2.out, Nat.mul_one]) (blk_src HK2.out) (cellsV_one _) hsp ?_; intro w3 hw3 hgr3)
    have hd3 : Dig B32 (List.replicate D 0 ++ z2) := (Dig.replicate B32 D B32_pos).append HN2.out.dig
    have hl3 : (List.replicate D 0 ++ z2).length = D + l2 := by rw [List.length_append, List.length_replicate, HL2.out]
    have A3 : Hid (At32 w3 (some ⟨w.heap.size, 0, none⟩) (D + l2) M (List.replicate D 0 ++ z2)) := own_at32 (by rw [show cellsV (List.replicate D 0 ++ z2) = cellsV (List.replicate D 0) ++ cellsV z2 from by unfold cellsV; rw [List.map_append]]; exact hw3) hl3 hd3
    have HB3 : Hid (Below w.heap.size w w3) := HB2.out.grown hgr3 HB2.out.size (fun q hq => by simp at hq; omega)
    have NF3 : Hid (Nf B32 (trimL (List.replicate D 0 ++ z2)) (a * 2 ^ N)) := by
      have h1 := Nf.trim hd3
      rw [valB_zeros, HN2.out.val] at h1
      have e1 : B32 ^ D * (a * d) = a * 2 ^ N := by rw [HD.out, ← HDD.out.1, Nat.mul_left_comm]
      rw [e1] at h1; exact h1
    have hle3 : (trimL (List.replicate D 0 ++ z2)).length ≤ D + l2 := by have h1 := trimL_length_le (List.replicate D 0 ++ z2); omega
    clear hw3 hgr3 hl3 hd3
    refine (rnorm_any A3.out (by omega)).mono ?_
    rintro e w4 ⟨g4, rfl, hg4, hb4, hbl4⟩
    have A4 : Hid (At32 w4 (some ⟨g4, 0, none⟩) (trimL (List.replicate D 0 ++ z2)).length (trimL (List.replicate D 0 ++ z2)).length (trimL (List.replicate D 0 ++ z2))) := hb4.at_ NF3.out.dig rfl (by unfold maxLen; omega)
    have hbw4 := Below.on HB3.out hbl4
    generalize trimL (List.replicate D 0 ++ z2) = z4 at *
    clear hb4 hbl4 hg4
    go_wp2_with fail
    go_ret
    exact ⟨_, _, z4, rfl, A4.out, NF3.out, by omega, hbw4⟩
end Go.Proofs.YthfkkcfjneppmaaDoor
