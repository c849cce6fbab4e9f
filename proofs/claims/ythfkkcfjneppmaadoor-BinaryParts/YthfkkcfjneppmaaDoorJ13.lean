import Derived.Test.YthfkkcfjneppmaaDoorJ12
import Derived.Test.YthfkkcfjneppmaaDoorJ9
import Derived.Test.YthfkkcfjneppmaaDoorJ10
import Derived.Test.YthfkkcfjneppmaaDoorJ11
import Derived.Deep.LoopGhost
import Derived.Test.YthfkkcfjneppmaaDoorJ8
namespace Go.Proofs.YthfkkcfjneppmaaDoor
open Go.RowKit Go.Shelf
set_option maxRecDepth 20000
set_option maxHeartbeats 0
structure Op5 where
  k : Int
  pa : Option Addr
  na : Nat
  ca : Nat
  xa : List Nat
  pb : Option Addr
  nb : Nat
  cb : Nat
  xb : List Nat
  nn : Int
  wd : Nat
structure Scr (w : World) (P : Option Addr) (N C : Nat) (its : List Op5) : Prop where
  len : its.length = N
  cap : N ≤ C
  big : C ≤ maxLen
  ats : ∀ t ∈ its, At w t.pa t.na t.ca t.xa ∧ At w t.pb t.nb t.cb t.xb ∧ t.na ≤ 17592186044416 ∧ t.nb ≤ 17592186044416 ∧ t.wd < B64 ∧ -9223372036854775808 ≤ t.nn ∧ t.nn ≤ 9223372036854775807
  cells : N = 0 ∨ ∃ g off, P = some ⟨g, off, none⟩ ∧ ∀ i (h : i < its.length), w.cell? ⟨g, off + i * 5, none⟩ = some (.int .i64 its[i].k) ∧ w.cell? ⟨g, off + i * 5 + 1, none⟩ = some (.slice its[i].pa its[i].na its[i].ca) ∧
    w.cell? ⟨g, off + i * 5 + 2, none⟩ = some (.slice its[i].pb its[i].nb its[i].cb) ∧ w.cell? ⟨g, off + i * 5 + 3, none⟩ = some (.int .i64 its[i].nn) ∧ w.cell? ⟨g, off + i * 5 + 4, none⟩ = some (U its[i].wd)
theorem Scr.below {w w' : World} {P : Option Addr} {N C : Nat} {its : List Op5} (h : Scr w P N C its) (hb : Below w.heap.size w w') : Scr w' P N C its := by
  refine ⟨h.len, h.cap, h.big, fun t ht => ?_, ?_⟩
  · obtain ⟨h1, h2, h3⟩ := h.ats t ht
    exact ⟨h1.below hb, h2.below hb, h3⟩
  · rcases h.cells with h0 | ⟨g, off, hP, hc⟩
    · exact .inl h0
    · refine .inr ⟨g, off, hP, fun i hi => ?_⟩
      obtain ⟨h0, h1, h2, h3, h4⟩ := hc i hi
      have hl : g < w.heap.size := World.block_lt_of_cell? w _ h0
      exact ⟨(hb.cell (p := ⟨g, off + i * 5, none⟩) hl).trans h0, (hb.cell (p := ⟨g, off + i * 5 + 1, none⟩) hl).trans h1, (hb.cell (p := ⟨g, off + i * 5 + 2, none⟩) hl).trans h2,
        (hb.cell (p := ⟨g, off + i * 5 + 3, none⟩) hl).trans h3, (hb.cell (p := ⟨g, off + i * 5 + 4, none⟩) hl).trans h4⟩
def ShIs (r : Nat → Nat → Nat) (xs : List Nat) (t : Int) (us : List Nat) (f : Int) : Prop :=
  (t < 0 ∧ us = [] ∧ f = 1) ∨ (0 ≤ t ∧ formB xs = false ∧ us = [] ∧ f = 2) ∨ (0 ≤ t ∧ formB xs = true ∧ DocIs (r (valB B64 xs) t.toNat) us f)
theorem ShIs.inj {r : Nat → Nat → Nat} {xs : List Nat} {t : Int} {us us' : List Nat} {f f' : Int} (h : ShIs r xs t us f) (k : ShIs r xs t us' f') : us = us' ∧ f = f' := by
  rcases h with ⟨h1, rfl, rfl⟩ | ⟨h1, h2, rfl, rfl⟩ | ⟨h1, h2, h3⟩ <;> rcases k with ⟨k1, rfl, rfl⟩ | ⟨k1, k2, rfl, rfl⟩ | ⟨k1, k2, k3⟩
  · exact ⟨rfl, rfl⟩
  · omega
  · omega
  · omega
  · exact ⟨rfl, rfl⟩
  · rw [k2] at h2; simp at h2
  · omega
  · rw [k2] at h2; simp at h2
  · exact h3.inj k3
theorem ShIs.er {r : Nat → Nat → Nat} {xs us : List Nat} {t f : Int} (h : ShIs r xs t us f) : f = 0 ∨ f = 1 ∨ f = 2 ∨ f = 3 ∨ f = 4 ∨ f = 5 := by
  rcases h with ⟨_, _, rfl⟩ | ⟨_, _, _, rfl⟩ | ⟨_, _, ⟨_, _, rfl⟩ | ⟨_, _, rfl⟩⟩ <;> simp
theorem rshl_nil {p : Option Addr} {c : Nat} {w : World} (hc : c ≤ maxLen) (k : Int) :
    Calls Tryd.prog 74 #[.slice p 0 c, .int .i64 k] w fun e w' => ∃ g, e = .returned (.slice (some ⟨g, 0, none⟩) 0 0) ∧ At32 w' (some ⟨g, 0, none⟩) 0 0 [] ∧ Below w.heap.size w w' := by
  have HC : Hid (c ≤ maxLen) := hc
  clear hc
  by_cases h0 : k ≤ 0
  · have h1 : ¬ 0 < k := by omega
    go_enter Tryd.func74, Tryd.ntmps74
    go_wp2_with fail
    refine (rnorm_any (At32.empty w p c HC.out) (by omega)).mono ?_
    rintro e w1 ⟨g, rfl, hg, hblk, hb⟩
    go_wp2_with fail
    go_ret
    exact ⟨g, rfl, At32.empty _ _ _ (by decide), hb⟩
  · have h1 : 0 < k := by omega
    go_enter Tryd.func74, Tryd.ntmps74
    go_wp2_with fail
    refine (rnorm_any (At32.empty w p c HC.out) (by omega)).mono ?_
    rintro e w1 ⟨g, rfl, hg, hblk, hb⟩
    go_wp2_with fail
    go_ret
    exact ⟨g, rfl, At32.empty _ _ _ (by decide), hb⟩
theorem rshl_all {p : Option Addr} {n : Nat} {xs : List Nat} {a : Nat} {w : World} (h : At32 w p n n xs) (hx : Nf B32 xs a) (hn : n ≤ 16384) (k : Nat) (hk : k ≤ 524288 ∨ a = 0) :
    Calls Tryd.prog 74 #[.slice p n n, .int .i64 k] w fun e w' => ∃ p' m' zs, e = .returned (.slice p' m' m') ∧ At32 w' p' m' m' zs ∧ Nf B32 zs (a * 2 ^ k) ∧ m' ≤ 40000 ∧ Below w.heap.size w w' := by
  rcases Nat.eq_zero_or_pos n with h0 | h0
  · subst h0
    have ha : a = 0 := (hx.zero_iff B32_one).1 (List.eq_nil_of_length_eq_zero h.len)
    refine (rshl_nil (by unfold maxLen; omega) (k : Int)).mono ?_
    rintro e w' ⟨g, he, hA, hb⟩
    exact ⟨_, 0, [], he, hA, by rw [ha, Nat.zero_mul]; exact Nf.nil _, by omega, hb⟩
  · refine rshl_any h hx h0 hn k (hk.resolve_right fun e => ?_)
    have := (hx.zero_iff B32_one).2 e
    rw [this] at h
    have := h.len
    simp at this
    omega
abbrev F32t : Value := FV 2147483648 24 (-149) 104 2139095040 2143289345
abbrev F64t : Value := FV 9223372036854775808 53 (-1074) 971 9218868437227405312 9221120237041090561
theorem rparts_320t (s : Nat) (hs : s < 8388608) (w : World) : Calls Tryd.prog 49 #[F32t, U s] w fun e w' => e = .returned (.tuple #[U s, .int .i64 (-149)]) ∧ Below w.heap.size w w' := by
  obtain ⟨z, hz⟩ : ∃ z, z = s / 8388608 := ⟨_, rfl⟩
  obtain ⟨r, hr⟩ : ∃ r, r = s % 8388608 := ⟨_, rfl⟩
  have d1 : (s : Int).tdiv 8388608 = (z : Int) := by rw [Int.tdiv_eq_ediv_of_nonneg (by omega)]; omega
  have d2 : (s : Int).tmod 8388608 = (r : Int) := by rw [Int.tmod_eq_emod_of_nonneg (by omega)]; omega
  have d3 : IntKind.u64.wrap (z : Int) = (z : Int) := by rw [IntKind.wrap_u64]; omega
  have d4 : IntKind.u64.wrap (r : Int) = (r : Int) := by rw [IntKind.wrap_u64]; omega
  have hz0 : z = 0 := by omega
  have hrs : r = s := by omega
  subst hz0
  subst hrs
  clear hz hr hs
  go_enter Tryd.func49, Tryd.ntmps49
  go_wp2_with fail
  go_quiet (fail)
  go_wp2_with fail
  go_quiet (fail)
  go_wp2_with fail
  go_ret2
  exact ⟨rfl, bwDrewN (bwDrewN (bwAlloc w _) _) _⟩
theorem rparts_32nt (s : Nat) (hs : 8388608 ≤ s) (hs9 : s < 9223372036854775808) (w : World) : Calls Tryd.prog 49 #[F32t, U s] w fun e w' => e = .returned (.tuple #[U (s - (s / 8388608 - 1) * 8388608), .int .i64 ((-149) + ((s / 8388608 - 1 : Nat) : Int))]) ∧ Below w.heap.size w w' := by
  obtain ⟨z, hz⟩ : ∃ z, z = s / 8388608 := ⟨_, rfl⟩
  obtain ⟨r, hr⟩ : ∃ r, r = s % 8388608 := ⟨_, rfl⟩
  have d1 : (s : Int).tdiv 8388608 = (z : Int) := by rw [Int.tdiv_eq_ediv_of_nonneg (by omega)]; omega
  have d2 : (s : Int).tmod 8388608 = (r : Int) := by rw [Int.tmod_eq_emod_of_nonneg (by omega)]; omega
  have d3 : IntKind.u64.wrap (z : Int) = (z : Int) := by rw [IntKind.wrap_u64]; omega
  have d4 : IntKind.u64.wrap (r : Int) = (r : Int) := by rw [IntKind.wrap_u64]; omega
  have hzb : ((z : Int) == 0) = false := by simp; omega
  obtain ⟨y, hy⟩ : ∃ y, y = s - (z - 1) * 8388608 := ⟨_, rfl⟩
  obtain ⟨x, hx⟩ : ∃ x : Int, x = (-149) + ((z - 1 : Nat) : Int) := ⟨_, rfl⟩
  obtain ⟨x1, hx1⟩ : ∃ x1 : Int, x1 = (-149) + (z : Int) := ⟨_, rfl⟩
  rw [← hz, ← hy, ← hx]
  have d5 : IntKind.u64.wrap (8388608 + (r : Int)) = (y : Int) := by rw [IntKind.wrap_u64]; omega
  have d6 : IntKind.i64.wrap (z : Int) = (z : Int) := by simp [IntKind.wrap, IntKind.signed, IntKind.bits]; omega
  have d7 : IntKind.i64.wrap ((-149) + (z : Int)) = x1 := by rw [hx1]; simp [IntKind.wrap, IntKind.signed, IntKind.bits]; omega
  have d8 : IntKind.i64.wrap (x1 - 1) = x := by simp [IntKind.wrap, IntKind.signed, IntKind.bits]; omega
  clear hz hr hs hs9 hy hx hx1
  go_enter Tryd.func49, Tryd.ntmps49
  go_wp2_with fail
  go_quiet (fail)
  go_wp2_with fail
  go_quiet (fail)
  go_wp2_with fail
  go_ret2
  exact ⟨rfl, bwDrewN (bwDrewN (bwAlloc w _) _) _⟩
theorem rparts_64nt (s : Nat) (hs : 4503599627370496 ≤ s) (hs9 : s < 9223372036854775808) (w : World) : Calls Tryd.prog 49 #[F64t, U s] w fun e w' => e = .returned (.tuple #[U (s - (s / 4503599627370496 - 1) * 4503599627370496), .int .i64 ((-1074) + ((s / 4503599627370496 - 1 : Nat) : Int))]) ∧ Below w.heap.size w w' := by
  obtain ⟨z, hz⟩ : ∃ z, z = s / 4503599627370496 := ⟨_, rfl⟩
  obtain ⟨r, hr⟩ : ∃ r, r = s % 4503599627370496 := ⟨_, rfl⟩
  have d1 : (s : Int).tdiv 4503599627370496 = (z : Int) := by rw [Int.tdiv_eq_ediv_of_nonneg (by omega)]; omega
  have d2 : (s : Int).tmod 4503599627370496 = (r : Int) := by rw [Int.tmod_eq_emod_of_nonneg (by omega)]; omega
  have d3 : IntKind.u64.wrap (z : Int) = (z : Int) := by rw [IntKind.wrap_u64]; omega
  have d4 : IntKind.u64.wrap (r : Int) = (r : Int) := by rw [IntKind.wrap_u64]; omega
  have hzb : ((z : Int) == 0) = false := by simp; omega
  obtain ⟨y, hy⟩ : ∃ y, y = s - (z - 1) * 4503599627370496 := ⟨_, rfl⟩
  obtain ⟨x, hx⟩ : ∃ x : Int, x = (-1074) + ((z - 1 : Nat) : Int) := ⟨_, rfl⟩
  obtain ⟨x1, hx1⟩ : ∃ x1 : Int, x1 = (-1074) + (z : Int) := ⟨_, rfl⟩
  rw [← hz, ← hy, ← hx]
  have d5 : IntKind.u64.wrap (4503599627370496 + (r : Int)) = (y : Int) := by rw [IntKind.wrap_u64]; omega
  have d6 : IntKind.i64.wrap (z : Int) = (z : Int) := by simp [IntKind.wrap, IntKind.signed, IntKind.bits]; omega
  have d7 : IntKind.i64.wrap ((-1074) + (z : Int)) = x1 := by rw [hx1]; simp [IntKind.wrap, IntKind.signed, IntKind.bits]; omega
  have d8 : IntKind.i64.wrap (x1 - 1) = x := by simp [IntKind.wrap, IntKind.signed, IntKind.bits]; omega
  clear hz hr hs hs9 hy hx hx1
  go_enter Tryd.func49, Tryd.ntmps49
  go_wp2_with fail
  go_quiet (fail)
  go_wp2_with fail
  go_quiet (fail)
  go_wp2_with fail
  go_ret2
  exact ⟨rfl, bwDrewN (bwDrewN (bwAlloc w _) _) _⟩
theorem rparts_640t (s : Nat) (hs : s < 4503599627370496) (w : World) : Calls Tryd.prog 49 #[F64t, U s] w fun e w' => e = .returned (.tuple #[U s, .int .i64 (-1074)]) ∧ Below w.heap.size w w' := by
  obtain ⟨z, hz⟩ : ∃ z, z = s / 4503599627370496 := ⟨_, rfl⟩
  obtain ⟨r, hr⟩ : ∃ r, r = s % 4503599627370496 := ⟨_, rfl⟩
  have d1 : (s : Int).tdiv 4503599627370496 = (z : Int) := by rw [Int.tdiv_eq_ediv_of_nonneg (by omega)]; omega
  have d2 : (s : Int).tmod 4503599627370496 = (r : Int) := by rw [Int.tmod_eq_emod_of_nonneg (by omega)]; omega
  have d3 : IntKind.u64.wrap (z : Int) = (z : Int) := by rw [IntKind.wrap_u64]; omega
  have d4 : IntKind.u64.wrap (r : Int) = (r : Int) := by rw [IntKind.wrap_u64]; omega
  have hz0 : z = 0 := by omega
  have hrs : r = s := by omega
  subst hz0
  subst hrs
  clear hz hr hs
  go_enter Tryd.func49, Tryd.ntmps49
  go_wp2_with fail
  go_quiet (fail)
  go_wp2_with fail
  go_quiet (fail)
  go_wp2_with fail
  go_ret2
  exact ⟨rfl, bwDrewN (bwDrewN (bwAlloc w _) _) _⟩
theorem rparts_all64 (s : Nat) (hs9 : s < 9223372036854775808) (w : World) : Calls Tryd.prog 49 #[F64t, U s] w fun e w' => e = .returned (.tuple #[U (s - (s / 4503599627370496 - 1) * 4503599627370496), .int .i64 ((-1074) + ((s / 4503599627370496 - 1 : Nat) : Int))]) ∧ Below w.heap.size w w' := by
  by_cases h : s < 4503599627370496
  · have h1 : s / 4503599627370496 = 0 := Nat.div_eq_of_lt h
    rw [h1, show 0 - 1 = 0 from rfl, Nat.zero_mul, Nat.sub_zero, show ((-1074 : Int) + ((0 : Nat) : Int)) = -1074 from rfl]
    exact rparts_640t s h w
  · exact rparts_64nt s (by omega) (by omega) w
theorem rparts_all32 (s : Nat) (hs9 : s < 2147483648) (w : World) : Calls Tryd.prog 49 #[F32t, U s] w fun e w' => e = .returned (.tuple #[U (s - (s / 8388608 - 1) * 8388608), .int .i64 ((-149) + ((s / 8388608 - 1 : Nat) : Int))]) ∧ Below w.heap.size w w' := by
  by_cases h : s < 8388608
  · have h1 : s / 8388608 = 0 := Nat.div_eq_of_lt h
    rw [h1, show 0 - 1 = 0 from rfl, Nat.zero_mul, Nat.sub_zero, show ((-149 : Int) + ((0 : Nat) : Int)) = -149 from rfl]
    exact rparts_320t s h w
  · exact rparts_32nt s (by omega) (by omega) w
theorem zr_len9 {w : World} {s : Bool} {p : Option Addr} {m : Nat} {z : Int} (h : ZR w s p m z) {L : Nat} (hL : z.natAbs < 2 ^ L) : m ≤ L := by
  obtain ⟨zs, hA, hN⟩ := h.ex
  have h1 := (hN.len_le B32_one (k := L)).2 (Nat.lt_of_lt_of_le hL (Nat.pow_le_pow_left (by decide) L))
  rw [hA.len] at h1
  exact h1
theorem GotR.len9 {B : Nat} {w : World} {v : Value} {z : Int} {L L' : Nat} (h : GotR B w v z L) (hL : z.natAbs < 2 ^ L') : GotR B w v z L' := by
  obtain ⟨s, g, m, h1, h2, h3, _⟩ := h
  exact ⟨s, g, m, h1, h2, h3, zr_len9 h3 hL⟩
theorem svS_lt {S H : Nat} (b : Nat) {L a c : Nat} (hH : H ≤ 2 ^ a) (h0 : 0 < H) (hS : S ≤ c * H) (hS0 : 0 < S) (hL : a + c ≤ L) : (svS S H b).natAbs < 2 ^ L := by
  rw [svS_eq]
  have h1 : (if S ≤ b then -(vs H (b % S) : Int) else (vs H (b % S) : Int)).natAbs = vs H (b % S) := by split <;> omega
  rw [h1]
  have h2 : b % S < c * H := Nat.lt_of_lt_of_le (Nat.mod_lt _ hS0) hS
  have h3 : b % S / H < c := (Nat.div_lt_iff_lt_mul h0).2 h2
  have e1 := Nat.div_add_mod (b % S) H
  have e2 := Nat.mod_lt (b % S) h0
  rw [Nat.mul_comm] at e1
  have h4 : b % S - (b % S / H - 1) * H < 2 * H := by
    by_cases e3 : b % S / H = 0
    · rw [e3] at e1 ⊢; omega
    · rw [Nat.sub_mul]; omega
  unfold vs
  have h5 : 2 ^ (b % S / H - 1) ≤ 2 ^ (c - 1) := Nat.pow_le_pow_right (by decide) (by generalize b % S / H = t at h3 ⊢; omega)
  have h6 : 0 < 2 ^ (b % S / H - 1) := Nat.two_pow_pos _
  refine Nat.lt_of_lt_of_le (Nat.mul_lt_mul_of_pos_right h4 h6) (Nat.le_trans (Nat.mul_le_mul (Nat.mul_le_mul_left 2 hH) h5) ?_)
  rw [← Nat.pow_succ', ← Nat.pow_add]
  have h7 : 1 ≤ c := Nat.lt_of_le_of_lt (Nat.zero_le _) h3
  exact Nat.pow_le_pow_right (by decide) (by omega)
theorem rwhole_64 {b : Nat} (w : World) :
    Calls Tryd.prog 51 #[FV 9223372036854775808 53 (-1074) 971 9218868437227405312 9221120237041090561, U b] w fun en w' => ∃ v, en = .returned v ∧ GotR w.heap.size w' v (svS 9223372036854775808 4503599627370496 b) 2200 ∧ Below w.heap.size w w' := by
  obtain ⟨q, hq⟩ : ∃ q, q = b % 9223372036854775808 / 4503599627370496 - 1 := ⟨_, rfl⟩
  obtain ⟨man, hman⟩ : ∃ man, man = b % 9223372036854775808 - q * 4503599627370496 := ⟨_, rfl⟩
  obtain ⟨neg, hneg⟩ : ∃ neg, neg = decide (9223372036854775808 ≤ b) := ⟨_, rfl⟩
  obtain ⟨s, hs⟩ : ∃ s, s = b % 9223372036854775808 := ⟨_, rfl⟩
  have hv : iv neg (man * 2 ^ q) = svS 9223372036854775808 4503599627370496 b := by
    rw [svS_eq, hneg, show vs 4503599627370496 (b % 9223372036854775808) = man * 2 ^ q from by unfold vs; rw [← hq, ← hman]]
    by_cases h : 9223372036854775808 ≤ b
    · rw [if_pos h, decide_eq_true h]; rfl
    · rw [if_neg h, decide_eq_false h]; rfl
  have hq9 : q ≤ 2048 := by omega
  have e1 : IntKind.i64.wrap ((-1074 : Int) + (q : Int) - (-1074)) = (q : Int) := by simp [IntKind.wrap, IntKind.signed, IntKind.bits]; omega
  obtain ⟨ex, hex⟩ : ∃ ex : Int, ex = (-1074 : Int) + (q : Int) := ⟨_, rfl⟩
  rw [← hex] at e1
  have e2 : wrap64 (ex + 1074) = (q : Int) := by rw [hex]; simp only [wrap64]; omega
  have e3 : IntKind.i64.wrap (ex + 1074) = (q : Int) := by rw [hex]; simp [IntKind.wrap, IntKind.signed, IntKind.bits]; omega
  have HV : Hid (iv neg (man * 2 ^ q) = svS 9223372036854775808 4503599627370496 b ∧ q ≤ 2048 ∧ man < B64 ∧ b % 9223372036854775808 = s ∧ decide (9223372036854775808 ≤ b) = neg ∧ s < 9223372036854775808 ∧ s / 4503599627370496 - 1 = q ∧ s - q * 4503599627370496 = man ∧ (-1074 : Int) + (q : Int) = ex) := ⟨hv, hq9, by rw [B64_eq]; omega, hs.symm, hneg.symm, by omega, by rw [hs]; exact hq.symm, by rw [hs]; exact hman.symm, hex.symm⟩
  clear hq hman hneg hs hv hq9 hex
  go_enter Tryd.func51, Tryd.ntmps51
  go_wp2_with fail
  obtain ⟨W0, hW0⟩ : ∃ W0, W0 = ((w.alloc (.cells #[U 9223372036854775808, .int .i64 53, .int .i64 (-1074), .int .i64 971, U 9218868437227405312, U 9221120237041090561] 89)).alloc (.cells #[.bool false, .slice none 0 0] 99)) := ⟨_, rfl⟩
  have Xk : Hid (B6q W0 (w.heap.size) (U 9223372036854775808) (.int .i64 53) (.int .i64 (-1074)) (.int .i64 971) (U 9218868437227405312) (U 9221120237041090561)) := by rw [hW0]; exact ⟨by go_simp, by go_simp, by go_simp, by go_simp, by go_simp, by go_simp, by go_simp, by go_simp, by go_simp, by go_simp, by go_simp, by go_simp⟩
  have Xr : Hid (Box W0 (w.heap.size + 1) (.bool false) (.slice none 0 0)) := by rw [hW0]; exact ⟨by go_simp, by go_simp, by go_simp, by go_simp⟩
  have hb0 : Below w.heap.size w W0 := by rw [hW0]; exact below2 w _ _
  rw [← hW0]
  clear hW0
  have hbw : Below w.heap.size w w := Below.refl _ _
  obtain ⟨gr, hgr⟩ : ∃ g, g = w.heap.size + 1 := ⟨_, rfl⟩
  have HGr : Hid (w.heap.size ≤ gr) := by rw [hgr]; show _ ≤ _; omega
  rw [← hgr] at Xr
  try rw [← hgr]
  obtain ⟨gk, hgk⟩ : ∃ g, g = w.heap.size := ⟨_, rfl⟩
  have HGk : Hid (w.heap.size ≤ gk) := by rw [hgk]; show _ ≤ _; omega
  rw [← hgk] at Xk
  try rw [← hgk]
  have HGD : Hid (gk ≠ gr ∧ gr ≠ gk) := by rw [hgk, hgr]; exact ⟨by omega, by omega⟩
  clear hgk hgr
  replace hbw := Below.on hbw hb0
  clear hb0
  refine (cut_any (by decide) (by decide) b _).mono ?_
  rintro e v1 ⟨rfl, hb1⟩
  rw [HV.out.2.2.2.1, HV.out.2.2.2.2.1]
  replace Xk : Hid _ := Xk.out.below hb1
  replace Xr : Hid _ := Xr.out.below hb1
  replace hbw := Below.on hbw hb1
  clear hb1
  obtain ⟨ck0, ck1, ck2, ck3, ck4, ck5, fk0, fk1, fk2, fk3, fk4, fk5⟩ := Xk.out
  have hnek : gk < v1.heap.size := World.block_lt_of_cell? v1 _ ck0
  go_wp2_with fail
  clear ck0 ck1 ck2 ck3 ck4 ck5 fk0 fk1 fk2 fk3 fk4 fk5 hnek
  refine (rparts_all64 s HV.out.2.2.2.2.2.1 _).mono ?_
  rintro e v2 ⟨rfl, hb2⟩
  rw [HV.out.2.2.2.2.2.2.1, HV.out.2.2.2.2.2.2.2.1, HV.out.2.2.2.2.2.2.2.2]
  replace Xk : Hid _ := Xk.out.below hb2
  replace Xr : Hid _ := Xr.out.below hb2
  replace hbw := Below.on hbw hb2
  clear hb2
  obtain ⟨ck0, ck1, ck2, ck3, ck4, ck5, fk0, fk1, fk2, fk3, fk4, fk5⟩ := Xk.out
  have hnek : gk < v2.heap.size := World.block_lt_of_cell? v2 _ ck0
  go_wp2_with fail
  clear ck0 ck1 ck2 ck3 ck4 ck5 fk0 fk1 fk2 fk3 fk4 fk5 hnek
  obtain ⟨W1, hW1⟩ : ∃ W1, W1 = v2.drew := ⟨_, rfl⟩
  have hbd : Below v2.heap.size v2 W1 := by rw [hW1]; exact bDrew1 (Below.refl _ _)
  replace Xk : Hid _ := Xk.out.below hbd
  replace Xr : Hid _ := Xr.out.below hbd
  replace hbw := Below.on hbw hbd
  clear hbd
  have HJ : Hid ((fun W' : World => W'.cell? ⟨gk, 2, none⟩ = some (.int .i64 (-1074)) ∧ W'.cell? ⟨gk, 1, none⟩ = some (.int .i64 53)) W1) := ⟨Xk.out.c2, Xk.out.c1⟩
  refine wp_region_J (fun W' => W'.cell? ⟨gk, 2, none⟩ = some (.int .i64 (-1074)) ∧ W'.cell? ⟨gk, 1, none⟩ = some (.int .i64 53)) (by kernel_rfl) ?_
  rw [← hW1]
  clear hW1
  refine wpJ_tq 0 rfl HJ.out ?_
  refine wpJ_tq 1 rfl HJ.out ?_
  refine wpJ_tq 3 rfl HJ.out ?_
  refine wpJ_tq 4 rfl HJ.out ?_
  refine wpJ_tq 5 rfl HJ.out ?_
  refine wpJ_tq 6 rfl HJ.out ?_
  refine wpJ_on 2 rfl fun KJ hK => ?_
  go_simp
  refine (rword man HV.out.2.2.1 _).mono ?_
  rintro e v5 ⟨g5, z5, rfl, hl5, hA5, hN5, hb5⟩
  replace Xk : Hid _ := Xk.out.below hb5
  replace Xr : Hid _ := Xr.out.below hb5
  replace hbw := Below.on hbw hb5
  clear hb5
  have A5 : Hid (At32 v5 (some ⟨g5, 0, none⟩) z5.length z5.length z5) := hA5
  have N5 : Hid (Nf B32 z5 man ∧ z5.length ≤ 2) := ⟨hN5, hl5⟩
  clear hA5 hN5 hl5
  obtain ⟨l5, hl5⟩ : ∃ l5, l5 = z5.length := ⟨_, rfl⟩
  rw [← hl5] at A5 N5 ⊢
  clear hl5
  refine hK _ _ ⟨Xk.out.c2, Xk.out.c1⟩ ?_
  clear hK
  refine wpJ_on 7 rfl fun KJ hK => ?_
  go_simp
  refine (rshl_all A5.out N5.out.1 (by have := N5.out.2; omega) q (.inl (by have := HV.out.2.1; omega))).mono ?_
  rintro e v6 ⟨p6, m6, z6, rfl, hA6, hN6, hm6, hb6⟩
  replace Xk : Hid _ := Xk.out.below hb6
  replace Xr : Hid _ := Xr.out.below hb6
  replace A5 : Hid _ := A5.out.below hb6
  replace hbw := Below.on hbw hb6
  clear hb6
  clear A5
  have A6 : Hid (At32 v6 p6 m6 m6 z6) := hA6
  have N6 : Hid (Nf B32 z6 (man * 2 ^ q) ∧ m6 ≤ 40000) := ⟨hN6, hm6⟩
  clear hA6 hN6 hm6 N5
  refine hK _ _ ⟨Xk.out.c2, Xk.out.c1⟩ ?_
  clear hK
  have HRL : Hid (gr < v6.heap.size ∧ w.heap.size ≤ v6.heap.size) := ⟨Xr.out.lt, hbw.size⟩
  refine wpJ_on 8 rfl fun KJ hK => ?_
  go_simp
  refine (rmk_any neg A6.out N6.out.1 (by have := N6.out.2; omega)).mono ?_
  rintro e v7 ⟨v, rfl, hv, hb7⟩
  rw [HV.out.1] at hv
  obtain ⟨LL, hLL⟩ : ∃ LL : Nat, LL = 2200 := ⟨_, rfl⟩
  obtain ⟨s7, g7, m7, rfl, hg7, hz7, hl7⟩ := hv.len9 (L' := LL) (svS_lt b (a := 52) (c := 2048) (by decide) (by decide) (by decide) (by decide) (by omega))
  rw [hLL] at hl7
  clear hLL
  have HN7 : Hid (v6.heap.size ≤ g7) := hg7
  replace Xk : Hid _ := Xk.out.below hb7
  replace Xr : Hid _ := Xr.out.below hb7
  replace A6 : Hid _ := A6.out.below hb7
  replace hbw := Below.on hbw hb7
  clear hb7
  clear A6
  have Z7 : Hid (ZR v7 s7 (some ⟨g7, 0, none⟩) m7 (svS 9223372036854775808 4503599627370496 b)) := hz7
  have HL7 : Hid (m7 ≤ 2200) := hl7
  clear hv hg7 hz7 hl7 N6
  refine hK _ _ ⟨Xk.out.c2, Xk.out.c1⟩ ?_
  clear hK
  obtain ⟨cr0, cr1, fr0, fr1⟩ := Xr.out
  have hner := Xr.out.lt
  obtain ⟨ck0, ck1, ck2, ck3, ck4, ck5, fk0, fk1, fk2, fk3, fk4, fk5⟩ := Xk.out
  have hnek : gk < v7.heap.size := World.block_lt_of_cell? v7 _ ck0
  obtain ⟨hgd0, hgd1⟩ := HGD.out
  refine wpJ_on 9 rfl fun KJ hK => ?_
  go_simp
  have HJ2 : Hid ((fun W' : World => W'.cell? ⟨gk, 2, none⟩ = some (.int .i64 (-1074)) ∧ W'.cell? ⟨gk, 1, none⟩ = some (.int .i64 53)) ((v7.setCell ⟨gr, 0, none⟩ (.bool s7)).setCell ⟨gr, 1, none⟩ (.slice (some ⟨g7, 0, none⟩) m7 m7))) := ⟨by go_simp, by go_simp⟩
  refine hK _ _ HJ2.out ?_
  clear hK HJ
  have HJ := HJ2
  clear HJ2
  refine wpJ_done (by kernel_rfl) ?_ _
  clear HJ
  go_wp2_with fail
  refine bodyPost_ret (v := .agg #[.bool s7, .slice (some ⟨g7, 0, none⟩) m7 m7]) (by rw [results_cell1 rfl]; go_simp) rfl ⟨_, rfl, ⟨s7, g7, m7, rfl, Nat.le_trans HRL.out.2 HN7.out, ?_, HL7.out⟩, ?_⟩
  · have := HN7.out; have := HRL.out.1
    exact (Z7.out.set _ _ _ (by omega)).set _ _ _ (by omega)
  · exact bSet (bSet hbw _ _ _ HGr.out) _ _ _ HGr.out
theorem rwhole_32 {b : Nat} (w : World) :
    Calls Tryd.prog 51 #[FV 2147483648 24 (-149) 104 2139095040 2143289345, U b] w fun en w' => ∃ v, en = .returned v ∧ GotR w.heap.size w' v (svS 2147483648 8388608 b) 2200 ∧ Below w.heap.size w w' := by
  obtain ⟨q, hq⟩ : ∃ q, q = b % 2147483648 / 8388608 - 1 := ⟨_, rfl⟩
  obtain ⟨man, hman⟩ : ∃ man, man = b % 2147483648 - q * 8388608 := ⟨_, rfl⟩
  obtain ⟨neg, hneg⟩ : ∃ neg, neg = decide (2147483648 ≤ b) := ⟨_, rfl⟩
  obtain ⟨s, hs⟩ : ∃ s, s = b % 2147483648 := ⟨_, rfl⟩
  have hv : iv neg (man * 2 ^ q) = svS 2147483648 8388608 b := by
    rw [svS_eq, hneg, show vs 8388608 (b % 2147483648) = man * 2 ^ q from by unfold vs; rw [← hq, ← hman]]
    by_cases h : 2147483648 ≤ b
    · rw [if_pos h, decide_eq_true h]; rfl
    · rw [if_neg h, decide_eq_false h]; rfl
  have hq9 : q ≤ 256 := by omega
  have e1 : IntKind.i64.wrap ((-149 : Int) + (q : Int) - (-149)) = (q : Int) := by simp [IntKind.wrap, IntKind.signed, IntKind.bits]; omega
  obtain ⟨ex, hex⟩ : ∃ ex : Int, ex = (-149 : Int) + (q : Int) := ⟨_, rfl⟩
  rw [← hex] at e1
  have e2 : wrap64 (ex + 149) = (q : Int) := by rw [hex]; simp only [wrap64]; omega
  have e3 : IntKind.i64.wrap (ex + 149) = (q : Int) := by rw [hex]; simp [IntKind.wrap, IntKind.signed, IntKind.bits]; omega
  have HV : Hid (iv neg (man * 2 ^ q) = svS 2147483648 8388608 b ∧ q ≤ 256 ∧ man < B64 ∧ b % 2147483648 = s ∧ decide (2147483648 ≤ b) = neg ∧ s < 2147483648 ∧ s / 8388608 - 1 = q ∧ s - q * 8388608 = man ∧ (-149 : Int) + (q : Int) = ex) := ⟨hv, hq9, by rw [B64_eq]; omega, hs.symm, hneg.symm, by omega, by rw [hs]; exact hq.symm, by rw [hs]; exact hman.symm, hex.symm⟩
  clear hq hman hneg hs hv hq9 hex
  go_enter Tryd.func51, Tryd.ntmps51
  go_wp2_with fail
  obtain ⟨W0, hW0⟩ : ∃ W0, W0 = ((w.alloc (.cells #[U 2147483648, .int .i64 24, .int .i64 (-149), .int .i64 104, U 2139095040, U 2143289345] 89)).alloc (.cells #[.bool false, .slice none 0 0] 99)) := ⟨_, rfl⟩
  have Xk : Hid (B6q W0 (w.heap.size) (U 2147483648) (.int .i64 24) (.int .i64 (-149)) (.int .i64 104) (U 2139095040) (U 2143289345)) := by rw [hW0]; exact ⟨by go_simp, by go_simp, by go_simp, by go_simp, by go_simp, by go_simp, by go_simp, by go_simp, by go_simp, by go_simp, by go_simp, by go_simp⟩
  have Xr : Hid (Box W0 (w.heap.size + 1) (.bool false) (.slice none 0 0)) := by rw [hW0]; exact ⟨by go_simp, by go_simp, by go_simp, by go_simp⟩
  have hb0 : Below w.heap.size w W0 := by rw [hW0]; exact below2 w _ _
  rw [← hW0]
  clear hW0
  have hbw : Below w.heap.size w w := Below.refl _ _
  obtain ⟨gr, hgr⟩ : ∃ g, g = w.heap.size + 1 := ⟨_, rfl⟩
  have HGr : Hid (w.heap.size ≤ gr) := by rw [hgr]; show _ ≤ _; omega
  rw [← hgr] at Xr
  try rw [← hgr]
  obtain ⟨gk, hgk⟩ : ∃ g, g = w.heap.size := ⟨_, rfl⟩
  have HGk : Hid (w.heap.size ≤ gk) := by rw [hgk]; show _ ≤ _; omega
  rw [← hgk] at Xk
  try rw [← hgk]
  have HGD : Hid (gk ≠ gr ∧ gr ≠ gk) := by rw [hgk, hgr]; exact ⟨by omega, by omega⟩
  clear hgk hgr
  replace hbw := Below.on hbw hb0
  clear hb0
  refine (cut_any (by decide) (by decide) b _).mono ?_
  rintro e v1 ⟨rfl, hb1⟩
  rw [HV.out.2.2.2.1, HV.out.2.2.2.2.1]
  replace Xk : Hid _ := Xk.out.below hb1
  replace Xr : Hid _ := Xr.out.below hb1
  replace hbw := Below.on hbw hb1
  clear hb1
  obtain ⟨ck0, ck1, ck2, ck3, ck4, ck5, fk0, fk1, fk2, fk3, fk4, fk5⟩ := Xk.out
  have hnek : gk < v1.heap.size := World.block_lt_of_cell? v1 _ ck0
  go_wp2_with fail
  clear ck0 ck1 ck2 ck3 ck4 ck5 fk0 fk1 fk2 fk3 fk4 fk5 hnek
  refine (rparts_all32 s HV.out.2.2.2.2.2.1 _).mono ?_
  rintro e v2 ⟨rfl, hb2⟩
  rw [HV.out.2.2.2.2.2.2.1, HV.out.2.2.2.2.2.2.2.1, HV.out.2.2.2.2.2.2.2.2]
  replace Xk : Hid _ := Xk.out.below hb2
  replace Xr : Hid _ := Xr.out.below hb2
  replace hbw := Below.on hbw hb2
  clear hb2
  obtain ⟨ck0, ck1, ck2, ck3, ck4, ck5, fk0, fk1, fk2, fk3, fk4, fk5⟩ := Xk.out
  have hnek : gk < v2.heap.size := World.block_lt_of_cell? v2 _ ck0
  go_wp2_with fail
  clear ck0 ck1 ck2 ck3 ck4 ck5 fk0 fk1 fk2 fk3 fk4 fk5 hnek
  obtain ⟨W1, hW1⟩ : ∃ W1, W1 = v2.drew := ⟨_, rfl⟩
  have hbd : Below v2.heap.size v2 W1 := by rw [hW1]; exact bDrew1 (Below.refl _ _)
  replace Xk : Hid _ := Xk.out.below hbd
  replace Xr : Hid _ := Xr.out.below hbd
  replace hbw := Below.on hbw hbd
  clear hbd
  have HJ : Hid ((fun W' : World => W'.cell? ⟨gk, 2, none⟩ = some (.int .i64 (-149)) ∧ W'.cell? ⟨gk, 1, none⟩ = some (.int .i64 24)) W1) := ⟨Xk.out.c2, Xk.out.c1⟩
  refine wp_region_J (fun W' => W'.cell? ⟨gk, 2, none⟩ = some (.int .i64 (-149)) ∧ W'.cell? ⟨gk, 1, none⟩ = some (.int .i64 24)) (by kernel_rfl) ?_
  rw [← hW1]
  clear hW1
  refine wpJ_tq 0 rfl HJ.out ?_
  refine wpJ_tq 1 rfl HJ.out ?_
  refine wpJ_tq 3 rfl HJ.out ?_
  refine wpJ_tq 4 rfl HJ.out ?_
  refine wpJ_tq 5 rfl HJ.out ?_
  refine wpJ_tq 6 rfl HJ.out ?_
  refine wpJ_on 2 rfl fun KJ hK => ?_
  go_simp
  refine (rword man HV.out.2.2.1 _).mono ?_
  rintro e v5 ⟨g5, z5, rfl, hl5, hA5, hN5, hb5⟩
  replace Xk : Hid _ := Xk.out.below hb5
  replace Xr : Hid _ := Xr.out.below hb5
  replace hbw := Below.on hbw hb5
  clear hb5
  have A5 : Hid (At32 v5 (some ⟨g5, 0, none⟩) z5.length z5.length z5) := hA5
  have N5 : Hid (Nf B32 z5 man ∧ z5.length ≤ 2) := ⟨hN5, hl5⟩
  clear hA5 hN5 hl5
  obtain ⟨l5, hl5⟩ : ∃ l5, l5 = z5.length := ⟨_, rfl⟩
  rw [← hl5] at A5 N5 ⊢
  clear hl5
  refine hK _ _ ⟨Xk.out.c2, Xk.out.c1⟩ ?_
  clear hK
  refine wpJ_on 7 rfl fun KJ hK => ?_
  go_simp
  refine (rshl_all A5.out N5.out.1 (by have := N5.out.2; omega) q (.inl (by have := HV.out.2.1; omega))).mono ?_
  rintro e v6 ⟨p6, m6, z6, rfl, hA6, hN6, hm6, hb6⟩
  replace Xk : Hid _ := Xk.out.below hb6
  replace Xr : Hid _ := Xr.out.below hb6
  replace A5 : Hid _ := A5.out.below hb6
  replace hbw := Below.on hbw hb6
  clear hb6
  clear A5
  have A6 : Hid (At32 v6 p6 m6 m6 z6) := hA6
  have N6 : Hid (Nf B32 z6 (man * 2 ^ q) ∧ m6 ≤ 40000) := ⟨hN6, hm6⟩
  clear hA6 hN6 hm6 N5
  refine hK _ _ ⟨Xk.out.c2, Xk.out.c1⟩ ?_
  clear hK
  have HRL : Hid (gr < v6.heap.size ∧ w.heap.size ≤ v6.heap.size) := ⟨Xr.out.lt, hbw.size⟩
  refine wpJ_on 8 rfl fun KJ hK => ?_
  go_simp
  refine (rmk_any neg A6.out N6.out.1 (by have := N6.out.2; omega)).mono ?_
  rintro e v7 ⟨v, rfl, hv, hb7⟩
  rw [HV.out.1] at hv
  obtain ⟨LL, hLL⟩ : ∃ LL : Nat, LL = 2200 := ⟨_, rfl⟩
  obtain ⟨s7, g7, m7, rfl, hg7, hz7, hl7⟩ := hv.len9 (L' := LL) (svS_lt b (a := 23) (c := 256) (by decide) (by decide) (by decide) (by decide) (by omega))
  rw [hLL] at hl7
  clear hLL
  have HN7 : Hid (v6.heap.size ≤ g7) := hg7
  replace Xk : Hid _ := Xk.out.below hb7
  replace Xr : Hid _ := Xr.out.below hb7
  replace A6 : Hid _ := A6.out.below hb7
  replace hbw := Below.on hbw hb7
  clear hb7
  clear A6
  have Z7 : Hid (ZR v7 s7 (some ⟨g7, 0, none⟩) m7 (svS 2147483648 8388608 b)) := hz7
  have HL7 : Hid (m7 ≤ 2200) := hl7
  clear hv hg7 hz7 hl7 N6
  refine hK _ _ ⟨Xk.out.c2, Xk.out.c1⟩ ?_
  clear hK
  obtain ⟨cr0, cr1, fr0, fr1⟩ := Xr.out
  have hner := Xr.out.lt
  obtain ⟨ck0, ck1, ck2, ck3, ck4, ck5, fk0, fk1, fk2, fk3, fk4, fk5⟩ := Xk.out
  have hnek : gk < v7.heap.size := World.block_lt_of_cell? v7 _ ck0
  obtain ⟨hgd0, hgd1⟩ := HGD.out
  refine wpJ_on 9 rfl fun KJ hK => ?_
  go_simp
  have HJ2 : Hid ((fun W' : World => W'.cell? ⟨gk, 2, none⟩ = some (.int .i64 (-149)) ∧ W'.cell? ⟨gk, 1, none⟩ = some (.int .i64 24)) ((v7.setCell ⟨gr, 0, none⟩ (.bool s7)).setCell ⟨gr, 1, none⟩ (.slice (some ⟨g7, 0, none⟩) m7 m7))) := ⟨by go_simp, by go_simp⟩
  refine hK _ _ HJ2.out ?_
  clear hK HJ
  have HJ := HJ2
  clear HJ2
  refine wpJ_done (by kernel_rfl) ?_ _
  clear HJ
  go_wp2_with fail
  refine bodyPost_ret (v := .agg #[.bool s7, .slice (some ⟨g7, 0, none⟩) m7 m7]) (by rw [results_cell1 rfl]; go_simp) rfl ⟨_, rfl, ⟨s7, g7, m7, rfl, Nat.le_trans HRL.out.2 HN7.out, ?_, HL7.out⟩, ?_⟩
  · have := HN7.out; have := HRL.out.1
    exact (Z7.out.set _ _ _ (by omega)).set _ _ _ (by omega)
  · exact bSet (bSet hbw _ _ _ HGr.out) _ _ _ HGr.out
def MkR (z e zo eo er : Int) : Prop := (z = 0 ∧ zo = 0 ∧ eo = 0 ∧ er = 0) ∨
  (z ≠ 0 ∧ ∃ k : Nat, TzIs z.natAbs k ∧ ((-1048576 ≤ e + k ∧ e + k ≤ 1048576 ∧ zo * ((2 ^ k : Nat) : Int) = z ∧ eo = e + k ∧ er = 0) ∨ (¬ (-1048576 ≤ e + k ∧ e + k ≤ 1048576) ∧ zo = 0 ∧ eo = 0 ∧ er = 5)))
theorem MkR.uniq {z e zo eo er zo' eo' er' : Int} (h : MkR z e zo eo er) (k : MkR z e zo' eo' er') : zo = zo' ∧ eo = eo' ∧ er = er' := by
  rcases h with ⟨h0, rfl, rfl, rfl⟩ | ⟨h0, K, hK, h⟩
  · rcases k with ⟨_, rfl, rfl, rfl⟩ | ⟨k0, _⟩
    · exact ⟨rfl, rfl, rfl⟩
    · exact absurd h0 k0
  · rcases k with ⟨k0, _⟩ | ⟨_, L, hL, k⟩
    · exact absurd k0 h0
    · obtain rfl := hK.inj hL
      rcases h with ⟨h1, h2, h3, rfl, rfl⟩ | ⟨h1, rfl, rfl, rfl⟩
      · rcases k with ⟨_, _, k3, rfl, rfl⟩ | ⟨k1, _⟩
        · exact ⟨Int.eq_of_mul_eq_mul_right (pow_pos_int K) (h3.trans k3.symm), rfl, rfl⟩
        · exact absurd ⟨h1, h2⟩ k1
      · rcases k with ⟨k1, k2, _⟩ | ⟨_, rfl, rfl, rfl⟩
        · exact absurd ⟨k1, k2⟩ h1
        · exact ⟨rfl, rfl, rfl⟩
theorem MkR.zero (e : Int) : MkR 0 e 0 0 0 := .inl ⟨rfl, rfl, rfl, rfl⟩
theorem TzIs.zero_of_odd {v : Nat} (h : v % 2 = 1) : TzIs v 0 := ⟨by simp [Nat.mod_one], by simpa using h⟩
theorem MkR.odd {z e : Int} (hz : z % 2 = 1) (he : -1048576 ≤ e ∧ e ≤ 1048576) : MkR z e z e 0 :=
  .inr ⟨by omega, 0, TzIs.zero_of_odd (by omega), .inl ⟨by omega, by omega, by simp, by omega, rfl⟩⟩
theorem MkR.big {z e : Int} (hz : z % 2 = 1) (he : ¬ (-1048576 ≤ e ∧ e ≤ 1048576)) : MkR z e 0 0 5 :=
  .inr ⟨by omega, 0, TzIs.zero_of_odd (by omega), .inr ⟨by omega, rfl, rfl, rfl⟩⟩
theorem MkR.fm {z e zo eo er : Int} (h : MkR z e zo eo er) : DFm zo eo := by
  rcases h with ⟨_, rfl, rfl, _⟩ | ⟨h0, K, hK, ⟨h1, h2, h3, rfl, _⟩ | ⟨_, rfl, rfl, _⟩⟩
  · exact .inl ⟨rfl, rfl⟩
  · refine .inr ⟨?_, h1, h2⟩
    have h4 : zo.natAbs * 2 ^ K = z.natAbs := by
      have := congrArg Int.natAbs h3
      rw [Int.natAbs_mul] at this
      simpa using this
    have h5 := hK.2
    rw [← h4, Nat.mul_div_cancel _ (Nat.two_pow_pos K)] at h5
    omega
  · exact .inl ⟨rfl, rfl⟩
structure DQ (B : Nat) (w : World) (s : Bool) (p : Option Addr) (m c : Nat) (e z : Int) : Prop where
  dn : DN w s p m c e z
  nw : m = 0 ∨ ∃ g, p = some ⟨g, 0, none⟩ ∧ B ≤ g
theorem DQ.below {B : Nat} {w w' : World} {s : Bool} {p : Option Addr} {m c : Nat} {e z : Int} (h : DQ B w s p m c e z) (hb : Below w.heap.size w w') : DQ B w' s p m c e z := ⟨h.dn.below hb, h.nw⟩
theorem DQ.mono {B B' : Nat} {w : World} {s : Bool} {p : Option Addr} {m c : Nat} {e z : Int} (h : DQ B w s p m c e z) (hB : B' ≤ B) : DQ B' w s p m c e z := ⟨h.dn, h.nw.imp id fun ⟨g, h1, h2⟩ => ⟨g, h1, Nat.le_trans hB h2⟩⟩
theorem DN.setOff {w : World} {s : Bool} {p : Option Addr} {m c g o : Nat} {e z : Int} {v : Value} (h : DN w s p m c e z) (hf : m = 0 ∨ ∃ g', p = some ⟨g', 0, none⟩ ∧ g' ≠ g) : DN (w.setCell ⟨g, o, none⟩ v) s p m c e z := by
  obtain ⟨xs, hX⟩ := h.zn.ex
  refine ⟨⟨⟨xs, ?_, hX.nf, hX.le⟩, h.zn.sg⟩, h.fm⟩
  rcases hf with rfl | ⟨g', rfl, hg⟩
  · obtain rfl : xs = [] := List.eq_nil_of_length_eq_zero hX.at_.len
    exact At.empty _ _ _ hX.at_.big
  · exact hX.at_.setOther _ _ _ hg
theorem DQ.set {B : Nat} {w : World} {s : Bool} {p : Option Addr} {m c : Nat} {e z : Int} (h : DQ B w s p m c e z) (g o : Nat) (v : Value) (hg : g < B) : DQ B (w.setCell ⟨g, o, none⟩ v) s p m c e z :=
  ⟨h.dn.setOff (h.nw.imp id fun ⟨g', h1, h2⟩ => ⟨g', h1, by omega⟩), h.nw⟩
theorem DQ.zero (B : Nat) (w : World) : DQ B w false none 0 0 0 0 :=
  ⟨⟨⟨⟨[], At.empty _ _ _ (by decide), Nf.nil _, by omega⟩, rfl⟩, .inl ⟨rfl, rfl⟩⟩, .inl rfl⟩
theorem AnsD.dq {B : Nat} {w' : World} {v : Value} {z e : Int} (h : AnsD B w' v z e) (hf : DFm z e) : ∃ s p m, v = DV s p m m e ∧ DQ B w' s p m m e z := by
  obtain ⟨p, m, zs, rfl, ho, hn, hm⟩ := h
  exact ⟨_, p, m, rfl, ⟨⟨⟨zs, Num.of ho hn hm⟩, rfl⟩, hf⟩, ho.mem.imp id fun ⟨g, e, hg, _⟩ => ⟨g, e, hg⟩⟩
def SaidD (B : Nat) (w' : World) (en : Ending) (z e er : Int) : Prop := ∃ s p m c, en = .returned (.tuple #[DV s p m c e, .int .i64 er]) ∧ DQ B w' s p m c e z
theorem SaidD.err (B : Nat) (w' : World) (er : Int) : SaidD B w' (.returned (.tuple #[DV false none 0 0 0, .int .i64 er])) 0 0 er := ⟨_, _, _, _, rfl, DQ.zero _ _⟩
theorem SaidD.ans {B : Nat} {w' : World} {v : Value} {z e : Int} (h : AnsD B w' v z e) (hf : DFm z e) : SaidD B w' (.returned (.tuple #[v, .int .i64 0])) z e 0 := by
  obtain ⟨s, p, m, rfl, hd⟩ := h.dq hf
  exact ⟨s, p, m, m, rfl, hd⟩
theorem TzO.is {z : Int} {k : Nat} (hz : z ≠ 0) (h : TzO z.natAbs k) : TzIs z.natAbs k := by
  rcases h with ⟨h0, _⟩ | ⟨_, h1, h2⟩
  · omega
  · exact ⟨h1, h2⟩
theorem MakeP.mk {B : Nat} {w' : World} {en : Ending} {z e : Int} (h : MakeP B w' en z e) (he : -4194304 ≤ e) : ∃ zo eo er, SaidD B w' en zo eo er ∧ MkR z e zo eo er := by
  by_cases hz : z = 0
  · subst hz
    obtain ⟨v, rfl, hv⟩ := h.form (.inl ⟨rfl, rfl⟩) (by rw [dv_zero, dv_zero])
    exact ⟨0, 0, 0, SaidD.ans hv (.inl ⟨rfl, rfl⟩), MkR.zero e⟩
  · obtain ⟨k, hk⟩ := TzO.ex z.natAbs
    have hki := hk.is hz
    obtain ⟨h1, h2, _⟩ := tz_split hz hk
    generalize fl (decide (z < 0)) z.natAbs (2 ^ k) = o at *
    by_cases hr : -1048576 ≤ e + k ∧ e + k ≤ 1048576
    · have hf : DFm o (e + k) := .inr ⟨h1, hr⟩
      obtain ⟨v, rfl, hv⟩ := h.form hf (by rw [dv_up k he, h2])
      exact ⟨o, e + k, 0, SaidD.ans hv hf, .inr ⟨hz, k, hki, .inl ⟨hr.1, hr.2, h2, rfl, rfl⟩⟩⟩
    · rcases h with ⟨v, zo, eo, _, _, h5, h6⟩ | ⟨rfl, _⟩
      · exact absurd h6 (make_no hz hk he (by omega) zo eo h5)
      · exact ⟨0, 0, 5, SaidD.err _ _ _, .inr ⟨hz, k, hki, .inr ⟨hr, rfl, rfl, rfl⟩⟩⟩
def OneD (R : Int → Int → Int → Int → Int → Prop) (sx : Bool) (xx : List Nat) (ex zo eo er : Int) : Prop :=
  (formD sx xx ex = false ∧ zo = 0 ∧ eo = 0 ∧ er = 2) ∨ (formD sx xx ex = true ∧ R (iv sx (valB B64 xx)) ex zo eo er)
def TwoD (R : Int → Int → Int → Int → Int → Int → Int → Prop) (sx : Bool) (xx : List Nat) (ex : Int) (sy : Bool) (yy : List Nat) (ey zo eo er : Int) : Prop :=
  ((formD sx xx ex = false ∨ formD sy yy ey = false) ∧ zo = 0 ∧ eo = 0 ∧ er = 2) ∨ (formD sx xx ex = true ∧ formD sy yy ey = true ∧ R (iv sx (valB B64 xx)) ex (iv sy (valB B64 yy)) ey zo eo er)
theorem OneD.uniq {R : Int → Int → Int → Int → Int → Prop} {sx : Bool} {xx : List Nat} {ex zo eo er zo' eo' er' : Int} (hR : ∀ x e a b c a' b' c', R x e a b c → R x e a' b' c' → a = a' ∧ b = b' ∧ c = c')
    (h : OneD R sx xx ex zo eo er) (k : OneD R sx xx ex zo' eo' er') : zo = zo' ∧ eo = eo' ∧ er = er' := by
  rcases h with ⟨h0, rfl, rfl, rfl⟩ | ⟨h0, h⟩ <;> rcases k with ⟨k0, rfl, rfl, rfl⟩ | ⟨k0, k⟩
  · exact ⟨rfl, rfl, rfl⟩
  · simp_all
  · simp_all
  · exact hR _ _ _ _ _ _ _ _ h k
theorem TwoD.uniq {R : Int → Int → Int → Int → Int → Int → Int → Prop} {sx sy : Bool} {xx yy : List Nat} {ex ey zo eo er zo' eo' er' : Int} (hR : ∀ x e y f a b c a' b' c', R x e y f a b c → R x e y f a' b' c' → a = a' ∧ b = b' ∧ c = c')
    (h : TwoD R sx xx ex sy yy ey zo eo er) (k : TwoD R sx xx ex sy yy ey zo' eo' er') : zo = zo' ∧ eo = eo' ∧ er = er' := by
  rcases h with ⟨h0, rfl, rfl, rfl⟩ | ⟨h0, h1, h⟩ <;> rcases k with ⟨k0, rfl, rfl, rfl⟩ | ⟨k0, k1, k⟩
  · exact ⟨rfl, rfl, rfl⟩
  · rcases h0 with h0 | h0 <;> simp_all
  · rcases k0 with k0 | k0 <;> simp_all
  · exact hR _ _ _ _ _ _ _ _ _ _ h k
def MulR (x e y f zo eo er : Int) : Prop := ((x * y).natAbs < LIM ∧ MkR (x * y) (e + f) zo eo er) ∨ (LIM ≤ (x * y).natAbs ∧ zo = 0 ∧ eo = 0 ∧ er = 5)
theorem MulR.uniq (x e y f a b c a' b' c' : Int) (h : MulR x e y f a b c) (k : MulR x e y f a' b' c') : a = a' ∧ b = b' ∧ c = c' := by
  rcases h with ⟨h0, h⟩ | ⟨h0, rfl, rfl, rfl⟩ <;> rcases k with ⟨k0, k⟩ | ⟨k0, rfl, rfl, rfl⟩
  · exact h.uniq k
  · omega
  · omega
  · exact ⟨rfl, rfl, rfl⟩
def ScaleR (n x e zo eo er : Int) : Prop := (x = 0 ∧ zo = 0 ∧ eo = 0 ∧ er = 0) ∨ (x ≠ 0 ∧ ((-1048576 ≤ e + n ∧ e + n ≤ 1048576 ∧ zo = x ∧ eo = e + n ∧ er = 0) ∨ (¬ (-1048576 ≤ e + n ∧ e + n ≤ 1048576) ∧ zo = 0 ∧ eo = 0 ∧ er = 5)))
theorem ScaleR.uniq (n x e a b c a' b' c' : Int) (h : ScaleR n x e a b c) (k : ScaleR n x e a' b' c') : a = a' ∧ b = b' ∧ c = c' := by
  unfold ScaleR at h k; omega
theorem rshr_alle {p : Option Addr} {n : Nat} {xs : List Nat} {v : Nat} {w : World} (h : At32 w p n n xs) (hx : Nf B32 xs v) (hn : n ≤ 16384) (N : Nat) (hN2 : N ≤ 9223372036854775807) :
    Calls Tryd.prog 73 #[.slice p n n, .int .i64 N] w fun e w' => ∃ p' m' zs, e = .returned (.slice p' m' m') ∧ At32 w' p' m' m' zs ∧ Nf B32 zs (v / 2 ^ N) ∧ m' ≤ n ∧ Below w.heap.size w w' := by
  rcases Nat.eq_zero_or_pos N with h0 | h0
  · subst h0
    refine (rshr_0 h hx hn).mono ?_
    rintro e w' ⟨g, rfl, h1, hb⟩
    exact ⟨_, n, xs, rfl, h1, by rw [Nat.pow_zero, Nat.div_one]; exact hx, Nat.le_refl _, hb⟩
  · exact rfshr_any h hx hn N h0 hN2
theorem tz_vale {z : Int} {k : Nat} (_hz : z ≠ 0) (h : TzIs z.natAbs k) : ∃ zo : Int, zo.natAbs = z.natAbs / 2 ^ k ∧ zo % 2 = 1 ∧ zo * ((2 ^ k : Nat) : Int) = z ∧ decide (zo < 0) = decide (z < 0) ∧ iv (decide (z < 0)) (z.natAbs / 2 ^ k) = zo := by
  have h1 := Nat.div_add_mod z.natAbs (2 ^ k)
  rw [h.1, Nat.add_zero, Nat.mul_comm] at h1
  have h2 := h.2
  generalize z.natAbs / 2 ^ k = A at h1 h2 ⊢
  have hp : 0 < 2 ^ k := Nat.two_pow_pos k
  have hA : 0 < A := by omega
  rcases Int.lt_or_le z 0 with hn | hn
  · refine ⟨-(A : Int), by omega, by omega, ?_, ?_, ?_⟩
    · rw [Int.neg_mul, ← Int.natCast_mul, h1]; omega
    · rw [decide_eq_true hn]; exact decide_eq_true (by omega)
    · rw [decide_eq_true hn]; rfl
  · refine ⟨(A : Int), by omega, by omega, ?_, ?_, ?_⟩
    · rw [← Int.natCast_mul, h1]; omega
    · rw [decide_eq_false (show ¬ z < 0 by omega)]; exact decide_eq_false (by omega)
    · rw [decide_eq_false (show ¬ z < 0 by omega)]; rfl
theorem rfitsP {p : Option Addr} {n c : Nat} {xs : List Nat} {w : World} (h : At32 w p n c xs) (hn : n ≤ 35184372088832) :
    Calls Tryd.prog 92 #[.slice p n c] w fun e w' => e = .returned (if valB B32 xs < B64 then .tuple #[U (valB B32 xs), .bool true] else .tuple #[.int .u64 0, .bool false]) ∧ Below w.heap.size w w' := by
  have H : Hid (At32 w p n c xs) := h
  clear h
  obtain ⟨rv, hrv⟩ : ∃ rv : Value, rv = (if valB B32 xs < B64 then .tuple #[U (valB B32 xs), .bool true] else .tuple #[.int .u64 0, .bool false]) := ⟨_, rfl⟩
  rw [← hrv]
  have HRV : Hid (rv = (if valB B32 xs < B64 then .tuple #[U (valB B32 xs), .bool true] else .tuple #[.int .u64 0, .bool false])) := hrv
  clear hrv
  go_enter Tryd.func92, Tryd.ntmps92
  go_wp2_with fail
  refine (rto_any H.out hn).mono ?_
  rintro e w1 ⟨g1, k1, N1, us, rfl, hg1, hA1, hn1, hb1⟩
  have hl := hA1.len
  match k1, us, hl with
  | 0, [], _ =>
    have HV : Hid (valB B32 xs = 0) := by show _ = _; rw [← hn1.val]; rfl
    clear hA1 hn1 hg1
    go_wp2_with fail
    go_ret2
    refine ⟨?_, hb1⟩
    rw [HRV.out, HV.out, if_pos (by rw [B64_eq]; decide)]
    rfl
  | 1, [u], _ =>
    have HV : Hid (valB B32 xs = u ∧ u < B64) := ⟨by rw [← hn1.val]; simp [valB], hA1.dig u (by simp)⟩
    have hc := hA1.cellAt 0 (by omega)
    have hc2 : w1.cell? ⟨g1, 0, none⟩ = some (U u) := hc
    have hlt := World.block_lt_of_cell? w1 _ hc2
    clear hA1 hn1 hg1 hc
    go_wp2_with fail
    go_ret2
    refine ⟨?_, hb1⟩
    rw [HRV.out, HV.out.1, if_pos HV.out.2]
    rfl
  | k + 2, us, hl =>
    have HV : Hid (¬ valB B32 xs < B64) := by
      intro hlt
      have := (hn1.len_le B64_one (k := 1)).2 (by rw [Nat.pow_one]; exact hlt)
      omega
    have h0 : (((k + 2 : Nat) : Int) == 0) = false := by simp; omega
    have h1 : (((k + 2 : Nat) : Int) == 1) = false := by simp; omega
    clear hA1 hn1 hg1
    go_wp2_with fail
    go_ret2
    refine ⟨?_, hb1⟩
    rw [HRV.out, if_neg HV.out]
    rfl
theorem JnR.shift {H I : Nat} {l : Int} {man m' j : Nat} {ex : Int} {s : Nat} (hm : man = m' * 2 ^ j) : JnR H I l man ex s ↔ JnR H I l m' (ex + j) s := by
  obtain ⟨A, hA⟩ : ∃ A, A = (ex - l).toNat := ⟨_, rfl⟩
  obtain ⟨B, hB⟩ : ∃ B, B = (l - ex).toNat := ⟨_, rfl⟩
  obtain ⟨A2, hA2⟩ : ∃ A, A = (ex + j - l).toNat := ⟨_, rfl⟩
  obtain ⟨B2, hB2⟩ : ∃ B, B = (l - (ex + j)).toNat := ⟨_, rfl⟩
  have hq : j + A + B2 = A2 + B := by omega
  unfold JnR
  rw [← hA, ← hB, ← hA2, ← hB2, hm]
  constructor
  · rintro ⟨h1, h2⟩
    refine ⟨h1, Nat.eq_of_mul_eq_mul_right (Nat.two_pow_pos B) ?_⟩
    have h3 : m' * 2 ^ j * 2 ^ A * 2 ^ B2 = vs H s * 2 ^ B * 2 ^ B2 := by rw [h2]
    rw [Nat.mul_assoc, Nat.mul_assoc, Nat.mul_assoc, ← Nat.pow_add, ← Nat.pow_add, ← Nat.pow_add, show j + (A + B2) = A2 + B by omega, Nat.add_comm B B2, Nat.pow_add, Nat.pow_add, ← Nat.mul_assoc, ← Nat.mul_assoc] at h3
    exact h3
  · rintro ⟨h1, h2⟩
    refine ⟨h1, Nat.eq_of_mul_eq_mul_right (Nat.two_pow_pos B2) ?_⟩
    have h3 : m' * 2 ^ A2 * 2 ^ B = vs H s * 2 ^ B2 * 2 ^ B := by rw [h2]
    rw [Nat.mul_assoc, Nat.mul_assoc, ← Nat.pow_add, ← Nat.pow_add, show A2 + B = j + (A + B2) by omega, Nat.add_comm B2 B, Nat.pow_add, Nat.pow_add, Nat.pow_add, ← Nat.mul_assoc, ← Nat.mul_assoc, ← Nat.mul_assoc] at h3
    exact h3
theorem jn_odd {H I : Nat} {l ex : Int} {m : Nat} (ho : ¬ m % 2 = 0) (hx : ex < l) (s : Nat) : ¬ JnR H I l m ex s := by
  rintro ⟨-, h2⟩
  obtain ⟨k, hk⟩ : ∃ k, (l - ex).toNat = k + 1 := ⟨(l - ex).toNat - 1, by omega⟩
  rw [hk, show (ex - l).toNat = 0 by omega, Nat.pow_zero, Nat.mul_one, Nat.pow_succ, ← Nat.mul_assoc] at h2
  omega
theorem vs_lt_be {H I sd n s : Nat} (hs : H = 2 ^ sd) (hI : I = (n + 1) * H) (h1n : 1 ≤ n) (h : s < I) : vs H s < 2 ^ (sd + n) := by
  have hp : 0 < H := by rw [hs]; exact Nat.two_pow_pos _
  obtain ⟨q, mn, -, h3, h4, h5, h6⟩ := sz_parts hp s
  have h7 : q + 1 ≤ n := by
    rcases h6 with h6 | h6
    · omega
    · rcases Nat.lt_or_ge q n with e | e
      · exact e
      · exfalso
        have : n * H ≤ q * H := Nat.mul_le_mul_right _ e
        rw [hI, Nat.add_mul, Nat.one_mul] at h
        omega
  rw [h4]
  have h8 := Nat.mul_lt_mul_of_pos_right h5 (Nat.two_pow_pos q)
  rw [hs, show 2 * 2 ^ sd = 2 ^ (sd + 1) by rw [Nat.pow_succ, Nat.mul_comm], ← Nat.pow_add] at h8
  exact Nat.lt_of_lt_of_le h8 (Nat.pow_le_pow_right (by decide) (by omega))
theorem jn_far {H I sd n : Nat} {l Be ex : Int} {m : Nat} (hs : H = 2 ^ sd) (hn : Be = l + sd + n) (hI : I = (n + 1) * H) (h1n : 1 ≤ n) (hm : m ≠ 0) (hx : Be < ex) (s : Nat) : ¬ JnR H I l m ex s := by
  rintro ⟨h1, h2⟩
  have h3 := vs_lt_be hs hI h1n h1
  rw [show (l - ex).toNat = 0 by omega, Nat.pow_zero, Nat.mul_one] at h2
  have h4 : 2 ^ (sd + n) ≤ 2 ^ (ex - l).toNat := Nat.pow_le_pow_right (by decide) (by omega)
  have h5 : 1 * 2 ^ (ex - l).toNat ≤ m * 2 ^ (ex - l).toNat := Nat.mul_le_mul_right _ (by omega)
  omega
def szN (sd u : Nat) : Nat := if bl_bitsN u ≤ sd then u else (bl_bitsN u - (sd + 1)) * 2 ^ sd + u / 2 ^ (bl_bitsN u - (sd + 1))
theorem szN_vs {H sd : Nat} (hs : H = 2 ^ sd) (s : Nat) : szN sd (vs H s) = s := by
  have hp : 0 < H := by rw [hs]; exact Nat.two_pow_pos _
  obtain ⟨q, mn, -, h3, h4, h5, h6⟩ := sz_parts hp s
  by_cases h7 : H ≤ mn
  · have hb : bl_bitsN mn = sd + 1 := by
      have h8 := bl_bitsN_lt mn
      have h9 := bl_bitsN_le mn (by omega)
      have h10 : 2 ^ sd < 2 ^ bl_bitsN mn := by rw [← hs]; omega
      have h11 : 2 ^ (bl_bitsN mn - 1) < 2 ^ (sd + 1) := by rw [Nat.pow_succ, ← hs]; omega
      have h12 := (Nat.pow_lt_pow_iff_right (by omega : 1 < 2)).1 h10
      have h13 := (Nat.pow_lt_pow_iff_right (by omega : 1 < 2)).1 h11
      omega
    have hc : bl_bitsN (vs H s) = sd + 1 + q := by rw [h4, bits_shift (by omega), hb]
    unfold szN
    rw [hc, if_neg (by omega), Nat.add_sub_cancel_left, h4, Nat.mul_div_cancel _ (Nat.two_pow_pos q), ← hs]
    exact h3.symm
  · have hq : q = 0 := by omega
    have he : vs H s = s := by rw [h4, h3, hq]; simp
    unfold szN
    rw [he]
    by_cases h0 : s = 0
    · subst h0
      rw [bl_bitsN_zero, if_pos (by omega)]
    · have h9 := bl_bitsN_le s h0
      rw [if_pos]
      have h11 : 2 ^ (bl_bitsN s - 1) < 2 ^ sd := by rw [← hs]; rw [hq, Nat.zero_mul] at h3; omega
      have h13 := (Nat.pow_lt_pow_iff_right (by omega : 1 < 2)).1 h11
      omega
theorem jn_main {H I : Nat} {l ex : Int} {m N : Nat} {s : Nat} (hN : ex = l + (N : Int)) : JnR H I l m ex s ↔ s < I ∧ m * 2 ^ N = vs H s := by
  unfold JnR
  rw [show (l - ex).toNat = 0 by omega, show (ex - l).toNat = N by omega, Nat.pow_zero, Nat.mul_one]
theorem ja_big {S H I sd : Nat} {l ex : Int} {neg : Bool} {m N : Nat} (hs : H = 2 ^ sd) (hN : ex = l + (N : Int)) (h : I ≤ szN sd (m * 2 ^ N)) : JA S H I l neg m ex 0 5 :=
  .inr ⟨rfl, rfl, fun s hj => by
    obtain ⟨h1, h2⟩ := (jn_main hN).1 hj
    rw [h2, szN_vs hs] at h
    omega⟩
theorem ja_not {S H I sd : Nat} {l ex : Int} {neg : Bool} {m N : Nat} (hs : H = 2 ^ sd) (hN : ex = l + (N : Int)) (h : vs H (szN sd (m * 2 ^ N)) ≠ m * 2 ^ N) : JA S H I l neg m ex 0 5 :=
  .inr ⟨rfl, rfl, fun s hj => by
    obtain ⟨h1, h2⟩ := (jn_main hN).1 hj
    rw [h2, szN_vs hs] at h
    exact h rfl⟩
theorem ja_is {S H I sd : Nat} {l ex : Int} {neg : Bool} {m N : Nat} (hN : ex = l + (N : Int)) (h1 : szN sd (m * 2 ^ N) < I) (h : vs H (szN sd (m * 2 ^ N)) = m * 2 ^ N) : JA S H I l neg m ex (if neg then S + szN sd (m * 2 ^ N) else szN sd (m * 2 ^ N)) 0 :=
  .inl ⟨rfl, _, (jn_main hN).2 ⟨h1, h.symm⟩, rfl⟩
theorem JA.shift {S H I : Nat} {l : Int} {neg : Bool} {man m' j : Nat} {ex : Int} {r : Nat} {er : Int} (hm : man = m' * 2 ^ j) (h : JA S H I l neg m' (ex + j) r er) : JA S H I l neg man ex r er := by
  rcases h with ⟨h1, s, h2, h3⟩ | ⟨h1, h2, h3⟩
  · exact .inl ⟨h1, s, (JnR.shift hm).2 h2, h3⟩
  · exact .inr ⟨h1, h2, fun s hj => h3 s ((JnR.shift hm).1 hj)⟩
theorem nf_len9 {w : World} {p : Option Addr} {m c : Nat} {zs : List Nat} {v : Nat} (h : At32 w p m c zs) (hN : Nf B32 zs v) {L : Nat} (hL : v < 2 ^ L) : m ≤ L := by
  have h1 := (hN.len_le B32_one (k := L)).2 (Nat.lt_of_lt_of_le hL (Nat.pow_le_pow_left (by decide) L))
  rw [h.len] at h1
  exact h1
theorem pw_b {v K : Nat} (hK : bl_bitsN v ≤ K) : v < 2 ^ K := Nat.lt_of_lt_of_le (bl_bitsN_lt v) (Nat.pow_le_pow_right (by decide) hK)
theorem szN_lt {sd v : Nat} (h : sd ≤ 52) (hb : bl_bitsN v ≤ 2300) : (bl_bitsN v ≤ sd → v < 4503599627370496) ∧ (¬ bl_bitsN v ≤ sd → (bl_bitsN v - (sd + 1)) * 2 ^ sd ≤ 2300 * 4503599627370496 ∧ v / 2 ^ (bl_bitsN v - (sd + 1)) < 9007199254740992) := by
  have h1 : (2 : Nat) ^ sd ≤ 2 ^ 52 := Nat.pow_le_pow_right (by decide) h
  have h2 : (2 : Nat) ^ 52 = 4503599627370496 := by decide
  refine ⟨fun h3 => ?_, fun h3 => ⟨?_, ?_⟩⟩
  · have := pw_b h3; omega
  · exact Nat.mul_le_mul (by omega) (by omega)
  · have h4 := bl_bitsN_lt v
    rw [show bl_bitsN v = sd + 1 + (bl_bitsN v - (sd + 1)) by omega, Nat.pow_add] at h4
    have h5 := (Nat.div_lt_iff_lt_mul (Nat.two_pow_pos (bl_bitsN v - (sd + 1)))).2 h4
    rw [Nat.pow_succ] at h5
    omega
theorem ju {a : Nat} (h : a < 18446744073709551616) : IntKind.u64.wrap (a : Int) = (a : Int) := by rw [IntKind.wrap_u64]; omega
theorem rsize_a {S I Q : Nat} {P E G : Int} {sd : Nat} (hP : P = sd + 1) (hsd : 1 ≤ sd ∧ sd ≤ 52) {p : Option Addr} {n v : Nat} {xs : List Nat} {w : World} (h : At32 w p n n xs) (hx : Nf B32 xs v) (hn : n ≤ 16384) (hb : bl_bitsN v ≤ 2300) (hc : bl_bitsN v ≤ sd) :
    Calls Tryd.prog 82 #[FV S P E G I Q, .slice p n n] w fun en w' => en = .returned (U v) ∧ Below w.heap.size w w' := by
  have HA : Hid (At32 w p n n xs) := h
  have HX : Hid (Nf B32 xs v) := hx
  have HN : Hid (n ≤ 16384) := hn
  have hz := szN_lt hsd.2 hb
  have HV : Hid (valB B32 xs = v ∧ v < B64) := ⟨hx.val, by have := hz.1 hc; rw [B64_eq]; omega⟩
  obtain ⟨t, ht⟩ : ∃ t, t = bl_bitsN v := ⟨_, rfl⟩
  rw [← ht] at hc
  have HT : Hid (bitsN v = t) := ht.symm
  have c1 : decide ((t : Int) < P) = true := decide_eq_true (by omega)
  clear h hx hn hz hc ht hb hP hsd
  go_enter Tryd.func82, Tryd.ntmps82
  go_wp2_with fail
  obtain ⟨W0, hW0⟩ : ∃ W0, W0 = (w.alloc (.cells #[U S, .int .i64 P, .int .i64 E, .int .i64 G, U I, U Q] 89)) := ⟨_, rfl⟩
  have Xk : Hid (B6q W0 (w.heap.size) (U S) (.int .i64 P) (.int .i64 E) (.int .i64 G) (U I) (U Q)) := by rw [hW0]; exact ⟨by go_simp, by go_simp, by go_simp, by go_simp, by go_simp, by go_simp, by go_simp, by go_simp, by go_simp, by go_simp, by go_simp, by go_simp⟩
  have hb0 : Below w.heap.size w W0 := by rw [hW0]; exact below1 w _
  rw [← hW0]
  clear hW0
  have hbw : Below w.heap.size w w := Below.refl _ _
  obtain ⟨gk, hgk⟩ : ∃ g, g = w.heap.size := ⟨_, rfl⟩
  have HGk : Hid (w.heap.size ≤ gk) := by rw [hgk]; show _ ≤ _; omega
  rw [← hgk] at Xk
  try rw [← hgk]
  clear hgk
  replace HA : Hid _ := HA.out.below hb0
  replace hbw := Below.on hbw hb0
  clear hb0
  refine (rbits_any HA.out HX.out (by have := HN.out; omega)).mono ?_
  rintro e w1 ⟨rfl, hw⟩
  obtain rfl := hw.symm
  clear hw
  rw [HT.out]
  obtain ⟨ck0, ck1, ck2, ck3, ck4, ck5, fk0, fk1, fk2, fk3, fk4, fk5⟩ := Xk.out
  have hnek : gk < W0.heap.size := World.block_lt_of_cell? W0 _ ck0
  go_wp2_with fail
  clear ck0 ck1 ck2 ck3 ck4 ck5 fk0 fk1 fk2 fk3 fk4 fk5 hnek
  refine (rfitsP HA.out (by have := HN.out; omega)).mono ?_
  rintro e v2 ⟨rfl, hb2⟩
  rw [HV.out.1, if_pos HV.out.2]
  replace Xk : Hid _ := Xk.out.below hb2
  replace HA : Hid _ := HA.out.below hb2
  replace hbw := Below.on hbw hb2
  clear hb2
  obtain ⟨ck0, ck1, ck2, ck3, ck4, ck5, fk0, fk1, fk2, fk3, fk4, fk5⟩ := Xk.out
  have hnek : gk < v2.heap.size := World.block_lt_of_cell? v2 _ ck0
  go_wp2_with fail
  clear ck0 ck1 ck2 ck3 ck4 ck5 fk0 fk1 fk2 fk3 fk4 fk5 hnek
  go_ret
  exact ⟨rfl, hbw⟩
theorem rsize_b {S I Q : Nat} {P E G : Int} {sd : Nat} (hP : P = sd + 1) (hsd : 1 ≤ sd ∧ sd ≤ 52) {p : Option Addr} {n v : Nat} {xs : List Nat} {w : World} (h : At32 w p n n xs) (hx : Nf B32 xs v) (hn : n ≤ 16384) (hb : bl_bitsN v ≤ 2300) (hc : ¬ bl_bitsN v ≤ sd) :
    Calls Tryd.prog 82 #[FV S P E G I Q, .slice p n n] w fun en w' => en = .returned (U ((bl_bitsN v - (sd + 1)) * 2 ^ sd + v / 2 ^ (bl_bitsN v - (sd + 1)))) ∧ Below w.heap.size w w' := by
  have HA : Hid (At32 w p n n xs) := h
  have HX : Hid (Nf B32 xs v) := hx
  have HN : Hid (n ≤ 16384) := hn
  have hz := szN_lt hsd.2 hb
  obtain ⟨t, ht⟩ : ∃ t, t = bl_bitsN v := ⟨_, rfl⟩
  have hz2 := hz.2 hc
  rw [← ht] at hc hz2 hb ⊢
  obtain ⟨d, hd⟩ : ∃ d, d = t - (sd + 1) := ⟨_, rfl⟩
  obtain ⟨m, hm⟩ : ∃ m, m = v / 2 ^ d := ⟨_, rfl⟩
  obtain ⟨y, hy⟩ : ∃ y, y = d * 2 ^ sd := ⟨_, rfl⟩
  obtain ⟨r, hr⟩ : ∃ r, r = y + m := ⟨_, rfl⟩
  rw [← hd, ← hm, ← hy] at hz2
  rw [← hd, ← hm, ← hy, ← hr]
  have HT : Hid (bitsN v = t) := ht.symm
  have HM : Hid (v / 2 ^ d = m ∧ d ≤ 9223372036854775807 ∧ m < B64) := ⟨hm.symm, by omega, by rw [B64_eq]; omega⟩
  have hs64 : sd < 64 := by omega
  have q1 : -100000 ≤ (d : Int) ∧ (d : Int) ≤ 100000 ∧ (t : Int) - P = (d : Int) := by omega
  have q2 : -100000 ≤ (sd : Int) ∧ (sd : Int) ≤ 100000 ∧ P - 1 = (sd : Int) := by omega
  have c1 : decide ((t : Int) < P) = false := decide_eq_false (by omega)
  have q3 : r < 18446744073709551616 ∧ y < 18446744073709551616 ∧ d < 18446744073709551616 := by omega
  have e1 : IntKind.i64.wrap ((t : Int) - P) = (d : Int) := by rw [q1.2.2]; exact (jw q1.1 q1.2.1).1
  have e1' : wrap64 ((t : Int) - P) = (d : Int) := by rw [q1.2.2]; exact (jw q1.1 q1.2.1).2
  have e5 : IntKind.i64.wrap (P - 1) = (sd : Int) := by rw [q2.2.2]; exact (jw q2.1 q2.2.1).1
  have e5' : wrap64 (P - 1) = (sd : Int) := by rw [q2.2.2]; exact (jw q2.1 q2.2.1).2
  have e2 : IntKind.u64.wrap (d : Int) = (d : Int) := ju q3.2.2
  have e3 : IntKind.u64.wrap ((d : Int) * 2 ^ sd) = (y : Int) := by
    rw [show (d : Int) * 2 ^ sd = (y : Int) by rw [hy]; simp]
    exact ju q3.2.1
  have e4 : IntKind.u64.wrap ((y : Int) + (m : Int)) = (r : Int) := by
    rw [show (y : Int) + (m : Int) = (r : Int) by rw [hr]; simp]
    exact ju q3.1
  clear h hx hn hz hz2 hc ht hb hP hsd hd hm hy hr q1 q2 q3
  go_enter Tryd.func82, Tryd.ntmps82
  go_wp2_with fail
  obtain ⟨W0, hW0⟩ : ∃ W0, W0 = (w.alloc (.cells #[U S, .int .i64 P, .int .i64 E, .int .i64 G, U I, U Q] 89)) := ⟨_, rfl⟩
  have Xk : Hid (B6q W0 (w.heap.size) (U S) (.int .i64 P) (.int .i64 E) (.int .i64 G) (U I) (U Q)) := by rw [hW0]; exact ⟨by go_simp, by go_simp, by go_simp, by go_simp, by go_simp, by go_simp, by go_simp, by go_simp, by go_simp, by go_simp, by go_simp, by go_simp⟩
  have hb0 : Below w.heap.size w W0 := by rw [hW0]; exact below1 w _
  rw [← hW0]
  clear hW0
  have hbw : Below w.heap.size w w := Below.refl _ _
  obtain ⟨gk, hgk⟩ : ∃ g, g = w.heap.size := ⟨_, rfl⟩
  have HGk : Hid (w.heap.size ≤ gk) := by rw [hgk]; show _ ≤ _; omega
  rw [← hgk] at Xk
  try rw [← hgk]
  clear hgk
  replace HA : Hid _ := HA.out.below hb0
  replace hbw := Below.on hbw hb0
  clear hb0
  refine (rbits_any HA.out HX.out (by have := HN.out; omega)).mono ?_
  rintro e w1 ⟨rfl, hw⟩
  obtain rfl := hw.symm
  clear hw
  rw [HT.out]
  obtain ⟨ck0, ck1, ck2, ck3, ck4, ck5, fk0, fk1, fk2, fk3, fk4, fk5⟩ := Xk.out
  have hnek : gk < W0.heap.size := World.block_lt_of_cell? W0 _ ck0
  go_wp2_with fail
  clear ck0 ck1 ck2 ck3 ck4 ck5 fk0 fk1 fk2 fk3 fk4 fk5 hnek
  refine (rshr_alle HA.out HX.out HN.out d HM.out.2.1).mono ?_
  rintro e v2 ⟨p2, m2, z2, rfl, hA2, hN2, hm2, hb2⟩
  rw [HM.out.1] at hN2
  replace Xk : Hid _ := Xk.out.below hb2
  replace HA : Hid _ := HA.out.below hb2
  replace hbw := Below.on hbw hb2
  clear hb2
  have A2 : Hid (At32 v2 p2 m2 m2 z2) := hA2
  have N2 : Hid (Nf B32 z2 m ∧ m2 ≤ 16384) := ⟨hN2, by have := HN.out; omega⟩
  clear hA2 hN2 hm2
  obtain ⟨ck0, ck1, ck2, ck3, ck4, ck5, fk0, fk1, fk2, fk3, fk4, fk5⟩ := Xk.out
  have hnek : gk < v2.heap.size := World.block_lt_of_cell? v2 _ ck0
  go_wp2_with fail
  clear ck0 ck1 ck2 ck3 ck4 ck5 fk0 fk1 fk2 fk3 fk4 fk5 hnek
  refine (rfitsP A2.out (by have := N2.out.2; omega)).mono ?_
  rintro e v3 ⟨rfl, hb3⟩
  rw [N2.out.1.val, if_pos HM.out.2.2]
  replace Xk : Hid _ := Xk.out.below hb3
  replace HA : Hid _ := HA.out.below hb3
  replace A2 : Hid _ := A2.out.below hb3
  replace hbw := Below.on hbw hb3
  clear hb3
  obtain ⟨ck0, ck1, ck2, ck3, ck4, ck5, fk0, fk1, fk2, fk3, fk4, fk5⟩ := Xk.out
  have hnek : gk < v3.heap.size := World.block_lt_of_cell? v3 _ ck0
  go_wp2_with fail
  clear ck0 ck1 ck2 ck3 ck4 ck5 fk0 fk1 fk2 fk3 fk4 fk5 hnek
  go_ret
  exact ⟨rfl, hbw⟩
theorem rsize_g {S I Q : Nat} {P E G : Int} {sd : Nat} (hP : P = sd + 1) (hsd : 1 ≤ sd ∧ sd ≤ 52) {p : Option Addr} {n v : Nat} {xs : List Nat} {w : World} (h : At32 w p n n xs) (hx : Nf B32 xs v) (hn : n ≤ 16384) (hb : bl_bitsN v ≤ 2300) :
    Calls Tryd.prog 82 #[FV S P E G I Q, .slice p n n] w fun en w' => en = .returned (U (szN sd v)) ∧ Below w.heap.size w w' := by
  by_cases hc : bl_bitsN v ≤ sd
  · rw [show szN sd v = v by unfold szN; rw [if_pos hc]]
    exact rsize_a hP hsd h hx hn hb hc
  · rw [show szN sd v = (bl_bitsN v - (sd + 1)) * 2 ^ sd + v / 2 ^ (bl_bitsN v - (sd + 1)) by unfold szN; rw [if_neg hc]]
    exact rsize_b hP hsd h hx hn hb hc
theorem fldZp (t : Bool) (p : Option Addr) (m : Nat) (w : World) : (Instr.field 99 (.agg #[.bool t, .slice p m m]) 1).run Tryd.prog w = .ok (.slice p m m) w := by kernel_rfl
structure Rj (f : Int) (S : Nat) (P E G : Int) (I Q H sd n : Nat) (Be : Int) : Prop where
  rf : Rf f S P E G I Q
  wh : ∀ (b : Nat) w, Calls Tryd.prog 51 #[FV S P E G I Q, U b] w fun en w' => ∃ v, en = .returned v ∧ GotR w.heap.size w' v (svS S H b) 2200 ∧ Below w.heap.size w w'
  hP : P = sd + 1
  hsd : 1 ≤ sd ∧ sd ≤ 52
  hs : H = 2 ^ sd
  hn : Be = E + sd + n
  hI : I = (n + 1) * H
  n1 : 1 ≤ n ∧ n ≤ 2046
  be : G + P = Be ∧ Be ≤ 1024 ∧ -1074 ≤ E ∧ E ≤ 0 ∧ 0 < Be
  lt : I < S ∧ S ≤ 9223372036854775808
theorem rj_w {G P Be E : Int} (h : G + P = Be ∧ Be ≤ 1024 ∧ -1074 ≤ E ∧ E ≤ 0 ∧ 0 < Be) : IntKind.i64.wrap (G + P) = Be ∧ wrap64 (G + P) = Be := by rw [h.1]; exact jw (by omega) (by omega)
theorem jw9 {a : Int} (h1 : -9223372036854775808 ≤ a) (h2 : a < 1000) : IntKind.i64.wrap (a + 1) = a + 1 := by simp [IntKind.wrap, IntKind.signed, IntKind.bits]; omega
theorem jw9' {a : Int} (h1 : -9223372036854775808 ≤ a) (h2 : a < 1000) : wrap64 (a + 1) = a + 1 := by simp only [wrap64]; omega
theorem ev2 {m : Nat} (h : m % 2 = 0) : ((m : Int) % 2 == 0) = true := by rw [show (m : Int) % 2 = 0 by omega]; rfl
theorem od2 {m : Nat} (h : ¬ m % 2 = 0) : ((m : Int) % 2 == 0) = false := by rw [show (m : Int) % 2 = 1 by omega]; rfl
theorem rj_sv {S H s : Nat} (h : s < S) : svS S H s = (vs H s : Int) := by rw [svS_eq, if_neg (by omega), Nat.mod_eq_of_lt h]
theorem rj_bits {m N : Nat} (hm : m ≠ 0) (hm9 : m < B64) (hN : N ≤ 2098) : bl_bitsN (m * 2 ^ N) ≤ 2300 := by
  rw [bits_shift hm]
  have h2 := bl_bitsN_le m hm
  have : 2 ^ (bl_bitsN m - 1) < 2 ^ 64 := by rw [B64_eq] at hm9; exact Nat.lt_of_le_of_lt h2 hm9
  have := (Nat.pow_lt_pow_iff_right (by omega : 1 < 2)).1 this
  omega
theorem cmpN_ne {a b : Nat} (h : a ≠ b) : (cmpN a b == 0) = false ∧ (cmpN a b != 0) = true := by
  rcases Nat.lt_or_gt_of_ne h with e | e
  · rw [cmpN_lt e]; decide
  · rw [cmpN_gt e]; decide
theorem mul_pow_lt {man m j B : Nat} (h : man = m * 2 ^ j) (h2 : man < B) : m < B := by
  have h5 : m * 1 ≤ m * 2 ^ j := Nat.mul_le_mul_left _ (Nat.two_pow_pos j)
  omega
theorem mul_pow_half {man m j : Nat} (h : man = m * 2 ^ j) (h2 : m % 2 = 0) : man = m / 2 * 2 ^ (j + 1) := by
  rw [Nat.pow_succ, Nat.mul_comm (2 ^ j) 2, ← Nat.mul_assoc, show m / 2 * 2 = m by omega]; exact h
theorem docjoin_zfalse {f : Int} {S : Nat} {P E G : Int} {I Q : Nat} (R : Rf f S P E G I Q) (ex : Int) (w : World) :
    Calls Tryd.prog 61 #[.int .i64 f, .bool false, .int .u64 0, .int .i64 ex] w fun en w' => en = .returned (.tuple #[U 0, .int .i64 0]) ∧ Below w.heap.size w w' := by
  have HR : Hid (Rf f S P E G I Q) := R
  clear R
  have hbw : Below w.heap.size w w := Below.refl _ _
  go_enter Tryd.func61, Tryd.ntmps61
  go_wp2_with fail
  refine (HR.out.of _).mono ?_
  rintro e v1 ⟨rfl, hb1⟩
  replace hbw := Below.on hbw hb1
  clear hb1
  go_wp2_with fail
  have Xq0 : Hid (B6q (v1.alloc (.cells #[U S, .int .i64 P, .int .i64 E, .int .i64 G, U I, U Q] 89)) v1.heap.size (U S) (.int .i64 P) (.int .i64 E) (.int .i64 G) (U I) (U Q)) := B6q.new v1 _ _ _ _ _ _ _
  have hbn : Below v1.heap.size v1 (v1.alloc (.cells #[U S, .int .i64 P, .int .i64 E, .int .i64 G, U I, U Q] 89)) := below1 v1 _
  generalize v1.alloc (.cells #[U S, .int .i64 P, .int .i64 E, .int .i64 G, U I, U Q] 89) = Wk at *
  have HGq : Hid (w.heap.size ≤ v1.heap.size) := hbw.size
  replace hbw := Below.on hbw hbn
  clear hbn
  generalize v1.heap.size = gq at *
  have Xq := Xq0
  clear Xq0
  go_ret2
  exact ⟨rfl, hbw⟩
theorem docjoin_nfalse {f : Int} {S : Nat} {P E G : Int} {I Q H sd n : Nat} {Be : Int} (R : Rj f S P E G I Q H sd n Be) {man : Nat} (h0 : man ≠ 0) (h9 : man < B64) (ex : Int) (hx : -9223372036854775808 ≤ ex ∧ ex ≤ 9223372036854775807) (w : World) :
    Calls Tryd.prog 61 #[.int .i64 f, .bool false, U man, .int .i64 ex] w fun en w' => ∃ r er, en = .returned (.tuple #[U r, .int .i64 er]) ∧ JA S H I E false man ex r er ∧ Below w.heap.size w w' := by
  have HR : Hid (Rj f S P E G I Q H sd n Be) := R
  have HM : Hid (man ≠ 0 ∧ man < B64 ∧ -9223372036854775808 ≤ ex ∧ ex ≤ 9223372036854775807) := ⟨h0, h9, hx.1, hx.2⟩
  have b1 : ((man : Int) == 0) = false := jw_z h0
  have g1 : IntKind.i64.wrap (G + P) = Be := (rj_w R.be).1
  have g2 : wrap64 (G + P) = Be := (rj_w R.be).2
  have hbw : Below w.heap.size w w := Below.refl _ _
  clear R h0 h9 hx
  go_enter Tryd.func61, Tryd.ntmps61
  go_wp2_with fail
  refine (HR.out.rf.of _).mono ?_
  rintro e v1 ⟨rfl, hb1⟩
  replace hbw := Below.on hbw hb1
  clear hb1
  go_wp2_with fail
  have Xq0 : Hid (B6q (v1.alloc (.cells #[U S, .int .i64 P, .int .i64 E, .int .i64 G, U I, U Q] 89)) v1.heap.size (U S) (.int .i64 P) (.int .i64 E) (.int .i64 G) (U I) (U Q)) := B6q.new v1 _ _ _ _ _ _ _
  have hbn : Below v1.heap.size v1 (v1.alloc (.cells #[U S, .int .i64 P, .int .i64 E, .int .i64 G, U I, U Q] 89)) := below1 v1 _
  generalize v1.alloc (.cells #[U S, .int .i64 P, .int .i64 E, .int .i64 G, U I, U Q] 89) = Wk at *
  have HGq : Hid (w.heap.size ≤ v1.heap.size) := hbw.size
  replace hbw := Below.on hbw hbn
  clear hbn
  generalize v1.heap.size = gq at *
  have Xq := Xq0
  clear Xq0
  have X0 := Xq
  have HB0 : Hid (Below w.heap.size w Wk) := hbw
  clear Xq hbw b1
  go_loopg [2, 3] man (fun gk a b wr => ∃ (m' j : Nat) (e' : Int), a = U m' ∧ b = .int .i64 e' ∧ m' = gk ∧ man = m' * 2 ^ j ∧ e' = ex + j ∧ (j = 0 ∨ e' ≤ E) ∧ m' ≠ 0 ∧ Below Wk.heap.size Wk wr)
  case atStart => exact ⟨man, 0, ex, rfl, rfl, rfl, by rw [Nat.pow_zero, Nat.mul_one], by omega, .inl rfl, HM.out.1, Below.refl _ _⟩
  case round =>
    obtain ⟨m', j, e', rfl, rfl, hg, hm, he, hj, hm0, hbz⟩ := hrel
    have hbw := Below.on HB0.out hbz
    have Xq : Hid (B6q wr gq (U S) (.int .i64 P) (.int .i64 E) (.int .i64 G) (U I) (U Q)) := X0.out.below hbz
    have HBZ : Hid (Below Wk.heap.size Wk wr) := hbz
    clear X0 HB0 hbz
    have HQ : Hid (man = m' * 2 ^ j ∧ e' = ex + j ∧ (j = 0 ∨ e' ≤ E) ∧ m' ≠ 0) := ⟨hm, he, hj, hm0⟩
    have HX : Hid (-9223372036854775808 ≤ e' ∧ e' ≤ 9223372036854775807) := by have h1 := HM.out; have h2 := HR.out.be; show _ ∧ _; omega
    clear hm he hj hm0
    by_cases h1 : e' < E
    · have c1 : decide (e' < E) = true := decide_eq_true h1
      by_cases h2 : m' % 2 = 0
      · have c2 : ((m' : Int) % 2 == 0) = true := ev2 h2
        obtain ⟨e2, he2⟩ : ∃ e : Int, e = e' + 1 := ⟨_, rfl⟩
        obtain ⟨m2, hm2⟩ : ∃ m, m = m' / 2 := ⟨_, rfl⟩
        have c3 : IntKind.i64.wrap (e' + 1) = e2 := by rw [he2]; have h3 := HX.out; have h4 := HR.out.be; exact jw9 h3.1 (by omega)
        have c3' : wrap64 (e' + 1) = e2 := by rw [he2]; have h3 := HX.out; have h4 := HR.out.be; exact jw9' h3.1 (by omega)
        have c4 : (m' : Int) / 2 = (m2 : Int) := by rw [hm2]; omega
        have c5 : IntKind.u64.wrap (m2 : Int) = (m2 : Int) := by have h3 := mul_pow_lt HQ.out.1 HM.out.2.1; rw [B64_eq] at h3; exact ju (by omega)
        have HZ : Hid (e2 = e' + 1 ∧ m2 = m' / 2 ∧ m' % 2 = 0 ∧ e' < E ∧ m' = gk) := ⟨he2, hm2, h2, h1, hg⟩
        clear he2 hm2 h2 h1 hg
        obtain ⟨cq0, cq1, cq2, cq3, cq4, cq5, fq0, fq1, fq2, fq3, fq4, fq5⟩ := Xq.out
        have hneq : gq < wr.heap.size := World.block_lt_of_cell? wr _ cq0
        go_wp2_with fail
        clear cq0 cq1 cq2 cq3 cq4 cq5 fq0 fq1 fq2 fq3 fq4 fq5 hneq
        go_roundg m2
        case measure => have h1 := HZ.out; have h2 := HQ.out; omega
        case rel =>
          have h1 := HZ.out; have h2 := HQ.out
          exact ⟨m2, j + 1, e2, rfl, rfl, rfl, by rw [h1.2.1]; exact mul_pow_half h2.1 h1.2.2.1, by omega, .inr (by omega), by omega, HBZ.out⟩
      · have c2 : ((m' : Int) % 2 == 0) = false := od2 h2
        have HO : Hid (¬ m' % 2 = 0 ∧ e' < E) := ⟨h2, h1⟩
        clear h1 h2 hg
        obtain ⟨cq0, cq1, cq2, cq3, cq4, cq5, fq0, fq1, fq2, fq3, fq4, fq5⟩ := Xq.out
        have hneq : gq < wr.heap.size := World.block_lt_of_cell? wr _ cq0
        go_wp2_with fail
        clear cq0 cq1 cq2 cq3 cq4 cq5 fq0 fq1 fq2 fq3 fq4 fq5 hneq
        go_ret2
        exact ⟨0, 5, rfl, JA.shift HQ.out.1 (by rw [← HQ.out.2.1]; exact .inr ⟨rfl, rfl, jn_odd HO.out.1 HO.out.2⟩), hbw⟩
    · have c1 : decide (e' < E) = false := decide_eq_false h1
      by_cases h2 : Be < e'
      · have c2 : decide (Be < e') = true := decide_eq_true h2
        have HO : Hid (Be < e') := h2
        clear h1 h2 hg
        obtain ⟨cq0, cq1, cq2, cq3, cq4, cq5, fq0, fq1, fq2, fq3, fq4, fq5⟩ := Xq.out
        have hneq : gq < wr.heap.size := World.block_lt_of_cell? wr _ cq0
        go_wp2_with fail
        clear cq0 cq1 cq2 cq3 cq4 cq5 fq0 fq1 fq2 fq3 fq4 fq5 hneq
        go_ret2
        exact ⟨0, 5, rfl, JA.shift HQ.out.1 (by rw [← HQ.out.2.1]; exact .inr ⟨rfl, rfl, jn_far HR.out.hs HR.out.hn HR.out.hI HR.out.n1.1 HQ.out.2.2.2 HO.out⟩), hbw⟩
      · have c2 : decide (Be < e') = false := decide_eq_false h2
        obtain ⟨N, hN⟩ : ∃ N : Nat, e' = E + (N : Int) := ⟨(e' - E).toNat, by omega⟩
        have hN9 : N ≤ 2098 := by have h3 := HR.out.be; omega
        have HN : Hid (e' = E + (N : Int) ∧ N ≤ 2098) := ⟨hN, hN9⟩
        have c3 : IntKind.i64.wrap (e' - E) = (N : Int) := by rw [show e' - E = (N : Int) by omega]; exact (jw (by omega) (by omega)).1
        have c3' : wrap64 (e' - E) = (N : Int) := by rw [show e' - E = (N : Int) by omega]; exact (jw (by omega) (by omega)).2
        have HM9 : Hid (m' < B64) := mul_pow_lt HQ.out.1 HM.out.2.1
        obtain ⟨u, hu⟩ : ∃ u, u = m' * 2 ^ N := ⟨_, rfl⟩
        obtain ⟨K9, hK9⟩ : ∃ K, K = 2300 := ⟨_, rfl⟩
        have hub : bl_bitsN u ≤ K9 := by rw [hu, hK9]; exact rj_bits HQ.out.2.2.2 HM9.out hN9
        have HU : Hid (m' * 2 ^ N = u ∧ bl_bitsN u ≤ 2300 ∧ u < 2 ^ K9 ∧ K9 = 2300) := ⟨hu.symm, by omega, pw_b hub, hK9⟩
        clear h1 h2 hg hN hN9 hu hK9 hub
        obtain ⟨cq0, cq1, cq2, cq3, cq4, cq5, fq0, fq1, fq2, fq3, fq4, fq5⟩ := Xq.out
        have hneq : gq < wr.heap.size := World.block_lt_of_cell? wr _ cq0
        go_wp2_with fail
        clear cq0 cq1 cq2 cq3 cq4 cq5 fq0 fq1 fq2 fq3 fq4 fq5 hneq
        obtain ⟨Wr, hWr⟩ : ∃ W1, W1 = wr.drew := ⟨_, rfl⟩
        have hbd : Below wr.heap.size wr Wr := by rw [hWr]; exact bDrew1 (Below.refl _ _)
        replace Xq : Hid _ := Xq.out.below hbd
        replace hbw := Below.on hbw hbd
        clear hbd
        have HJ : Hid ((fun W' : World => W'.cell? ⟨gq, 2, none⟩ = some (.int .i64 E)) Wr) := Xq.out.c2
        refine wp_region_J (fun W' => W'.cell? ⟨gq, 2, none⟩ = some (.int .i64 E)) (by kernel_rfl) ?_
        rw [← hWr]
        clear hWr
        refine wpJ_tk 0 (v := ?v1x0) rfl ?hy1x0 HJ.out ?_
        case hy1x0 => (intro W' hJ; have j0 := hJ; go_simp; first | done | with_reducible rfl)
        refine wpJ_tk 2 (v := ?v2x2) rfl ?hy2x2 HJ.out ?_
        case hy2x2 => (intro W' hJ; have j0 := hJ; go_simp; first | done | with_reducible rfl)
        refine wpJ_tk 3 (v := ?v3x3) rfl ?hy3x3 HJ.out ?_
        case hy3x3 => (intro W' hJ; have j0 := hJ; go_simp; first | done | with_reducible rfl)
        refine wpJ_tk 4 (v := ?v4x4) rfl ?hy4x4 HJ.out ?_
        case hy4x4 => (intro W' hJ; have j0 := hJ; go_simp; first | done | with_reducible rfl)
        refine wpJ_tk 5 (v := ?v5x5) rfl ?hy5x5 HJ.out ?_
        case hy5x5 => (intro W' hJ; have j0 := hJ; go_simp; first | done | with_reducible rfl)
        refine wpJ_on 1 rfl fun KJ hK => ?_
        go_simp
        refine (rword m' HM9.out _).mono ?_
        rintro e v5 ⟨g5, z5, rfl, hl5, hA5, hN5, hb5⟩
        obtain ⟨l5, hl5e⟩ : ∃ l5, l5 = z5.length := ⟨_, rfl⟩
        rw [← hl5e] at hA5 hl5 ⊢
        clear hl5e
        replace Xq : Hid _ := Xq.out.below hb5
        replace hbw := Below.on hbw hb5
        clear hb5
        have A5 : Hid (At32 v5 (some ⟨g5, 0, none⟩) l5 l5 z5) := hA5
        have N5 : Hid (Nf B32 z5 m' ∧ l5 ≤ 2) := ⟨hN5, hl5⟩
        clear hA5 hN5 hl5
        refine hK _ _ Xq.out.c2 ?_
        clear hK
        refine wpJ_on 6 rfl fun KJ hK => ?_
        go_simp
        refine (rshl_all A5.out N5.out.1 (by have := N5.out.2; omega) N (.inl (by have := HN.out; omega))).mono ?_
        rintro e v6 ⟨p6, m6, z6, rfl, hA6, hN6, hm6, hb6⟩
        rw [HU.out.1] at hN6
        replace Xq : Hid _ := Xq.out.below hb6
        replace A5 : Hid _ := A5.out.below hb6
        replace hbw := Below.on hbw hb6
        clear hb6
        clear A5
        have A6 : Hid (At32 v6 p6 m6 m6 z6) := hA6
        have N6 : Hid (Nf B32 z6 u ∧ m6 ≤ 2300) := ⟨hN6, Nat.le_trans (nf_len9 A6.out hN6 HU.out.2.2.1) (Nat.le_of_eq HU.out.2.2.2)⟩
        clear hA6 hN6 hm6 N5
        clear HJ
        have HJ : Hid ((fun W' : World => W'.cell? ⟨gq, 2, none⟩ = some (.int .i64 E)) v6) := Xq.out.c2
        refine hK _ _ HJ.out ?_
        clear hK
        refine wpJ_tk 7 (v := ?v6x7) rfl ?hy6x7 HJ.out ?_
        case hy6x7 => (intro W' hJ; have j0 := hJ; go_simp; first | done | with_reducible rfl)
        refine wpJ_done (by kernel_rfl) ?_ _
        clear HJ
        obtain ⟨cq0, cq1, cq2, cq3, cq4, cq5, fq0, fq1, fq2, fq3, fq4, fq5⟩ := Xq.out
        have hneq : gq < v6.heap.size := World.block_lt_of_cell? v6 _ cq0
        go_wp2_with fail
        clear cq0 cq1 cq2 cq3 cq4 cq5 fq0 fq1 fq2 fq3 fq4 fq5 hneq
        obtain ⟨s, hs⟩ : ∃ s, s = szN sd u := ⟨_, rfl⟩
        have HS : Hid (szN sd u = s) := hs.symm
        clear hs
        refine (rsize_g HR.out.hP HR.out.hsd A6.out N6.out.1 (by have := N6.out.2; omega) HU.out.2.1).mono ?_
        rintro e v7 ⟨rfl, hb7⟩
        rw [HS.out]
        replace Xq : Hid _ := Xq.out.below hb7
        replace A6 : Hid _ := A6.out.below hb7
        replace hbw := Below.on hbw hb7
        clear hb7
        have e0 : e' = ex + j := HQ.out.2.1
        by_cases h3 : I ≤ s
        · have c4 : decide ((I : Int) ≤ (s : Int)) = true := decide_eq_true (by omega)
          have c4' : decide (I ≤ s) = true := decide_eq_true h3
          have HI : Hid (I ≤ s) := h3
          clear h3 e0
          obtain ⟨cq0, cq1, cq2, cq3, cq4, cq5, fq0, fq1, fq2, fq3, fq4, fq5⟩ := Xq.out
          have hneq : gq < v7.heap.size := World.block_lt_of_cell? v7 _ cq0
          go_wp2_with fail
          clear cq0 cq1 cq2 cq3 cq4 cq5 fq0 fq1 fq2 fq3 fq4 fq5 hneq
          go_ret2
          exact ⟨0, 5, rfl, JA.shift HQ.out.1 (by rw [← HQ.out.2.1]; exact ja_big HR.out.hs HN.out.1 (by rw [HU.out.1, HS.out]; exact HI.out)), hbw⟩
        · have c4 : decide ((I : Int) ≤ (s : Int)) = false := decide_eq_false (by omega)
          have c4' : decide (I ≤ s) = false := decide_eq_false h3
          have HI : Hid (s < I) := Nat.lt_of_not_le h3
          clear h3 e0
          obtain ⟨cq0, cq1, cq2, cq3, cq4, cq5, fq0, fq1, fq2, fq3, fq4, fq5⟩ := Xq.out
          have hneq : gq < v7.heap.size := World.block_lt_of_cell? v7 _ cq0
          go_wp2_with fail
          clear cq0 cq1 cq2 cq3 cq4 cq5 fq0 fq1 fq2 fq3 fq4 fq5 hneq
          refine (HR.out.wh s _).mono ?_
          rintro e v8 ⟨v, rfl, ⟨t8, g8, m8, rfl, -, hz8, hl8⟩, hb8⟩
          rw [rj_sv (Nat.lt_trans HI.out HR.out.lt.1)] at hz8
          replace Xq : Hid _ := Xq.out.below hb8
          replace A6 : Hid _ := A6.out.below hb8
          replace hbw := Below.on hbw hb8
          clear hb8
          have Z8 : Hid (ZR v8 t8 (some ⟨g8, 0, none⟩) m8 (vs H s : Int)) := hz8
          clear hz8 hl8
          have hfl := fldZp t8 (some ⟨g8, 0, none⟩) m8 v8
          obtain ⟨cq0, cq1, cq2, cq3, cq4, cq5, fq0, fq1, fq2, fq3, fq4, fq5⟩ := Xq.out
          have hneq : gq < v8.heap.size := World.block_lt_of_cell? v8 _ cq0
          go_wp2_with fail
          clear cq0 cq1 cq2 cq3 cq4 cq5 fq0 fq1 fq2 fq3 fq4 fq5 hneq
          obtain ⟨z8, hA8, hN8⟩ := Z8.out.ex
          rw [Int.natAbs_natCast] at hN8
          by_cases h5 : vs H s = u
          · have HV : Hid (vs H s = u) := h5
            clear h5
            refine (rcmp_any hA8 A6.out hN8 N6.out.1).mono ?_
            rintro e w9 ⟨rfl, rr, hw⟩
            clear hA8 hN8 hfl
            have hb9 : Below v8.heap.size v8 w9 := by rw [hw]; exact bDrewN (Below.refl _ _) rr
            clear hw
            replace Xq : Hid _ := Xq.out.below hb9
            replace A6 : Hid _ := A6.out.below hb9
            replace Z8 : Hid _ := Z8.out.below hb9
            replace hbw := Below.on hbw hb9
            clear hb9
            rw [cmpN_eq HV.out]
            have k1 : IntKind.u64.wrap (s : Int) = (s : Int) := by have h6 := HI.out; have h7 := HR.out.lt; exact ju (by omega)
            obtain ⟨cq0, cq1, cq2, cq3, cq4, cq5, fq0, fq1, fq2, fq3, fq4, fq5⟩ := Xq.out
            have hneq : gq < w9.heap.size := World.block_lt_of_cell? w9 _ cq0
            go_wp2_with fail
            clear cq0 cq1 cq2 cq3 cq4 cq5 fq0 fq1 fq2 fq3 fq4 fq5 hneq
            go_ret2
            exact ⟨s, 0, rfl, JA.shift HQ.out.1 (by rw [← HQ.out.2.1]; have h6 := ja_is (S := S) (H := H) (I := I) (neg := false) HN.out.1 (by rw [HU.out.1, HS.out]; exact HI.out) (by rw [HU.out.1, HS.out]; exact HV.out); rw [HU.out.1, HS.out] at h6; exact h6), hbw⟩
          · have HV : Hid (vs H s ≠ u) := h5
            clear h5
            refine (rcmp_any hA8 A6.out hN8 N6.out.1).mono ?_
            rintro e w9 ⟨rfl, rr, hw⟩
            clear hA8 hN8 hfl
            have hb9 : Below v8.heap.size v8 w9 := by rw [hw]; exact bDrewN (Below.refl _ _) rr
            clear hw
            replace Xq : Hid _ := Xq.out.below hb9
            replace A6 : Hid _ := A6.out.below hb9
            replace Z8 : Hid _ := Z8.out.below hb9
            replace hbw := Below.on hbw hb9
            clear hb9
            have k1 : (cmpN (vs H s) u == 0) = false := (cmpN_ne HV.out).1
            have k2 : (cmpN (vs H s) u != 0) = true := (cmpN_ne HV.out).2
            obtain ⟨cq0, cq1, cq2, cq3, cq4, cq5, fq0, fq1, fq2, fq3, fq4, fq5⟩ := Xq.out
            have hneq : gq < w9.heap.size := World.block_lt_of_cell? w9 _ cq0
            go_wp2_with fail
            clear cq0 cq1 cq2 cq3 cq4 cq5 fq0 fq1 fq2 fq3 fq4 fq5 hneq
            go_ret2
            exact ⟨0, 5, rfl, JA.shift HQ.out.1 (by rw [← HQ.out.2.1]; exact ja_not HR.out.hs HN.out.1 (by rw [HU.out.1, HS.out]; exact HV.out)), hbw⟩
theorem docjoin_ztrue {f : Int} {S : Nat} {P E G : Int} {I Q : Nat} (R : Rf f S P E G I Q) (ex : Int) (w : World) :
    Calls Tryd.prog 61 #[.int .i64 f, .bool true, .int .u64 0, .int .i64 ex] w fun en w' => en = .returned (.tuple #[U S, .int .i64 0]) ∧ Below w.heap.size w w' := by
  have HR : Hid (Rf f S P E G I Q) := R
  clear R
  have hbw : Below w.heap.size w w := Below.refl _ _
  go_enter Tryd.func61, Tryd.ntmps61
  go_wp2_with fail
  refine (HR.out.of _).mono ?_
  rintro e v1 ⟨rfl, hb1⟩
  replace hbw := Below.on hbw hb1
  clear hb1
  go_wp2_with fail
  have Xq0 : Hid (B6q (v1.alloc (.cells #[U S, .int .i64 P, .int .i64 E, .int .i64 G, U I, U Q] 89)) v1.heap.size (U S) (.int .i64 P) (.int .i64 E) (.int .i64 G) (U I) (U Q)) := B6q.new v1 _ _ _ _ _ _ _
  have hbn : Below v1.heap.size v1 (v1.alloc (.cells #[U S, .int .i64 P, .int .i64 E, .int .i64 G, U I, U Q] 89)) := below1 v1 _
  generalize v1.alloc (.cells #[U S, .int .i64 P, .int .i64 E, .int .i64 G, U I, U Q] 89) = Wk at *
  have HGq : Hid (w.heap.size ≤ v1.heap.size) := hbw.size
  replace hbw := Below.on hbw hbn
  clear hbn
  generalize v1.heap.size = gq at *
  have Xq := Xq0
  clear Xq0
  obtain ⟨cq0, cq1, cq2, cq3, cq4, cq5, fq0, fq1, fq2, fq3, fq4, fq5⟩ := Xq.out
  have hneq : gq < Wk.heap.size := World.block_lt_of_cell? Wk _ cq0
  go_wp2_with fail
  clear cq0 cq1 cq2 cq3 cq4 cq5 fq0 fq1 fq2 fq3 fq4 fq5 hneq
  go_ret2
  exact ⟨rfl, hbw⟩
theorem docjoin_ntrue {f : Int} {S : Nat} {P E G : Int} {I Q H sd n : Nat} {Be : Int} (R : Rj f S P E G I Q H sd n Be) {man : Nat} (h0 : man ≠ 0) (h9 : man < B64) (ex : Int) (hx : -9223372036854775808 ≤ ex ∧ ex ≤ 9223372036854775807) (w : World) :
    Calls Tryd.prog 61 #[.int .i64 f, .bool true, U man, .int .i64 ex] w fun en w' => ∃ r er, en = .returned (.tuple #[U r, .int .i64 er]) ∧ JA S H I E true man ex r er ∧ Below w.heap.size w w' := by
  have HR : Hid (Rj f S P E G I Q H sd n Be) := R
  have HM : Hid (man ≠ 0 ∧ man < B64 ∧ -9223372036854775808 ≤ ex ∧ ex ≤ 9223372036854775807) := ⟨h0, h9, hx.1, hx.2⟩
  have b1 : ((man : Int) == 0) = false := jw_z h0
  have g1 : IntKind.i64.wrap (G + P) = Be := (rj_w R.be).1
  have g2 : wrap64 (G + P) = Be := (rj_w R.be).2
  have hbw : Below w.heap.size w w := Below.refl _ _
  clear R h0 h9 hx
  go_enter Tryd.func61, Tryd.ntmps61
  go_wp2_with fail
  refine (HR.out.rf.of _).mono ?_
  rintro e v1 ⟨rfl, hb1⟩
  replace hbw := Below.on hbw hb1
  clear hb1
  go_wp2_with fail
  have Xq0 : Hid (B6q (v1.alloc (.cells #[U S, .int .i64 P, .int .i64 E, .int .i64 G, U I, U Q] 89)) v1.heap.size (U S) (.int .i64 P) (.int .i64 E) (.int .i64 G) (U I) (U Q)) := B6q.new v1 _ _ _ _ _ _ _
  have hbn : Below v1.heap.size v1 (v1.alloc (.cells #[U S, .int .i64 P, .int .i64 E, .int .i64 G, U I, U Q] 89)) := below1 v1 _
  generalize v1.alloc (.cells #[U S, .int .i64 P, .int .i64 E, .int .i64 G, U I, U Q] 89) = Wk at *
  have HGq : Hid (w.heap.size ≤ v1.heap.size) := hbw.size
  replace hbw := Below.on hbw hbn
  clear hbn
  generalize v1.heap.size = gq at *
  have Xq := Xq0
  clear Xq0
  obtain ⟨cq0, cq1, cq2, cq3, cq4, cq5, fq0, fq1, fq2, fq3, fq4, fq5⟩ := Xq.out
  have hneq : gq < Wk.heap.size := World.block_lt_of_cell? Wk _ cq0
  go_wp2_with fail
  clear cq0 cq1 cq2 cq3 cq4 cq5 fq0 fq1 fq2 fq3 fq4 fq5 hneq
  have X0 := Xq
  have HB0 : Hid (Below w.heap.size w Wk) := hbw
  clear Xq hbw b1
  go_loopg [2, 3] man (fun gk a b wr => ∃ (m' j : Nat) (e' : Int), a = U m' ∧ b = .int .i64 e' ∧ m' = gk ∧ man = m' * 2 ^ j ∧ e' = ex + j ∧ (j = 0 ∨ e' ≤ E) ∧ m' ≠ 0 ∧ Below Wk.heap.size Wk wr)
  case atStart => exact ⟨man, 0, ex, rfl, rfl, rfl, by rw [Nat.pow_zero, Nat.mul_one], by omega, .inl rfl, HM.out.1, Below.refl _ _⟩
  case round =>
    obtain ⟨m', j, e', rfl, rfl, hg, hm, he, hj, hm0, hbz⟩ := hrel
    have hbw := Below.on HB0.out hbz
    have Xq : Hid (B6q wr gq (U S) (.int .i64 P) (.int .i64 E) (.int .i64 G) (U I) (U Q)) := X0.out.below hbz
    have HBZ : Hid (Below Wk.heap.size Wk wr) := hbz
    clear X0 HB0 hbz
    have HQ : Hid (man = m' * 2 ^ j ∧ e' = ex + j ∧ (j = 0 ∨ e' ≤ E) ∧ m' ≠ 0) := ⟨hm, he, hj, hm0⟩
    have HX : Hid (-9223372036854775808 ≤ e' ∧ e' ≤ 9223372036854775807) := by have h1 := HM.out; have h2 := HR.out.be; show _ ∧ _; omega
    clear hm he hj hm0
    by_cases h1 : e' < E
    · have c1 : decide (e' < E) = true := decide_eq_true h1
      by_cases h2 : m' % 2 = 0
      · have c2 : ((m' : Int) % 2 == 0) = true := ev2 h2
        obtain ⟨e2, he2⟩ : ∃ e : Int, e = e' + 1 := ⟨_, rfl⟩
        obtain ⟨m2, hm2⟩ : ∃ m, m = m' / 2 := ⟨_, rfl⟩
        have c3 : IntKind.i64.wrap (e' + 1) = e2 := by rw [he2]; have h3 := HX.out; have h4 := HR.out.be; exact jw9 h3.1 (by omega)
        have c3' : wrap64 (e' + 1) = e2 := by rw [he2]; have h3 := HX.out; have h4 := HR.out.be; exact jw9' h3.1 (by omega)
        have c4 : (m' : Int) / 2 = (m2 : Int) := by rw [hm2]; omega
        have c5 : IntKind.u64.wrap (m2 : Int) = (m2 : Int) := by have h3 := mul_pow_lt HQ.out.1 HM.out.2.1; rw [B64_eq] at h3; exact ju (by omega)
        have HZ : Hid (e2 = e' + 1 ∧ m2 = m' / 2 ∧ m' % 2 = 0 ∧ e' < E ∧ m' = gk) := ⟨he2, hm2, h2, h1, hg⟩
        clear he2 hm2 h2 h1 hg
        obtain ⟨cq0, cq1, cq2, cq3, cq4, cq5, fq0, fq1, fq2, fq3, fq4, fq5⟩ := Xq.out
        have hneq : gq < wr.heap.size := World.block_lt_of_cell? wr _ cq0
        go_wp2_with fail
        clear cq0 cq1 cq2 cq3 cq4 cq5 fq0 fq1 fq2 fq3 fq4 fq5 hneq
        go_roundg m2
        case measure => have h1 := HZ.out; have h2 := HQ.out; omega
        case rel =>
          have h1 := HZ.out; have h2 := HQ.out
          exact ⟨m2, j + 1, e2, rfl, rfl, rfl, by rw [h1.2.1]; exact mul_pow_half h2.1 h1.2.2.1, by omega, .inr (by omega), by omega, HBZ.out⟩
      · have c2 : ((m' : Int) % 2 == 0) = false := od2 h2
        have HO : Hid (¬ m' % 2 = 0 ∧ e' < E) := ⟨h2, h1⟩
        clear h1 h2 hg
        obtain ⟨cq0, cq1, cq2, cq3, cq4, cq5, fq0, fq1, fq2, fq3, fq4, fq5⟩ := Xq.out
        have hneq : gq < wr.heap.size := World.block_lt_of_cell? wr _ cq0
        go_wp2_with fail
        clear cq0 cq1 cq2 cq3 cq4 cq5 fq0 fq1 fq2 fq3 fq4 fq5 hneq
        go_ret2
        exact ⟨0, 5, rfl, JA.shift HQ.out.1 (by rw [← HQ.out.2.1]; exact .inr ⟨rfl, rfl, jn_odd HO.out.1 HO.out.2⟩), hbw⟩
    · have c1 : decide (e' < E) = false := decide_eq_false h1
      by_cases h2 : Be < e'
      · have c2 : decide (Be < e') = true := decide_eq_true h2
        have HO : Hid (Be < e') := h2
        clear h1 h2 hg
        obtain ⟨cq0, cq1, cq2, cq3, cq4, cq5, fq0, fq1, fq2, fq3, fq4, fq5⟩ := Xq.out
        have hneq : gq < wr.heap.size := World.block_lt_of_cell? wr _ cq0
        go_wp2_with fail
        clear cq0 cq1 cq2 cq3 cq4 cq5 fq0 fq1 fq2 fq3 fq4 fq5 hneq
        go_ret2
        exact ⟨0, 5, rfl, JA.shift HQ.out.1 (by rw [← HQ.out.2.1]; exact .inr ⟨rfl, rfl, jn_far HR.out.hs HR.out.hn HR.out.hI HR.out.n1.1 HQ.out.2.2.2 HO.out⟩), hbw⟩
      · have c2 : decide (Be < e') = false := decide_eq_false h2
        obtain ⟨N, hN⟩ : ∃ N : Nat, e' = E + (N : Int) := ⟨(e' - E).toNat, by omega⟩
        have hN9 : N ≤ 2098 := by have h3 := HR.out.be; omega
        have HN : Hid (e' = E + (N : Int) ∧ N ≤ 2098) := ⟨hN, hN9⟩
        have c3 : IntKind.i64.wrap (e' - E) = (N : Int) := by rw [show e' - E = (N : Int) by omega]; exact (jw (by omega) (by omega)).1
        have c3' : wrap64 (e' - E) = (N : Int) := by rw [show e' - E = (N : Int) by omega]; exact (jw (by omega) (by omega)).2
        have HM9 : Hid (m' < B64) := mul_pow_lt HQ.out.1 HM.out.2.1
        obtain ⟨u, hu⟩ : ∃ u, u = m' * 2 ^ N := ⟨_, rfl⟩
        obtain ⟨K9, hK9⟩ : ∃ K, K = 2300 := ⟨_, rfl⟩
        have hub : bl_bitsN u ≤ K9 := by rw [hu, hK9]; exact rj_bits HQ.out.2.2.2 HM9.out hN9
        have HU : Hid (m' * 2 ^ N = u ∧ bl_bitsN u ≤ 2300 ∧ u < 2 ^ K9 ∧ K9 = 2300) := ⟨hu.symm, by omega, pw_b hub, hK9⟩
        clear h1 h2 hg hN hN9 hu hK9 hub
        obtain ⟨cq0, cq1, cq2, cq3, cq4, cq5, fq0, fq1, fq2, fq3, fq4, fq5⟩ := Xq.out
        have hneq : gq < wr.heap.size := World.block_lt_of_cell? wr _ cq0
        go_wp2_with fail
        clear cq0 cq1 cq2 cq3 cq4 cq5 fq0 fq1 fq2 fq3 fq4 fq5 hneq
        obtain ⟨Wr, hWr⟩ : ∃ W1, W1 = wr.drew := ⟨_, rfl⟩
        have hbd : Below wr.heap.size wr Wr := by rw [hWr]; exact bDrew1 (Below.refl _ _)
        replace Xq : Hid _ := Xq.out.below hbd
        replace hbw := Below.on hbw hbd
        clear hbd
        have HJ : Hid ((fun W' : World => W'.cell? ⟨gq, 2, none⟩ = some (.int .i64 E)) Wr) := Xq.out.c2
        refine wp_region_J (fun W' => W'.cell? ⟨gq, 2, none⟩ = some (.int .i64 E)) (by kernel_rfl) ?_
        rw [← hWr]
        clear hWr
        refine wpJ_tk 0 (v := ?v7x0) rfl ?hy7x0 HJ.out ?_
        case hy7x0 => (intro W' hJ; have j0 := hJ; go_simp; first | done | with_reducible rfl)
        refine wpJ_tk 2 (v := ?v8x2) rfl ?hy8x2 HJ.out ?_
        case hy8x2 => (intro W' hJ; have j0 := hJ; go_simp; first | done | with_reducible rfl)
        refine wpJ_tk 3 (v := ?v9x3) rfl ?hy9x3 HJ.out ?_
        case hy9x3 => (intro W' hJ; have j0 := hJ; go_simp; first | done | with_reducible rfl)
        refine wpJ_tk 4 (v := ?v10x4) rfl ?hy10x4 HJ.out ?_
        case hy10x4 => (intro W' hJ; have j0 := hJ; go_simp; first | done | with_reducible rfl)
        refine wpJ_tk 5 (v := ?v11x5) rfl ?hy11x5 HJ.out ?_
        case hy11x5 => (intro W' hJ; have j0 := hJ; go_simp; first | done | with_reducible rfl)
        refine wpJ_on 1 rfl fun KJ hK => ?_
        go_simp
        refine (rword m' HM9.out _).mono ?_
        rintro e v5 ⟨g5, z5, rfl, hl5, hA5, hN5, hb5⟩
        obtain ⟨l5, hl5e⟩ : ∃ l5, l5 = z5.length := ⟨_, rfl⟩
        rw [← hl5e] at hA5 hl5 ⊢
        clear hl5e
        replace Xq : Hid _ := Xq.out.below hb5
        replace hbw := Below.on hbw hb5
        clear hb5
        have A5 : Hid (At32 v5 (some ⟨g5, 0, none⟩) l5 l5 z5) := hA5
        have N5 : Hid (Nf B32 z5 m' ∧ l5 ≤ 2) := ⟨hN5, hl5⟩
        clear hA5 hN5 hl5
        refine hK _ _ Xq.out.c2 ?_
        clear hK
        refine wpJ_on 6 rfl fun KJ hK => ?_
        go_simp
        refine (rshl_all A5.out N5.out.1 (by have := N5.out.2; omega) N (.inl (by have := HN.out; omega))).mono ?_
        rintro e v6 ⟨p6, m6, z6, rfl, hA6, hN6, hm6, hb6⟩
        rw [HU.out.1] at hN6
        replace Xq : Hid _ := Xq.out.below hb6
        replace A5 : Hid _ := A5.out.below hb6
        replace hbw := Below.on hbw hb6
        clear hb6
        clear A5
        have A6 : Hid (At32 v6 p6 m6 m6 z6) := hA6
        have N6 : Hid (Nf B32 z6 u ∧ m6 ≤ 2300) := ⟨hN6, Nat.le_trans (nf_len9 A6.out hN6 HU.out.2.2.1) (Nat.le_of_eq HU.out.2.2.2)⟩
        clear hA6 hN6 hm6 N5
        clear HJ
        have HJ : Hid ((fun W' : World => W'.cell? ⟨gq, 2, none⟩ = some (.int .i64 E)) v6) := Xq.out.c2
        refine hK _ _ HJ.out ?_
        clear hK
        refine wpJ_tk 7 (v := ?v12x7) rfl ?hy12x7 HJ.out ?_
        case hy12x7 => (intro W' hJ; have j0 := hJ; go_simp; first | done | with_reducible rfl)
        refine wpJ_done (by kernel_rfl) ?_ _
        clear HJ
        obtain ⟨cq0, cq1, cq2, cq3, cq4, cq5, fq0, fq1, fq2, fq3, fq4, fq5⟩ := Xq.out
        have hneq : gq < v6.heap.size := World.block_lt_of_cell? v6 _ cq0
        go_wp2_with fail
        clear cq0 cq1 cq2 cq3 cq4 cq5 fq0 fq1 fq2 fq3 fq4 fq5 hneq
        obtain ⟨s, hs⟩ : ∃ s, s = szN sd u := ⟨_, rfl⟩
        have HS : Hid (szN sd u = s) := hs.symm
        clear hs
        refine (rsize_g HR.out.hP HR.out.hsd A6.out N6.out.1 (by have := N6.out.2; omega) HU.out.2.1).mono ?_
        rintro e v7 ⟨rfl, hb7⟩
        rw [HS.out]
        replace Xq : Hid _ := Xq.out.below hb7
        replace A6 : Hid _ := A6.out.below hb7
        replace hbw := Below.on hbw hb7
        clear hb7
        have e0 : e' = ex + j := HQ.out.2.1
        by_cases h3 : I ≤ s
        · have c4 : decide ((I : Int) ≤ (s : Int)) = true := decide_eq_true (by omega)
          have c4' : decide (I ≤ s) = true := decide_eq_true h3
          have HI : Hid (I ≤ s) := h3
          clear h3 e0
          obtain ⟨cq0, cq1, cq2, cq3, cq4, cq5, fq0, fq1, fq2, fq3, fq4, fq5⟩ := Xq.out
          have hneq : gq < v7.heap.size := World.block_lt_of_cell? v7 _ cq0
          go_wp2_with fail
          clear cq0 cq1 cq2 cq3 cq4 cq5 fq0 fq1 fq2 fq3 fq4 fq5 hneq
          go_ret2
          exact ⟨0, 5, rfl, JA.shift HQ.out.1 (by rw [← HQ.out.2.1]; exact ja_big HR.out.hs HN.out.1 (by rw [HU.out.1, HS.out]; exact HI.out)), hbw⟩
        · have c4 : decide ((I : Int) ≤ (s : Int)) = false := decide_eq_false (by omega)
          have c4' : decide (I ≤ s) = false := decide_eq_false h3
          have HI : Hid (s < I) := Nat.lt_of_not_le h3
          clear h3 e0
          obtain ⟨cq0, cq1, cq2, cq3, cq4, cq5, fq0, fq1, fq2, fq3, fq4, fq5⟩ := Xq.out
          have hneq : gq < v7.heap.size := World.block_lt_of_cell? v7 _ cq0
          go_wp2_with fail
          clear cq0 cq1 cq2 cq3 cq4 cq5 fq0 fq1 fq2 fq3 fq4 fq5 hneq
          refine (HR.out.wh s _).mono ?_
          rintro e v8 ⟨v, rfl, ⟨t8, g8, m8, rfl, -, hz8, hl8⟩, hb8⟩
          rw [rj_sv (Nat.lt_trans HI.out HR.out.lt.1)] at hz8
          replace Xq : Hid _ := Xq.out.below hb8
          replace A6 : Hid _ := A6.out.below hb8
          replace hbw := Below.on hbw hb8
          clear hb8
          have Z8 : Hid (ZR v8 t8 (some ⟨g8, 0, none⟩) m8 (vs H s : Int)) := hz8
          clear hz8 hl8
          have hfl := fldZp t8 (some ⟨g8, 0, none⟩) m8 v8
          obtain ⟨cq0, cq1, cq2, cq3, cq4, cq5, fq0, fq1, fq2, fq3, fq4, fq5⟩ := Xq.out
          have hneq : gq < v8.heap.size := World.block_lt_of_cell? v8 _ cq0
          go_wp2_with fail
          clear cq0 cq1 cq2 cq3 cq4 cq5 fq0 fq1 fq2 fq3 fq4 fq5 hneq
          obtain ⟨z8, hA8, hN8⟩ := Z8.out.ex
          rw [Int.natAbs_natCast] at hN8
          by_cases h5 : vs H s = u
          · have HV : Hid (vs H s = u) := h5
            clear h5
            refine (rcmp_any hA8 A6.out hN8 N6.out.1).mono ?_
            rintro e w9 ⟨rfl, rr, hw⟩
            clear hA8 hN8 hfl
            have hb9 : Below v8.heap.size v8 w9 := by rw [hw]; exact bDrewN (Below.refl _ _) rr
            clear hw
            replace Xq : Hid _ := Xq.out.below hb9
            replace A6 : Hid _ := A6.out.below hb9
            replace Z8 : Hid _ := Z8.out.below hb9
            replace hbw := Below.on hbw hb9
            clear hb9
            rw [cmpN_eq HV.out]
            have k1 : IntKind.u64.wrap ((S : Int) + (s : Int)) = ((S + s : Nat) : Int) := by have h6 := HI.out; have h7 := HR.out.lt; rw [← Int.natCast_add]; exact ju (by omega)
            obtain ⟨cq0, cq1, cq2, cq3, cq4, cq5, fq0, fq1, fq2, fq3, fq4, fq5⟩ := Xq.out
            have hneq : gq < w9.heap.size := World.block_lt_of_cell? w9 _ cq0
            go_wp2_with fail
            clear cq0 cq1 cq2 cq3 cq4 cq5 fq0 fq1 fq2 fq3 fq4 fq5 hneq
            go_ret2
            exact ⟨S + s, 0, rfl, JA.shift HQ.out.1 (by rw [← HQ.out.2.1]; have h6 := ja_is (S := S) (H := H) (I := I) (neg := true) HN.out.1 (by rw [HU.out.1, HS.out]; exact HI.out) (by rw [HU.out.1, HS.out]; exact HV.out); rw [HU.out.1, HS.out] at h6; exact h6), hbw⟩
          · have HV : Hid (vs H s ≠ u) := h5
            clear h5
            refine (rcmp_any hA8 A6.out hN8 N6.out.1).mono ?_
            rintro e w9 ⟨rfl, rr, hw⟩
            clear hA8 hN8 hfl
            have hb9 : Below v8.heap.size v8 w9 := by rw [hw]; exact bDrewN (Below.refl _ _) rr
            clear hw
            replace Xq : Hid _ := Xq.out.below hb9
            replace A6 : Hid _ := A6.out.below hb9
            replace Z8 : Hid _ := Z8.out.below hb9
            replace hbw := Below.on hbw hb9
            clear hb9
            have k1 : (cmpN (vs H s) u == 0) = false := (cmpN_ne HV.out).1
            have k2 : (cmpN (vs H s) u != 0) = true := (cmpN_ne HV.out).2
            obtain ⟨cq0, cq1, cq2, cq3, cq4, cq5, fq0, fq1, fq2, fq3, fq4, fq5⟩ := Xq.out
            have hneq : gq < w9.heap.size := World.block_lt_of_cell? w9 _ cq0
            go_wp2_with fail
            clear cq0 cq1 cq2 cq3 cq4 cq5 fq0 fq1 fq2 fq3 fq4 fq5 hneq
            go_ret2
            exact ⟨0, 5, rfl, JA.shift HQ.out.1 (by rw [← HQ.out.2.1]; exact ja_not HR.out.hs HN.out.1 (by rw [HU.out.1, HS.out]; exact HV.out)), hbw⟩
theorem rdyad_n {p : Option Addr} {m K : Nat} {w : World} {z zo e : Int} (s : Bool) (h : ZR w s p m z) (hz : z ≠ 0) (hK : TzIs z.natAbs K) (hzo : zo.natAbs = z.natAbs / 2 ^ K ∧ zo % 2 = 1 ∧ decide (zo < 0) = decide (z < 0) ∧ iv (decide (z < 0)) (z.natAbs / 2 ^ K) = zo) (hm : m ≤ 16384) (he : -1099511627776 ≤ e ∧ e ≤ 1048576) (he2 : -1048576 ≤ e + K ∧ e + K ≤ 1048576) :
    Calls Tryd.prog 50 #[.agg #[.bool s, .slice p m m], .int .i64 e] w fun en w' => ∃ g m' c', en = .returned (DV s (some ⟨g, 0, none⟩) m' c' (e + K)) ∧ w.heap.size ≤ g ∧ DN w' s (some ⟨g, 0, none⟩) m' c' (e + K) zo ∧ Below w.heap.size w w' := by
  obtain ⟨xs, hA, hN⟩ := h.ex
  have AX : Hid (At32 w p m m xs) := hA
  have NX : Hid (Nf B32 xs z.natAbs) := hN
  have HZ : Hid (TzIs z.natAbs K ∧ 0 < z.natAbs ∧ s = decide (z < 0) ∧ m ≤ 16384 ∧ K ≤ 9223372036854775807) := ⟨hK, by omega, h.sg, hm, by omega⟩
  have HO : Hid (zo.natAbs = z.natAbs / 2 ^ K ∧ zo % 2 = 1 ∧ decide (zo < 0) = decide (z < 0) ∧ iv (decide (z < 0)) (z.natAbs / 2 ^ K) = zo) := hzo
  have HS : Hid (ZR w s p m z) := h
  have HZ0 : Hid (z ≠ 0) := hz
  have HE : Hid (-1048576 ≤ e + K ∧ e + K ≤ 1048576) := he2
  have hm0 : ¬ m = 0 := fun e0 => by have := h.zero.1 e0; omega
  have hm1 : ((m : Int) == 0) = false := by simp; omega
  have g1 : ¬ 1048576 < e := by omega
  have g2 : ¬ e < -1099511627776 := by omega
  have g5 : wrap64 (e + K) = e + K := by simp only [wrap64]; omega
  have g6 : IntKind.i64.wrap (e + K) = e + K := by simp [IntKind.wrap, IntKind.signed, IntKind.bits]; omega
  have g3 : ¬ e + (K : Int) < -1048576 := by omega
  have g7 : ¬ 1048576 < e + (K : Int) := by omega
  clear h hz hm hA hN he he2 hzo hK
  go_enter Tryd.func50, Tryd.ntmps50
  go_wp2_with fail
  obtain ⟨W0, hW0⟩ : ∃ W0, W0 = ((w.alloc (.cells #[.bool s, .slice p m m] 99)).alloc (.cells #[.bool false, .slice none 0 0, .int .i64 0] 35)) := ⟨_, rfl⟩
  have Xm : Hid (Box W0 (w.heap.size) (.bool s) (.slice p m m)) := by rw [hW0]; exact ⟨by go_simp, by go_simp, by go_simp, by go_simp⟩
  have Xr : Hid (B3q W0 (w.heap.size + 1) (.bool false) (.slice none 0 0) (.int .i64 0)) := by rw [hW0]; exact ⟨by go_simp, by go_simp, by go_simp, by go_simp, by go_simp, by go_simp⟩
  have hb0 : Below w.heap.size w W0 := by rw [hW0]; exact below2 w _ _
  rw [← hW0]
  clear hW0
  have hbw : Below w.heap.size w w := Below.refl _ _
  obtain ⟨gr, hgr⟩ : ∃ g, g = w.heap.size + 1 := ⟨_, rfl⟩
  have HGr : Hid (w.heap.size ≤ gr) := by rw [hgr]; show _ ≤ _; omega
  rw [← hgr] at Xr
  try rw [← hgr]
  obtain ⟨gm, hgm⟩ : ∃ g, g = w.heap.size := ⟨_, rfl⟩
  have HGm : Hid (w.heap.size ≤ gm) := by rw [hgm]; show _ ≤ _; omega
  rw [← hgm] at Xm
  try rw [← hgm]
  have HGD : Hid (gm ≠ gr ∧ gr ≠ gm) := by rw [hgm, hgr]; exact ⟨by omega, by omega⟩
  clear hgm hgr
  replace hbw := Below.on hbw hb0
  clear hb0
  refine (rsign04 s (HS.out.below hbw)).mono ?_
  rintro e v9 ⟨rfl, hb9⟩
  obtain ⟨sg, hsg⟩ : ∃ sg, sg = sgnI z := ⟨_, rfl⟩
  rw [← hsg]
  have hs0 : (sg == 0) = false := by rw [hsg]; have := HZ0.out; unfold sgnI; split <;> (try split) <;> simp <;> omega
  clear hsg
  replace Xm : Hid _ := Xm.out.below hb9
  replace Xr : Hid _ := Xr.out.below hb9
  replace hbw := Below.on hbw hb9
  clear hb9
  obtain ⟨cm0, cm1, fm0, fm1⟩ := Xm.out
  have hnem := Xm.out.lt
  go_wp2_with fail
  clear cm0 cm1 fm0 fm1 hnem
  clear hs0
  refine (rzeros_any (k := K) (AX.out.below hbw) NX.out (by have := HZ.out; omega) HZ.out.1 HZ.out.2.1).mono ?_
  rintro e2 v1 ⟨rfl, hw⟩
  obtain rfl := hw.symm
  clear hw
  obtain ⟨cm0, cm1, fm0, fm1⟩ := Xm.out
  have hnem := Xm.out.lt
  go_wp2_with fail
  clear cm0 cm1 fm0 fm1 hnem
  obtain ⟨W5, hW5⟩ : ∃ W1, W1 = v9.drew := ⟨_, rfl⟩
  have hbd : Below v9.heap.size v9 W5 := by rw [hW5]; exact bDrew1 (Below.refl _ _)
  replace Xm : Hid _ := Xm.out.below hbd
  replace Xr : Hid _ := Xr.out.below hbd
  replace hbw := Below.on hbw hbd
  clear hbd
  have HJ : Hid ((fun W' : World => W'.cell? ⟨gm, 0, none⟩ = some (.bool s) ∧ W'.cell? ⟨gm, 1, none⟩ = some (.slice p m m)) W5) := ⟨Xm.out.c0, Xm.out.c1⟩
  refine wp_region_J (fun W' => W'.cell? ⟨gm, 0, none⟩ = some (.bool s) ∧ W'.cell? ⟨gm, 1, none⟩ = some (.slice p m m)) (by kernel_rfl) ?_
  rw [← hW5]
  clear hW5
  refine wpJ_tq 0 rfl HJ.out ?_
  refine wpJ_tq 1 rfl HJ.out ?_
  refine wpJ_tq 2 rfl HJ.out ?_
  refine wpJ_tq 3 rfl HJ.out ?_
  refine wpJ_tq 4 rfl HJ.out ?_
  go_simp
  refine wpJ_tq 8 rfl HJ.out ?_
  refine wpJ_tq 9 rfl HJ.out ?_
  refine wpJ_tq 10 rfl HJ.out ?_
  refine wpJ_on 5 rfl fun KJ hK => ?_
  go_simp
  refine (rshr_alle (AX.out.below hbw) NX.out (by have := HZ.out; omega) K HZ.out.2.2.2.2).mono ?_
  rintro e2 v3 ⟨p3, m3, z3, rfl, hA3, hN3, hl3, hb3⟩
  have g4 : ¬ (16384 : Int) < (m3 : Int) := by have := HZ.out; omega
  have N3 : Hid (Nf B32 z3 (z.natAbs / 2 ^ K) ∧ m3 ≤ m) := ⟨hN3, hl3⟩
  replace Xm : Hid _ := Xm.out.below hb3
  replace Xr : Hid _ := Xr.out.below hb3
  replace hbw := Below.on hbw hb3
  clear hb3
  have A3 : Hid (At32 v3 p3 m3 m3 z3) := hA3
  clear hA3 hN3 hl3
  refine hK _ _ ⟨Xm.out.c0, Xm.out.c1⟩ ?_
  clear hK
  refine wpJ_on 6 rfl fun KJ hK => ?_
  go_simp
  refine (rmk_any s A3.out N3.out.1 (by have := HZ.out; have := N3.out; omega)).mono ?_
  rintro e v5 ⟨v, rfl, hv, hb5⟩
  obtain ⟨s5, g5, m5, rfl, hg5, hz5, hl5⟩ := hv
  have HN5 : Hid (v3.heap.size ≤ g5) := hg5
  have HB5 : Hid (v3.heap.size ≤ v5.heap.size) := hb5.size
  replace Xm : Hid _ := Xm.out.below hb5
  replace Xr : Hid _ := Xr.out.below hb5
  replace A3 : Hid _ := A3.out.below hb5
  replace hbw := Below.on hbw hb5
  clear hb5
  have Z5 : Hid (ZR v5 s5 (some ⟨g5, 0, none⟩) m5 (iv s (z.natAbs / 2 ^ K))) := hz5
  have HL5 : Hid (m5 ≤ m3) := hl5
  clear hz5 hl5 hg5
  have hz5 := Z5.out.cast (show iv s (z.natAbs / 2 ^ K) = zo from by rw [HZ.out.2.2.1]; exact HO.out.2.2.2)
  obtain rfl : s5 = s := by rw [hz5.sg, HZ.out.2.2.1]; exact HO.out.2.2.1
  obtain ⟨zs, hA5, hN5⟩ := hz5.ex
  have h05 : s5 = true → 0 < m5 := fun h8 => Nat.pos_of_ne_zero fun e0 => by have := hz5.zero.1 e0; have := HO.out.2.1; omega
  have HZ5 : Hid (At32 v5 (some ⟨g5, 0, none⟩) m5 m5 zs ∧ Nf B32 zs zo.natAbs ∧ (s5 = true → 0 < m5) ∧ m5 ≤ m) := ⟨hA5, hN5, h05, Nat.le_trans HL5.out N3.out.2⟩
  clear hz5 hA5 hN5 h05 Z5
  refine hK _ _ ⟨Xm.out.c0, Xm.out.c1⟩ ?_
  clear hK
  refine wpJ_on 7 rfl fun KJ hK => ?_
  go_simp
  have HRL : Hid (gr < v5.heap.size ∧ w.heap.size ≤ v5.heap.size) := ⟨Xr.out.lt, hbw.size⟩
  refine (to04_any s5 HZ5.out.1 HZ5.out.2.1 (by have := HZ5.out; have := HZ.out; omega) HZ5.out.2.2.1).mono ?_
  rintro e2 v6 ⟨g6, k6, c6, us, rfl, hA6, hN6, hg6, hb6⟩
  replace Xm : Hid _ := Xm.out.below hb6
  replace Xr : Hid _ := Xr.out.below hb6
  replace A3 : Hid _ := A3.out.below hb6
  replace hbw := Below.on hbw hb6
  clear hb6
  have A6 : Hid (At v6 (some ⟨g6, 0, none⟩) k6 c6 us) := hA6
  have N6 : Hid (Nf B64 us zo.natAbs ∧ gr < g6) := ⟨hN6, Nat.lt_of_lt_of_le HRL.out.1 hg6⟩
  clear hA6 hN6 hg6
  clear HJ
  have HJ : Hid ((fun W' : World => W'.cell? ⟨gm, 0, none⟩ = some (.bool s5) ∧ W'.cell? ⟨gm, 1, none⟩ = some (.slice p m m)) v6) := ⟨Xm.out.c0, Xm.out.c1⟩
  refine hK _ _ HJ.out ?_
  clear hK
  refine wpJ_tq 11 rfl HJ.out ?_
  obtain ⟨cr0, cr1, cr2, fr0, fr1, fr2⟩ := Xr.out
  have hner : gr < v6.heap.size := World.block_lt_of_cell? v6 _ cr0
  obtain ⟨cm0, cm1, fm0, fm1⟩ := Xm.out
  have hnem := Xm.out.lt
  obtain ⟨hgd0, hgd1⟩ := HGD.out
  refine wpJ_on 12 rfl fun KJ hK => ?_
  go_simp
  have HJ2 : Hid ((fun W' : World => W'.cell? ⟨gm, 0, none⟩ = some (.bool s5) ∧ W'.cell? ⟨gm, 1, none⟩ = some (.slice p m m)) (((v6.setCell ⟨gr, 0, none⟩ (.bool s5)).setCell ⟨gr, 1, none⟩ (.slice (some ⟨g6, 0, none⟩) k6 c6)).setCell ⟨gr, 2, none⟩ (.int .i64 (e + K)))) := ⟨by go_simp, by go_simp⟩
  refine hK _ _ HJ2.out ?_
  clear hK HJ
  have HJ := HJ2
  clear HJ2
  refine wpJ_done (by kernel_rfl) ?_ _
  clear HJ
  go_wp2_with fail
  refine bodyPost_ret (v := DV s5 (some ⟨g6, 0, none⟩) k6 c6 (e + K)) (by rw [results_cell1 rfl]; go_simp) rfl ⟨g6, k6, c6, rfl, Nat.le_trans HGr.out (Nat.le_of_lt N6.out.2), ⟨⟨⟨us, ?_, N6.out.1, ?_⟩, by rw [HZ.out.2.2.1]; exact HO.out.2.2.1.symm⟩, .inr ⟨HO.out.2.1, HE.out⟩⟩, ?_⟩
  · have := N6.out.2
    exact ((A6.out.setOther _ _ _ (by omega)).setOther _ _ _ (by omega)).setOther _ _ _ (by omega)
  · have h1 := (lim32 HZ5.out.2.1).1 (by rw [HZ5.out.1.len]; have := HZ5.out; have := HZ.out; omega)
    have h2 := N6.out.1.lim.2 h1
    rw [A6.out.len] at h2
    exact h2
  · exact bSet (bSet (bSet hbw _ _ _ HGr.out) _ _ _ HGr.out) _ _ _ HGr.out
theorem rfin_x (f : Int) (h1 : f ≠ 32) (h2 : f ≠ 64) (b : Nat) (w : World) :
    Calls Tryd.prog 48 #[.int .i64 f, U b] w fun en w' => en = .returned (.int .i64 1) ∧ Below w.heap.size w w' := by
  have H : Hid (f ≠ 32 ∧ f ≠ 64) := ⟨h1, h2⟩
  clear h1 h2
  go_enter Tryd.func48, Tryd.ntmps48
  go_wp2_with fail
  have hbw : Below w.heap.size w w := Below.refl _ _
  refine (check_x f H.out.1 H.out.2 b _).mono ?_
  rintro e v1 ⟨rfl, hb1⟩
  replace hbw := Below.on hbw hb1
  clear hb1
  go_wp2_with fail
  go_ret
  exact ⟨rfl, hbw⟩
theorem rfin_b {f P E G : Int} {S I Q : Nat} (R : Rf f S P E G I Q) (b : Nat) (hb9 : b < B64) (hb : 2 * S ≤ b) (w : World) :
    Calls Tryd.prog 48 #[.int .i64 f, U b] w fun en w' => en = .returned (.int .i64 2) ∧ Below w.heap.size w w' := by
  have H : Hid (Rf f S P E G I Q ∧ b < B64 ∧ 2 * S ≤ b) := ⟨R, hb9, hb⟩
  clear R hb9 hb
  go_enter Tryd.func48, Tryd.ntmps48
  go_wp2_with fail
  have hbw : Below w.heap.size w w := Below.refl _ _
  refine (check_big H.out.1 b H.out.2.1 H.out.2.2 _).mono ?_
  rintro e v1 ⟨rfl, hb1⟩
  replace hbw := Below.on hbw hb1
  clear hb1
  go_wp2_with fail
  go_ret
  exact ⟨rfl, hbw⟩
theorem rfin_i {f P E G : Int} {S I Q : Nat} (R : Rf f S P E G I Q) (b : Nat) (hb : b < 2 * S) (hr : I ≤ b % S) (h0 : 0 < S) (hS : S ≤ 9223372036854775808) (w : World) :
    Calls Tryd.prog 48 #[.int .i64 f, U b] w fun en w' => en = .returned (.int .i64 6) ∧ Below w.heap.size w w' := by
  have H : Hid (Rf f S P E G I Q ∧ b < 2 * S ∧ 0 < S ∧ S ≤ 9223372036854775808) := ⟨R, hb, h0, hS⟩
  obtain ⟨z, hz⟩ : ∃ z, z = b % S := ⟨_, rfl⟩
  have HZ : Hid (b % S = z) := hz.symm
  have k1 : (I : Int) ≤ (z : Int) := by omega
  clear R hb hr h0 hS hz
  go_enter Tryd.func48, Tryd.ntmps48
  go_wp2_with fail
  have hbw : Below w.heap.size w w := Below.refl _ _
  refine (check_ok H.out.1 b H.out.2.1 _).mono ?_
  rintro e v1 ⟨rfl, hb1⟩
  replace hbw := Below.on hbw hb1
  clear hb1
  go_wp2_with fail
  refine (H.out.1.of _).mono ?_
  rintro e v2 ⟨rfl, hb2⟩
  replace hbw := Below.on hbw hb2
  clear hb2
  go_wp2_with fail
  have Xk0 : Hid (B6q (v2.alloc (.cells #[U S, .int .i64 P, .int .i64 E, .int .i64 G, U I, U Q] 89)) v2.heap.size (U S) (.int .i64 P) (.int .i64 E) (.int .i64 G) (U I) (U Q)) := B6q.new v2 _ _ _ _ _ _ _
  have hbn : Below v2.heap.size v2 (v2.alloc (.cells #[U S, .int .i64 P, .int .i64 E, .int .i64 G, U I, U Q] 89)) := below1 v2 _
  generalize v2.alloc (.cells #[U S, .int .i64 P, .int .i64 E, .int .i64 G, U I, U Q] 89) = Wk at *
  have HGk : Hid (w.heap.size ≤ v2.heap.size) := hbw.size
  replace hbw := Below.on hbw hbn
  clear hbn
  generalize v2.heap.size = gk at *
  have Xk := Xk0
  clear Xk0
  refine (cut_any H.out.2.2.1 H.out.2.2.2 b _).mono ?_
  rintro e v3 ⟨rfl, hb3⟩
  rw [HZ.out]
  replace Xk : Hid _ := Xk.out.below hb3
  replace hbw := Below.on hbw hb3
  clear hb3
  obtain ⟨ck0, ck1, ck2, ck3, ck4, ck5, fk0, fk1, fk2, fk3, fk4, fk5⟩ := Xk.out
  have hnek : gk < v3.heap.size := World.block_lt_of_cell? v3 _ ck0
  go_wp2_with fail
  clear ck0 ck1 ck2 ck3 ck4 ck5 fk0 fk1 fk2 fk3 fk4 fk5 hnek
  go_ret
  exact ⟨rfl, hbw⟩
theorem rfin_o {f P E G : Int} {S I Q : Nat} (R : Rf f S P E G I Q) (b : Nat) (hb : b < 2 * S) (hr : b % S < I) (h0 : 0 < S) (hS : S ≤ 9223372036854775808) (w : World) :
    Calls Tryd.prog 48 #[.int .i64 f, U b] w fun en w' => en = .returned (.int .i64 0) ∧ Below w.heap.size w w' := by
  have H : Hid (Rf f S P E G I Q ∧ b < 2 * S ∧ 0 < S ∧ S ≤ 9223372036854775808) := ⟨R, hb, h0, hS⟩
  obtain ⟨z, hz⟩ : ∃ z, z = b % S := ⟨_, rfl⟩
  have HZ : Hid (b % S = z) := hz.symm
  have k1 : ¬ (I : Int) ≤ (z : Int) := by omega
  clear R hb hr h0 hS hz
  go_enter Tryd.func48, Tryd.ntmps48
  go_wp2_with fail
  have hbw : Below w.heap.size w w := Below.refl _ _
  refine (check_ok H.out.1 b H.out.2.1 _).mono ?_
  rintro e v1 ⟨rfl, hb1⟩
  replace hbw := Below.on hbw hb1
  clear hb1
  go_wp2_with fail
  refine (H.out.1.of _).mono ?_
  rintro e v2 ⟨rfl, hb2⟩
  replace hbw := Below.on hbw hb2
  clear hb2
  go_wp2_with fail
  have Xk0 : Hid (B6q (v2.alloc (.cells #[U S, .int .i64 P, .int .i64 E, .int .i64 G, U I, U Q] 89)) v2.heap.size (U S) (.int .i64 P) (.int .i64 E) (.int .i64 G) (U I) (U Q)) := B6q.new v2 _ _ _ _ _ _ _
  have hbn : Below v2.heap.size v2 (v2.alloc (.cells #[U S, .int .i64 P, .int .i64 E, .int .i64 G, U I, U Q] 89)) := below1 v2 _
  generalize v2.alloc (.cells #[U S, .int .i64 P, .int .i64 E, .int .i64 G, U I, U Q] 89) = Wk at *
  have HGk : Hid (w.heap.size ≤ v2.heap.size) := hbw.size
  replace hbw := Below.on hbw hbn
  clear hbn
  generalize v2.heap.size = gk at *
  have Xk := Xk0
  clear Xk0
  refine (cut_any H.out.2.2.1 H.out.2.2.2 b _).mono ?_
  rintro e v3 ⟨rfl, hb3⟩
  rw [HZ.out]
  replace Xk : Hid _ := Xk.out.below hb3
  replace hbw := Below.on hbw hb3
  clear hb3
  obtain ⟨ck0, ck1, ck2, ck3, ck4, ck5, fk0, fk1, fk2, fk3, fk4, fk5⟩ := Xk.out
  have hnek : gk < v3.heap.size := World.block_lt_of_cell? v3 _ ck0
  go_wp2_with fail
  clear ck0 ck1 ck2 ck3 ck4 ck5 fk0 fk1 fk2 fk3 fk4 fk5 hnek
  go_ret
  exact ⟨rfl, hbw⟩
theorem all7T {P : Option Addr} {N C : Nat} {its : List Op7} {w : World} {gq K : Nat} {ks : List Int} (h : Scr7 w P N C its) (hk : Kds w gq ks) (hK : ks.length = K) (hK9 : K ≤ 100) (hT : Tab w)
    (hp : ∀ k ∈ ks, ∀ (f : Int) (b : Nat) (neg : Bool) (n : Int) (w : World), Tab w → b < B64 → -9223372036854775808 ≤ n → n ≤ 9223372036854775807 → Calls Tryd.prog 10 #[OV k f b neg n] w fun e w' => e = .returned (.bool true) ∧ Below w.heap.size w w') :
    Calls Tryd.prog 5 #[.slice P N C, .slice (some ⟨gq, 0, none⟩) K K] w fun e w' => e = .returned (.bool true) ∧ Below w.heap.size w w' := by
  have H : Hid (Scr7 w P N C its) := h
  have HK : Hid (Kds w gq ks) := hk
  have HKL : Hid (ks.length = K) := hK
  have HT : Hid (Tab w) := hT
  have HP : Hid (∀ k ∈ ks, ∀ (f : Int) (b : Nat) (neg : Bool) (n : Int) (w : World), Tab w → b < B64 → -9223372036854775808 ≤ n → n ≤ 9223372036854775807 → Calls Tryd.prog 10 #[OV k f b neg n] w fun e w' => e = .returned (.bool true) ∧ Below w.heap.size w w') := hp
  have HLN : Hid (its.length = N) := h.len
  have cap := h.cap; have big := h.big
  unfold maxLen at big
  clear h hk hK hp hT
  go_enter Tryd.func5, Tryd.ntmps5
  go_wp2_with fail
  go_loopg [11] N (fun gg iv wr => ∃ k : Nat, k + gg = N ∧ iv = .int .i64 k ∧ Below w.heap.size w wr)
  case atStart => exact ⟨0, by omega, rfl, Below.refl _ _⟩
  case round =>
    obtain ⟨k, hkg, rfl, hbw⟩ := hrel
    cases gk with
    | zero =>
      obtain rfl : k = N := by omega
      have hnk : ¬ (k : Int) < (k : Int) := by omega
      go_wp2_with fail
      go_ret
      exact ⟨rfl, hbw⟩
    | succ gg =>
      have hki : k < its.length := by rw [HLN.out]; omega
      have HR := H.out.below hbw
      have HKR : Hid (Kds wr gq ks) := HK.out.below hbw
      obtain ⟨g, off, rfl, hc⟩ := HR.cells.resolve_left (by omega)
      obtain ⟨e0, e1, e2, e3, e4⟩ := hc k hki
      obtain ⟨hb9, hn1, hn2⟩ := HR.ats its[k] (List.getElem_mem hki)
      have HB9 : Hid (its[k].b < B64) := hb9
      have HN1 : Hid (-9223372036854775808 ≤ its[k].n) := hn1
      have HN2 : Hid (its[k].n ≤ 9223372036854775807) := hn2
      have HBW : Hid (Below w.heap.size w wr) := hbw
      have hkk : (k : Int) < (N : Int) := by omega
      have hlt : g < wr.heap.size := World.block_lt_of_cell? wr _ e0
      clear hc HR hb9 hn1 hn2 hbw
      generalize its[k].k = kd at *
      generalize its[k].f = f at *
      generalize its[k].b = b at *
      generalize its[k].neg = neg at *
      generalize its[k].n = n at *
      go_wp2_with fail
      clear e0 e1 e2 e3 e4 hlt
      have Y := B5q.new wr 44 (.int .i64 kd) (.int .i64 f) (U b) (.bool neg) (.int .i64 n)
      have hb0 := bwAlloc wr (.cells #[.int .i64 kd, .int .i64 f, U b, .bool neg, .int .i64 n] 44)
      generalize wr.alloc (.cells #[.int .i64 kd, .int .i64 f, U b, .bool neg, .int .i64 n] 44) = Wo at *
      obtain ⟨go, hgo⟩ : ∃ go, go = wr.heap.size := ⟨_, rfl⟩
      rw [← hgo] at Y ⊢
      clear hgo
      have HY : Hid (B5q Wo go (.int .i64 kd) (.int .i64 f) (U b) (.bool neg) (.int .i64 n)) := Y
      have HKO : Hid (Kds Wo gq ks) := HKR.out.below hb0
      have HBO : Hid (Below w.heap.size w Wo) := bwOn HBW.out hb0
      clear Y hb0 HKR HBW
      go_loopg [17] K (fun gk iv wr => ∃ j : Nat, j + gk = K ∧ iv = .int .i64 j ∧ Below Wo.heap.size Wo wr)
      case atStart => exact ⟨0, by omega, rfl, Below.refl _ _⟩
      case round =>
        obtain ⟨j, hjg, rfl, hbz⟩ := hrel
        cases gk with
        | zero =>
          obtain rfl : j = K := by omega
          have hnj : ¬ (j : Int) < (j : Int) := by omega
          have hbw2 := bwOn HBO.out hbz
          clear hbz
          go_wp2_with fail
          go_roundg gg
          case measure => omega
          case rel => exact ⟨k + 1, by omega, by go_num, hbw2⟩
        | succ g2 =>
          have hjl : j < ks.length := by rw [HKL.out]; omega
          have hjj : (j : Int) < (K : Int) := by omega
          have hkc := (HKO.out.below hbz).c j hjl
          have HPK : Hid (ks[j] ∈ ks) := List.getElem_mem hjl
          obtain ⟨y0, y1, y2, y3, y4, y5, y6, y7, y8, y9⟩ := HY.out.below hbz
          have HBZ : Hid (Below Wo.heap.size Wo wr) := hbz
          have HTR : Hid (Tab wr) := HT.out.below (bwOn HBO.out hbz)
          generalize ks[j] = kv at *
          have hwj : IntKind.i64.wrap (j : Int) = (j : Int) := by simp [IntKind.wrap, IntKind.signed, IntKind.bits]; omega
          clear hjl hbz
          by_cases hkv : kd = kv
          · subst hkv
            have hkb : (kd == kd) = true := by simp
            go_wp2_with fail
            refine (HP.out kd HPK.out f b neg n _ HTR.out HB9.out HN1.out HN2.out).mono ?_
            rintro e wz ⟨rfl, hbq⟩
            have hbz2 := bwOn HBZ.out hbq
            clear hbq hkc y0 y1 y2 y3 y4 y5 y6 y7 y8 y9
            go_wp2_with fail
            go_roundg g2
            case measure => omega
            case rel => exact ⟨j + 1, by omega, by go_num, hbz2⟩
          · have hkb : (kd == kv) = false := by simp [hkv]
            go_wp2_with fail
            go_roundg g2
            case measure => omega
            case rel => exact ⟨j + 1, by omega, by go_num, HBZ.out⟩
theorem dn_z0 (w : World) : DN w false none 0 0 0 0 := ⟨⟨⟨[], ⟨At.empty w none 0 (Nat.zero_le _), Nf.nil _, by omega⟩⟩, rfl⟩, .inl ⟨rfl, rfl⟩⟩
end Go.Proofs.YthfkkcfjneppmaaDoor
