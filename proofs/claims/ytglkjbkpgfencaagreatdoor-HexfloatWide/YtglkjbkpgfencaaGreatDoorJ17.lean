import Derived.Test.YtglkjbkpgfencaaGreatDoorJ13
import Derived.Test.YtglkjbkpgfencaaGreatDoorJ10
import Derived.Test.YtglkjbkpgfencaaGreatDoorJ16
import Derived.Test.YtglkjbkpgfencaaGreatDoorJ11
import Derived.Test.YtglkjbkpgfencaaGreatDoorJ9
import Derived.Deep.LoopGhost
import Derived.Test.YtglkjbkpgfencaaGreatDoorJ14
namespace Go.Proofs.YtglkjbkpgfencaaGreatDoor
open Go.RowKit Go.Shelf
set_option maxRecDepth 20000
set_option maxHeartbeats 0
abbrev F32t : Value := FV 2147483648 24 (-149) 104 2139095040 2143289345
abbrev F64t : Value := FV 9223372036854775808 53 (-1074) 971 9218868437227405312 9221120237041090561
theorem rparts_320t (s : Nat) (hs : s < 8388608) (w : World) : Calls Tryz.prog 41 #[F32t, U s] w fun e w' => e = .returned (.tuple #[U s, .int .i64 (-149)]) ∧ Below w.heap.size w w' := by
  obtain ⟨z, hz⟩ : ∃ z, z = s / 8388608 := ⟨_, rfl⟩
  obtain ⟨r, hr⟩ : ∃ r, r = s % 8388608 := ⟨_, rfl⟩
  have d1 : (s : Int).tdiv 8388608 = (z : Int) := by rw [Int.tdiv_eq_ediv_of_nonneg (by omega)]; omega
  have d2 : (s : Int).tmod 8388608 = (r : Int) := by rw [Int.tmod_eq_emod_of_nonneg (by omega)]; omega
  have d3 : IntKind.u64.wrap (z : Int) = (z : Int) := by rw [IntKind.wrap_u64]; omega
  have d4 : IntKind.u64.wrap (r : Int) = (r : Int) := by rw [IntKind.wrap_u64]; omega
  have hz0 : z = 0 := by omega
  have hrs : r = s := by omega
  subst hz0
  subst hrs
  clear hz hr hs
  go_enter Tryz.func41, Tryz.ntmps41
  go_wp2_with fail
  go_quiet (fail)
  go_wp2_with fail
  go_quiet (fail)
  go_wp2_with fail
  go_ret2
  exact ⟨rfl, bwDrewN (bwDrewN (bwAlloc w _) _) _⟩
theorem rparts_32nt (s : Nat) (hs : 8388608 ≤ s) (hs9 : s < 9223372036854775808) (w : World) : Calls Tryz.prog 41 #[F32t, U s] w fun e w' => e = .returned (.tuple #[U (s - (s / 8388608 - 1) * 8388608), .int .i64 ((-149) + ((s / 8388608 - 1 : Nat) : Int))]) ∧ Below w.heap.size w w' := by
  obtain ⟨z, hz⟩ : ∃ z, z = s / 8388608 := ⟨_, rfl⟩
  obtain ⟨r, hr⟩ : ∃ r, r = s % 8388608 := ⟨_, rfl⟩
  have d1 : (s : Int).tdiv 8388608 = (z : Int) := by rw [Int.tdiv_eq_ediv_of_nonneg (by omega)]; omega
  have d2 : (s : Int).tmod 8388608 = (r : Int) := by rw [Int.tmod_eq_emod_of_nonneg (by omega)]; omega
  have d3 : IntKind.u64.wrap (z : Int) = (z : Int) := by rw [IntKind.wrap_u64]; omega
  have d4 : IntKind.u64.wrap (r : Int) = (r : Int) := by rw [IntKind.wrap_u64]; omega
  have hzb : ((z : Int) == 0) = false := by simp; omega
  obtain ⟨y, hy⟩ : ∃ y, y = s - (z - 1) * 8388608 := ⟨_, rfl⟩
  obtain ⟨x, hx⟩ : ∃ x : Int, x = (-149) + ((z - 1 : Nat) : Int) := ⟨_, rfl⟩
  obtain ⟨x1, hx1⟩ : ∃ x1 : Int, x1 = (-149) + (z : Int) := ⟨_, rfl⟩
  rw [← hz, ← hy, ← hx]
  have d5 : IntKind.u64.wrap (8388608 + (r : Int)) = (y : Int) := by rw [IntKind.wrap_u64]; omega
  have d6 : IntKind.i64.wrap (z : Int) = (z : Int) := by simp [IntKind.wrap, IntKind.signed, IntKind.bits]; omega
  have d7 : IntKind.i64.wrap ((-149) + (z : Int)) = x1 := by rw [hx1]; simp [IntKind.wrap, IntKind.signed, IntKind.bits]; omega
  have d8 : IntKind.i64.wrap (x1 - 1) = x := by simp [IntKind.wrap, IntKind.signed, IntKind.bits]; omega
  clear hz hr hs hs9 hy hx hx1
  go_enter Tryz.func41, Tryz.ntmps41
  go_wp2_with fail
  go_quiet (fail)
  go_wp2_with fail
  go_quiet (fail)
  go_wp2_with fail
  go_ret2
  exact ⟨rfl, bwDrewN (bwDrewN (bwAlloc w _) _) _⟩
theorem rparts_64nt (s : Nat) (hs : 4503599627370496 ≤ s) (hs9 : s < 9223372036854775808) (w : World) : Calls Tryz.prog 41 #[F64t, U s] w fun e w' => e = .returned (.tuple #[U (s - (s / 4503599627370496 - 1) * 4503599627370496), .int .i64 ((-1074) + ((s / 4503599627370496 - 1 : Nat) : Int))]) ∧ Below w.heap.size w w' := by
  obtain ⟨z, hz⟩ : ∃ z, z = s / 4503599627370496 := ⟨_, rfl⟩
  obtain ⟨r, hr⟩ : ∃ r, r = s % 4503599627370496 := ⟨_, rfl⟩
  have d1 : (s : Int).tdiv 4503599627370496 = (z : Int) := by rw [Int.tdiv_eq_ediv_of_nonneg (by omega)]; omega
  have d2 : (s : Int).tmod 4503599627370496 = (r : Int) := by rw [Int.tmod_eq_emod_of_nonneg (by omega)]; omega
  have d3 : IntKind.u64.wrap (z : Int) = (z : Int) := by rw [IntKind.wrap_u64]; omega
  have d4 : IntKind.u64.wrap (r : Int) = (r : Int) := by rw [IntKind.wrap_u64]; omega
  have hzb : ((z : Int) == 0) = false := by simp; omega
  obtain ⟨y, hy⟩ : ∃ y, y = s - (z - 1) * 4503599627370496 := ⟨_, rfl⟩
  obtain ⟨x, hx⟩ : ∃ x : Int, x = (-1074) + ((z - 1 : Nat) : Int) := ⟨_, rfl⟩
  obtain ⟨x1, hx1⟩ : ∃ x1 : Int, x1 = (-1074) + (z : Int) := ⟨_, rfl⟩
  rw [← hz, ← hy, ← hx]
  have d5 : IntKind.u64.wrap (4503599627370496 + (r : Int)) = (y : Int) := by rw [IntKind.wrap_u64]; omega
  have d6 : IntKind.i64.wrap (z : Int) = (z : Int) := by simp [IntKind.wrap, IntKind.signed, IntKind.bits]; omega
  have d7 : IntKind.i64.wrap ((-1074) + (z : Int)) = x1 := by rw [hx1]; simp [IntKind.wrap, IntKind.signed, IntKind.bits]; omega
  have d8 : IntKind.i64.wrap (x1 - 1) = x := by simp [IntKind.wrap, IntKind.signed, IntKind.bits]; omega
  clear hz hr hs hs9 hy hx hx1
  go_enter Tryz.func41, Tryz.ntmps41
  go_wp2_with fail
  go_quiet (fail)
  go_wp2_with fail
  go_quiet (fail)
  go_wp2_with fail
  go_ret2
  exact ⟨rfl, bwDrewN (bwDrewN (bwAlloc w _) _) _⟩
theorem rparts_640t (s : Nat) (hs : s < 4503599627370496) (w : World) : Calls Tryz.prog 41 #[F64t, U s] w fun e w' => e = .returned (.tuple #[U s, .int .i64 (-1074)]) ∧ Below w.heap.size w w' := by
  obtain ⟨z, hz⟩ : ∃ z, z = s / 4503599627370496 := ⟨_, rfl⟩
  obtain ⟨r, hr⟩ : ∃ r, r = s % 4503599627370496 := ⟨_, rfl⟩
  have d1 : (s : Int).tdiv 4503599627370496 = (z : Int) := by rw [Int.tdiv_eq_ediv_of_nonneg (by omega)]; omega
  have d2 : (s : Int).tmod 4503599627370496 = (r : Int) := by rw [Int.tmod_eq_emod_of_nonneg (by omega)]; omega
  have d3 : IntKind.u64.wrap (z : Int) = (z : Int) := by rw [IntKind.wrap_u64]; omega
  have d4 : IntKind.u64.wrap (r : Int) = (r : Int) := by rw [IntKind.wrap_u64]; omega
  have hz0 : z = 0 := by omega
  have hrs : r = s := by omega
  subst hz0
  subst hrs
  clear hz hr hs
  go_enter Tryz.func41, Tryz.ntmps41
  go_wp2_with fail
  go_quiet (fail)
  go_wp2_with fail
  go_quiet (fail)
  go_wp2_with fail
  go_ret2
  exact ⟨rfl, bwDrewN (bwDrewN (bwAlloc w _) _) _⟩
theorem rparts_all64 (s : Nat) (hs9 : s < 9223372036854775808) (w : World) : Calls Tryz.prog 41 #[F64t, U s] w fun e w' => e = .returned (.tuple #[U (s - (s / 4503599627370496 - 1) * 4503599627370496), .int .i64 ((-1074) + ((s / 4503599627370496 - 1 : Nat) : Int))]) ∧ Below w.heap.size w w' := by
  by_cases h : s < 4503599627370496
  · have h1 : s / 4503599627370496 = 0 := Nat.div_eq_of_lt h
    rw [h1, show 0 - 1 = 0 from rfl, Nat.zero_mul, Nat.sub_zero, show ((-1074 : Int) + ((0 : Nat) : Int)) = -1074 from rfl]
    exact rparts_640t s h w
  · exact rparts_64nt s (by omega) (by omega) w
theorem rparts_all32 (s : Nat) (hs9 : s < 2147483648) (w : World) : Calls Tryz.prog 41 #[F32t, U s] w fun e w' => e = .returned (.tuple #[U (s - (s / 8388608 - 1) * 8388608), .int .i64 ((-149) + ((s / 8388608 - 1 : Nat) : Int))]) ∧ Below w.heap.size w w' := by
  by_cases h : s < 8388608
  · have h1 : s / 8388608 = 0 := Nat.div_eq_of_lt h
    rw [h1, show 0 - 1 = 0 from rfl, Nat.zero_mul, Nat.sub_zero, show ((-149 : Int) + ((0 : Nat) : Int)) = -149 from rfl]
    exact rparts_320t s h w
  · exact rparts_32nt s (by omega) (by omega) w
theorem zr_len9 {w : World} {s : Bool} {p : Option Addr} {m : Nat} {z : Int} (h : ZR w s p m z) {L : Nat} (hL : z.natAbs < 2 ^ L) : m ≤ L := by
  obtain ⟨zs, hA, hN⟩ := h.ex
  have h1 := (hN.len_le B32_one (k := L)).2 (Nat.lt_of_lt_of_le hL (Nat.pow_le_pow_left (by decide) L))
  rw [hA.len] at h1
  exact h1
theorem GotR.len9 {B : Nat} {w : World} {v : Value} {z : Int} {L L' : Nat} (h : GotR B w v z L) (hL : z.natAbs < 2 ^ L') : GotR B w v z L' := by
  obtain ⟨s, g, m, h1, h2, h3, _⟩ := h
  exact ⟨s, g, m, h1, h2, h3, zr_len9 h3 hL⟩
theorem svS_lt {S H : Nat} (b : Nat) {L a c : Nat} (hH : H ≤ 2 ^ a) (h0 : 0 < H) (hS : S ≤ c * H) (hS0 : 0 < S) (hL : a + c ≤ L) : (svS S H b).natAbs < 2 ^ L := by
  rw [svS_eq]
  have h1 : (if S ≤ b then -(vs H (b % S) : Int) else (vs H (b % S) : Int)).natAbs = vs H (b % S) := by split <;> omega
  rw [h1]
  have h2 : b % S < c * H := Nat.lt_of_lt_of_le (Nat.mod_lt _ hS0) hS
  have h3 : b % S / H < c := (Nat.div_lt_iff_lt_mul h0).2 h2
  have e1 := Nat.div_add_mod (b % S) H
  have e2 := Nat.mod_lt (b % S) h0
  rw [Nat.mul_comm] at e1
  have h4 : b % S - (b % S / H - 1) * H < 2 * H := by
    by_cases e3 : b % S / H = 0
    · rw [e3] at e1 ⊢; omega
    · rw [Nat.sub_mul]; omega
  unfold vs
  have h5 : 2 ^ (b % S / H - 1) ≤ 2 ^ (c - 1) := Nat.pow_le_pow_right (by decide) (by generalize b % S / H = t at h3 ⊢; omega)
  have h6 : 0 < 2 ^ (b % S / H - 1) := Nat.two_pow_pos _
  refine Nat.lt_of_lt_of_le (Nat.mul_lt_mul_of_pos_right h4 h6) (Nat.le_trans (Nat.mul_le_mul (Nat.mul_le_mul_left 2 hH) h5) ?_)
  rw [← Nat.pow_succ', ← Nat.pow_add]
  have h7 : 1 ≤ c := Nat.lt_of_le_of_lt (Nat.zero_le _) h3
  exact Nat.pow_le_pow_right (by decide) (by omega)
theorem rwhole_64 {b : Nat} (w : World) :
    Calls Tryz.prog 75 #[FV 9223372036854775808 53 (-1074) 971 9218868437227405312 9221120237041090561, U b] w fun en w' => ∃ v, en = .returned v ∧ GotR w.heap.size w' v (svS 9223372036854775808 4503599627370496 b) 2200 ∧ Below w.heap.size w w' := by
  obtain ⟨q, hq⟩ : ∃ q, q = b % 9223372036854775808 / 4503599627370496 - 1 := ⟨_, rfl⟩
  obtain ⟨man, hman⟩ : ∃ man, man = b % 9223372036854775808 - q * 4503599627370496 := ⟨_, rfl⟩
  obtain ⟨neg, hneg⟩ : ∃ neg, neg = decide (9223372036854775808 ≤ b) := ⟨_, rfl⟩
  obtain ⟨s, hs⟩ : ∃ s, s = b % 9223372036854775808 := ⟨_, rfl⟩
  have hv : iv neg (man * 2 ^ q) = svS 9223372036854775808 4503599627370496 b := by
    rw [svS_eq, hneg, show vs 4503599627370496 (b % 9223372036854775808) = man * 2 ^ q from by unfold vs; rw [← hq, ← hman]]
    by_cases h : 9223372036854775808 ≤ b
    · rw [if_pos h, decide_eq_true h]; rfl
    · rw [if_neg h, decide_eq_false h]; rfl
  have hq9 : q ≤ 2048 := by omega
  have e1 : IntKind.i64.wrap ((-1074 : Int) + (q : Int) - (-1074)) = (q : Int) := by simp [IntKind.wrap, IntKind.signed, IntKind.bits]; omega
  obtain ⟨ex, hex⟩ : ∃ ex : Int, ex = (-1074 : Int) + (q : Int) := ⟨_, rfl⟩
  rw [← hex] at e1
  have e2 : wrap64 (ex + 1074) = (q : Int) := by rw [hex]; simp only [wrap64]; omega
  have e3 : IntKind.i64.wrap (ex + 1074) = (q : Int) := by rw [hex]; simp [IntKind.wrap, IntKind.signed, IntKind.bits]; omega
  have HV : Hid (iv neg (man * 2 ^ q) = svS 9223372036854775808 4503599627370496 b ∧ q ≤ 2048 ∧ man < B64 ∧ b % 9223372036854775808 = s ∧ decide (9223372036854775808 ≤ b) = neg ∧ s < 9223372036854775808 ∧ s / 4503599627370496 - 1 = q ∧ s - q * 4503599627370496 = man ∧ (-1074 : Int) + (q : Int) = ex) := ⟨hv, hq9, by rw [B64_eq]; omega, hs.symm, hneg.symm, by omega, by rw [hs]; exact hq.symm, by rw [hs]; exact hman.symm, hex.symm⟩
  clear hq hman hneg hs hv hq9 hex
  go_enter Tryz.func75, Tryz.ntmps75
  go_wp2_with fail
  obtain ⟨W0, hW0⟩ : ∃ W0, W0 = ((w.alloc (.cells #[U 9223372036854775808, .int .i64 53, .int .i64 (-1074), .int .i64 971, U 9218868437227405312, U 9221120237041090561] 79)).alloc (.cells #[.bool false, .slice none 0 0] 122)) := ⟨_, rfl⟩
  have Xk : Hid (B6q W0 (w.heap.size) (U 9223372036854775808) (.int .i64 53) (.int .i64 (-1074)) (.int .i64 971) (U 9218868437227405312) (U 9221120237041090561)) := by rw [hW0]; exact ⟨by go_simp, by go_simp, by go_simp, by go_simp, by go_simp, by go_simp, by go_simp, by go_simp, by go_simp, by go_simp, by go_simp, by go_simp⟩
  have Xr : Hid (Box W0 (w.heap.size + 1) (.bool false) (.slice none 0 0)) := by rw [hW0]; exact ⟨by go_simp, by go_simp, by go_simp, by go_simp⟩
  have hb0 : Below w.heap.size w W0 := by rw [hW0]; exact below2 w _ _
  rw [← hW0]
  clear hW0
  have hbw : Below w.heap.size w w := Below.refl _ _
  obtain ⟨gr, hgr⟩ : ∃ g, g = w.heap.size + 1 := ⟨_, rfl⟩
  have HGr : Hid (w.heap.size ≤ gr) := by rw [hgr]; show _ ≤ _; omega
  rw [← hgr] at Xr
  try rw [← hgr]
  obtain ⟨gk, hgk⟩ : ∃ g, g = w.heap.size := ⟨_, rfl⟩
  have HGk : Hid (w.heap.size ≤ gk) := by rw [hgk]; show _ ≤ _; omega
  rw [← hgk] at Xk
  try rw [← hgk]
  have HGD : Hid (gk ≠ gr ∧ gr ≠ gk) := by rw [hgk, hgr]; exact ⟨by omega, by omega⟩
  clear hgk hgr
  replace hbw := Below.on hbw hb0
  clear hb0
  refine (cut_any (by decide) (by decide) b _).mono ?_
  rintro e v1 ⟨rfl, hb1⟩
  rw [HV.out.2.2.2.1, HV.out.2.2.2.2.1]
  replace Xk : Hid _ := Xk.out.below hb1
  replace Xr : Hid _ := Xr.out.below hb1
  replace hbw := Below.on hbw hb1
  clear hb1
  obtain ⟨ck0, ck1, ck2, ck3, ck4, ck5, fk0, fk1, fk2, fk3, fk4, fk5⟩ := Xk.out
  have hnek : gk < v1.heap.size := World.block_lt_of_cell? v1 _ ck0
  go_wp2_with fail
  clear ck0 ck1 ck2 ck3 ck4 ck5 fk0 fk1 fk2 fk3 fk4 fk5 hnek
  refine (rparts_all64 s HV.out.2.2.2.2.2.1 _).mono ?_
  rintro e v2 ⟨rfl, hb2⟩
  rw [HV.out.2.2.2.2.2.2.1, HV.out.2.2.2.2.2.2.2.1, HV.out.2.2.2.2.2.2.2.2]
  replace Xk : Hid _ := Xk.out.below hb2
  replace Xr : Hid _ := Xr.out.below hb2
  replace hbw := Below.on hbw hb2
  clear hb2
  obtain ⟨ck0, ck1, ck2, ck3, ck4, ck5, fk0, fk1, fk2, fk3, fk4, fk5⟩ := Xk.out
  have hnek : gk < v2.heap.size := World.block_lt_of_cell? v2 _ ck0
  go_wp2_with fail
  clear ck0 ck1 ck2 ck3 ck4 ck5 fk0 fk1 fk2 fk3 fk4 fk5 hnek
  obtain ⟨W1, hW1⟩ : ∃ W1, W1 = v2.drew := ⟨_, rfl⟩
  have hbd : Below v2.heap.size v2 W1 := by rw [hW1]; exact bDrew1 (Below.refl _ _)
  replace Xk : Hid _ := Xk.out.below hbd
  replace Xr : Hid _ := Xr.out.below hbd
  replace hbw := Below.on hbw hbd
  clear hbd
  have HJ : Hid ((fun W' : World => W'.cell? ⟨gk, 2, none⟩ = some (.int .i64 (-1074)) ∧ W'.cell? ⟨gk, 1, none⟩ = some (.int .i64 53)) W1) := ⟨Xk.out.c2, Xk.out.c1⟩
  refine wp_region_J (fun W' => W'.cell? ⟨gk, 2, none⟩ = some (.int .i64 (-1074)) ∧ W'.cell? ⟨gk, 1, none⟩ = some (.int .i64 53)) (by kernel_rfl) ?_
  rw [← hW1]
  clear hW1
  refine wpJ_tq 0 rfl HJ.out ?_
  refine wpJ_tq 1 rfl HJ.out ?_
  refine wpJ_tq 3 rfl HJ.out ?_
  refine wpJ_tq 4 rfl HJ.out ?_
  refine wpJ_tq 5 rfl HJ.out ?_
  refine wpJ_tq 6 rfl HJ.out ?_
  refine wpJ_on 2 rfl fun KJ hK => ?_
  go_simp
  refine (rword man HV.out.2.2.1 _).mono ?_
  rintro e v5 ⟨g5, z5, rfl, hl5, hA5, hN5, hb5⟩
  replace Xk : Hid _ := Xk.out.below hb5
  replace Xr : Hid _ := Xr.out.below hb5
  replace hbw := Below.on hbw hb5
  clear hb5
  have A5 : Hid (At32 v5 (some ⟨g5, 0, none⟩) z5.length z5.length z5) := hA5
  have N5 : Hid (Nf B32 z5 man ∧ z5.length ≤ 2) := ⟨hN5, hl5⟩
  clear hA5 hN5 hl5
  obtain ⟨l5, hl5⟩ : ∃ l5, l5 = z5.length := ⟨_, rfl⟩
  rw [← hl5] at A5 N5 ⊢
  clear hl5
  refine hK _ _ ⟨Xk.out.c2, Xk.out.c1⟩ ?_
  clear hK
  refine wpJ_on 7 rfl fun KJ hK => ?_
  go_simp
  refine (rshl_all A5.out N5.out.1 (by have := N5.out.2; omega) q (.inl (by have := HV.out.2.1; omega))).mono ?_
  rintro e v6 ⟨p6, m6, z6, rfl, hA6, hN6, hm6, hb6⟩
  replace Xk : Hid _ := Xk.out.below hb6
  replace Xr : Hid _ := Xr.out.below hb6
  replace A5 : Hid _ := A5.out.below hb6
  replace hbw := Below.on hbw hb6
  clear hb6
  clear A5
  have A6 : Hid (At32 v6 p6 m6 m6 z6) := hA6
  have N6 : Hid (Nf B32 z6 (man * 2 ^ q) ∧ m6 ≤ 40000) := ⟨hN6, hm6⟩
  clear hA6 hN6 hm6 N5
  refine hK _ _ ⟨Xk.out.c2, Xk.out.c1⟩ ?_
  clear hK
  have HRL : Hid (gr < v6.heap.size ∧ w.heap.size ≤ v6.heap.size) := ⟨Xr.out.lt, hbw.size⟩
  refine wpJ_on 8 rfl fun KJ hK => ?_
  go_simp
  refine (rmk_any neg A6.out N6.out.1 (by have := N6.out.2; omega)).mono ?_
  rintro e v7 ⟨v, rfl, hv, hb7⟩
  rw [HV.out.1] at hv
  obtain ⟨LL, hLL⟩ : ∃ LL : Nat, LL = 2200 := ⟨_, rfl⟩
  obtain ⟨s7, g7, m7, rfl, hg7, hz7, hl7⟩ := hv.len9 (L' := LL) (svS_lt b (a := 52) (c := 2048) (by decide) (by decide) (by decide) (by decide) (by omega))
  rw [hLL] at hl7
  clear hLL
  have HN7 : Hid (v6.heap.size ≤ g7) := hg7
  replace Xk : Hid _ := Xk.out.below hb7
  replace Xr : Hid _ := Xr.out.below hb7
  replace A6 : Hid _ := A6.out.below hb7
  replace hbw := Below.on hbw hb7
  clear hb7
  clear A6
  have Z7 : Hid (ZR v7 s7 (some ⟨g7, 0, none⟩) m7 (svS 9223372036854775808 4503599627370496 b)) := hz7
  have HL7 : Hid (m7 ≤ 2200) := hl7
  clear hv hg7 hz7 hl7 N6
  refine hK _ _ ⟨Xk.out.c2, Xk.out.c1⟩ ?_
  clear hK
  obtain ⟨cr0, cr1, fr0, fr1⟩ := Xr.out
  have hner := Xr.out.lt
  obtain ⟨ck0, ck1, ck2, ck3, ck4, ck5, fk0, fk1, fk2, fk3, fk4, fk5⟩ := Xk.out
  have hnek : gk < v7.heap.size := World.block_lt_of_cell? v7 _ ck0
  obtain ⟨hgd0, hgd1⟩ := HGD.out
  refine wpJ_on 9 rfl fun KJ hK => ?_
  go_simp
  have HJ2 : Hid ((fun W' : World => W'.cell? ⟨gk, 2, none⟩ = some (.int .i64 (-1074)) ∧ W'.cell? ⟨gk, 1, none⟩ = some (.int .i64 53)) ((v7.setCell ⟨gr, 0, none⟩ (.bool s7)).setCell ⟨gr, 1, none⟩ (.slice (some ⟨g7, 0, none⟩) m7 m7))) := ⟨by go_simp, by go_simp⟩
  refine hK _ _ HJ2.out ?_
  clear hK HJ
  have HJ := HJ2
  clear HJ2
  refine wpJ_done (by kernel_rfl) ?_ _
  clear HJ
  go_wp2_with fail
  refine bodyPost_ret (v := .agg #[.bool s7, .slice (some ⟨g7, 0, none⟩) m7 m7]) (by rw [results_cell1 rfl]; go_simp) rfl ⟨_, rfl, ⟨s7, g7, m7, rfl, Nat.le_trans HRL.out.2 HN7.out, ?_, HL7.out⟩, ?_⟩
  · have := HN7.out; have := HRL.out.1
    exact (Z7.out.set _ _ _ (by omega)).set _ _ _ (by omega)
  · exact bSet (bSet hbw _ _ _ HGr.out) _ _ _ HGr.out
theorem rwhole_32 {b : Nat} (w : World) :
    Calls Tryz.prog 75 #[FV 2147483648 24 (-149) 104 2139095040 2143289345, U b] w fun en w' => ∃ v, en = .returned v ∧ GotR w.heap.size w' v (svS 2147483648 8388608 b) 2200 ∧ Below w.heap.size w w' := by
  obtain ⟨q, hq⟩ : ∃ q, q = b % 2147483648 / 8388608 - 1 := ⟨_, rfl⟩
  obtain ⟨man, hman⟩ : ∃ man, man = b % 2147483648 - q * 8388608 := ⟨_, rfl⟩
  obtain ⟨neg, hneg⟩ : ∃ neg, neg = decide (2147483648 ≤ b) := ⟨_, rfl⟩
  obtain ⟨s, hs⟩ : ∃ s, s = b % 2147483648 := ⟨_, rfl⟩
  have hv : iv neg (man * 2 ^ q) = svS 2147483648 8388608 b := by
    rw [svS_eq, hneg, show vs 8388608 (b % 2147483648) = man * 2 ^ q from by unfold vs; rw [← hq, ← hman]]
    by_cases h : 2147483648 ≤ b
    · rw [if_pos h, decide_eq_true h]; rfl
    · rw [if_neg h, decide_eq_false h]; rfl
  have hq9 : q ≤ 256 := by omega
  have e1 : IntKind.i64.wrap ((-149 : Int) + (q : Int) - (-149)) = (q : Int) := by simp [IntKind.wrap, IntKind.signed, IntKind.bits]; omega
  obtain ⟨ex, hex⟩ : ∃ ex : Int, ex = (-149 : Int) + (q : Int) := ⟨_, rfl⟩
  rw [← hex] at e1
  have e2 : wrap64 (ex + 149) = (q : Int) := by rw [hex]; simp only [wrap64]; omega
  have e3 : IntKind.i64.wrap (ex + 149) = (q : Int) := by rw [hex]; simp [IntKind.wrap, IntKind.signed, IntKind.bits]; omega
  have HV : Hid (iv neg (man * 2 ^ q) = svS 2147483648 8388608 b ∧ q ≤ 256 ∧ man < B64 ∧ b % 2147483648 = s ∧ decide (2147483648 ≤ b) = neg ∧ s < 2147483648 ∧ s / 8388608 - 1 = q ∧ s - q * 8388608 = man ∧ (-149 : Int) + (q : Int) = ex) := ⟨hv, hq9, by rw [B64_eq]; omega, hs.symm, hneg.symm, by omega, by rw [hs]; exact hq.symm, by rw [hs]; exact hman.symm, hex.symm⟩
  clear hq hman hneg hs hv hq9 hex
  go_enter Tryz.func75, Tryz.ntmps75
  go_wp2_with fail
  obtain ⟨W0, hW0⟩ : ∃ W0, W0 = ((w.alloc (.cells #[U 2147483648, .int .i64 24, .int .i64 (-149), .int .i64 104, U 2139095040, U 2143289345] 79)).alloc (.cells #[.bool false, .slice none 0 0] 122)) := ⟨_, rfl⟩
  have Xk : Hid (B6q W0 (w.heap.size) (U 2147483648) (.int .i64 24) (.int .i64 (-149)) (.int .i64 104) (U 2139095040) (U 2143289345)) := by rw [hW0]; exact ⟨by go_simp, by go_simp, by go_simp, by go_simp, by go_simp, by go_simp, by go_simp, by go_simp, by go_simp, by go_simp, by go_simp, by go_simp⟩
  have Xr : Hid (Box W0 (w.heap.size + 1) (.bool false) (.slice none 0 0)) := by rw [hW0]; exact ⟨by go_simp, by go_simp, by go_simp, by go_simp⟩
  have hb0 : Below w.heap.size w W0 := by rw [hW0]; exact below2 w _ _
  rw [← hW0]
  clear hW0
  have hbw : Below w.heap.size w w := Below.refl _ _
  obtain ⟨gr, hgr⟩ : ∃ g, g = w.heap.size + 1 := ⟨_, rfl⟩
  have HGr : Hid (w.heap.size ≤ gr) := by rw [hgr]; show _ ≤ _; omega
  rw [← hgr] at Xr
  try rw [← hgr]
  obtain ⟨gk, hgk⟩ : ∃ g, g = w.heap.size := ⟨_, rfl⟩
  have HGk : Hid (w.heap.size ≤ gk) := by rw [hgk]; show _ ≤ _; omega
  rw [← hgk] at Xk
  try rw [← hgk]
  have HGD : Hid (gk ≠ gr ∧ gr ≠ gk) := by rw [hgk, hgr]; exact ⟨by omega, by omega⟩
  clear hgk hgr
  replace hbw := Below.on hbw hb0
  clear hb0
  refine (cut_any (by decide) (by decide) b _).mono ?_
  rintro e v1 ⟨rfl, hb1⟩
  rw [HV.out.2.2.2.1, HV.out.2.2.2.2.1]
  replace Xk : Hid _ := Xk.out.below hb1
  replace Xr : Hid _ := Xr.out.below hb1
  replace hbw := Below.on hbw hb1
  clear hb1
  obtain ⟨ck0, ck1, ck2, ck3, ck4, ck5, fk0, fk1, fk2, fk3, fk4, fk5⟩ := Xk.out
  have hnek : gk < v1.heap.size := World.block_lt_of_cell? v1 _ ck0
  go_wp2_with fail
  clear ck0 ck1 ck2 ck3 ck4 ck5 fk0 fk1 fk2 fk3 fk4 fk5 hnek
  refine (rparts_all32 s HV.out.2.2.2.2.2.1 _).mono ?_
  rintro e v2 ⟨rfl, hb2⟩
  rw [HV.out.2.2.2.2.2.2.1, HV.out.2.2.2.2.2.2.2.1, HV.out.2.2.2.2.2.2.2.2]
  replace Xk : Hid _ := Xk.out.below hb2
  replace Xr : Hid _ := Xr.out.below hb2
  replace hbw := Below.on hbw hb2
  clear hb2
  obtain ⟨ck0, ck1, ck2, ck3, ck4, ck5, fk0, fk1, fk2, fk3, fk4, fk5⟩ := Xk.out
  have hnek : gk < v2.heap.size := World.block_lt_of_cell? v2 _ ck0
  go_wp2_with fail
  clear ck0 ck1 ck2 ck3 ck4 ck5 fk0 fk1 fk2 fk3 fk4 fk5 hnek
  obtain ⟨W1, hW1⟩ : ∃ W1, W1 = v2.drew := ⟨_, rfl⟩
  have hbd : Below v2.heap.size v2 W1 := by rw [hW1]; exact bDrew1 (Below.refl _ _)
  replace Xk : Hid _ := Xk.out.below hbd
  replace Xr : Hid _ := Xr.out.below hbd
  replace hbw := Below.on hbw hbd
  clear hbd
  have HJ : Hid ((fun W' : World => W'.cell? ⟨gk, 2, none⟩ = some (.int .i64 (-149)) ∧ W'.cell? ⟨gk, 1, none⟩ = some (.int .i64 24)) W1) := ⟨Xk.out.c2, Xk.out.c1⟩
  refine wp_region_J (fun W' => W'.cell? ⟨gk, 2, none⟩ = some (.int .i64 (-149)) ∧ W'.cell? ⟨gk, 1, none⟩ = some (.int .i64 24)) (by kernel_rfl) ?_
  rw [← hW1]
  clear hW1
  refine wpJ_tq 0 rfl HJ.out ?_
  refine wpJ_tq 1 rfl HJ.out ?_
  refine wpJ_tq 3 rfl HJ.out ?_
  refine wpJ_tq 4 rfl HJ.out ?_
  refine wpJ_tq 5 rfl HJ.out ?_
  refine wpJ_tq 6 rfl HJ.out ?_
  refine wpJ_on 2 rfl fun KJ hK => ?_
  go_simp
  refine (rword man HV.out.2.2.1 _).mono ?_
  rintro e v5 ⟨g5, z5, rfl, hl5, hA5, hN5, hb5⟩
  replace Xk : Hid _ := Xk.out.below hb5
  replace Xr : Hid _ := Xr.out.below hb5
  replace hbw := Below.on hbw hb5
  clear hb5
  have A5 : Hid (At32 v5 (some ⟨g5, 0, none⟩) z5.length z5.length z5) := hA5
  have N5 : Hid (Nf B32 z5 man ∧ z5.length ≤ 2) := ⟨hN5, hl5⟩
  clear hA5 hN5 hl5
  obtain ⟨l5, hl5⟩ : ∃ l5, l5 = z5.length := ⟨_, rfl⟩
  rw [← hl5] at A5 N5 ⊢
  clear hl5
  refine hK _ _ ⟨Xk.out.c2, Xk.out.c1⟩ ?_
  clear hK
  refine wpJ_on 7 rfl fun KJ hK => ?_
  go_simp
  refine (rshl_all A5.out N5.out.1 (by have := N5.out.2; omega) q (.inl (by have := HV.out.2.1; omega))).mono ?_
  rintro e v6 ⟨p6, m6, z6, rfl, hA6, hN6, hm6, hb6⟩
  replace Xk : Hid _ := Xk.out.below hb6
  replace Xr : Hid _ := Xr.out.below hb6
  replace A5 : Hid _ := A5.out.below hb6
  replace hbw := Below.on hbw hb6
  clear hb6
  clear A5
  have A6 : Hid (At32 v6 p6 m6 m6 z6) := hA6
  have N6 : Hid (Nf B32 z6 (man * 2 ^ q) ∧ m6 ≤ 40000) := ⟨hN6, hm6⟩
  clear hA6 hN6 hm6 N5
  refine hK _ _ ⟨Xk.out.c2, Xk.out.c1⟩ ?_
  clear hK
  have HRL : Hid (gr < v6.heap.size ∧ w.heap.size ≤ v6.heap.size) := ⟨Xr.out.lt, hbw.size⟩
  refine wpJ_on 8 rfl fun KJ hK => ?_
  go_simp
  refine (rmk_any neg A6.out N6.out.1 (by have := N6.out.2; omega)).mono ?_
  rintro e v7 ⟨v, rfl, hv, hb7⟩
  rw [HV.out.1] at hv
  obtain ⟨LL, hLL⟩ : ∃ LL : Nat, LL = 2200 := ⟨_, rfl⟩
  obtain ⟨s7, g7, m7, rfl, hg7, hz7, hl7⟩ := hv.len9 (L' := LL) (svS_lt b (a := 23) (c := 256) (by decide) (by decide) (by decide) (by decide) (by omega))
  rw [hLL] at hl7
  clear hLL
  have HN7 : Hid (v6.heap.size ≤ g7) := hg7
  replace Xk : Hid _ := Xk.out.below hb7
  replace Xr : Hid _ := Xr.out.below hb7
  replace A6 : Hid _ := A6.out.below hb7
  replace hbw := Below.on hbw hb7
  clear hb7
  clear A6
  have Z7 : Hid (ZR v7 s7 (some ⟨g7, 0, none⟩) m7 (svS 2147483648 8388608 b)) := hz7
  have HL7 : Hid (m7 ≤ 2200) := hl7
  clear hv hg7 hz7 hl7 N6
  refine hK _ _ ⟨Xk.out.c2, Xk.out.c1⟩ ?_
  clear hK
  obtain ⟨cr0, cr1, fr0, fr1⟩ := Xr.out
  have hner := Xr.out.lt
  obtain ⟨ck0, ck1, ck2, ck3, ck4, ck5, fk0, fk1, fk2, fk3, fk4, fk5⟩ := Xk.out
  have hnek : gk < v7.heap.size := World.block_lt_of_cell? v7 _ ck0
  obtain ⟨hgd0, hgd1⟩ := HGD.out
  refine wpJ_on 9 rfl fun KJ hK => ?_
  go_simp
  have HJ2 : Hid ((fun W' : World => W'.cell? ⟨gk, 2, none⟩ = some (.int .i64 (-149)) ∧ W'.cell? ⟨gk, 1, none⟩ = some (.int .i64 24)) ((v7.setCell ⟨gr, 0, none⟩ (.bool s7)).setCell ⟨gr, 1, none⟩ (.slice (some ⟨g7, 0, none⟩) m7 m7))) := ⟨by go_simp, by go_simp⟩
  refine hK _ _ HJ2.out ?_
  clear hK HJ
  have HJ := HJ2
  clear HJ2
  refine wpJ_done (by kernel_rfl) ?_ _
  clear HJ
  go_wp2_with fail
  refine bodyPost_ret (v := .agg #[.bool s7, .slice (some ⟨g7, 0, none⟩) m7 m7]) (by rw [results_cell1 rfl]; go_simp) rfl ⟨_, rfl, ⟨s7, g7, m7, rfl, Nat.le_trans HRL.out.2 HN7.out, ?_, HL7.out⟩, ?_⟩
  · have := HN7.out; have := HRL.out.1
    exact (Z7.out.set _ _ _ (by omega)).set _ _ _ (by omega)
  · exact bSet (bSet hbw _ _ _ HGr.out) _ _ _ HGr.out
theorem rshr_alle {p : Option Addr} {n : Nat} {xs : List Nat} {v : Nat} {w : World} (h : At32 w p n n xs) (hx : Nf B32 xs v) (hn : n ≤ 16384) (N : Nat) (hN2 : N ≤ 9223372036854775807) :
    Calls Tryz.prog 72 #[.slice p n n, .int .i64 N] w fun e w' => ∃ p' m' zs, e = .returned (.slice p' m' m') ∧ At32 w' p' m' m' zs ∧ Nf B32 zs (v / 2 ^ N) ∧ m' ≤ n ∧ Below w.heap.size w w' := by
  rcases Nat.eq_zero_or_pos N with h0 | h0
  · subst h0
    refine (rshr_0 h hx hn).mono ?_
    rintro e w' ⟨g, rfl, h1, hb⟩
    exact ⟨_, n, xs, rfl, h1, by rw [Nat.pow_zero, Nat.div_one]; exact hx, Nat.le_refl _, hb⟩
  · exact rfshr_any h hx hn N h0 hN2
theorem rfitsP {p : Option Addr} {n c : Nat} {xs : List Nat} {w : World} (h : At32 w p n c xs) (hn : n ≤ 35184372088832) :
    Calls Tryz.prog 98 #[.slice p n c] w fun e w' => e = .returned (if valB B32 xs < B64 then .tuple #[U (valB B32 xs), .bool true] else .tuple #[.int .u64 0, .bool false]) ∧ Below w.heap.size w w' := by
  have H : Hid (At32 w p n c xs) := h
  clear h
  obtain ⟨rv, hrv⟩ : ∃ rv : Value, rv = (if valB B32 xs < B64 then .tuple #[U (valB B32 xs), .bool true] else .tuple #[.int .u64 0, .bool false]) := ⟨_, rfl⟩
  rw [← hrv]
  have HRV : Hid (rv = (if valB B32 xs < B64 then .tuple #[U (valB B32 xs), .bool true] else .tuple #[.int .u64 0, .bool false])) := hrv
  clear hrv
  go_enter Tryz.func98, Tryz.ntmps98
  go_wp2_with fail
  refine (rto_any H.out hn).mono ?_
  rintro e w1 ⟨g1, k1, N1, us, rfl, hg1, hA1, hn1, hb1⟩
  have hl := hA1.len
  match k1, us, hl with
  | 0, [], _ =>
    have HV : Hid (valB B32 xs = 0) := by show _ = _; rw [← hn1.val]; rfl
    clear hA1 hn1 hg1
    go_wp2_with fail
    go_ret2
    refine ⟨?_, hb1⟩
    rw [HRV.out, HV.out, if_pos (by rw [B64_eq]; decide)]
    rfl
  | 1, [u], _ =>
    have HV : Hid (valB B32 xs = u ∧ u < B64) := ⟨by rw [← hn1.val]; simp [valB], hA1.dig u (by simp)⟩
    have hc := hA1.cellAt 0 (by omega)
    have hc2 : w1.cell? ⟨g1, 0, none⟩ = some (U u) := hc
    have hlt := World.block_lt_of_cell? w1 _ hc2
    clear hA1 hn1 hg1 hc
    go_wp2_with fail
    go_ret2
    refine ⟨?_, hb1⟩
    rw [HRV.out, HV.out.1, if_pos HV.out.2]
    rfl
  | k + 2, us, hl =>
    have HV : Hid (¬ valB B32 xs < B64) := by
      intro hlt
      have := (hn1.len_le B64_one (k := 1)).2 (by rw [Nat.pow_one]; exact hlt)
      omega
    have h0 : (((k + 2 : Nat) : Int) == 0) = false := by simp; omega
    have h1 : (((k + 2 : Nat) : Int) == 1) = false := by simp; omega
    clear hA1 hn1 hg1
    go_wp2_with fail
    go_ret2
    refine ⟨?_, hb1⟩
    rw [HRV.out, if_neg HV.out]
    rfl
theorem JnR.shift {H I : Nat} {l : Int} {man m' j : Nat} {ex : Int} {s : Nat} (hm : man = m' * 2 ^ j) : JnR H I l man ex s ↔ JnR H I l m' (ex + j) s := by
  obtain ⟨A, hA⟩ : ∃ A, A = (ex - l).toNat := ⟨_, rfl⟩
  obtain ⟨B, hB⟩ : ∃ B, B = (l - ex).toNat := ⟨_, rfl⟩
  obtain ⟨A2, hA2⟩ : ∃ A, A = (ex + j - l).toNat := ⟨_, rfl⟩
  obtain ⟨B2, hB2⟩ : ∃ B, B = (l - (ex + j)).toNat := ⟨_, rfl⟩
  have hq : j + A + B2 = A2 + B := by omega
  unfold JnR
  rw [← hA, ← hB, ← hA2, ← hB2, hm]
  constructor
  · rintro ⟨h1, h2⟩
    refine ⟨h1, Nat.eq_of_mul_eq_mul_right (Nat.two_pow_pos B) ?_⟩
    have h3 : m' * 2 ^ j * 2 ^ A * 2 ^ B2 = vs H s * 2 ^ B * 2 ^ B2 := by rw [h2]
    rw [Nat.mul_assoc, Nat.mul_assoc, Nat.mul_assoc, ← Nat.pow_add, ← Nat.pow_add, ← Nat.pow_add, show j + (A + B2) = A2 + B by omega, Nat.add_comm B B2, Nat.pow_add, Nat.pow_add, ← Nat.mul_assoc, ← Nat.mul_assoc] at h3
    exact h3
  · rintro ⟨h1, h2⟩
    refine ⟨h1, Nat.eq_of_mul_eq_mul_right (Nat.two_pow_pos B2) ?_⟩
    have h3 : m' * 2 ^ A2 * 2 ^ B = vs H s * 2 ^ B2 * 2 ^ B := by rw [h2]
    rw [Nat.mul_assoc, Nat.mul_assoc, ← Nat.pow_add, ← Nat.pow_add, show A2 + B = j + (A + B2) by omega, Nat.add_comm B2 B, Nat.pow_add, Nat.pow_add, Nat.pow_add, ← Nat.mul_assoc, ← Nat.mul_assoc, ← Nat.mul_assoc] at h3
    exact h3
def szN (sd u : Nat) : Nat := if bl_bitsN u ≤ sd then u else (bl_bitsN u - (sd + 1)) * 2 ^ sd + u / 2 ^ (bl_bitsN u - (sd + 1))
theorem JA.shift {S H I : Nat} {l : Int} {neg : Bool} {man m' j : Nat} {ex : Int} {r : Nat} {er : Int} (hm : man = m' * 2 ^ j) (h : JA S H I l neg m' (ex + j) r er) : JA S H I l neg man ex r er := by
  rcases h with ⟨h1, s, h2, h3⟩ | ⟨h1, h2, h3⟩
  · exact .inl ⟨h1, s, (JnR.shift hm).2 h2, h3⟩
  · exact .inr ⟨h1, h2, fun s hj => h3 s ((JnR.shift hm).1 hj)⟩
theorem pw_b {v K : Nat} (hK : bl_bitsN v ≤ K) : v < 2 ^ K := Nat.lt_of_lt_of_le (bl_bitsN_lt v) (Nat.pow_le_pow_right (by decide) hK)
theorem szN_lt {sd v : Nat} (h : sd ≤ 52) (hb : bl_bitsN v ≤ 2300) : (bl_bitsN v ≤ sd → v < 4503599627370496) ∧ (¬ bl_bitsN v ≤ sd → (bl_bitsN v - (sd + 1)) * 2 ^ sd ≤ 2300 * 4503599627370496 ∧ v / 2 ^ (bl_bitsN v - (sd + 1)) < 9007199254740992) := by
  have h1 : (2 : Nat) ^ sd ≤ 2 ^ 52 := Nat.pow_le_pow_right (by decide) h
  have h2 : (2 : Nat) ^ 52 = 4503599627370496 := by decide
  refine ⟨fun h3 => ?_, fun h3 => ⟨?_, ?_⟩⟩
  · have := pw_b h3; omega
  · exact Nat.mul_le_mul (by omega) (by omega)
  · have h4 := bl_bitsN_lt v
    rw [show bl_bitsN v = sd + 1 + (bl_bitsN v - (sd + 1)) by omega, Nat.pow_add] at h4
    have h5 := (Nat.div_lt_iff_lt_mul (Nat.two_pow_pos (bl_bitsN v - (sd + 1)))).2 h4
    rw [Nat.pow_succ] at h5
    omega
theorem ju {a : Nat} (h : a < 18446744073709551616) : IntKind.u64.wrap (a : Int) = (a : Int) := by rw [IntKind.wrap_u64]; omega
theorem rsize_a {S I Q : Nat} {P E G : Int} {sd : Nat} (hP : P = sd + 1) (hsd : 1 ≤ sd ∧ sd ≤ 52) {p : Option Addr} {n v : Nat} {xs : List Nat} {w : World} (h : At32 w p n n xs) (hx : Nf B32 xs v) (hn : n ≤ 16384) (hb : bl_bitsN v ≤ 2300) (hc : bl_bitsN v ≤ sd) :
    Calls Tryz.prog 73 #[FV S P E G I Q, .slice p n n] w fun en w' => en = .returned (U v) ∧ Below w.heap.size w w' := by
  have HA : Hid (At32 w p n n xs) := h
  have HX : Hid (Nf B32 xs v) := hx
  have HN : Hid (n ≤ 16384) := hn
  have hz := szN_lt hsd.2 hb
  have HV : Hid (valB B32 xs = v ∧ v < B64) := ⟨hx.val, by have := hz.1 hc; rw [B64_eq]; omega⟩
  obtain ⟨t, ht⟩ : ∃ t, t = bl_bitsN v := ⟨_, rfl⟩
  rw [← ht] at hc
  have HT : Hid (bitsN v = t) := ht.symm
  have c1 : decide ((t : Int) < P) = true := decide_eq_true (by omega)
  clear h hx hn hz hc ht hb hP hsd
  go_enter Tryz.func73, Tryz.ntmps73
  go_wp2_with fail
  obtain ⟨W0, hW0⟩ : ∃ W0, W0 = (w.alloc (.cells #[U S, .int .i64 P, .int .i64 E, .int .i64 G, U I, U Q] 79)) := ⟨_, rfl⟩
  have Xk : Hid (B6q W0 (w.heap.size) (U S) (.int .i64 P) (.int .i64 E) (.int .i64 G) (U I) (U Q)) := by rw [hW0]; exact ⟨by go_simp, by go_simp, by go_simp, by go_simp, by go_simp, by go_simp, by go_simp, by go_simp, by go_simp, by go_simp, by go_simp, by go_simp⟩
  have hb0 : Below w.heap.size w W0 := by rw [hW0]; exact below1 w _
  rw [← hW0]
  clear hW0
  have hbw : Below w.heap.size w w := Below.refl _ _
  obtain ⟨gk, hgk⟩ : ∃ g, g = w.heap.size := ⟨_, rfl⟩
  have HGk : Hid (w.heap.size ≤ gk) := by rw [hgk]; show _ ≤ _; omega
  rw [← hgk] at Xk
  try rw [← hgk]
  clear hgk
  replace HA : Hid _ := HA.out.below hb0
  replace hbw := Below.on hbw hb0
  clear hb0
  refine (rbits_any HA.out HX.out (by have := HN.out; omega)).mono ?_
  rintro e w1 ⟨rfl, hw⟩
  obtain rfl := hw.symm
  clear hw
  rw [HT.out]
  obtain ⟨ck0, ck1, ck2, ck3, ck4, ck5, fk0, fk1, fk2, fk3, fk4, fk5⟩ := Xk.out
  have hnek : gk < W0.heap.size := World.block_lt_of_cell? W0 _ ck0
  go_wp2_with fail
  clear ck0 ck1 ck2 ck3 ck4 ck5 fk0 fk1 fk2 fk3 fk4 fk5 hnek
  refine (rfitsP HA.out (by have := HN.out; omega)).mono ?_
  rintro e v2 ⟨rfl, hb2⟩
  rw [HV.out.1, if_pos HV.out.2]
  replace Xk : Hid _ := Xk.out.below hb2
  replace HA : Hid _ := HA.out.below hb2
  replace hbw := Below.on hbw hb2
  clear hb2
  obtain ⟨ck0, ck1, ck2, ck3, ck4, ck5, fk0, fk1, fk2, fk3, fk4, fk5⟩ := Xk.out
  have hnek : gk < v2.heap.size := World.block_lt_of_cell? v2 _ ck0
  go_wp2_with fail
  clear ck0 ck1 ck2 ck3 ck4 ck5 fk0 fk1 fk2 fk3 fk4 fk5 hnek
  go_ret
  exact ⟨rfl, hbw⟩
theorem rsize_b {S I Q : Nat} {P E G : Int} {sd : Nat} (hP : P = sd + 1) (hsd : 1 ≤ sd ∧ sd ≤ 52) {p : Option Addr} {n v : Nat} {xs : List Nat} {w : World} (h : At32 w p n n xs) (hx : Nf B32 xs v) (hn : n ≤ 16384) (hb : bl_bitsN v ≤ 2300) (hc : ¬ bl_bitsN v ≤ sd) :
    Calls Tryz.prog 73 #[FV S P E G I Q, .slice p n n] w fun en w' => en = .returned (U ((bl_bitsN v - (sd + 1)) * 2 ^ sd + v / 2 ^ (bl_bitsN v - (sd + 1)))) ∧ Below w.heap.size w w' := by
  have HA : Hid (At32 w p n n xs) := h
  have HX : Hid (Nf B32 xs v) := hx
  have HN : Hid (n ≤ 16384) := hn
  have hz := szN_lt hsd.2 hb
  obtain ⟨t, ht⟩ : ∃ t, t = bl_bitsN v := ⟨_, rfl⟩
  have hz2 := hz.2 hc
  rw [← ht] at hc hz2 hb ⊢
  obtain ⟨d, hd⟩ : ∃ d, d = t - (sd + 1) := ⟨_, rfl⟩
  obtain ⟨m, hm⟩ : ∃ m, m = v / 2 ^ d := ⟨_, rfl⟩
  obtain ⟨y, hy⟩ : ∃ y, y = d * 2 ^ sd := ⟨_, rfl⟩
  obtain ⟨r, hr⟩ : ∃ r, r = y + m := ⟨_, rfl⟩
  rw [← hd, ← hm, ← hy] at hz2
  rw [← hd, ← hm, ← hy, ← hr]
  have HT : Hid (bitsN v = t) := ht.symm
  have HM : Hid (v / 2 ^ d = m ∧ d ≤ 9223372036854775807 ∧ m < B64) := ⟨hm.symm, by omega, by rw [B64_eq]; omega⟩
  have hs64 : sd < 64 := by omega
  have q1 : -100000 ≤ (d : Int) ∧ (d : Int) ≤ 100000 ∧ (t : Int) - P = (d : Int) := by omega
  have q2 : -100000 ≤ (sd : Int) ∧ (sd : Int) ≤ 100000 ∧ P - 1 = (sd : Int) := by omega
  have c1 : decide ((t : Int) < P) = false := decide_eq_false (by omega)
  have q3 : r < 18446744073709551616 ∧ y < 18446744073709551616 ∧ d < 18446744073709551616 := by omega
  have e1 : IntKind.i64.wrap ((t : Int) - P) = (d : Int) := by rw [q1.2.2]; exact (jw q1.1 q1.2.1).1
  have e1' : wrap64 ((t : Int) - P) = (d : Int) := by rw [q1.2.2]; exact (jw q1.1 q1.2.1).2
  have e5 : IntKind.i64.wrap (P - 1) = (sd : Int) := by rw [q2.2.2]; exact (jw q2.1 q2.2.1).1
  have e5' : wrap64 (P - 1) = (sd : Int) := by rw [q2.2.2]; exact (jw q2.1 q2.2.1).2
  have e2 : IntKind.u64.wrap (d : Int) = (d : Int) := ju q3.2.2
  have e3 : IntKind.u64.wrap ((d : Int) * 2 ^ sd) = (y : Int) := by
    rw [show (d : Int) * 2 ^ sd = (y : Int) by rw [hy]; simp]
    exact ju q3.2.1
  have e4 : IntKind.u64.wrap ((y : Int) + (m : Int)) = (r : Int) := by
    rw [show (y : Int) + (m : Int) = (r : Int) by rw [hr]; simp]
    exact ju q3.1
  clear h hx hn hz hz2 hc ht hb hP hsd hd hm hy hr q1 q2 q3
  go_enter Tryz.func73, Tryz.ntmps73
  go_wp2_with fail
  obtain ⟨W0, hW0⟩ : ∃ W0, W0 = (w.alloc (.cells #[U S, .int .i64 P, .int .i64 E, .int .i64 G, U I, U Q] 79)) := ⟨_, rfl⟩
  have Xk : Hid (B6q W0 (w.heap.size) (U S) (.int .i64 P) (.int .i64 E) (.int .i64 G) (U I) (U Q)) := by rw [hW0]; exact ⟨by go_simp, by go_simp, by go_simp, by go_simp, by go_simp, by go_simp, by go_simp, by go_simp, by go_simp, by go_simp, by go_simp, by go_simp⟩
  have hb0 : Below w.heap.size w W0 := by rw [hW0]; exact below1 w _
  rw [← hW0]
  clear hW0
  have hbw : Below w.heap.size w w := Below.refl _ _
  obtain ⟨gk, hgk⟩ : ∃ g, g = w.heap.size := ⟨_, rfl⟩
  have HGk : Hid (w.heap.size ≤ gk) := by rw [hgk]; show _ ≤ _; omega
  rw [← hgk] at Xk
  try rw [← hgk]
  clear hgk
  replace HA : Hid _ := HA.out.below hb0
  replace hbw := Below.on hbw hb0
  clear hb0
  refine (rbits_any HA.out HX.out (by have := HN.out; omega)).mono ?_
  rintro e w1 ⟨rfl, hw⟩
  obtain rfl := hw.symm
  clear hw
  rw [HT.out]
  obtain ⟨ck0, ck1, ck2, ck3, ck4, ck5, fk0, fk1, fk2, fk3, fk4, fk5⟩ := Xk.out
  have hnek : gk < W0.heap.size := World.block_lt_of_cell? W0 _ ck0
  go_wp2_with fail
  clear ck0 ck1 ck2 ck3 ck4 ck5 fk0 fk1 fk2 fk3 fk4 fk5 hnek
  refine (rshr_alle HA.out HX.out HN.out d HM.out.2.1).mono ?_
  rintro e v2 ⟨p2, m2, z2, rfl, hA2, hN2, hm2, hb2⟩
  rw [HM.out.1] at hN2
  replace Xk : Hid _ := Xk.out.below hb2
  replace HA : Hid _ := HA.out.below hb2
  replace hbw := Below.on hbw hb2
  clear hb2
  have A2 : Hid (At32 v2 p2 m2 m2 z2) := hA2
  have N2 : Hid (Nf B32 z2 m ∧ m2 ≤ 16384) := ⟨hN2, by have := HN.out; omega⟩
  clear hA2 hN2 hm2
  obtain ⟨ck0, ck1, ck2, ck3, ck4, ck5, fk0, fk1, fk2, fk3, fk4, fk5⟩ := Xk.out
  have hnek : gk < v2.heap.size := World.block_lt_of_cell? v2 _ ck0
  go_wp2_with fail
  clear ck0 ck1 ck2 ck3 ck4 ck5 fk0 fk1 fk2 fk3 fk4 fk5 hnek
  refine (rfitsP A2.out (by have := N2.out.2; omega)).mono ?_
  rintro e v3 ⟨rfl, hb3⟩
  rw [N2.out.1.val, if_pos HM.out.2.2]
  replace Xk : Hid _ := Xk.out.below hb3
  replace HA : Hid _ := HA.out.below hb3
  replace A2 : Hid _ := A2.out.below hb3
  replace hbw := Below.on hbw hb3
  clear hb3
  obtain ⟨ck0, ck1, ck2, ck3, ck4, ck5, fk0, fk1, fk2, fk3, fk4, fk5⟩ := Xk.out
  have hnek : gk < v3.heap.size := World.block_lt_of_cell? v3 _ ck0
  go_wp2_with fail
  clear ck0 ck1 ck2 ck3 ck4 ck5 fk0 fk1 fk2 fk3 fk4 fk5 hnek
  go_ret
  exact ⟨rfl, hbw⟩
theorem rsize_g {S I Q : Nat} {P E G : Int} {sd : Nat} (hP : P = sd + 1) (hsd : 1 ≤ sd ∧ sd ≤ 52) {p : Option Addr} {n v : Nat} {xs : List Nat} {w : World} (h : At32 w p n n xs) (hx : Nf B32 xs v) (hn : n ≤ 16384) (hb : bl_bitsN v ≤ 2300) :
    Calls Tryz.prog 73 #[FV S P E G I Q, .slice p n n] w fun en w' => en = .returned (U (szN sd v)) ∧ Below w.heap.size w w' := by
  by_cases hc : bl_bitsN v ≤ sd
  · rw [show szN sd v = v by unfold szN; rw [if_pos hc]]
    exact rsize_a hP hsd h hx hn hb hc
  · rw [show szN sd v = (bl_bitsN v - (sd + 1)) * 2 ^ sd + v / 2 ^ (bl_bitsN v - (sd + 1)) by unfold szN; rw [if_neg hc]]
    exact rsize_b hP hsd h hx hn hb hc
theorem bb_eq (v : Nat) : bl_bitsN v = bitsN v := rfl
theorem hv_sum {H : Nat} (hH : 0 < H) (s : Nat) : hv H s = vs H s + vs H (s + 1) := by
  rw [vs_next hH]; unfold hv; omega
theorem lt_up_mul (u t : Nat) : u < (u / 2 ^ t).succ * 2 ^ t := by
  have h1 := Nat.div_add_mod u (2 ^ t)
  have h2 := Nat.mod_lt u (Nat.two_pow_pos t)
  rw [Nat.mul_comm] at h1
  rw [Nat.succ_mul]; omega
theorem sz_between {H sd : Nat} (hs : H = 2 ^ sd) (u : Nat) : vs H (szN sd u) ≤ u ∧ u < vs H (szN sd u + 1) := by
  have hp : 0 < H := by rw [hs]; exact Nat.two_pow_pos _
  by_cases h0 : u = 0
  · subst h0
    rw [show szN sd 0 = 0 by unfold szN; rw [bl_bitsN_zero, if_pos (Nat.zero_le _)], vs_zero]
    exact ⟨Nat.le_refl _, by have := vs_succ hp 0; omega⟩
  have h1 := bl_bitsN_lt u
  have h2 := bl_bitsN_le u h0
  rw [vs_next hp]
  by_cases hc : bl_bitsN u ≤ sd
  · have hu : u < H := by rw [hs]; exact Nat.lt_of_lt_of_le h1 (Nat.pow_le_pow_right (by decide) hc)
    have h3 : szN sd u = u := by unfold szN; rw [if_pos hc]
    have h4 : vs H u = u := by unfold vs; rw [Nat.div_eq_of_lt hu]; simp
    rw [h3, h4, Nat.div_eq_of_lt hu]
    exact ⟨Nat.le_refl _, by simp⟩
  · obtain ⟨t, ht⟩ : ∃ t, bl_bitsN u = sd + 1 + t := ⟨bl_bitsN u - (sd + 1), by omega⟩
    have h3 : szN sd u = t * H + u / 2 ^ t := by unfold szN; rw [if_neg hc, ht, Nat.add_sub_cancel_left, hs]
    have h4 : H ≤ u / 2 ^ t := by
      rw [Nat.le_div_iff_mul_le (Nat.two_pow_pos t), hs, ← Nat.pow_add]
      rw [ht] at h2
      rwa [show sd + 1 + t - 1 = sd + t by omega] at h2
    have h5 : u / 2 ^ t < 2 * H := by
      rw [Nat.div_lt_iff_lt_mul (Nat.two_pow_pos t), hs, show 2 * 2 ^ sd = 2 ^ (sd + 1) by rw [Nat.pow_succ, Nat.mul_comm], ← Nat.pow_add, ← ht]
      exact h1
    have h6 : (t * H + u / 2 ^ t) / H - 1 = t := by
      rw [Nat.mul_comm, Nat.mul_add_div hp]
      have h7 : u / 2 ^ t / H < 2 := by rw [Nat.div_lt_iff_lt_mul hp]; exact h5
      have h8 : 1 ≤ u / 2 ^ t / H := by rw [Nat.le_div_iff_mul_le hp]; omega
      omega
    rw [h3, vs_of hp h5 (.inr h4), h6]
    exact ⟨Nat.div_mul_le_self _ _, by rw [← Nat.succ_mul]; exact lt_up_mul u t⟩
theorem vs_top {H I sd n : Nat} (hs : H = 2 ^ sd) (hI : I = (n + 1) * H) : vs H I = 2 ^ (sd + n) := by
  have hp : 0 < H := by rw [hs]; exact Nat.two_pow_pos _
  have h := vs_of (q := n) (mn := H) hp (by omega) (.inr (Nat.le_refl _))
  rw [hI, Nat.add_mul, Nat.one_mul, h, hs, ← Nat.pow_add]
def RdS (l : Int) (H I : Nat) (Be : Int) (m : Nat) (e : Int) (Z : Nat) : Prop :=
  (m = 0 ∧ Z = 0) ∨ (m ≠ 0 ∧ (bitsN m : Int) + e < l ∧ Z = 0) ∨ (m ≠ 0 ∧ Be < (bitsN m : Int) + e ∧ Z = I) ∨ (m ≠ 0 ∧ l ≤ (bitsN m : Int) + e ∧ (bitsN m : Int) + e ≤ Be ∧ RNz H l I (dv m e) Z)
theorem rn_from {H : Nat} {l : Int} {I s Z : Nat} {A : Int} (hH : 0 < H) (hs : s < I) (h1 : dv (2 * (vs H s : Int)) (l - 1) ≤ A) (h2 : A < dv (2 * (vs H (s + 1) : Int)) (l - 1))
    (hZ : (A < dv (hv H s : Int) (l - 1) ∧ Z = s) ∨ (A = dv (hv H s : Int) (l - 1) ∧ Z = s + s % 2) ∨ (dv (hv H s : Int) (l - 1) < A ∧ Z = s + 1)) : RNz H l I A Z := by
  have hlow : ∀ z, z < s → dv (hv H z : Int) (l - 1) < A := fun z hz => by
    have k1 := hv_lt hH z
    have k2 := vs_le hH (show z + 1 ≤ s from hz)
    exact Int.lt_of_lt_of_le (dv_lt (l - 1) (by omega)) h1
  have hhigh : ∀ z, s < z → A < dv (hv H z : Int) (l - 1) := fun z hz => by
    have k1 := hv_gt H z
    have k2 := vs_le hH (show s + 1 ≤ z from hz)
    exact Int.lt_of_lt_of_le h2 (dv_le (l - 1) (by omega))
  have hZs : s ≤ Z ∧ Z ≤ s + 1 := by omega
  refine ⟨by omega, fun z hz h => ?_, fun z hz h => ?_, fun z hz h => ?_⟩
  · rcases Nat.lt_trichotomy z s with k | rfl | k
    · have := hlow z k; omega
    · omega
    · omega
  · rcases Nat.lt_trichotomy z s with k | rfl | k
    · omega
    · omega
    · have := hhigh z k; omega
  · rcases Nat.lt_trichotomy z s with k | rfl | k
    · have := hlow z k; omega
    · omega
    · have := hhigh z k; omega
theorem rn_low {H : Nat} {l : Int} {I m : Nat} {e : Int} (hH : 0 < H) (he : -4194304 ≤ e) (h : (bitsN m : Int) + e < l) : RNz H l I (dv m e) 0 := by
  have h1 := bitsN_lt m
  have h0 : ∀ z, dv (m : Int) e < dv (hv H z : Int) (l - 1) := fun z => by
    have k1 : hv H 0 ≤ hv H z := by
      rcases Nat.eq_zero_or_pos z with rfl | hz
      · exact Nat.le_refl _
      · exact Nat.le_of_lt (hv_mono hH hz)
    have k2 : hv H 0 = 1 := by unfold hv; rw [vs_zero]; simp
    have k3 : dv (1 : Int) (l - 1) ≤ dv (hv H z : Int) (l - 1) := dv_le _ (by omega)
    obtain ⟨d, hd⟩ : ∃ d : Nat, (l - 1) = e + (bitsN m : Int) + (d : Int) := ⟨(l - 1 - e - bitsN m).toNat, by omega⟩
    have k4 : dv (1 : Int) (l - 1) = dv (((2 ^ (bitsN m + d) : Nat)) : Int) e := by
      rw [show l - 1 = e + ((bitsN m + d : Nat) : Int) by omega, dv_up _ he, Int.one_mul]
    have k5 : dv (m : Int) e < dv (((2 ^ (bitsN m + d) : Nat)) : Int) e := dv_lt e (by
      have : 2 ^ bitsN m ≤ 2 ^ (bitsN m + d) := Nat.pow_le_pow_right (by decide) (Nat.le_add_right _ _)
      omega)
    omega
  exact ⟨Nat.zero_le _, fun z _ _ => Nat.zero_le _, fun z _ h => absurd h (Int.lt_asymm (h0 z)), fun z _ h => absurd h (Int.ne_of_lt (h0 z))⟩
theorem rn_high {H sd n : Nat} {l Be : Int} {I m : Nat} {e : Int} (hs : H = 2 ^ sd) (hI : I = (n + 1) * H) (hn : Be = l + sd + n) (hl : -4194303 ≤ l) (he : -4194304 ≤ e) (hm : m ≠ 0) (h : Be < (bitsN m : Int) + e) : RNz H l I (dv m e) I := by
  have hp : 0 < H := by rw [hs]; exact Nat.two_pow_pos _
  have h1 := bitsN_le m hm
  have hb := bitsN_pos hm
  have h0 : ∀ z, z < I → dv (hv H z : Int) (l - 1) < dv (m : Int) e := fun z hz => by
    have k1 := hv_lt hp z
    have k2 := vs_le hp (show z + 1 ≤ I from hz)
    rw [vs_top hs hI] at k2
    have k3 : dv (hv H z : Int) (l - 1) < dv (2 * ((2 ^ (sd + n) : Nat) : Int)) (l - 1) := dv_lt _ (by omega)
    refine Int.lt_of_lt_of_le k3 ?_
    have k4 : dv (2 * ((2 ^ (sd + n) : Nat) : Int)) (l - 1) = dv 1 Be := by
      rw [show Be = l - 1 + ((sd + n + 1 : Nat) : Int) by omega, dv_up _ (by omega), Int.one_mul, Nat.pow_succ, Nat.mul_comm _ 2, Int.natCast_mul]; rfl
    rw [k4]
    obtain ⟨d, hd⟩ : ∃ d, d = bitsN m - 1 := ⟨_, rfl⟩
    have k5 : dv (((2 ^ d : Nat)) : Int) e ≤ dv (m : Int) e := dv_le e (by rw [hd]; omega)
    refine Int.le_trans ?_ k5
    rcases Int.le_total Be e with k | k
    · have k6 : dv (1 : Int) Be ≤ dv 1 e := by
        obtain ⟨j, hj⟩ : ∃ j : Nat, e = Be + (j : Int) := ⟨(e - Be).toNat, by omega⟩
        rw [hj, dv_up _ (by omega)]
        exact dv_le _ (by have := Nat.two_pow_pos j; omega)
      exact Int.le_trans k6 (dv_le e (by have := Nat.two_pow_pos d; omega))
    · obtain ⟨j, hj⟩ : ∃ j : Nat, Be = e + (j : Int) := ⟨(Be - e).toNat, by omega⟩
      rw [hj, dv_up _ he, Int.one_mul]
      exact dv_le e (by
        have : 2 ^ j ≤ 2 ^ d := Nat.pow_le_pow_right (by decide) (by omega)
        omega)
  exact ⟨Nat.le_refl _, fun z hz h => absurd h (Int.lt_asymm (h0 z hz)), fun z hz _ => hz, fun z hz h => absurd h.symm (Int.ne_of_lt (h0 z hz))⟩
theorem sgn_posw {x : Int} (h : 0 < x) : sgnI x = 1 := by
  unfold sgnI; rw [if_neg (by omega), if_neg (by omega)]
theorem bits_cmpw {x y : Int} {k : Nat} (hx : 0 < x) (hy : 0 < y) : (bitsN x.natAbs + k < bitsN y.natAbs → x * 2 ^ k < y) ∧ (bitsN y.natAbs < bitsN x.natAbs + k → y < x * 2 ^ k) := by
  have h1 := bitsN_lt x.natAbs
  have h2 := bitsN_le x.natAbs (by omega)
  have h3 := bitsN_lt y.natAbs
  have h4 := bitsN_le y.natAbs (by omega)
  have h5 := bitsN_pos (a := x.natAbs) (by omega)
  have h6 := bitsN_pos (a := y.natAbs) (by omega)
  have hp : 0 < 2 ^ k := Nat.two_pow_pos k
  have e1 : x * 2 ^ k = ((x.natAbs * 2 ^ k : Nat) : Int) := by
    rw [Int.natCast_mul, Int.natCast_pow]
    congr 1
    omega
  rw [e1]
  refine ⟨fun h => ?_, fun h => ?_⟩
  · have h7 : x.natAbs * 2 ^ k < 2 ^ (bitsN x.natAbs + k) := by rw [Nat.pow_add]; exact Nat.mul_lt_mul_of_pos_right h1 hp
    have h8 : 2 ^ (bitsN x.natAbs + k) ≤ 2 ^ (bitsN y.natAbs - 1) := Nat.pow_le_pow_right (by decide) (by omega)
    omega
  · have h7 : 2 ^ (bitsN x.natAbs - 1 + k) ≤ x.natAbs * 2 ^ k := by rw [Nat.pow_add]; exact Nat.mul_le_mul_right _ h2
    have h8 : 2 ^ (bitsN y.natAbs) ≤ 2 ^ (bitsN x.natAbs - 1 + k) := Nat.pow_le_pow_right (by decide) (by omega)
    omega
theorem cmp_ltw {x y : Int} (h : x < y) : cmpI x y = -1 := by unfold cmpI; rw [if_pos h]
theorem cmp_gtw {x y : Int} (h : y < x) : cmpI x y = 1 := by unfold cmpI; rw [if_neg (by omega), if_neg (by omega)]
theorem rholdw_g {p q : Option Addr} {m n k : Nat} {w : World} {x y e f : Int} (s t : Bool) (h : ZR w s p m x) (k0 : ZR w t q n y) (hm : m ≤ 10000) (hn : n ≤ 10000) (hx : 0 < x) (hy : 0 < y) (hbx : bitsN x.natAbs ≤ 100000) (hby : bitsN y.natAbs ≤ 100000) (hk : 1 ≤ k ∧ k ≤ 40000) (he : -40000 ≤ e ∧ e ≤ 40000) (hf : -40000 ≤ f ∧ f ≤ 40000) (hef : e = f + (k : Int)) :
    Calls Tryz.prog 76 #[.agg #[.bool s, .slice p m m], .int .i64 e, .agg #[.bool t, .slice q n n], .int .i64 f] w fun en w' => en = .returned (.int .i64 (cmpI (x * 2 ^ k) y)) ∧ Below w.heap.size w w' := by
  obtain ⟨bx, hbxe⟩ : ∃ bx, bx = bitsN x.natAbs := ⟨_, rfl⟩
  obtain ⟨yb, hbye⟩ : ∃ yb, yb = bitsN y.natAbs := ⟨_, rfl⟩
  obtain ⟨tt, htt⟩ : ∃ tt : Int, tt = (bx : Int) + e := ⟨_, rfl⟩
  obtain ⟨uu, huu⟩ : ∃ uu : Int, uu = (yb : Int) + f := ⟨_, rfl⟩
  obtain ⟨rs, hrs⟩ : ∃ rs, rs = cmpI (x * 2 ^ k) y := ⟨_, rfl⟩
  rw [← hbxe] at hbx
  rw [← hbye] at hby
  rw [← hrs]
  have HA : Hid (ZR w s p m x) := h
  have HB : Hid (ZR w t q n y) := k0
  have HM : Hid (m ≤ 10000 ∧ n ≤ 10000 ∧ 0 < x ∧ 0 < y) := ⟨hm, hn, hx, hy⟩
  have HX : Hid (bx = bitsN x.natAbs ∧ yb = bitsN y.natAbs ∧ rs = cmpI (x * 2 ^ k) y ∧ k ≤ 40000) := ⟨hbxe, hbye, hrs, hk.2⟩
  have HLT : Hid (tt < uu → rs = -1) := fun h => by
    have := (bits_cmpw (k := k) hx hy).1 (by rw [← hbxe, ← hbye]; omega)
    rw [hrs]; exact cmp_ltw this
  have HGT : Hid (uu < tt → rs = 1) := fun h => by
    have := (bits_cmpw (k := k) hx hy).2 (by rw [← hbxe, ← hbye]; omega)
    rw [hrs]; exact cmp_gtw this
  have w1 : IntKind.i64.wrap ((bx : Int) + e) = tt := by rw [htt]; simp [IntKind.wrap, IntKind.signed, IntKind.bits]; omega
  have w2 : IntKind.i64.wrap ((yb : Int) + f) = uu := by rw [huu]; simp [IntKind.wrap, IntKind.signed, IntKind.bits]; omega
  have c3 : decide (f < e) = true := decide_eq_true (by omega)
  have w3 : IntKind.i64.wrap (e - f) = (k : Int) := by rw [show e - f = (k : Int) by omega]; simp [IntKind.wrap, IntKind.signed, IntKind.bits]; omega
  have w4 : wrap64 (e - f) = (k : Int) := by rw [show e - f = (k : Int) by omega]; simp only [wrap64]; omega
  clear h k0 hm hn hx hy hk he hf hef hbx hby hbxe hbye htt huu hrs
  go_enter Tryz.func76, Tryz.ntmps76
  go_wp2_with fail
  obtain ⟨W0, hW0⟩ : ∃ W0, W0 = ((w.alloc (.cells #[.bool s, .slice p m m] 122)).alloc (.cells #[.bool t, .slice q n n] 122)) := ⟨_, rfl⟩
  have Xm : Hid (Box W0 (w.heap.size) (.bool s) (.slice p m m)) := by rw [hW0]; exact ⟨by go_simp, by go_simp, by go_simp, by go_simp⟩
  have Xl : Hid (Box W0 (w.heap.size + 1) (.bool t) (.slice q n n)) := by rw [hW0]; exact ⟨by go_simp, by go_simp, by go_simp, by go_simp⟩
  have hb0 : Below w.heap.size w W0 := by rw [hW0]; exact below2 w _ _
  rw [← hW0]
  clear hW0
  have hbw : Below w.heap.size w w := Below.refl _ _
  obtain ⟨gl, hgl⟩ : ∃ g, g = w.heap.size + 1 := ⟨_, rfl⟩
  have HGl : Hid (w.heap.size ≤ gl) := by rw [hgl]; show _ ≤ _; omega
  rw [← hgl] at Xl
  try rw [← hgl]
  obtain ⟨gm, hgm⟩ : ∃ g, g = w.heap.size := ⟨_, rfl⟩
  have HGm : Hid (w.heap.size ≤ gm) := by rw [hgm]; show _ ≤ _; omega
  rw [← hgm] at Xm
  try rw [← hgm]
  have HGD : Hid (gm ≠ gl ∧ gl ≠ gm) := by rw [hgm, hgl]; exact ⟨by omega, by omega⟩
  clear hgm hgl
  replace HA : Hid _ := HA.out.below hb0
  replace HB : Hid _ := HB.out.below hb0
  replace hbw := Below.on hbw hb0
  clear hb0
  obtain ⟨W1, hW1⟩ : ∃ W1, W1 = W0.drew := ⟨_, rfl⟩
  have hbd : Below W0.heap.size W0 W1 := by rw [hW1]; exact bDrew1 (Below.refl _ _)
  replace Xm : Hid _ := Xm.out.below hbd
  replace Xl : Hid _ := Xl.out.below hbd
  replace HA : Hid _ := HA.out.below hbd
  replace HB : Hid _ := HB.out.below hbd
  replace hbw := Below.on hbw hbd
  clear hbd
  have HJ : Hid ((fun W' : World => W'.cell? ⟨gm, 0, none⟩ = some (.bool s) ∧ W'.cell? ⟨gm, 1, none⟩ = some (.slice p m m) ∧ W'.cell? ⟨gl, 0, none⟩ = some (.bool t) ∧ W'.cell? ⟨gl, 1, none⟩ = some (.slice q n n)) W1) := ⟨Xm.out.c0, Xm.out.c1, Xl.out.c0, Xl.out.c1⟩
  refine wp_region_J (fun W' => W'.cell? ⟨gm, 0, none⟩ = some (.bool s) ∧ W'.cell? ⟨gm, 1, none⟩ = some (.slice p m m) ∧ W'.cell? ⟨gl, 0, none⟩ = some (.bool t) ∧ W'.cell? ⟨gl, 1, none⟩ = some (.slice q n n)) (by kernel_rfl) ?_
  rw [← hW1]
  clear hW1
  refine wpJ_tq 0 rfl HJ.out ?_
  refine wpJ_tq 2 rfl HJ.out ?_
  refine wpJ_on 1 rfl fun KJ hK => ?_
  go_simp
  refine (rsign04 s HA.out).mono ?_
  rintro e v1 ⟨rfl, hb1⟩
  rw [sgn_posw HM.out.2.2.1]
  replace Xm : Hid _ := Xm.out.below hb1
  replace Xl : Hid _ := Xl.out.below hb1
  replace HA : Hid _ := HA.out.below hb1
  replace HB : Hid _ := HB.out.below hb1
  replace hbw := Below.on hbw hb1
  clear hb1
  refine hK _ _ ⟨Xm.out.c0, Xm.out.c1, Xl.out.c0, Xl.out.c1⟩ ?_
  clear hK
  refine wpJ_on 3 rfl fun KJ hK => ?_
  go_simp
  refine (rsign04 t HB.out).mono ?_
  rintro e v2 ⟨rfl, hb2⟩
  rw [sgn_posw HM.out.2.2.2]
  replace Xm : Hid _ := Xm.out.below hb2
  replace Xl : Hid _ := Xl.out.below hb2
  replace HA : Hid _ := HA.out.below hb2
  replace HB : Hid _ := HB.out.below hb2
  replace hbw := Below.on hbw hb2
  clear hb2
  clear HJ
  have HJ : Hid ((fun W' : World => W'.cell? ⟨gm, 0, none⟩ = some (.bool s) ∧ W'.cell? ⟨gm, 1, none⟩ = some (.slice p m m) ∧ W'.cell? ⟨gl, 0, none⟩ = some (.bool t) ∧ W'.cell? ⟨gl, 1, none⟩ = some (.slice q n n)) v2) := ⟨Xm.out.c0, Xm.out.c1, Xl.out.c0, Xl.out.c1⟩
  refine hK _ _ HJ.out ?_
  clear hK
  refine wpJ_tq 4 rfl HJ.out ?_
  refine wpJ_tq 5 rfl HJ.out ?_
  refine wpJ_tq 6 rfl HJ.out ?_
  refine wpJ_on 7 rfl fun KJ hK => ?_
  go_simp
  refine (rsign04 s HA.out).mono ?_
  rintro e v3 ⟨rfl, hb3⟩
  rw [sgn_posw HM.out.2.2.1]
  replace Xm : Hid _ := Xm.out.below hb3
  replace Xl : Hid _ := Xl.out.below hb3
  replace HA : Hid _ := HA.out.below hb3
  replace HB : Hid _ := HB.out.below hb3
  replace hbw := Below.on hbw hb3
  clear hb3
  clear HJ
  have HJ : Hid ((fun W' : World => W'.cell? ⟨gm, 0, none⟩ = some (.bool s) ∧ W'.cell? ⟨gm, 1, none⟩ = some (.slice p m m) ∧ W'.cell? ⟨gl, 0, none⟩ = some (.bool t) ∧ W'.cell? ⟨gl, 1, none⟩ = some (.slice q n n)) v3) := ⟨Xm.out.c0, Xm.out.c1, Xl.out.c0, Xl.out.c1⟩
  refine hK _ _ HJ.out ?_
  clear hK
  refine wpJ_tq 8 rfl HJ.out ?_
  refine wpJ_tq 9 rfl HJ.out ?_
  refine wpJ_done (by kernel_rfl) ?_ _
  clear HJ
  obtain ⟨cm0, cm1, fm0, fm1⟩ := Xm.out
  have hnem := Xm.out.lt
  obtain ⟨cl0, cl1, fl0, fl1⟩ := Xl.out
  have hnel := Xl.out.lt
  go_wp2_with fail
  clear cm0 cm1 fm0 fm1 hnem
  clear cl0 cl1 fl0 fl1 hnel
  refine (rsign04 s HA.out).mono ?_
  rintro e v4 ⟨rfl, hb4⟩
  rw [sgn_posw HM.out.2.2.1]
  replace Xm : Hid _ := Xm.out.below hb4
  replace Xl : Hid _ := Xl.out.below hb4
  replace HA : Hid _ := HA.out.below hb4
  replace HB : Hid _ := HB.out.below hb4
  replace hbw := Below.on hbw hb4
  clear hb4
  obtain ⟨cm0, cm1, fm0, fm1⟩ := Xm.out
  have hnem := Xm.out.lt
  obtain ⟨cl0, cl1, fl0, fl1⟩ := Xl.out
  have hnel := Xl.out.lt
  go_wp2_with fail
  clear cm0 cm1 fm0 fm1 hnem
  clear cl0 cl1 fl0 fl1 hnel
  obtain ⟨W2, hW2⟩ : ∃ W1, W1 = v4.drew := ⟨_, rfl⟩
  have hbd : Below v4.heap.size v4 W2 := by rw [hW2]; exact bDrew1 (Below.refl _ _)
  replace Xm : Hid _ := Xm.out.below hbd
  replace Xl : Hid _ := Xl.out.below hbd
  replace HA : Hid _ := HA.out.below hbd
  replace HB : Hid _ := HB.out.below hbd
  replace hbw := Below.on hbw hbd
  clear hbd
  have HJ : Hid ((fun W' : World => W'.cell? ⟨gm, 1, none⟩ = some (.slice p m m) ∧ W'.cell? ⟨gl, 1, none⟩ = some (.slice q n n)) W2) := ⟨Xm.out.c1, Xl.out.c1⟩
  refine wp_region_J (fun W' => W'.cell? ⟨gm, 1, none⟩ = some (.slice p m m) ∧ W'.cell? ⟨gl, 1, none⟩ = some (.slice q n n)) (by kernel_rfl) ?_
  rw [← hW2]
  clear hW2
  refine wpJ_tq 0 rfl HJ.out ?_
  refine wpJ_tq 1 rfl HJ.out ?_
  refine wpJ_tq 3 rfl HJ.out ?_
  refine wpJ_tq 5 rfl HJ.out ?_
  refine wpJ_tq 6 rfl HJ.out ?_
  go_simp
  refine wpJ_tq 8 rfl HJ.out ?_
  refine wpJ_on 2 rfl fun KJ hK => ?_
  go_simp
  obtain ⟨zs, hA, hN⟩ := HA.out.ex
  refine (rbits_any hA hN (by have := HM.out.1; omega)).mono ?_
  rintro e1 v5 ⟨rfl, hw⟩
  obtain rfl := hw.symm
  clear hw hA hN
  rw [← HX.out.1]
  clear HJ
  have HJ : Hid ((fun W' : World => W'.cell? ⟨gm, 1, none⟩ = some (.slice p m m) ∧ W'.cell? ⟨gl, 1, none⟩ = some (.slice q n n)) W2) := ⟨Xm.out.c1, Xl.out.c1⟩
  refine hK _ _ HJ.out ?_
  clear hK
  refine wpJ_tq 4 rfl HJ.out ?_
  refine wpJ_on 7 rfl fun KJ hK => ?_
  go_simp
  obtain ⟨zs, hA, hN⟩ := HB.out.ex
  refine (rbits_any hA hN (by have := HM.out.2.1; omega)).mono ?_
  rintro e1 v6 ⟨rfl, hw⟩
  obtain rfl := hw.symm
  clear hw hA hN
  rw [← HX.out.2.1]
  clear HJ
  have HJ : Hid ((fun W' : World => W'.cell? ⟨gm, 1, none⟩ = some (.slice p m m) ∧ W'.cell? ⟨gl, 1, none⟩ = some (.slice q n n)) W2) := ⟨Xm.out.c1, Xl.out.c1⟩
  refine hK _ _ HJ.out ?_
  clear hK
  refine wpJ_tq 9 rfl HJ.out ?_
  refine wpJ_tq 10 rfl HJ.out ?_
  refine wpJ_tq 11 rfl HJ.out ?_
  refine wpJ_done (by kernel_rfl) ?_ _
  clear HJ
  rcases Int.lt_trichotomy tt uu with h5 | h5 | h5
  · have c1 : decide (tt < uu) = true := decide_eq_true h5
    have HT : Hid (tt < uu) := h5
    clear h5
    obtain ⟨cm0, cm1, fm0, fm1⟩ := Xm.out
    have hnem := Xm.out.lt
    obtain ⟨cl0, cl1, fl0, fl1⟩ := Xl.out
    have hnel := Xl.out.lt
    go_wp2_with fail
    clear cm0 cm1 fm0 fm1 hnem
    clear cl0 cl1 fl0 fl1 hnel
    go_ret
    rw [HLT.out HT.out]
    exact ⟨rfl, hbw⟩
  · have c1 : decide (tt < uu) = false := decide_eq_false (by rw [h5]; exact Int.lt_irrefl _)
    have c2 : decide (uu < tt) = false := decide_eq_false (by rw [h5]; exact Int.lt_irrefl _)
    clear h5 HLT HGT
    go_wp2_with fail
    obtain ⟨W3, hW3⟩ : ∃ W1, W1 = W2.drew := ⟨_, rfl⟩
    have hbd : Below W2.heap.size W2 W3 := by rw [hW3]; exact bDrew1 (Below.refl _ _)
    replace Xm : Hid _ := Xm.out.below hbd
    replace Xl : Hid _ := Xl.out.below hbd
    replace HA : Hid _ := HA.out.below hbd
    replace HB : Hid _ := HB.out.below hbd
    replace hbw := Below.on hbw hbd
    clear hbd
    have HJ : Hid ((fun W' : World => W'.cell? ⟨gm, 0, none⟩ = some (.bool s) ∧ W'.cell? ⟨gm, 1, none⟩ = some (.slice p m m) ∧ W'.cell? ⟨gl, 0, none⟩ = some (.bool t) ∧ W'.cell? ⟨gl, 1, none⟩ = some (.slice q n n)) W3) := ⟨Xm.out.c0, Xm.out.c1, Xl.out.c0, Xl.out.c1⟩
    refine wp_region_J (fun W' => W'.cell? ⟨gm, 0, none⟩ = some (.bool s) ∧ W'.cell? ⟨gm, 1, none⟩ = some (.slice p m m) ∧ W'.cell? ⟨gl, 0, none⟩ = some (.bool t) ∧ W'.cell? ⟨gl, 1, none⟩ = some (.slice q n n)) (by kernel_rfl) ?_
    rw [← hW3]
    clear hW3
    refine wpJ_tq 0 rfl HJ.out ?_
    refine wpJ_tq 1 rfl HJ.out ?_
    refine wpJ_tq 2 rfl HJ.out ?_
    refine wpJ_tq 3 rfl HJ.out ?_
    refine wpJ_tq 5 rfl HJ.out ?_
    refine wpJ_on 4 rfl fun KJ hK => ?_
    go_simp
    refine (rshl04 s HA.out (by have := HM.out.1; omega) k (.inl (by have := HX.out.2.2.2; omega))).mono ?_
    rintro e v8 ⟨v, rfl, hv, hb8⟩
    obtain ⟨s8, g8, m8, rfl, hg8, hz8, hl8⟩ := hv
    have HN8 : Hid (W3.heap.size ≤ g8) := hg8
    have HB8 : Hid (W3.heap.size ≤ v8.heap.size) := hb8.size
    replace Xm : Hid _ := Xm.out.below hb8
    replace Xl : Hid _ := Xl.out.below hb8
    replace HA : Hid _ := HA.out.below hb8
    replace HB : Hid _ := HB.out.below hb8
    replace hbw := Below.on hbw hb8
    clear hb8
    have Z8 : Hid (ZR v8 s8 (some ⟨g8, 0, none⟩) m8 (x * 2 ^ k)) := hz8
    have HL8 : Hid (m8 ≤ 40000) := hl8
    clear hz8 hl8 hg8
    refine hK _ _ ⟨Xm.out.c0, Xm.out.c1, Xl.out.c0, Xl.out.c1⟩ ?_
    clear hK
    refine wpJ_on 6 rfl fun KJ hK => ?_
    go_simp
    refine (rcmp04 s8 t Z8.out HB.out (by have := HL8.out; omega) (by have := HM.out.2.1; omega)).mono ?_
    rintro e v9 ⟨rfl, hb9⟩
    rw [← HX.out.2.2.1]
    replace Xm : Hid _ := Xm.out.below hb9
    replace Xl : Hid _ := Xl.out.below hb9
    replace HA : Hid _ := HA.out.below hb9
    replace HB : Hid _ := HB.out.below hb9
    replace Z8 : Hid _ := Z8.out.below hb9
    replace hbw := Below.on hbw hb9
    clear hb9
    clear HJ
    have HJ : Hid ((fun W' : World => W'.cell? ⟨gm, 0, none⟩ = some (.bool s) ∧ W'.cell? ⟨gm, 1, none⟩ = some (.slice p m m) ∧ W'.cell? ⟨gl, 0, none⟩ = some (.bool t) ∧ W'.cell? ⟨gl, 1, none⟩ = some (.slice q n n)) v9) := ⟨Xm.out.c0, Xm.out.c1, Xl.out.c0, Xl.out.c1⟩
    refine hK _ _ HJ.out ?_
    clear hK
    refine wpJ_tq 7 rfl HJ.out ?_
    refine wpJ_done (by kernel_rfl) ?_ _
    clear HJ
    go_wp2_with fail
    go_ret
    exact ⟨rfl, hbw⟩
  · have c1 : decide (tt < uu) = false := decide_eq_false (Int.lt_asymm h5)
    have c2 : decide (uu < tt) = true := decide_eq_true h5
    have HT : Hid (uu < tt) := h5
    clear h5
    obtain ⟨cm0, cm1, fm0, fm1⟩ := Xm.out
    have hnem := Xm.out.lt
    obtain ⟨cl0, cl1, fl0, fl1⟩ := Xl.out
    have hnel := Xl.out.lt
    go_wp2_with fail
    clear cm0 cm1 fm0 fm1 hnem
    clear cl0 cl1 fl0 fl1 hnel
    go_ret
    rw [HGT.out HT.out]
    exact ⟨rfl, hbw⟩
theorem rholdw_l {p q : Option Addr} {m n k : Nat} {w : World} {x y e f : Int} (s t : Bool) (h : ZR w s p m x) (k0 : ZR w t q n y) (hm : m ≤ 10000) (hn : n ≤ 10000) (hx : 0 < x) (hy : 0 < y) (hbx : bitsN x.natAbs ≤ 100000) (hby : bitsN y.natAbs ≤ 100000) (hk : k ≤ 40000) (he : -40000 ≤ e ∧ e ≤ 40000) (hf : -40000 ≤ f ∧ f ≤ 40000) (hef : f = e + (k : Int)) :
    Calls Tryz.prog 76 #[.agg #[.bool s, .slice p m m], .int .i64 e, .agg #[.bool t, .slice q n n], .int .i64 f] w fun en w' => en = .returned (.int .i64 (cmpI x (y * 2 ^ k))) ∧ Below w.heap.size w w' := by
  obtain ⟨bx, hbxe⟩ : ∃ bx, bx = bitsN x.natAbs := ⟨_, rfl⟩
  obtain ⟨yb, hbye⟩ : ∃ yb, yb = bitsN y.natAbs := ⟨_, rfl⟩
  obtain ⟨tt, htt⟩ : ∃ tt : Int, tt = (bx : Int) + e := ⟨_, rfl⟩
  obtain ⟨uu, huu⟩ : ∃ uu : Int, uu = (yb : Int) + f := ⟨_, rfl⟩
  obtain ⟨rs, hrs⟩ : ∃ rs, rs = cmpI x (y * 2 ^ k) := ⟨_, rfl⟩
  rw [← hbxe] at hbx
  rw [← hbye] at hby
  rw [← hrs]
  have HA : Hid (ZR w s p m x) := h
  have HB : Hid (ZR w t q n y) := k0
  have HM : Hid (m ≤ 10000 ∧ n ≤ 10000 ∧ 0 < x ∧ 0 < y) := ⟨hm, hn, hx, hy⟩
  have HX : Hid (bx = bitsN x.natAbs ∧ yb = bitsN y.natAbs ∧ rs = cmpI x (y * 2 ^ k) ∧ k ≤ 40000) := ⟨hbxe, hbye, hrs, hk⟩
  have HLT : Hid (tt < uu → rs = -1) := fun h => by
    have := (bits_cmpw (k := k) hy hx).2 (by rw [← hbxe, ← hbye]; omega)
    rw [hrs]; exact cmp_ltw this
  have HGT : Hid (uu < tt → rs = 1) := fun h => by
    have := (bits_cmpw (k := k) hy hx).1 (by rw [← hbxe, ← hbye]; omega)
    rw [hrs]; exact cmp_gtw this
  have w1 : IntKind.i64.wrap ((bx : Int) + e) = tt := by rw [htt]; simp [IntKind.wrap, IntKind.signed, IntKind.bits]; omega
  have w2 : IntKind.i64.wrap ((yb : Int) + f) = uu := by rw [huu]; simp [IntKind.wrap, IntKind.signed, IntKind.bits]; omega
  have c3 : decide (f < e) = false := decide_eq_false (by omega)
  have w3 : IntKind.i64.wrap (f - e) = (k : Int) := by rw [show f - e = (k : Int) by omega]; simp [IntKind.wrap, IntKind.signed, IntKind.bits]; omega
  have w4 : wrap64 (f - e) = (k : Int) := by rw [show f - e = (k : Int) by omega]; simp only [wrap64]; omega
  clear h k0 hm hn hx hy hk he hf hef hbx hby hbxe hbye htt huu hrs
  go_enter Tryz.func76, Tryz.ntmps76
  go_wp2_with fail
  obtain ⟨W0, hW0⟩ : ∃ W0, W0 = ((w.alloc (.cells #[.bool s, .slice p m m] 122)).alloc (.cells #[.bool t, .slice q n n] 122)) := ⟨_, rfl⟩
  have Xm : Hid (Box W0 (w.heap.size) (.bool s) (.slice p m m)) := by rw [hW0]; exact ⟨by go_simp, by go_simp, by go_simp, by go_simp⟩
  have Xl : Hid (Box W0 (w.heap.size + 1) (.bool t) (.slice q n n)) := by rw [hW0]; exact ⟨by go_simp, by go_simp, by go_simp, by go_simp⟩
  have hb0 : Below w.heap.size w W0 := by rw [hW0]; exact below2 w _ _
  rw [← hW0]
  clear hW0
  have hbw : Below w.heap.size w w := Below.refl _ _
  obtain ⟨gl, hgl⟩ : ∃ g, g = w.heap.size + 1 := ⟨_, rfl⟩
  have HGl : Hid (w.heap.size ≤ gl) := by rw [hgl]; show _ ≤ _; omega
  rw [← hgl] at Xl
  try rw [← hgl]
  obtain ⟨gm, hgm⟩ : ∃ g, g = w.heap.size := ⟨_, rfl⟩
  have HGm : Hid (w.heap.size ≤ gm) := by rw [hgm]; show _ ≤ _; omega
  rw [← hgm] at Xm
  try rw [← hgm]
  have HGD : Hid (gm ≠ gl ∧ gl ≠ gm) := by rw [hgm, hgl]; exact ⟨by omega, by omega⟩
  clear hgm hgl
  replace HA : Hid _ := HA.out.below hb0
  replace HB : Hid _ := HB.out.below hb0
  replace hbw := Below.on hbw hb0
  clear hb0
  obtain ⟨W1, hW1⟩ : ∃ W1, W1 = W0.drew := ⟨_, rfl⟩
  have hbd : Below W0.heap.size W0 W1 := by rw [hW1]; exact bDrew1 (Below.refl _ _)
  replace Xm : Hid _ := Xm.out.below hbd
  replace Xl : Hid _ := Xl.out.below hbd
  replace HA : Hid _ := HA.out.below hbd
  replace HB : Hid _ := HB.out.below hbd
  replace hbw := Below.on hbw hbd
  clear hbd
  have HJ : Hid ((fun W' : World => W'.cell? ⟨gm, 0, none⟩ = some (.bool s) ∧ W'.cell? ⟨gm, 1, none⟩ = some (.slice p m m) ∧ W'.cell? ⟨gl, 0, none⟩ = some (.bool t) ∧ W'.cell? ⟨gl, 1, none⟩ = some (.slice q n n)) W1) := ⟨Xm.out.c0, Xm.out.c1, Xl.out.c0, Xl.out.c1⟩
  refine wp_region_J (fun W' => W'.cell? ⟨gm, 0, none⟩ = some (.bool s) ∧ W'.cell? ⟨gm, 1, none⟩ = some (.slice p m m) ∧ W'.cell? ⟨gl, 0, none⟩ = some (.bool t) ∧ W'.cell? ⟨gl, 1, none⟩ = some (.slice q n n)) (by kernel_rfl) ?_
  rw [← hW1]
  clear hW1
  refine wpJ_tq 0 rfl HJ.out ?_
  refine wpJ_tq 2 rfl HJ.out ?_
  refine wpJ_on 1 rfl fun KJ hK => ?_
  go_simp
  refine (rsign04 s HA.out).mono ?_
  rintro e v1 ⟨rfl, hb1⟩
  rw [sgn_posw HM.out.2.2.1]
  replace Xm : Hid _ := Xm.out.below hb1
  replace Xl : Hid _ := Xl.out.below hb1
  replace HA : Hid _ := HA.out.below hb1
  replace HB : Hid _ := HB.out.below hb1
  replace hbw := Below.on hbw hb1
  clear hb1
  refine hK _ _ ⟨Xm.out.c0, Xm.out.c1, Xl.out.c0, Xl.out.c1⟩ ?_
  clear hK
  refine wpJ_on 3 rfl fun KJ hK => ?_
  go_simp
  refine (rsign04 t HB.out).mono ?_
  rintro e v2 ⟨rfl, hb2⟩
  rw [sgn_posw HM.out.2.2.2]
  replace Xm : Hid _ := Xm.out.below hb2
  replace Xl : Hid _ := Xl.out.below hb2
  replace HA : Hid _ := HA.out.below hb2
  replace HB : Hid _ := HB.out.below hb2
  replace hbw := Below.on hbw hb2
  clear hb2
  clear HJ
  have HJ : Hid ((fun W' : World => W'.cell? ⟨gm, 0, none⟩ = some (.bool s) ∧ W'.cell? ⟨gm, 1, none⟩ = some (.slice p m m) ∧ W'.cell? ⟨gl, 0, none⟩ = some (.bool t) ∧ W'.cell? ⟨gl, 1, none⟩ = some (.slice q n n)) v2) := ⟨Xm.out.c0, Xm.out.c1, Xl.out.c0, Xl.out.c1⟩
  refine hK _ _ HJ.out ?_
  clear hK
  refine wpJ_tq 4 rfl HJ.out ?_
  refine wpJ_tq 5 rfl HJ.out ?_
  refine wpJ_tq 6 rfl HJ.out ?_
  refine wpJ_on 7 rfl fun KJ hK => ?_
  go_simp
  refine (rsign04 s HA.out).mono ?_
  rintro e v3 ⟨rfl, hb3⟩
  rw [sgn_posw HM.out.2.2.1]
  replace Xm : Hid _ := Xm.out.below hb3
  replace Xl : Hid _ := Xl.out.below hb3
  replace HA : Hid _ := HA.out.below hb3
  replace HB : Hid _ := HB.out.below hb3
  replace hbw := Below.on hbw hb3
  clear hb3
  clear HJ
  have HJ : Hid ((fun W' : World => W'.cell? ⟨gm, 0, none⟩ = some (.bool s) ∧ W'.cell? ⟨gm, 1, none⟩ = some (.slice p m m) ∧ W'.cell? ⟨gl, 0, none⟩ = some (.bool t) ∧ W'.cell? ⟨gl, 1, none⟩ = some (.slice q n n)) v3) := ⟨Xm.out.c0, Xm.out.c1, Xl.out.c0, Xl.out.c1⟩
  refine hK _ _ HJ.out ?_
  clear hK
  refine wpJ_tq 8 rfl HJ.out ?_
  refine wpJ_tq 9 rfl HJ.out ?_
  refine wpJ_done (by kernel_rfl) ?_ _
  clear HJ
  obtain ⟨cm0, cm1, fm0, fm1⟩ := Xm.out
  have hnem := Xm.out.lt
  obtain ⟨cl0, cl1, fl0, fl1⟩ := Xl.out
  have hnel := Xl.out.lt
  go_wp2_with fail
  clear cm0 cm1 fm0 fm1 hnem
  clear cl0 cl1 fl0 fl1 hnel
  refine (rsign04 s HA.out).mono ?_
  rintro e v4 ⟨rfl, hb4⟩
  rw [sgn_posw HM.out.2.2.1]
  replace Xm : Hid _ := Xm.out.below hb4
  replace Xl : Hid _ := Xl.out.below hb4
  replace HA : Hid _ := HA.out.below hb4
  replace HB : Hid _ := HB.out.below hb4
  replace hbw := Below.on hbw hb4
  clear hb4
  obtain ⟨cm0, cm1, fm0, fm1⟩ := Xm.out
  have hnem := Xm.out.lt
  obtain ⟨cl0, cl1, fl0, fl1⟩ := Xl.out
  have hnel := Xl.out.lt
  go_wp2_with fail
  clear cm0 cm1 fm0 fm1 hnem
  clear cl0 cl1 fl0 fl1 hnel
  obtain ⟨W2, hW2⟩ : ∃ W1, W1 = v4.drew := ⟨_, rfl⟩
  have hbd : Below v4.heap.size v4 W2 := by rw [hW2]; exact bDrew1 (Below.refl _ _)
  replace Xm : Hid _ := Xm.out.below hbd
  replace Xl : Hid _ := Xl.out.below hbd
  replace HA : Hid _ := HA.out.below hbd
  replace HB : Hid _ := HB.out.below hbd
  replace hbw := Below.on hbw hbd
  clear hbd
  have HJ : Hid ((fun W' : World => W'.cell? ⟨gm, 1, none⟩ = some (.slice p m m) ∧ W'.cell? ⟨gl, 1, none⟩ = some (.slice q n n)) W2) := ⟨Xm.out.c1, Xl.out.c1⟩
  refine wp_region_J (fun W' => W'.cell? ⟨gm, 1, none⟩ = some (.slice p m m) ∧ W'.cell? ⟨gl, 1, none⟩ = some (.slice q n n)) (by kernel_rfl) ?_
  rw [← hW2]
  clear hW2
  refine wpJ_tq 0 rfl HJ.out ?_
  refine wpJ_tq 1 rfl HJ.out ?_
  refine wpJ_tq 3 rfl HJ.out ?_
  refine wpJ_tq 5 rfl HJ.out ?_
  refine wpJ_tq 6 rfl HJ.out ?_
  go_simp
  refine wpJ_tq 8 rfl HJ.out ?_
  refine wpJ_on 2 rfl fun KJ hK => ?_
  go_simp
  obtain ⟨zs, hA, hN⟩ := HA.out.ex
  refine (rbits_any hA hN (by have := HM.out.1; omega)).mono ?_
  rintro e1 v5 ⟨rfl, hw⟩
  obtain rfl := hw.symm
  clear hw hA hN
  rw [← HX.out.1]
  clear HJ
  have HJ : Hid ((fun W' : World => W'.cell? ⟨gm, 1, none⟩ = some (.slice p m m) ∧ W'.cell? ⟨gl, 1, none⟩ = some (.slice q n n)) W2) := ⟨Xm.out.c1, Xl.out.c1⟩
  refine hK _ _ HJ.out ?_
  clear hK
  refine wpJ_tq 4 rfl HJ.out ?_
  refine wpJ_on 7 rfl fun KJ hK => ?_
  go_simp
  obtain ⟨zs, hA, hN⟩ := HB.out.ex
  refine (rbits_any hA hN (by have := HM.out.2.1; omega)).mono ?_
  rintro e1 v6 ⟨rfl, hw⟩
  obtain rfl := hw.symm
  clear hw hA hN
  rw [← HX.out.2.1]
  clear HJ
  have HJ : Hid ((fun W' : World => W'.cell? ⟨gm, 1, none⟩ = some (.slice p m m) ∧ W'.cell? ⟨gl, 1, none⟩ = some (.slice q n n)) W2) := ⟨Xm.out.c1, Xl.out.c1⟩
  refine hK _ _ HJ.out ?_
  clear hK
  refine wpJ_tq 9 rfl HJ.out ?_
  refine wpJ_tq 10 rfl HJ.out ?_
  refine wpJ_tq 11 rfl HJ.out ?_
  refine wpJ_done (by kernel_rfl) ?_ _
  clear HJ
  rcases Int.lt_trichotomy tt uu with h5 | h5 | h5
  · have c1 : decide (tt < uu) = true := decide_eq_true h5
    have HT : Hid (tt < uu) := h5
    clear h5
    obtain ⟨cm0, cm1, fm0, fm1⟩ := Xm.out
    have hnem := Xm.out.lt
    obtain ⟨cl0, cl1, fl0, fl1⟩ := Xl.out
    have hnel := Xl.out.lt
    go_wp2_with fail
    clear cm0 cm1 fm0 fm1 hnem
    clear cl0 cl1 fl0 fl1 hnel
    go_ret
    rw [HLT.out HT.out]
    exact ⟨rfl, hbw⟩
  · have c1 : decide (tt < uu) = false := decide_eq_false (by rw [h5]; exact Int.lt_irrefl _)
    have c2 : decide (uu < tt) = false := decide_eq_false (by rw [h5]; exact Int.lt_irrefl _)
    clear h5 HLT HGT
    go_wp2_with fail
    obtain ⟨W3, hW3⟩ : ∃ W1, W1 = W2.drew := ⟨_, rfl⟩
    have hbd : Below W2.heap.size W2 W3 := by rw [hW3]; exact bDrew1 (Below.refl _ _)
    replace Xm : Hid _ := Xm.out.below hbd
    replace Xl : Hid _ := Xl.out.below hbd
    replace HA : Hid _ := HA.out.below hbd
    replace HB : Hid _ := HB.out.below hbd
    replace hbw := Below.on hbw hbd
    clear hbd
    have HJ : Hid ((fun W' : World => W'.cell? ⟨gm, 0, none⟩ = some (.bool s) ∧ W'.cell? ⟨gm, 1, none⟩ = some (.slice p m m) ∧ W'.cell? ⟨gl, 0, none⟩ = some (.bool t) ∧ W'.cell? ⟨gl, 1, none⟩ = some (.slice q n n)) W3) := ⟨Xm.out.c0, Xm.out.c1, Xl.out.c0, Xl.out.c1⟩
    refine wp_region_J (fun W' => W'.cell? ⟨gm, 0, none⟩ = some (.bool s) ∧ W'.cell? ⟨gm, 1, none⟩ = some (.slice p m m) ∧ W'.cell? ⟨gl, 0, none⟩ = some (.bool t) ∧ W'.cell? ⟨gl, 1, none⟩ = some (.slice q n n)) (by kernel_rfl) ?_
    rw [← hW3]
    clear hW3
    refine wpJ_tq 0 rfl HJ.out ?_
    refine wpJ_tq 1 rfl HJ.out ?_
    refine wpJ_tq 2 rfl HJ.out ?_
    refine wpJ_tq 3 rfl HJ.out ?_
    refine wpJ_tq 4 rfl HJ.out ?_
    refine wpJ_on 5 rfl fun KJ hK => ?_
    go_simp
    refine (rshl04 t HB.out (by have := HM.out.2.1; omega) k (.inl (by have := HX.out.2.2.2; omega))).mono ?_
    rintro e v8 ⟨v, rfl, hv, hb8⟩
    obtain ⟨s8, g8, m8, rfl, hg8, hz8, hl8⟩ := hv
    have HN8 : Hid (W3.heap.size ≤ g8) := hg8
    have HB8 : Hid (W3.heap.size ≤ v8.heap.size) := hb8.size
    replace Xm : Hid _ := Xm.out.below hb8
    replace Xl : Hid _ := Xl.out.below hb8
    replace HA : Hid _ := HA.out.below hb8
    replace HB : Hid _ := HB.out.below hb8
    replace hbw := Below.on hbw hb8
    clear hb8
    have Z8 : Hid (ZR v8 s8 (some ⟨g8, 0, none⟩) m8 (y * 2 ^ k)) := hz8
    have HL8 : Hid (m8 ≤ 40000) := hl8
    clear hz8 hl8 hg8
    refine hK _ _ ⟨Xm.out.c0, Xm.out.c1, Xl.out.c0, Xl.out.c1⟩ ?_
    clear hK
    refine wpJ_on 6 rfl fun KJ hK => ?_
    go_simp
    refine (rcmp04 s s8 HA.out Z8.out (by have := HM.out.1; omega) (by have := HL8.out; omega)).mono ?_
    rintro e v9 ⟨rfl, hb9⟩
    rw [← HX.out.2.2.1]
    replace Xm : Hid _ := Xm.out.below hb9
    replace Xl : Hid _ := Xl.out.below hb9
    replace HA : Hid _ := HA.out.below hb9
    replace HB : Hid _ := HB.out.below hb9
    replace Z8 : Hid _ := Z8.out.below hb9
    replace hbw := Below.on hbw hb9
    clear hb9
    clear HJ
    have HJ : Hid ((fun W' : World => W'.cell? ⟨gm, 0, none⟩ = some (.bool s) ∧ W'.cell? ⟨gm, 1, none⟩ = some (.slice p m m) ∧ W'.cell? ⟨gl, 0, none⟩ = some (.bool t) ∧ W'.cell? ⟨gl, 1, none⟩ = some (.slice q n n)) v9) := ⟨Xm.out.c0, Xm.out.c1, Xl.out.c0, Xl.out.c1⟩
    refine hK _ _ HJ.out ?_
    clear hK
    refine wpJ_tq 7 rfl HJ.out ?_
    refine wpJ_done (by kernel_rfl) ?_ _
    clear HJ
    go_wp2_with fail
    go_ret
    exact ⟨rfl, hbw⟩
  · have c1 : decide (tt < uu) = false := decide_eq_false (Int.lt_asymm h5)
    have c2 : decide (uu < tt) = true := decide_eq_true h5
    have HT : Hid (uu < tt) := h5
    clear h5
    obtain ⟨cm0, cm1, fm0, fm1⟩ := Xm.out
    have hnem := Xm.out.lt
    obtain ⟨cl0, cl1, fl0, fl1⟩ := Xl.out
    have hnel := Xl.out.lt
    go_wp2_with fail
    clear cm0 cm1 fm0 fm1 hnem
    clear cl0 cl1 fl0 fl1 hnel
    go_ret
    rw [HGT.out HT.out]
    exact ⟨rfl, hbw⟩
structure Rj (f : Int) (S : Nat) (P E G : Int) (I Q H sd n : Nat) (Be : Int) : Prop where
  rf : Rf f S P E G I Q
  wh : ∀ (b : Nat) w, Calls Tryz.prog 75 #[FV S P E G I Q, U b] w fun en w' => ∃ v, en = .returned v ∧ GotR w.heap.size w' v (svS S H b) 2200 ∧ Below w.heap.size w w'
  hP : P = sd + 1
  hsd : 1 ≤ sd ∧ sd ≤ 52
  hs : H = 2 ^ sd
  hn : Be = E + sd + n
  hI : I = (n + 1) * H
  n1 : 1 ≤ n ∧ n ≤ 2046
  be : G + P = Be ∧ Be ≤ 1024 ∧ -1074 ≤ E ∧ E ≤ 0 ∧ 0 < Be
  lt : I < S ∧ S ≤ 9223372036854775808
theorem rj_w {G P Be E : Int} (h : G + P = Be ∧ Be ≤ 1024 ∧ -1074 ≤ E ∧ E ≤ 0 ∧ 0 < Be) : IntKind.i64.wrap (G + P) = Be ∧ wrap64 (G + P) = Be := by rw [h.1]; exact jw (by omega) (by omega)
theorem rj_sv {S H s : Nat} (h : s < S) : svS S H s = (vs H s : Int) := by rw [svS_eq, if_neg (by omega), Nat.mod_eq_of_lt h]
end Go.Proofs.YtglkjbkpgfencaaGreatDoor
