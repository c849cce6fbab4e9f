import Derived.Test.YtffechjldakmjaaDoorJ11
import Derived.Test.YtffechjldakmjaaDoorJ10
import Derived.Test.YtffechjldakmjaaDoorJ12
import Derived.Test.YtffechjldakmjaaDoorJ9
import Derived.Deep.LoopGhost
import Derived.Test.YtffechjldakmjaaDoorJ8
namespace Go.Proofs.YtffechjldakmjaaDoor
open Go.RowKit Go.Shelf
set_option maxRecDepth 20000
set_option maxHeartbeats 0
abbrev F32t : Value := FV 2147483648 24 (-149) 104 2139095040 2143289345
abbrev F64t : Value := FV 9223372036854775808 53 (-1074) 971 9218868437227405312 9221120237041090561
theorem rparts_320t (s : Nat) (hs : s < 8388608) (w : World) : Calls Tryd.prog 46 #[F32t, U s] w fun e w' => e = .returned (.tuple #[U s, .int .i64 (-149)]) ∧ Below w.heap.size w w' := by
  obtain ⟨z, hz⟩ : ∃ z, z = s / 8388608 := ⟨_, rfl⟩
  obtain ⟨r, hr⟩ : ∃ r, r = s % 8388608 := ⟨_, rfl⟩
  have d1 : (s : Int).tdiv 8388608 = (z : Int) := by rw [Int.tdiv_eq_ediv_of_nonneg (by omega)]; omega
  have d2 : (s : Int).tmod 8388608 = (r : Int) := by rw [Int.tmod_eq_emod_of_nonneg (by omega)]; omega
  have d3 : IntKind.u64.wrap (z : Int) = (z : Int) := by rw [IntKind.wrap_u64]; omega
  have d4 : IntKind.u64.wrap (r : Int) = (r : Int) := by rw [IntKind.wrap_u64]; omega
  have hz0 : z = 0 := by omega
  have hrs : r = s := by omega
  subst hz0
  subst hrs
  clear hz hr hs
  go_enter Tryd.func46, Tryd.ntmps46
  go_wp2_with fail
  go_quiet (fail)
  go_wp2_with fail
  go_quiet (fail)
  go_wp2_with fail
  go_ret2
  exact ⟨rfl, bwDrewN (bwDrewN (bwAlloc w _) _) _⟩
theorem rparts_32nt (s : Nat) (hs : 8388608 ≤ s) (hs9 : s < 9223372036854775808) (w : World) : Calls Tryd.prog 46 #[F32t, U s] w fun e w' => e = .returned (.tuple #[U (s - (s / 8388608 - 1) * 8388608), .int .i64 ((-149) + ((s / 8388608 - 1 : Nat) : Int))]) ∧ Below w.heap.size w w' := by
  obtain ⟨z, hz⟩ : ∃ z, z = s / 8388608 := ⟨_, rfl⟩
  obtain ⟨r, hr⟩ : ∃ r, r = s % 8388608 := ⟨_, rfl⟩
  have d1 : (s : Int).tdiv 8388608 = (z : Int) := by rw [Int.tdiv_eq_ediv_of_nonneg (by omega)]; omega
  have d2 : (s : Int).tmod 8388608 = (r : Int) := by rw [Int.tmod_eq_emod_of_nonneg (by omega)]; omega
  have d3 : IntKind.u64.wrap (z : Int) = (z : Int) := by rw [IntKind.wrap_u64]; omega
  have d4 : IntKind.u64.wrap (r : Int) = (r : Int) := by rw [IntKind.wrap_u64]; omega
  have hzb : ((z : Int) == 0) = false := by simp; omega
  obtain ⟨y, hy⟩ : ∃ y, y = s - (z - 1) * 8388608 := ⟨_, rfl⟩
  obtain ⟨x, hx⟩ : ∃ x : Int, x = (-149) + ((z - 1 : Nat) : Int) := ⟨_, rfl⟩
  obtain ⟨x1, hx1⟩ : ∃ x1 : Int, x1 = (-149) + (z : Int) := ⟨_, rfl⟩
  rw [← hz, ← hy, ← hx]
  have d5 : IntKind.u64.wrap (8388608 + (r : Int)) = (y : Int) := by rw [IntKind.wrap_u64]; omega
  have d6 : IntKind.i64.wrap (z : Int) = (z : Int) := by simp [IntKind.wrap, IntKind.signed, IntKind.bits]; omega
  have d7 : IntKind.i64.wrap ((-149) + (z : Int)) = x1 := by rw [hx1]; simp [IntKind.wrap, IntKind.signed, IntKind.bits]; omega
  have d8 : IntKind.i64.wrap (x1 - 1) = x := by simp [IntKind.wrap, IntKind.signed, IntKind.bits]; omega
  clear hz hr hs hs9 hy hx hx1
  go_enter Tryd.func46, Tryd.ntmps46
  go_wp2_with fail
  go_quiet (fail)
  go_wp2_with fail
  go_quiet (fail)
  go_wp2_with fail
  go_ret2
  exact ⟨rfl, bwDrewN (bwDrewN (bwAlloc w _) _) _⟩
theorem rparts_64nt (s : Nat) (hs : 4503599627370496 ≤ s) (hs9 : s < 9223372036854775808) (w : World) : Calls Tryd.prog 46 #[F64t, U s] w fun e w' => e = .returned (.tuple #[U (s - (s / 4503599627370496 - 1) * 4503599627370496), .int .i64 ((-1074) + ((s / 4503599627370496 - 1 : Nat) : Int))]) ∧ Below w.heap.size w w' := by
  obtain ⟨z, hz⟩ : ∃ z, z = s / 4503599627370496 := ⟨_, rfl⟩
  obtain ⟨r, hr⟩ : ∃ r, r = s % 4503599627370496 := ⟨_, rfl⟩
  have d1 : (s : Int).tdiv 4503599627370496 = (z : Int) := by rw [Int.tdiv_eq_ediv_of_nonneg (by omega)]; omega
  have d2 : (s : Int).tmod 4503599627370496 = (r : Int) := by rw [Int.tmod_eq_emod_of_nonneg (by omega)]; omega
  have d3 : IntKind.u64.wrap (z : Int) = (z : Int) := by rw [IntKind.wrap_u64]; omega
  have d4 : IntKind.u64.wrap (r : Int) = (r : Int) := by rw [IntKind.wrap_u64]; omega
  have hzb : ((z : Int) == 0) = false := by simp; omega
  obtain ⟨y, hy⟩ : ∃ y, y = s - (z - 1) * 4503599627370496 := ⟨_, rfl⟩
  obtain ⟨x, hx⟩ : ∃ x : Int, x = (-1074) + ((z - 1 : Nat) : Int) := ⟨_, rfl⟩
  obtain ⟨x1, hx1⟩ : ∃ x1 : Int, x1 = (-1074) + (z : Int) := ⟨_, rfl⟩
  rw [← hz, ← hy, ← hx]
  have d5 : IntKind.u64.wrap (4503599627370496 + (r : Int)) = (y : Int) := by rw [IntKind.wrap_u64]; omega
  have d6 : IntKind.i64.wrap (z : Int) = (z : Int) := by simp [IntKind.wrap, IntKind.signed, IntKind.bits]; omega
  have d7 : IntKind.i64.wrap ((-1074) + (z : Int)) = x1 := by rw [hx1]; simp [IntKind.wrap, IntKind.signed, IntKind.bits]; omega
  have d8 : IntKind.i64.wrap (x1 - 1) = x := by simp [IntKind.wrap, IntKind.signed, IntKind.bits]; omega
  clear hz hr hs hs9 hy hx hx1
  go_enter Tryd.func46, Tryd.ntmps46
  go_wp2_with fail
  go_quiet (fail)
  go_wp2_with fail
  go_quiet (fail)
  go_wp2_with fail
  go_ret2
  exact ⟨rfl, bwDrewN (bwDrewN (bwAlloc w _) _) _⟩
theorem rparts_640t (s : Nat) (hs : s < 4503599627370496) (w : World) : Calls Tryd.prog 46 #[F64t, U s] w fun e w' => e = .returned (.tuple #[U s, .int .i64 (-1074)]) ∧ Below w.heap.size w w' := by
  obtain ⟨z, hz⟩ : ∃ z, z = s / 4503599627370496 := ⟨_, rfl⟩
  obtain ⟨r, hr⟩ : ∃ r, r = s % 4503599627370496 := ⟨_, rfl⟩
  have d1 : (s : Int).tdiv 4503599627370496 = (z : Int) := by rw [Int.tdiv_eq_ediv_of_nonneg (by omega)]; omega
  have d2 : (s : Int).tmod 4503599627370496 = (r : Int) := by rw [Int.tmod_eq_emod_of_nonneg (by omega)]; omega
  have d3 : IntKind.u64.wrap (z : Int) = (z : Int) := by rw [IntKind.wrap_u64]; omega
  have d4 : IntKind.u64.wrap (r : Int) = (r : Int) := by rw [IntKind.wrap_u64]; omega
  have hz0 : z = 0 := by omega
  have hrs : r = s := by omega
  subst hz0
  subst hrs
  clear hz hr hs
  go_enter Tryd.func46, Tryd.ntmps46
  go_wp2_with fail
  go_quiet (fail)
  go_wp2_with fail
  go_quiet (fail)
  go_wp2_with fail
  go_ret2
  exact ⟨rfl, bwDrewN (bwDrewN (bwAlloc w _) _) _⟩
theorem rparts_all64 (s : Nat) (hs9 : s < 9223372036854775808) (w : World) : Calls Tryd.prog 46 #[F64t, U s] w fun e w' => e = .returned (.tuple #[U (s - (s / 4503599627370496 - 1) * 4503599627370496), .int .i64 ((-1074) + ((s / 4503599627370496 - 1 : Nat) : Int))]) ∧ Below w.heap.size w w' := by
  by_cases h : s < 4503599627370496
  · have h1 : s / 4503599627370496 = 0 := Nat.div_eq_of_lt h
    rw [h1, show 0 - 1 = 0 from rfl, Nat.zero_mul, Nat.sub_zero, show ((-1074 : Int) + ((0 : Nat) : Int)) = -1074 from rfl]
    exact rparts_640t s h w
  · exact rparts_64nt s (by omega) (by omega) w
theorem rparts_all32 (s : Nat) (hs9 : s < 2147483648) (w : World) : Calls Tryd.prog 46 #[F32t, U s] w fun e w' => e = .returned (.tuple #[U (s - (s / 8388608 - 1) * 8388608), .int .i64 ((-149) + ((s / 8388608 - 1 : Nat) : Int))]) ∧ Below w.heap.size w w' := by
  by_cases h : s < 8388608
  · have h1 : s / 8388608 = 0 := Nat.div_eq_of_lt h
    rw [h1, show 0 - 1 = 0 from rfl, Nat.zero_mul, Nat.sub_zero, show ((-149 : Int) + ((0 : Nat) : Int)) = -149 from rfl]
    exact rparts_320t s h w
  · exact rparts_32nt s (by omega) (by omega) w
theorem zr_len9 {w : World} {s : Bool} {p : Option Addr} {m : Nat} {z : Int} (h : ZR w s p m z) {L : Nat} (hL : z.natAbs < 2 ^ L) : m ≤ L := by
  obtain ⟨zs, hA, hN⟩ := h.ex
  have h1 := (hN.len_le B32_one (k := L)).2 (Nat.lt_of_lt_of_le hL (Nat.pow_le_pow_left (by decide) L))
  rw [hA.len] at h1
  exact h1
theorem GotR.len9 {B : Nat} {w : World} {v : Value} {z : Int} {L L' : Nat} (h : GotR B w v z L) (hL : z.natAbs < 2 ^ L') : GotR B w v z L' := by
  obtain ⟨s, g, m, h1, h2, h3, _⟩ := h
  exact ⟨s, g, m, h1, h2, h3, zr_len9 h3 hL⟩
theorem svS_lt {S H : Nat} (b : Nat) {L a c : Nat} (hH : H ≤ 2 ^ a) (h0 : 0 < H) (hS : S ≤ c * H) (hS0 : 0 < S) (hL : a + c ≤ L) : (svS S H b).natAbs < 2 ^ L := by
  rw [svS_eq]
  have h1 : (if S ≤ b then -(vs H (b % S) : Int) else (vs H (b % S) : Int)).natAbs = vs H (b % S) := by split <;> omega
  rw [h1]
  have h2 : b % S < c * H := Nat.lt_of_lt_of_le (Nat.mod_lt _ hS0) hS
  have h3 : b % S / H < c := (Nat.div_lt_iff_lt_mul h0).2 h2
  have e1 := Nat.div_add_mod (b % S) H
  have e2 := Nat.mod_lt (b % S) h0
  rw [Nat.mul_comm] at e1
  have h4 : b % S - (b % S / H - 1) * H < 2 * H := by
    by_cases e3 : b % S / H = 0
    · rw [e3] at e1 ⊢; omega
    · rw [Nat.sub_mul]; omega
  unfold vs
  have h5 : 2 ^ (b % S / H - 1) ≤ 2 ^ (c - 1) := Nat.pow_le_pow_right (by decide) (by generalize b % S / H = t at h3 ⊢; omega)
  have h6 : 0 < 2 ^ (b % S / H - 1) := Nat.two_pow_pos _
  refine Nat.lt_of_lt_of_le (Nat.mul_lt_mul_of_pos_right h4 h6) (Nat.le_trans (Nat.mul_le_mul (Nat.mul_le_mul_left 2 hH) h5) ?_)
  rw [← Nat.pow_succ', ← Nat.pow_add]
  have h7 : 1 ≤ c := Nat.lt_of_le_of_lt (Nat.zero_le _) h3
  exact Nat.pow_le_pow_right (by decide) (by omega)
theorem rwhole_64 {b : Nat} (w : World) :
    Calls Tryd.prog 20 #[FV 9223372036854775808 53 (-1074) 971 9218868437227405312 9221120237041090561, U b] w fun en w' => ∃ v, en = .returned v ∧ GotR w.heap.size w' v (svS 9223372036854775808 4503599627370496 b) 2200 ∧ Below w.heap.size w w' := by
  obtain ⟨q, hq⟩ : ∃ q, q = b % 9223372036854775808 / 4503599627370496 - 1 := ⟨_, rfl⟩
  obtain ⟨man, hman⟩ : ∃ man, man = b % 9223372036854775808 - q * 4503599627370496 := ⟨_, rfl⟩
  obtain ⟨neg, hneg⟩ : ∃ neg, neg = decide (9223372036854775808 ≤ b) := ⟨_, rfl⟩
  obtain ⟨s, hs⟩ : ∃ s, s = b % 9223372036854775808 := ⟨_, rfl⟩
  have hv : iv neg (man * 2 ^ q) = svS 9223372036854775808 4503599627370496 b := by
    rw [svS_eq, hneg, show vs 4503599627370496 (b % 9223372036854775808) = man * 2 ^ q from by unfold vs; rw [← hq, ← hman]]
    by_cases h : 9223372036854775808 ≤ b
    · rw [if_pos h, decide_eq_true h]; rfl
    · rw [if_neg h, decide_eq_false h]; rfl
  have hq9 : q ≤ 2048 := by omega
  have e1 : IntKind.i64.wrap ((-1074 : Int) + (q : Int) - (-1074)) = (q : Int) := by simp [IntKind.wrap, IntKind.signed, IntKind.bits]; omega
  obtain ⟨ex, hex⟩ : ∃ ex : Int, ex = (-1074 : Int) + (q : Int) := ⟨_, rfl⟩
  rw [← hex] at e1
  have e2 : wrap64 (ex + 1074) = (q : Int) := by rw [hex]; simp only [wrap64]; omega
  have e3 : IntKind.i64.wrap (ex + 1074) = (q : Int) := by rw [hex]; simp [IntKind.wrap, IntKind.signed, IntKind.bits]; omega
  have HV : Hid (iv neg (man * 2 ^ q) = svS 9223372036854775808 4503599627370496 b ∧ q ≤ 2048 ∧ man < B64 ∧ b % 9223372036854775808 = s ∧ decide (9223372036854775808 ≤ b) = neg ∧ s < 9223372036854775808 ∧ s / 4503599627370496 - 1 = q ∧ s - q * 4503599627370496 = man ∧ (-1074 : Int) + (q : Int) = ex) := ⟨hv, hq9, by rw [B64_eq]; omega, hs.symm, hneg.symm, by omega, by rw [hs]; exact hq.symm, by rw [hs]; exact hman.symm, hex.symm⟩
  clear hq hman hneg hs hv hq9 hex
  go_enter Tryd.func20, Tryd.ntmps20
  go_wp2_with fail
  obtain ⟨W0, hW0⟩ : ∃ W0, W0 = ((w.alloc (.cells #[U 9223372036854775808, .int .i64 53, .int .i64 (-1074), .int .i64 971, U 9218868437227405312, U 9221120237041090561] 51)).alloc (.cells #[.bool false, .slice none 0 0] 57)) := ⟨_, rfl⟩
  have Xk : Hid (B6q W0 (w.heap.size) (U 9223372036854775808) (.int .i64 53) (.int .i64 (-1074)) (.int .i64 971) (U 9218868437227405312) (U 9221120237041090561)) := by rw [hW0]; exact ⟨by go_simp, by go_simp, by go_simp, by go_simp, by go_simp, by go_simp, by go_simp, by go_simp, by go_simp, by go_simp, by go_simp, by go_simp⟩
  have Xr : Hid (Box W0 (w.heap.size + 1) (.bool false) (.slice none 0 0)) := by rw [hW0]; exact ⟨by go_simp, by go_simp, by go_simp, by go_simp⟩
  have hb0 : Below w.heap.size w W0 := by rw [hW0]; exact below2 w _ _
  rw [← hW0]
  clear hW0
  have hbw : Below w.heap.size w w := Below.refl _ _
  obtain ⟨gr, hgr⟩ : ∃ g, g = w.heap.size + 1 := ⟨_, rfl⟩
  have HGr : Hid (w.heap.size ≤ gr) := by rw [hgr]; show _ ≤ _; omega
  rw [← hgr] at Xr
  try rw [← hgr]
  obtain ⟨gk, hgk⟩ : ∃ g, g = w.heap.size := ⟨_, rfl⟩
  have HGk : Hid (w.heap.size ≤ gk) := by rw [hgk]; show _ ≤ _; omega
  rw [← hgk] at Xk
  try rw [← hgk]
  have HGD : Hid (gk ≠ gr ∧ gr ≠ gk) := by rw [hgk, hgr]; exact ⟨by omega, by omega⟩
  clear hgk hgr
  replace hbw := Below.on hbw hb0
  clear hb0
  refine (cut_any (by decide) (by decide) b _).mono ?_
  rintro e v1 ⟨rfl, hb1⟩
  rw [HV.out.2.2.2.1, HV.out.2.2.2.2.1]
  replace Xk : Hid _ := Xk.out.below hb1
  replace Xr : Hid _ := Xr.out.below hb1
  replace hbw := Below.on hbw hb1
  clear hb1
  obtain ⟨ck0, ck1, ck2, ck3, ck4, ck5, fk0, fk1, fk2, fk3, fk4, fk5⟩ := Xk.out
  have hnek : gk < v1.heap.size := World.block_lt_of_cell? v1 _ ck0
  go_wp2_with fail
  clear ck0 ck1 ck2 ck3 ck4 ck5 fk0 fk1 fk2 fk3 fk4 fk5 hnek
  refine (rparts_all64 s HV.out.2.2.2.2.2.1 _).mono ?_
  rintro e v2 ⟨rfl, hb2⟩
  rw [HV.out.2.2.2.2.2.2.1, HV.out.2.2.2.2.2.2.2.1, HV.out.2.2.2.2.2.2.2.2]
  replace Xk : Hid _ := Xk.out.below hb2
  replace Xr : Hid _ := Xr.out.below hb2
  replace hbw := Below.on hbw hb2
  clear hb2
  obtain ⟨ck0, ck1, ck2, ck3, ck4, ck5, fk0, fk1, fk2, fk3, fk4, fk5⟩ := Xk.out
  have hnek : gk < v2.heap.size := World.block_lt_of_cell? v2 _ ck0
  go_wp2_with fail
  clear ck0 ck1 ck2 ck3 ck4 ck5 fk0 fk1 fk2 fk3 fk4 fk5 hnek
  obtain ⟨W1, hW1⟩ : ∃ W1, W1 = v2.drew := ⟨_, rfl⟩
  have hbd : Below v2.heap.size v2 W1 := by rw [hW1]; exact bDrew1 (Below.refl _ _)
  replace Xk : Hid _ := Xk.out.below hbd
  replace Xr : Hid _ := Xr.out.below hbd
  replace hbw := Below.on hbw hbd
  clear hbd
  have HJ : Hid ((fun W' : World => W'.cell? ⟨gk, 2, none⟩ = some (.int .i64 (-1074)) ∧ W'.cell? ⟨gk, 1, none⟩ = some (.int .i64 53)) W1) := ⟨Xk.out.c2, Xk.out.c1⟩
  refine wp_region_J (fun W' => W'.cell? ⟨gk, 2, none⟩ = some (.int .i64 (-1074)) ∧ W'.cell? ⟨gk, 1, none⟩ = some (.int .i64 53)) (by kernel_rfl) ?_
  rw [← hW1]
  clear hW1
  refine wpJ_tq 0 rfl HJ.out ?_
  refine wpJ_tq 1 rfl HJ.out ?_
  refine wpJ_tq 3 rfl HJ.out ?_
  refine wpJ_tq 4 rfl HJ.out ?_
  refine wpJ_tq 5 rfl HJ.out ?_
  refine wpJ_tq 6 rfl HJ.out ?_
  refine wpJ_on 2 rfl fun KJ hK => ?_
  go_simp
  refine (rword man HV.out.2.2.1 _).mono ?_
  rintro e v5 ⟨g5, z5, rfl, hl5, hA5, hN5, hb5⟩
  replace Xk : Hid _ := Xk.out.below hb5
  replace Xr : Hid _ := Xr.out.below hb5
  replace hbw := Below.on hbw hb5
  clear hb5
  have A5 : Hid (At32 v5 (some ⟨g5, 0, none⟩) z5.length z5.length z5) := hA5
  have N5 : Hid (Nf B32 z5 man ∧ z5.length ≤ 2) := ⟨hN5, hl5⟩
  clear hA5 hN5 hl5
  obtain ⟨l5, hl5⟩ : ∃ l5, l5 = z5.length := ⟨_, rfl⟩
  rw [← hl5] at A5 N5 ⊢
  clear hl5
  refine hK _ _ ⟨Xk.out.c2, Xk.out.c1⟩ ?_
  clear hK
  refine wpJ_on 7 rfl fun KJ hK => ?_
  go_simp
  refine (rshl_all A5.out N5.out.1 (by have := N5.out.2; omega) q (.inl (by have := HV.out.2.1; omega))).mono ?_
  rintro e v6 ⟨p6, m6, z6, rfl, hA6, hN6, hm6, hb6⟩
  replace Xk : Hid _ := Xk.out.below hb6
  replace Xr : Hid _ := Xr.out.below hb6
  replace A5 : Hid _ := A5.out.below hb6
  replace hbw := Below.on hbw hb6
  clear hb6
  clear A5
  have A6 : Hid (At32 v6 p6 m6 m6 z6) := hA6
  have N6 : Hid (Nf B32 z6 (man * 2 ^ q) ∧ m6 ≤ 40000) := ⟨hN6, hm6⟩
  clear hA6 hN6 hm6 N5
  refine hK _ _ ⟨Xk.out.c2, Xk.out.c1⟩ ?_
  clear hK
  have HRL : Hid (gr < v6.heap.size ∧ w.heap.size ≤ v6.heap.size) := ⟨Xr.out.lt, hbw.size⟩
  refine wpJ_on 8 rfl fun KJ hK => ?_
  go_simp
  refine (rmk_any neg A6.out N6.out.1 (by have := N6.out.2; omega)).mono ?_
  rintro e v7 ⟨v, rfl, hv, hb7⟩
  rw [HV.out.1] at hv
  obtain ⟨LL, hLL⟩ : ∃ LL : Nat, LL = 2200 := ⟨_, rfl⟩
  obtain ⟨s7, g7, m7, rfl, hg7, hz7, hl7⟩ := hv.len9 (L' := LL) (svS_lt b (a := 52) (c := 2048) (by decide) (by decide) (by decide) (by decide) (by omega))
  rw [hLL] at hl7
  clear hLL
  have HN7 : Hid (v6.heap.size ≤ g7) := hg7
  replace Xk : Hid _ := Xk.out.below hb7
  replace Xr : Hid _ := Xr.out.below hb7
  replace A6 : Hid _ := A6.out.below hb7
  replace hbw := Below.on hbw hb7
  clear hb7
  clear A6
  have Z7 : Hid (ZR v7 s7 (some ⟨g7, 0, none⟩) m7 (svS 9223372036854775808 4503599627370496 b)) := hz7
  have HL7 : Hid (m7 ≤ 2200) := hl7
  clear hv hg7 hz7 hl7 N6
  refine hK _ _ ⟨Xk.out.c2, Xk.out.c1⟩ ?_
  clear hK
  obtain ⟨cr0, cr1, fr0, fr1⟩ := Xr.out
  have hner := Xr.out.lt
  obtain ⟨ck0, ck1, ck2, ck3, ck4, ck5, fk0, fk1, fk2, fk3, fk4, fk5⟩ := Xk.out
  have hnek : gk < v7.heap.size := World.block_lt_of_cell? v7 _ ck0
  obtain ⟨hgd0, hgd1⟩ := HGD.out
  refine wpJ_on 9 rfl fun KJ hK => ?_
  go_simp
  have HJ2 : Hid ((fun W' : World => W'.cell? ⟨gk, 2, none⟩ = some (.int .i64 (-1074)) ∧ W'.cell? ⟨gk, 1, none⟩ = some (.int .i64 53)) ((v7.setCell ⟨gr, 0, none⟩ (.bool s7)).setCell ⟨gr, 1, none⟩ (.slice (some ⟨g7, 0, none⟩) m7 m7))) := ⟨by go_simp, by go_simp⟩
  refine hK _ _ HJ2.out ?_
  clear hK HJ
  have HJ := HJ2
  clear HJ2
  refine wpJ_done (by kernel_rfl) ?_ _
  clear HJ
  go_wp2_with fail
  refine bodyPost_ret (v := .agg #[.bool s7, .slice (some ⟨g7, 0, none⟩) m7 m7]) (by rw [results_cell1 rfl]; go_simp) rfl ⟨_, rfl, ⟨s7, g7, m7, rfl, Nat.le_trans HRL.out.2 HN7.out, ?_, HL7.out⟩, ?_⟩
  · have := HN7.out; have := HRL.out.1
    exact (Z7.out.set _ _ _ (by omega)).set _ _ _ (by omega)
  · exact bSet (bSet hbw _ _ _ HGr.out) _ _ _ HGr.out
theorem rwhole_32 {b : Nat} (w : World) :
    Calls Tryd.prog 20 #[FV 2147483648 24 (-149) 104 2139095040 2143289345, U b] w fun en w' => ∃ v, en = .returned v ∧ GotR w.heap.size w' v (svS 2147483648 8388608 b) 2200 ∧ Below w.heap.size w w' := by
  obtain ⟨q, hq⟩ : ∃ q, q = b % 2147483648 / 8388608 - 1 := ⟨_, rfl⟩
  obtain ⟨man, hman⟩ : ∃ man, man = b % 2147483648 - q * 8388608 := ⟨_, rfl⟩
  obtain ⟨neg, hneg⟩ : ∃ neg, neg = decide (2147483648 ≤ b) := ⟨_, rfl⟩
  obtain ⟨s, hs⟩ : ∃ s, s = b % 2147483648 := ⟨_, rfl⟩
  have hv : iv neg (man * 2 ^ q) = svS 2147483648 8388608 b := by
    rw [svS_eq, hneg, show vs 8388608 (b % 2147483648) = man * 2 ^ q from by unfold vs; rw [← hq, ← hman]]
    by_cases h : 2147483648 ≤ b
    · rw [if_pos h, decide_eq_true h]; rfl
    · rw [if_neg h, decide_eq_false h]; rfl
  have hq9 : q ≤ 256 := by omega
  have e1 : IntKind.i64.wrap ((-149 : Int) + (q : Int) - (-149)) = (q : Int) := by simp [IntKind.wrap, IntKind.signed, IntKind.bits]; omega
  obtain ⟨ex, hex⟩ : ∃ ex : Int, ex = (-149 : Int) + (q : Int) := ⟨_, rfl⟩
  rw [← hex] at e1
  have e2 : wrap64 (ex + 149) = (q : Int) := by rw [hex]; simp only [wrap64]; omega
  have e3 : IntKind.i64.wrap (ex + 149) = (q : Int) := by rw [hex]; simp [IntKind.wrap, IntKind.signed, IntKind.bits]; omega
  have HV : Hid (iv neg (man * 2 ^ q) = svS 2147483648 8388608 b ∧ q ≤ 256 ∧ man < B64 ∧ b % 2147483648 = s ∧ decide (2147483648 ≤ b) = neg ∧ s < 2147483648 ∧ s / 8388608 - 1 = q ∧ s - q * 8388608 = man ∧ (-149 : Int) + (q : Int) = ex) := ⟨hv, hq9, by rw [B64_eq]; omega, hs.symm, hneg.symm, by omega, by rw [hs]; exact hq.symm, by rw [hs]; exact hman.symm, hex.symm⟩
  clear hq hman hneg hs hv hq9 hex
  go_enter Tryd.func20, Tryd.ntmps20
  go_wp2_with fail
  obtain ⟨W0, hW0⟩ : ∃ W0, W0 = ((w.alloc (.cells #[U 2147483648, .int .i64 24, .int .i64 (-149), .int .i64 104, U 2139095040, U 2143289345] 51)).alloc (.cells #[.bool false, .slice none 0 0] 57)) := ⟨_, rfl⟩
  have Xk : Hid (B6q W0 (w.heap.size) (U 2147483648) (.int .i64 24) (.int .i64 (-149)) (.int .i64 104) (U 2139095040) (U 2143289345)) := by rw [hW0]; exact ⟨by go_simp, by go_simp, by go_simp, by go_simp, by go_simp, by go_simp, by go_simp, by go_simp, by go_simp, by go_simp, by go_simp, by go_simp⟩
  have Xr : Hid (Box W0 (w.heap.size + 1) (.bool false) (.slice none 0 0)) := by rw [hW0]; exact ⟨by go_simp, by go_simp, by go_simp, by go_simp⟩
  have hb0 : Below w.heap.size w W0 := by rw [hW0]; exact below2 w _ _
  rw [← hW0]
  clear hW0
  have hbw : Below w.heap.size w w := Below.refl _ _
  obtain ⟨gr, hgr⟩ : ∃ g, g = w.heap.size + 1 := ⟨_, rfl⟩
  have HGr : Hid (w.heap.size ≤ gr) := by rw [hgr]; show _ ≤ _; omega
  rw [← hgr] at Xr
  try rw [← hgr]
  obtain ⟨gk, hgk⟩ : ∃ g, g = w.heap.size := ⟨_, rfl⟩
  have HGk : Hid (w.heap.size ≤ gk) := by rw [hgk]; show _ ≤ _; omega
  rw [← hgk] at Xk
  try rw [← hgk]
  have HGD : Hid (gk ≠ gr ∧ gr ≠ gk) := by rw [hgk, hgr]; exact ⟨by omega, by omega⟩
  clear hgk hgr
  replace hbw := Below.on hbw hb0
  clear hb0
  refine (cut_any (by decide) (by decide) b _).mono ?_
  rintro e v1 ⟨rfl, hb1⟩
  rw [HV.out.2.2.2.1, HV.out.2.2.2.2.1]
  replace Xk : Hid _ := Xk.out.below hb1
  replace Xr : Hid _ := Xr.out.below hb1
  replace hbw := Below.on hbw hb1
  clear hb1
  obtain ⟨ck0, ck1, ck2, ck3, ck4, ck5, fk0, fk1, fk2, fk3, fk4, fk5⟩ := Xk.out
  have hnek : gk < v1.heap.size := World.block_lt_of_cell? v1 _ ck0
  go_wp2_with fail
  clear ck0 ck1 ck2 ck3 ck4 ck5 fk0 fk1 fk2 fk3 fk4 fk5 hnek
  refine (rparts_all32 s HV.out.2.2.2.2.2.1 _).mono ?_
  rintro e v2 ⟨rfl, hb2⟩
  rw [HV.out.2.2.2.2.2.2.1, HV.out.2.2.2.2.2.2.2.1, HV.out.2.2.2.2.2.2.2.2]
  replace Xk : Hid _ := Xk.out.below hb2
  replace Xr : Hid _ := Xr.out.below hb2
  replace hbw := Below.on hbw hb2
  clear hb2
  obtain ⟨ck0, ck1, ck2, ck3, ck4, ck5, fk0, fk1, fk2, fk3, fk4, fk5⟩ := Xk.out
  have hnek : gk < v2.heap.size := World.block_lt_of_cell? v2 _ ck0
  go_wp2_with fail
  clear ck0 ck1 ck2 ck3 ck4 ck5 fk0 fk1 fk2 fk3 fk4 fk5 hnek
  obtain ⟨W1, hW1⟩ : ∃ W1, W1 = v2.drew := ⟨_, rfl⟩
  have hbd : Below v2.heap.size v2 W1 := by rw [hW1]; exact bDrew1 (Below.refl _ _)
  replace Xk : Hid _ := Xk.out.below hbd
  replace Xr : Hid _ := Xr.out.below hbd
  replace hbw := Below.on hbw hbd
  clear hbd
  have HJ : Hid ((fun W' : World => W'.cell? ⟨gk, 2, none⟩ = some (.int .i64 (-149)) ∧ W'.cell? ⟨gk, 1, none⟩ = some (.int .i64 24)) W1) := ⟨Xk.out.c2, Xk.out.c1⟩
  refine wp_region_J (fun W' => W'.cell? ⟨gk, 2, none⟩ = some (.int .i64 (-149)) ∧ W'.cell? ⟨gk, 1, none⟩ = some (.int .i64 24)) (by kernel_rfl) ?_
  rw [← hW1]
  clear hW1
  refine wpJ_tq 0 rfl HJ.out ?_
  refine wpJ_tq 1 rfl HJ.out ?_
  refine wpJ_tq 3 rfl HJ.out ?_
  refine wpJ_tq 4 rfl HJ.out ?_
  refine wpJ_tq 5 rfl HJ.out ?_
  refine wpJ_tq 6 rfl HJ.out ?_
  refine wpJ_on 2 rfl fun KJ hK => ?_
  go_simp
  refine (rword man HV.out.2.2.1 _).mono ?_
  rintro e v5 ⟨g5, z5, rfl, hl5, hA5, hN5, hb5⟩
  replace Xk : Hid _ := Xk.out.below hb5
  replace Xr : Hid _ := Xr.out.below hb5
  replace hbw := Below.on hbw hb5
  clear hb5
  have A5 : Hid (At32 v5 (some ⟨g5, 0, none⟩) z5.length z5.length z5) := hA5
  have N5 : Hid (Nf B32 z5 man ∧ z5.length ≤ 2) := ⟨hN5, hl5⟩
  clear hA5 hN5 hl5
  obtain ⟨l5, hl5⟩ : ∃ l5, l5 = z5.length := ⟨_, rfl⟩
  rw [← hl5] at A5 N5 ⊢
  clear hl5
  refine hK _ _ ⟨Xk.out.c2, Xk.out.c1⟩ ?_
  clear hK
  refine wpJ_on 7 rfl fun KJ hK => ?_
  go_simp
  refine (rshl_all A5.out N5.out.1 (by have := N5.out.2; omega) q (.inl (by have := HV.out.2.1; omega))).mono ?_
  rintro e v6 ⟨p6, m6, z6, rfl, hA6, hN6, hm6, hb6⟩
  replace Xk : Hid _ := Xk.out.below hb6
  replace Xr : Hid _ := Xr.out.below hb6
  replace A5 : Hid _ := A5.out.below hb6
  replace hbw := Below.on hbw hb6
  clear hb6
  clear A5
  have A6 : Hid (At32 v6 p6 m6 m6 z6) := hA6
  have N6 : Hid (Nf B32 z6 (man * 2 ^ q) ∧ m6 ≤ 40000) := ⟨hN6, hm6⟩
  clear hA6 hN6 hm6 N5
  refine hK _ _ ⟨Xk.out.c2, Xk.out.c1⟩ ?_
  clear hK
  have HRL : Hid (gr < v6.heap.size ∧ w.heap.size ≤ v6.heap.size) := ⟨Xr.out.lt, hbw.size⟩
  refine wpJ_on 8 rfl fun KJ hK => ?_
  go_simp
  refine (rmk_any neg A6.out N6.out.1 (by have := N6.out.2; omega)).mono ?_
  rintro e v7 ⟨v, rfl, hv, hb7⟩
  rw [HV.out.1] at hv
  obtain ⟨LL, hLL⟩ : ∃ LL : Nat, LL = 2200 := ⟨_, rfl⟩
  obtain ⟨s7, g7, m7, rfl, hg7, hz7, hl7⟩ := hv.len9 (L' := LL) (svS_lt b (a := 23) (c := 256) (by decide) (by decide) (by decide) (by decide) (by omega))
  rw [hLL] at hl7
  clear hLL
  have HN7 : Hid (v6.heap.size ≤ g7) := hg7
  replace Xk : Hid _ := Xk.out.below hb7
  replace Xr : Hid _ := Xr.out.below hb7
  replace A6 : Hid _ := A6.out.below hb7
  replace hbw := Below.on hbw hb7
  clear hb7
  clear A6
  have Z7 : Hid (ZR v7 s7 (some ⟨g7, 0, none⟩) m7 (svS 2147483648 8388608 b)) := hz7
  have HL7 : Hid (m7 ≤ 2200) := hl7
  clear hv hg7 hz7 hl7 N6
  refine hK _ _ ⟨Xk.out.c2, Xk.out.c1⟩ ?_
  clear hK
  obtain ⟨cr0, cr1, fr0, fr1⟩ := Xr.out
  have hner := Xr.out.lt
  obtain ⟨ck0, ck1, ck2, ck3, ck4, ck5, fk0, fk1, fk2, fk3, fk4, fk5⟩ := Xk.out
  have hnek : gk < v7.heap.size := World.block_lt_of_cell? v7 _ ck0
  obtain ⟨hgd0, hgd1⟩ := HGD.out
  refine wpJ_on 9 rfl fun KJ hK => ?_
  go_simp
  have HJ2 : Hid ((fun W' : World => W'.cell? ⟨gk, 2, none⟩ = some (.int .i64 (-149)) ∧ W'.cell? ⟨gk, 1, none⟩ = some (.int .i64 24)) ((v7.setCell ⟨gr, 0, none⟩ (.bool s7)).setCell ⟨gr, 1, none⟩ (.slice (some ⟨g7, 0, none⟩) m7 m7))) := ⟨by go_simp, by go_simp⟩
  refine hK _ _ HJ2.out ?_
  clear hK HJ
  have HJ := HJ2
  clear HJ2
  refine wpJ_done (by kernel_rfl) ?_ _
  clear HJ
  go_wp2_with fail
  refine bodyPost_ret (v := .agg #[.bool s7, .slice (some ⟨g7, 0, none⟩) m7 m7]) (by rw [results_cell1 rfl]; go_simp) rfl ⟨_, rfl, ⟨s7, g7, m7, rfl, Nat.le_trans HRL.out.2 HN7.out, ?_, HL7.out⟩, ?_⟩
  · have := HN7.out; have := HRL.out.1
    exact (Z7.out.set _ _ _ (by omega)).set _ _ _ (by omega)
  · exact bSet (bSet hbw _ _ _ HGr.out) _ _ _ HGr.out
def MkR (z e zo eo er : Int) : Prop := (z = 0 ∧ zo = 0 ∧ eo = 0 ∧ er = 0) ∨
  (z ≠ 0 ∧ ∃ k : Nat, TzIs z.natAbs k ∧ ((-1048576 ≤ e + k ∧ e + k ≤ 1048576 ∧ zo * ((2 ^ k : Nat) : Int) = z ∧ eo = e + k ∧ er = 0) ∨ (¬ (-1048576 ≤ e + k ∧ e + k ≤ 1048576) ∧ zo = 0 ∧ eo = 0 ∧ er = 5)))
theorem MkR.zero (e : Int) : MkR 0 e 0 0 0 := .inl ⟨rfl, rfl, rfl, rfl⟩
theorem TzIs.zero_of_odd {v : Nat} (h : v % 2 = 1) : TzIs v 0 := ⟨by simp [Nat.mod_one], by simpa using h⟩
theorem MkR.odd {z e : Int} (hz : z % 2 = 1) (he : -1048576 ≤ e ∧ e ≤ 1048576) : MkR z e z e 0 :=
  .inr ⟨by omega, 0, TzIs.zero_of_odd (by omega), .inl ⟨by omega, by omega, by simp, by omega, rfl⟩⟩
theorem MkR.big {z e : Int} (hz : z % 2 = 1) (he : ¬ (-1048576 ≤ e ∧ e ≤ 1048576)) : MkR z e 0 0 5 :=
  .inr ⟨by omega, 0, TzIs.zero_of_odd (by omega), .inr ⟨by omega, rfl, rfl, rfl⟩⟩
theorem MkR.fm {z e zo eo er : Int} (h : MkR z e zo eo er) : DFm zo eo := by
  rcases h with ⟨_, rfl, rfl, _⟩ | ⟨h0, K, hK, ⟨h1, h2, h3, rfl, _⟩ | ⟨_, rfl, rfl, _⟩⟩
  · exact .inl ⟨rfl, rfl⟩
  · refine .inr ⟨?_, h1, h2⟩
    have h4 : zo.natAbs * 2 ^ K = z.natAbs := by
      have := congrArg Int.natAbs h3
      rw [Int.natAbs_mul] at this
      simpa using this
    have h5 := hK.2
    rw [← h4, Nat.mul_div_cancel _ (Nat.two_pow_pos K)] at h5
    omega
  · exact .inl ⟨rfl, rfl⟩
structure DQ (B : Nat) (w : World) (s : Bool) (p : Option Addr) (m c : Nat) (e z : Int) : Prop where
  dn : DN w s p m c e z
  nw : m = 0 ∨ ∃ g, p = some ⟨g, 0, none⟩ ∧ B ≤ g
theorem DQ.below {B : Nat} {w w' : World} {s : Bool} {p : Option Addr} {m c : Nat} {e z : Int} (h : DQ B w s p m c e z) (hb : Below w.heap.size w w') : DQ B w' s p m c e z := ⟨h.dn.below hb, h.nw⟩
theorem DQ.mono {B B' : Nat} {w : World} {s : Bool} {p : Option Addr} {m c : Nat} {e z : Int} (h : DQ B w s p m c e z) (hB : B' ≤ B) : DQ B' w s p m c e z := ⟨h.dn, h.nw.imp id fun ⟨g, h1, h2⟩ => ⟨g, h1, Nat.le_trans hB h2⟩⟩
theorem DN.setOff {w : World} {s : Bool} {p : Option Addr} {m c g o : Nat} {e z : Int} {v : Value} (h : DN w s p m c e z) (hf : m = 0 ∨ ∃ g', p = some ⟨g', 0, none⟩ ∧ g' ≠ g) : DN (w.setCell ⟨g, o, none⟩ v) s p m c e z := by
  obtain ⟨xs, hX⟩ := h.zn.ex
  refine ⟨⟨⟨xs, ?_, hX.nf, hX.le⟩, h.zn.sg⟩, h.fm⟩
  rcases hf with rfl | ⟨g', rfl, hg⟩
  · obtain rfl : xs = [] := List.eq_nil_of_length_eq_zero hX.at_.len
    exact At.empty _ _ _ hX.at_.big
  · exact hX.at_.setOther _ _ _ hg
theorem DQ.set {B : Nat} {w : World} {s : Bool} {p : Option Addr} {m c : Nat} {e z : Int} (h : DQ B w s p m c e z) (g o : Nat) (v : Value) (hg : g < B) : DQ B (w.setCell ⟨g, o, none⟩ v) s p m c e z :=
  ⟨h.dn.setOff (h.nw.imp id fun ⟨g', h1, h2⟩ => ⟨g', h1, by omega⟩), h.nw⟩
theorem DQ.zero (B : Nat) (w : World) : DQ B w false none 0 0 0 0 :=
  ⟨⟨⟨⟨[], At.empty _ _ _ (by decide), Nf.nil _, by omega⟩, rfl⟩, .inl ⟨rfl, rfl⟩⟩, .inl rfl⟩
theorem AnsD.dq {B : Nat} {w' : World} {v : Value} {z e : Int} (h : AnsD B w' v z e) (hf : DFm z e) : ∃ s p m, v = DV s p m m e ∧ DQ B w' s p m m e z := by
  obtain ⟨p, m, zs, rfl, ho, hn, hm⟩ := h
  exact ⟨_, p, m, rfl, ⟨⟨⟨zs, Num.of ho hn hm⟩, rfl⟩, hf⟩, ho.mem.imp id fun ⟨g, e, hg, _⟩ => ⟨g, e, hg⟩⟩
def SaidD (B : Nat) (w' : World) (en : Ending) (z e er : Int) : Prop := ∃ s p m c, en = .returned (.tuple #[DV s p m c e, .int .i64 er]) ∧ DQ B w' s p m c e z
theorem SaidD.err (B : Nat) (w' : World) (er : Int) : SaidD B w' (.returned (.tuple #[DV false none 0 0 0, .int .i64 er])) 0 0 er := ⟨_, _, _, _, rfl, DQ.zero _ _⟩
theorem SaidD.ans {B : Nat} {w' : World} {v : Value} {z e : Int} (h : AnsD B w' v z e) (hf : DFm z e) : SaidD B w' (.returned (.tuple #[v, .int .i64 0])) z e 0 := by
  obtain ⟨s, p, m, rfl, hd⟩ := h.dq hf
  exact ⟨s, p, m, m, rfl, hd⟩
theorem TzO.is {z : Int} {k : Nat} (hz : z ≠ 0) (h : TzO z.natAbs k) : TzIs z.natAbs k := by
  rcases h with ⟨h0, _⟩ | ⟨_, h1, h2⟩
  · omega
  · exact ⟨h1, h2⟩
theorem MakeP.mk {B : Nat} {w' : World} {en : Ending} {z e : Int} (h : MakeP B w' en z e) (he : -4194304 ≤ e) : ∃ zo eo er, SaidD B w' en zo eo er ∧ MkR z e zo eo er := by
  by_cases hz : z = 0
  · subst hz
    obtain ⟨v, rfl, hv⟩ := h.form (.inl ⟨rfl, rfl⟩) (by rw [dv_zero, dv_zero])
    exact ⟨0, 0, 0, SaidD.ans hv (.inl ⟨rfl, rfl⟩), MkR.zero e⟩
  · obtain ⟨k, hk⟩ := TzO.ex z.natAbs
    have hki := hk.is hz
    obtain ⟨h1, h2, _⟩ := tz_split hz hk
    generalize fl (decide (z < 0)) z.natAbs (2 ^ k) = o at *
    by_cases hr : -1048576 ≤ e + k ∧ e + k ≤ 1048576
    · have hf : DFm o (e + k) := .inr ⟨h1, hr⟩
      obtain ⟨v, rfl, hv⟩ := h.form hf (by rw [dv_up k he, h2])
      exact ⟨o, e + k, 0, SaidD.ans hv hf, .inr ⟨hz, k, hki, .inl ⟨hr.1, hr.2, h2, rfl, rfl⟩⟩⟩
    · rcases h with ⟨v, zo, eo, _, _, h5, h6⟩ | ⟨rfl, _⟩
      · exact absurd h6 (make_no hz hk he (by omega) zo eo h5)
      · exact ⟨0, 0, 5, SaidD.err _ _ _, .inr ⟨hz, k, hki, .inr ⟨hr, rfl, rfl, rfl⟩⟩⟩
theorem rshr_alle {p : Option Addr} {n : Nat} {xs : List Nat} {v : Nat} {w : World} (h : At32 w p n n xs) (hx : Nf B32 xs v) (hn : n ≤ 16384) (N : Nat) (hN2 : N ≤ 9223372036854775807) :
    Calls Tryd.prog 45 #[.slice p n n, .int .i64 N] w fun e w' => ∃ p' m' zs, e = .returned (.slice p' m' m') ∧ At32 w' p' m' m' zs ∧ Nf B32 zs (v / 2 ^ N) ∧ m' ≤ n ∧ Below w.heap.size w w' := by
  rcases Nat.eq_zero_or_pos N with h0 | h0
  · subst h0
    refine (rshr_0 h hx hn).mono ?_
    rintro e w' ⟨g, rfl, h1, hb⟩
    exact ⟨_, n, xs, rfl, h1, by rw [Nat.pow_zero, Nat.div_one]; exact hx, Nat.le_refl _, hb⟩
  · exact rfshr_any h hx hn N h0 hN2
theorem tz_vale {z : Int} {k : Nat} (_hz : z ≠ 0) (h : TzIs z.natAbs k) : ∃ zo : Int, zo.natAbs = z.natAbs / 2 ^ k ∧ zo % 2 = 1 ∧ zo * ((2 ^ k : Nat) : Int) = z ∧ decide (zo < 0) = decide (z < 0) ∧ iv (decide (z < 0)) (z.natAbs / 2 ^ k) = zo := by
  have h1 := Nat.div_add_mod z.natAbs (2 ^ k)
  rw [h.1, Nat.add_zero, Nat.mul_comm] at h1
  have h2 := h.2
  generalize z.natAbs / 2 ^ k = A at h1 h2 ⊢
  have hp : 0 < 2 ^ k := Nat.two_pow_pos k
  have hA : 0 < A := by omega
  rcases Int.lt_or_le z 0 with hn | hn
  · refine ⟨-(A : Int), by omega, by omega, ?_, ?_, ?_⟩
    · rw [Int.neg_mul, ← Int.natCast_mul, h1]; omega
    · rw [decide_eq_true hn]; exact decide_eq_true (by omega)
    · rw [decide_eq_true hn]; rfl
  · refine ⟨(A : Int), by omega, by omega, ?_, ?_, ?_⟩
    · rw [← Int.natCast_mul, h1]; omega
    · rw [decide_eq_false (show ¬ z < 0 by omega)]; exact decide_eq_false (by omega)
    · rw [decide_eq_false (show ¬ z < 0 by omega)]; rfl
theorem JnR.shift {H I : Nat} {l : Int} {man m' j : Nat} {ex : Int} {s : Nat} (hm : man = m' * 2 ^ j) : JnR H I l man ex s ↔ JnR H I l m' (ex + j) s := by
  obtain ⟨A, hA⟩ : ∃ A, A = (ex - l).toNat := ⟨_, rfl⟩
  obtain ⟨B, hB⟩ : ∃ B, B = (l - ex).toNat := ⟨_, rfl⟩
  obtain ⟨A2, hA2⟩ : ∃ A, A = (ex + j - l).toNat := ⟨_, rfl⟩
  obtain ⟨B2, hB2⟩ : ∃ B, B = (l - (ex + j)).toNat := ⟨_, rfl⟩
  have hq : j + A + B2 = A2 + B := by omega
  unfold JnR
  rw [← hA, ← hB, ← hA2, ← hB2, hm]
  constructor
  · rintro ⟨h1, h2⟩
    refine ⟨h1, Nat.eq_of_mul_eq_mul_right (Nat.two_pow_pos B) ?_⟩
    have h3 : m' * 2 ^ j * 2 ^ A * 2 ^ B2 = vs H s * 2 ^ B * 2 ^ B2 := by rw [h2]
    rw [Nat.mul_assoc, Nat.mul_assoc, Nat.mul_assoc, ← Nat.pow_add, ← Nat.pow_add, ← Nat.pow_add, show j + (A + B2) = A2 + B by omega, Nat.add_comm B B2, Nat.pow_add, Nat.pow_add, ← Nat.mul_assoc, ← Nat.mul_assoc] at h3
    exact h3
  · rintro ⟨h1, h2⟩
    refine ⟨h1, Nat.eq_of_mul_eq_mul_right (Nat.two_pow_pos B2) ?_⟩
    have h3 : m' * 2 ^ A2 * 2 ^ B = vs H s * 2 ^ B2 * 2 ^ B := by rw [h2]
    rw [Nat.mul_assoc, Nat.mul_assoc, ← Nat.pow_add, ← Nat.pow_add, show A2 + B = j + (A + B2) by omega, Nat.add_comm B2 B, Nat.pow_add, Nat.pow_add, Nat.pow_add, ← Nat.mul_assoc, ← Nat.mul_assoc, ← Nat.mul_assoc] at h3
    exact h3
theorem JA.shift {S H I : Nat} {l : Int} {neg : Bool} {man m' j : Nat} {ex : Int} {r : Nat} {er : Int} (hm : man = m' * 2 ^ j) (h : JA S H I l neg m' (ex + j) r er) : JA S H I l neg man ex r er := by
  rcases h with ⟨h1, s, h2, h3⟩ | ⟨h1, h2, h3⟩
  · exact .inl ⟨h1, s, (JnR.shift hm).2 h2, h3⟩
  · exact .inr ⟨h1, h2, fun s hj => h3 s ((JnR.shift hm).1 hj)⟩
theorem rdyad_n {p : Option Addr} {m K : Nat} {w : World} {z zo e : Int} (s : Bool) (h : ZR w s p m z) (hz : z ≠ 0) (hK : TzIs z.natAbs K) (hzo : zo.natAbs = z.natAbs / 2 ^ K ∧ zo % 2 = 1 ∧ decide (zo < 0) = decide (z < 0) ∧ iv (decide (z < 0)) (z.natAbs / 2 ^ K) = zo) (hm : m ≤ 16384) (he : -1099511627776 ≤ e ∧ e ≤ 1048576) (he2 : -1048576 ≤ e + K ∧ e + K ≤ 1048576) :
    Calls Tryd.prog 19 #[.agg #[.bool s, .slice p m m], .int .i64 e] w fun en w' => ∃ g m' c', en = .returned (DV s (some ⟨g, 0, none⟩) m' c' (e + K)) ∧ w.heap.size ≤ g ∧ DN w' s (some ⟨g, 0, none⟩) m' c' (e + K) zo ∧ Below w.heap.size w w' := by
  obtain ⟨xs, hA, hN⟩ := h.ex
  have AX : Hid (At32 w p m m xs) := hA
  have NX : Hid (Nf B32 xs z.natAbs) := hN
  have HZ : Hid (TzIs z.natAbs K ∧ 0 < z.natAbs ∧ s = decide (z < 0) ∧ m ≤ 16384 ∧ K ≤ 9223372036854775807) := ⟨hK, by omega, h.sg, hm, by omega⟩
  have HO : Hid (zo.natAbs = z.natAbs / 2 ^ K ∧ zo % 2 = 1 ∧ decide (zo < 0) = decide (z < 0) ∧ iv (decide (z < 0)) (z.natAbs / 2 ^ K) = zo) := hzo
  have HS : Hid (ZR w s p m z) := h
  have HZ0 : Hid (z ≠ 0) := hz
  have HE : Hid (-1048576 ≤ e + K ∧ e + K ≤ 1048576) := he2
  have hm0 : ¬ m = 0 := fun e0 => by have := h.zero.1 e0; omega
  have hm1 : ((m : Int) == 0) = false := by simp; omega
  have g1 : ¬ 1048576 < e := by omega
  have g2 : ¬ e < -1099511627776 := by omega
  have g5 : wrap64 (e + K) = e + K := by simp only [wrap64]; omega
  have g6 : IntKind.i64.wrap (e + K) = e + K := by simp [IntKind.wrap, IntKind.signed, IntKind.bits]; omega
  have g3 : ¬ e + (K : Int) < -1048576 := by omega
  have g7 : ¬ 1048576 < e + (K : Int) := by omega
  clear h hz hm hA hN he he2 hzo hK
  go_enter Tryd.func19, Tryd.ntmps19
  go_wp2_with fail
  obtain ⟨W0, hW0⟩ : ∃ W0, W0 = ((w.alloc (.cells #[.bool s, .slice p m m] 57)).alloc (.cells #[.bool false, .slice none 0 0, .int .i64 0] 29)) := ⟨_, rfl⟩
  have Xm : Hid (Box W0 (w.heap.size) (.bool s) (.slice p m m)) := by rw [hW0]; exact ⟨by go_simp, by go_simp, by go_simp, by go_simp⟩
  have Xr : Hid (B3q W0 (w.heap.size + 1) (.bool false) (.slice none 0 0) (.int .i64 0)) := by rw [hW0]; exact ⟨by go_simp, by go_simp, by go_simp, by go_simp, by go_simp, by go_simp⟩
  have hb0 : Below w.heap.size w W0 := by rw [hW0]; exact below2 w _ _
  rw [← hW0]
  clear hW0
  have hbw : Below w.heap.size w w := Below.refl _ _
  obtain ⟨gr, hgr⟩ : ∃ g, g = w.heap.size + 1 := ⟨_, rfl⟩
  have HGr : Hid (w.heap.size ≤ gr) := by rw [hgr]; show _ ≤ _; omega
  rw [← hgr] at Xr
  try rw [← hgr]
  obtain ⟨gm, hgm⟩ : ∃ g, g = w.heap.size := ⟨_, rfl⟩
  have HGm : Hid (w.heap.size ≤ gm) := by rw [hgm]; show _ ≤ _; omega
  rw [← hgm] at Xm
  try rw [← hgm]
  have HGD : Hid (gm ≠ gr ∧ gr ≠ gm) := by rw [hgm, hgr]; exact ⟨by omega, by omega⟩
  clear hgm hgr
  replace hbw := Below.on hbw hb0
  clear hb0
  refine (rsign04 s (HS.out.below hbw)).mono ?_
  rintro e v9 ⟨rfl, hb9⟩
  obtain ⟨sg, hsg⟩ : ∃ sg, sg = sgnI z := ⟨_, rfl⟩
  rw [← hsg]
  have hs0 : (sg == 0) = false := by rw [hsg]; have := HZ0.out; unfold sgnI; split <;> (try split) <;> simp <;> omega
  clear hsg
  replace Xm : Hid _ := Xm.out.below hb9
  replace Xr : Hid _ := Xr.out.below hb9
  replace hbw := Below.on hbw hb9
  clear hb9
  obtain ⟨cm0, cm1, fm0, fm1⟩ := Xm.out
  have hnem := Xm.out.lt
  go_wp2_with fail
  clear cm0 cm1 fm0 fm1 hnem
  clear hs0
  refine (rzeros_any (k := K) (AX.out.below hbw) NX.out (by have := HZ.out; omega) HZ.out.1 HZ.out.2.1).mono ?_
  rintro e2 v1 ⟨rfl, hw⟩
  obtain rfl := hw.symm
  clear hw
  obtain ⟨cm0, cm1, fm0, fm1⟩ := Xm.out
  have hnem := Xm.out.lt
  go_wp2_with fail
  clear cm0 cm1 fm0 fm1 hnem
  obtain ⟨W5, hW5⟩ : ∃ W1, W1 = v9.drew := ⟨_, rfl⟩
  have hbd : Below v9.heap.size v9 W5 := by rw [hW5]; exact bDrew1 (Below.refl _ _)
  replace Xm : Hid _ := Xm.out.below hbd
  replace Xr : Hid _ := Xr.out.below hbd
  replace hbw := Below.on hbw hbd
  clear hbd
  have HJ : Hid ((fun W' : World => W'.cell? ⟨gm, 0, none⟩ = some (.bool s) ∧ W'.cell? ⟨gm, 1, none⟩ = some (.slice p m m)) W5) := ⟨Xm.out.c0, Xm.out.c1⟩
  refine wp_region_J (fun W' => W'.cell? ⟨gm, 0, none⟩ = some (.bool s) ∧ W'.cell? ⟨gm, 1, none⟩ = some (.slice p m m)) (by kernel_rfl) ?_
  rw [← hW5]
  clear hW5
  refine wpJ_tq 0 rfl HJ.out ?_
  refine wpJ_tq 1 rfl HJ.out ?_
  refine wpJ_tq 2 rfl HJ.out ?_
  refine wpJ_tq 3 rfl HJ.out ?_
  refine wpJ_tq 4 rfl HJ.out ?_
  go_simp
  refine wpJ_tq 8 rfl HJ.out ?_
  refine wpJ_tq 9 rfl HJ.out ?_
  refine wpJ_tq 10 rfl HJ.out ?_
  refine wpJ_on 5 rfl fun KJ hK => ?_
  go_simp
  refine (rshr_alle (AX.out.below hbw) NX.out (by have := HZ.out; omega) K HZ.out.2.2.2.2).mono ?_
  rintro e2 v3 ⟨p3, m3, z3, rfl, hA3, hN3, hl3, hb3⟩
  have g4 : ¬ (16384 : Int) < (m3 : Int) := by have := HZ.out; omega
  have N3 : Hid (Nf B32 z3 (z.natAbs / 2 ^ K) ∧ m3 ≤ m) := ⟨hN3, hl3⟩
  replace Xm : Hid _ := Xm.out.below hb3
  replace Xr : Hid _ := Xr.out.below hb3
  replace hbw := Below.on hbw hb3
  clear hb3
  have A3 : Hid (At32 v3 p3 m3 m3 z3) := hA3
  clear hA3 hN3 hl3
  refine hK _ _ ⟨Xm.out.c0, Xm.out.c1⟩ ?_
  clear hK
  refine wpJ_on 6 rfl fun KJ hK => ?_
  go_simp
  refine (rmk_any s A3.out N3.out.1 (by have := HZ.out; have := N3.out; omega)).mono ?_
  rintro e v5 ⟨v, rfl, hv, hb5⟩
  obtain ⟨s5, g5, m5, rfl, hg5, hz5, hl5⟩ := hv
  have HN5 : Hid (v3.heap.size ≤ g5) := hg5
  have HB5 : Hid (v3.heap.size ≤ v5.heap.size) := hb5.size
  replace Xm : Hid _ := Xm.out.below hb5
  replace Xr : Hid _ := Xr.out.below hb5
  replace A3 : Hid _ := A3.out.below hb5
  replace hbw := Below.on hbw hb5
  clear hb5
  have Z5 : Hid (ZR v5 s5 (some ⟨g5, 0, none⟩) m5 (iv s (z.natAbs / 2 ^ K))) := hz5
  have HL5 : Hid (m5 ≤ m3) := hl5
  clear hz5 hl5 hg5
  have hz5 := Z5.out.cast (show iv s (z.natAbs / 2 ^ K) = zo from by rw [HZ.out.2.2.1]; exact HO.out.2.2.2)
  obtain rfl : s5 = s := by rw [hz5.sg, HZ.out.2.2.1]; exact HO.out.2.2.1
  obtain ⟨zs, hA5, hN5⟩ := hz5.ex
  have h05 : s5 = true → 0 < m5 := fun h8 => Nat.pos_of_ne_zero fun e0 => by have := hz5.zero.1 e0; have := HO.out.2.1; omega
  have HZ5 : Hid (At32 v5 (some ⟨g5, 0, none⟩) m5 m5 zs ∧ Nf B32 zs zo.natAbs ∧ (s5 = true → 0 < m5) ∧ m5 ≤ m) := ⟨hA5, hN5, h05, Nat.le_trans HL5.out N3.out.2⟩
  clear hz5 hA5 hN5 h05 Z5
  refine hK _ _ ⟨Xm.out.c0, Xm.out.c1⟩ ?_
  clear hK
  refine wpJ_on 7 rfl fun KJ hK => ?_
  go_simp
  have HRL : Hid (gr < v5.heap.size ∧ w.heap.size ≤ v5.heap.size) := ⟨Xr.out.lt, hbw.size⟩
  refine (to04_any s5 HZ5.out.1 HZ5.out.2.1 (by have := HZ5.out; have := HZ.out; omega) HZ5.out.2.2.1).mono ?_
  rintro e2 v6 ⟨g6, k6, c6, us, rfl, hA6, hN6, hg6, hb6⟩
  replace Xm : Hid _ := Xm.out.below hb6
  replace Xr : Hid _ := Xr.out.below hb6
  replace A3 : Hid _ := A3.out.below hb6
  replace hbw := Below.on hbw hb6
  clear hb6
  have A6 : Hid (At v6 (some ⟨g6, 0, none⟩) k6 c6 us) := hA6
  have N6 : Hid (Nf B64 us zo.natAbs ∧ gr < g6) := ⟨hN6, Nat.lt_of_lt_of_le HRL.out.1 hg6⟩
  clear hA6 hN6 hg6
  clear HJ
  have HJ : Hid ((fun W' : World => W'.cell? ⟨gm, 0, none⟩ = some (.bool s5) ∧ W'.cell? ⟨gm, 1, none⟩ = some (.slice p m m)) v6) := ⟨Xm.out.c0, Xm.out.c1⟩
  refine hK _ _ HJ.out ?_
  clear hK
  refine wpJ_tq 11 rfl HJ.out ?_
  obtain ⟨cr0, cr1, cr2, fr0, fr1, fr2⟩ := Xr.out
  have hner : gr < v6.heap.size := World.block_lt_of_cell? v6 _ cr0
  obtain ⟨cm0, cm1, fm0, fm1⟩ := Xm.out
  have hnem := Xm.out.lt
  obtain ⟨hgd0, hgd1⟩ := HGD.out
  refine wpJ_on 12 rfl fun KJ hK => ?_
  go_simp
  have HJ2 : Hid ((fun W' : World => W'.cell? ⟨gm, 0, none⟩ = some (.bool s5) ∧ W'.cell? ⟨gm, 1, none⟩ = some (.slice p m m)) (((v6.setCell ⟨gr, 0, none⟩ (.bool s5)).setCell ⟨gr, 1, none⟩ (.slice (some ⟨g6, 0, none⟩) k6 c6)).setCell ⟨gr, 2, none⟩ (.int .i64 (e + K)))) := ⟨by go_simp, by go_simp⟩
  refine hK _ _ HJ2.out ?_
  clear hK HJ
  have HJ := HJ2
  clear HJ2
  refine wpJ_done (by kernel_rfl) ?_ _
  clear HJ
  go_wp2_with fail
  refine bodyPost_ret (v := DV s5 (some ⟨g6, 0, none⟩) k6 c6 (e + K)) (by rw [results_cell1 rfl]; go_simp) rfl ⟨g6, k6, c6, rfl, Nat.le_trans HGr.out (Nat.le_of_lt N6.out.2), ⟨⟨⟨us, ?_, N6.out.1, ?_⟩, by rw [HZ.out.2.2.1]; exact HO.out.2.2.1.symm⟩, .inr ⟨HO.out.2.1, HE.out⟩⟩, ?_⟩
  · have := N6.out.2
    exact ((A6.out.setOther _ _ _ (by omega)).setOther _ _ _ (by omega)).setOther _ _ _ (by omega)
  · have h1 := (lim32 HZ5.out.2.1).1 (by rw [HZ5.out.1.len]; have := HZ5.out; have := HZ.out; omega)
    have h2 := N6.out.1.lim.2 h1
    rw [A6.out.len] at h2
    exact h2
  · exact bSet (bSet (bSet hbw _ _ _ HGr.out) _ _ _ HGr.out) _ _ _ HGr.out
theorem rfin_x (f : Int) (h1 : f ≠ 32) (h2 : f ≠ 64) (b : Nat) (w : World) :
    Calls Tryd.prog 17 #[.int .i64 f, U b] w fun en w' => en = .returned (.int .i64 1) ∧ Below w.heap.size w w' := by
  have H : Hid (f ≠ 32 ∧ f ≠ 64) := ⟨h1, h2⟩
  clear h1 h2
  go_enter Tryd.func17, Tryd.ntmps17
  go_wp2_with fail
  have hbw : Below w.heap.size w w := Below.refl _ _
  refine (check_x f H.out.1 H.out.2 b _).mono ?_
  rintro e v1 ⟨rfl, hb1⟩
  replace hbw := Below.on hbw hb1
  clear hb1
  go_wp2_with fail
  go_ret
  exact ⟨rfl, hbw⟩
theorem rfin_b {f P E G : Int} {S I Q : Nat} (R : Rf f S P E G I Q) (b : Nat) (hb9 : b < B64) (hb : 2 * S ≤ b) (w : World) :
    Calls Tryd.prog 17 #[.int .i64 f, U b] w fun en w' => en = .returned (.int .i64 2) ∧ Below w.heap.size w w' := by
  have H : Hid (Rf f S P E G I Q ∧ b < B64 ∧ 2 * S ≤ b) := ⟨R, hb9, hb⟩
  clear R hb9 hb
  go_enter Tryd.func17, Tryd.ntmps17
  go_wp2_with fail
  have hbw : Below w.heap.size w w := Below.refl _ _
  refine (check_big H.out.1 b H.out.2.1 H.out.2.2 _).mono ?_
  rintro e v1 ⟨rfl, hb1⟩
  replace hbw := Below.on hbw hb1
  clear hb1
  go_wp2_with fail
  go_ret
  exact ⟨rfl, hbw⟩
theorem rfin_i {f P E G : Int} {S I Q : Nat} (R : Rf f S P E G I Q) (b : Nat) (hb : b < 2 * S) (hr : I ≤ b % S) (h0 : 0 < S) (hS : S ≤ 9223372036854775808) (w : World) :
    Calls Tryd.prog 17 #[.int .i64 f, U b] w fun en w' => en = .returned (.int .i64 6) ∧ Below w.heap.size w w' := by
  have H : Hid (Rf f S P E G I Q ∧ b < 2 * S ∧ 0 < S ∧ S ≤ 9223372036854775808) := ⟨R, hb, h0, hS⟩
  obtain ⟨z, hz⟩ : ∃ z, z = b % S := ⟨_, rfl⟩
  have HZ : Hid (b % S = z) := hz.symm
  have k1 : (I : Int) ≤ (z : Int) := by omega
  clear R hb hr h0 hS hz
  go_enter Tryd.func17, Tryd.ntmps17
  go_wp2_with fail
  have hbw : Below w.heap.size w w := Below.refl _ _
  refine (check_ok H.out.1 b H.out.2.1 _).mono ?_
  rintro e v1 ⟨rfl, hb1⟩
  replace hbw := Below.on hbw hb1
  clear hb1
  go_wp2_with fail
  refine (H.out.1.of _).mono ?_
  rintro e v2 ⟨rfl, hb2⟩
  replace hbw := Below.on hbw hb2
  clear hb2
  go_wp2_with fail
  have Xk0 : Hid (B6q (v2.alloc (.cells #[U S, .int .i64 P, .int .i64 E, .int .i64 G, U I, U Q] 51)) v2.heap.size (U S) (.int .i64 P) (.int .i64 E) (.int .i64 G) (U I) (U Q)) := B6q.new v2 _ _ _ _ _ _ _
  have hbn : Below v2.heap.size v2 (v2.alloc (.cells #[U S, .int .i64 P, .int .i64 E, .int .i64 G, U I, U Q] 51)) := below1 v2 _
  generalize v2.alloc (.cells #[U S, .int .i64 P, .int .i64 E, .int .i64 G, U I, U Q] 51) = Wk at *
  have HGk : Hid (w.heap.size ≤ v2.heap.size) := hbw.size
  replace hbw := Below.on hbw hbn
  clear hbn
  generalize v2.heap.size = gk at *
  have Xk := Xk0
  clear Xk0
  refine (cut_any H.out.2.2.1 H.out.2.2.2 b _).mono ?_
  rintro e v3 ⟨rfl, hb3⟩
  rw [HZ.out]
  replace Xk : Hid _ := Xk.out.below hb3
  replace hbw := Below.on hbw hb3
  clear hb3
  obtain ⟨ck0, ck1, ck2, ck3, ck4, ck5, fk0, fk1, fk2, fk3, fk4, fk5⟩ := Xk.out
  have hnek : gk < v3.heap.size := World.block_lt_of_cell? v3 _ ck0
  go_wp2_with fail
  clear ck0 ck1 ck2 ck3 ck4 ck5 fk0 fk1 fk2 fk3 fk4 fk5 hnek
  go_ret
  exact ⟨rfl, hbw⟩
theorem rfin_o {f P E G : Int} {S I Q : Nat} (R : Rf f S P E G I Q) (b : Nat) (hb : b < 2 * S) (hr : b % S < I) (h0 : 0 < S) (hS : S ≤ 9223372036854775808) (w : World) :
    Calls Tryd.prog 17 #[.int .i64 f, U b] w fun en w' => en = .returned (.int .i64 0) ∧ Below w.heap.size w w' := by
  have H : Hid (Rf f S P E G I Q ∧ b < 2 * S ∧ 0 < S ∧ S ≤ 9223372036854775808) := ⟨R, hb, h0, hS⟩
  obtain ⟨z, hz⟩ : ∃ z, z = b % S := ⟨_, rfl⟩
  have HZ : Hid (b % S = z) := hz.symm
  have k1 : ¬ (I : Int) ≤ (z : Int) := by omega
  clear R hb hr h0 hS hz
  go_enter Tryd.func17, Tryd.ntmps17
  go_wp2_with fail
  have hbw : Below w.heap.size w w := Below.refl _ _
  refine (check_ok H.out.1 b H.out.2.1 _).mono ?_
  rintro e v1 ⟨rfl, hb1⟩
  replace hbw := Below.on hbw hb1
  clear hb1
  go_wp2_with fail
  refine (H.out.1.of _).mono ?_
  rintro e v2 ⟨rfl, hb2⟩
  replace hbw := Below.on hbw hb2
  clear hb2
  go_wp2_with fail
  have Xk0 : Hid (B6q (v2.alloc (.cells #[U S, .int .i64 P, .int .i64 E, .int .i64 G, U I, U Q] 51)) v2.heap.size (U S) (.int .i64 P) (.int .i64 E) (.int .i64 G) (U I) (U Q)) := B6q.new v2 _ _ _ _ _ _ _
  have hbn : Below v2.heap.size v2 (v2.alloc (.cells #[U S, .int .i64 P, .int .i64 E, .int .i64 G, U I, U Q] 51)) := below1 v2 _
  generalize v2.alloc (.cells #[U S, .int .i64 P, .int .i64 E, .int .i64 G, U I, U Q] 51) = Wk at *
  have HGk : Hid (w.heap.size ≤ v2.heap.size) := hbw.size
  replace hbw := Below.on hbw hbn
  clear hbn
  generalize v2.heap.size = gk at *
  have Xk := Xk0
  clear Xk0
  refine (cut_any H.out.2.2.1 H.out.2.2.2 b _).mono ?_
  rintro e v3 ⟨rfl, hb3⟩
  rw [HZ.out]
  replace Xk : Hid _ := Xk.out.below hb3
  replace hbw := Below.on hbw hb3
  clear hb3
  obtain ⟨ck0, ck1, ck2, ck3, ck4, ck5, fk0, fk1, fk2, fk3, fk4, fk5⟩ := Xk.out
  have hnek : gk < v3.heap.size := World.block_lt_of_cell? v3 _ ck0
  go_wp2_with fail
  clear ck0 ck1 ck2 ck3 ck4 ck5 fk0 fk1 fk2 fk3 fk4 fk5 hnek
  go_ret
  exact ⟨rfl, hbw⟩
theorem vs_next {H : Nat} (hH : 0 < H) (s : Nat) : vs H (s + 1) = vs H s + 2 ^ (s / H - 1) := by
  have h1 := Nat.div_add_mod s H
  have h2 := Nat.mod_lt s hH
  have h3 := Nat.div_add_mod (s + 1) H
  have h4 := Nat.mod_lt (s + 1) hH
  have h5 : s / H ≤ (s + 1) / H := Nat.div_le_div_right (by omega)
  have h6 : (s + 1) / H ≤ s / H + 1 := by
    have : (s + 1) / H ≤ (s + H) / H := Nat.div_le_div_right (by omega)
    rw [Nat.add_div_right _ hH] at this
    exact this
  unfold vs
  by_cases h7 : (s + 1) / H = s / H
  · rw [h7]
    have hq : (s / H - 1) * H ≤ s := by
      rw [Nat.sub_mul, Nat.mul_comm]; omega
    rw [show s + 1 - (s / H - 1) * H = s - (s / H - 1) * H + 1 from by omega, Nat.add_mul, Nat.one_mul]
  · have h8 : (s + 1) / H = s / H + 1 := by omega
    rw [h8, Nat.add_sub_cancel]
    rw [h8, Nat.mul_add, Nat.mul_one] at h3
    obtain ⟨k, hk⟩ : ∃ k, k = s / H := ⟨_, rfl⟩
    rw [← hk] at h1 h3 ⊢
    obtain ⟨y, hy⟩ : ∃ y, y = H * k := ⟨_, rfl⟩
    rw [← hy] at h1 h3
    rw [Nat.mul_comm k H, ← hy]
    by_cases h9 : k = 0
    · subst h9
      have : y = 0 := by rw [hy]; simp
      simp
      omega
    · obtain ⟨j, rfl⟩ : ∃ j, k = j + 1 := ⟨k - 1, by omega⟩
      rw [Nat.add_sub_cancel, Nat.pow_succ]
      have hj : j * H + H = y := by rw [hy, Nat.mul_comm H, Nat.add_mul, Nat.one_mul]
      have e1 : s + 1 - y = H := by omega
      have e2 : s - j * H = 2 * H - 1 := by omega
      rw [e1, e2, Nat.mul_comm (2 ^ j) 2, ← Nat.mul_assoc, Nat.sub_mul, Nat.one_mul, Nat.mul_comm H 2]
      have : 1 * 2 ^ j ≤ 2 * H * 2 ^ j := Nat.mul_le_mul_right _ (by omega)
      omega
theorem mid_ok {f p m l : Int} {S I H : Nat} (F : Pm f p m l S I H) (b mn : Nat) (ex : Int) (hb : b < 2 * S) (hr : b % S < I) (hmn : mn = 2 * (b % S - (b % S / H - 1) * H) + 1) (hex : ex = l + ((b % S / H - 1 : Nat) : Int) - 1) (w : World) (hT : Tab w) :
    Calls Tryd.prog 6 #[.int .i64 f, U b] w fun en w' => MakeP w.heap.size w' en (iv (decide (S ≤ b)) mn) ex ∧ Below w.heap.size w w' := by
  have HF : Hid (Pm f p m l S I H) := F
  have TB : Hid (Tab w) := hT
  have HR : Hid (b < 2 * S ∧ b % S < I) := ⟨hb, hr⟩
  have hst := F.st _ hr
  have hlo := F.lo
  have h9 := F.h9
  have hp := F.hp
  obtain ⟨q, hq⟩ : ∃ q, q = b % S / H - 1 := ⟨_, rfl⟩
  have hmn2 : b % S - q * H < 2 * H := by
    have h1 := Nat.div_add_mod (b % S) H
    have h2 := Nat.mod_lt (b % S) hp
    rw [Nat.mul_comm] at h1
    by_cases h3 : b % S / H = 0
    · rw [h3] at h1; omega
    · rw [hq, Nat.sub_mul]; omega
  obtain ⟨man, hman⟩ : ∃ man, man = b % S - q * H := ⟨_, rfl⟩
  obtain ⟨e0, he0⟩ : ∃ e0 : Int, e0 = l + (q : Int) := ⟨_, rfl⟩
  obtain ⟨s, hs⟩ : ∃ s, s = decide (S ≤ b) := ⟨_, rfl⟩
  rw [← hq, ← hman] at hmn
  rw [← hq, ← he0] at hex
  rw [← hman] at hmn2
  rw [← hs]
  have HX : Hid (b % S - (b % S / H - 1) * H = man ∧ (l + ((b % S / H - 1 : Nat) : Int)) = e0 ∧ decide (S ≤ b) = s) := ⟨by rw [← hq]; exact hman.symm, by rw [← hq]; exact he0.symm, hs.symm⟩
  have HM : Hid (mn < B64 ∧ (-3145728 ≤ ex ∧ ex ≤ 3145728) ∧ 0 < mn) := ⟨by rw [B64_eq]; omega, by omega, by omega⟩
  obtain ⟨dm, hdm⟩ : ∃ dm : Nat, dm = 2 * man := ⟨_, rfl⟩
  have k1 : IntKind.u64.wrap (2 * (man : Int)) = (dm : Int) := by rw [IntKind.wrap_u64]; omega
  have k2 : IntKind.u64.wrap ((dm : Int) + 1) = (mn : Int) := by rw [IntKind.wrap_u64]; omega
  have k3 : IntKind.i64.wrap (e0 - 1) = ex := by rw [hex]; simp [IntKind.wrap, IntKind.signed, IntKind.bits]; omega
  have k4 : wrap64 (e0 - 1) = ex := by rw [hex]; simp only [wrap64]; omega
  clear F hb hr hT hst hlo h9 hp hmn hmn2 hman he0 hs hq hex hdm
  go_enter Tryd.func6, Tryd.ntmps6
  go_wp2_with fail
  obtain ⟨W0, hW0⟩ : ∃ W0, W0 = (w.alloc (.cells #[.bool false, .slice none 0 0, .int .i64 0] 29)) := ⟨_, rfl⟩
  have Xr : Hid (B3q W0 (w.heap.size) (.bool false) (.slice none 0 0) (.int .i64 0)) := by rw [hW0]; exact ⟨by go_simp, by go_simp, by go_simp, by go_simp, by go_simp, by go_simp⟩
  have hb0 : Below w.heap.size w W0 := by rw [hW0]; exact below1 w _
  rw [← hW0]
  clear hW0
  have hbw : Below w.heap.size w w := Below.refl _ _
  obtain ⟨gr, hgr⟩ : ∃ g, g = w.heap.size := ⟨_, rfl⟩
  have HGr : Hid (w.heap.size ≤ gr) := by rw [hgr]; show _ ≤ _; omega
  rw [← hgr] at Xr
  try rw [← hgr]
  clear hgr
  replace hbw := Below.on hbw hb0
  clear hb0
  refine (split_ok HF.out b HR.out.1 HR.out.2 _).mono ?_
  rintro e v1 ⟨rfl, hb1⟩
  rw [HX.out.1, HX.out.2.1, HX.out.2.2]
  replace Xr : Hid _ := Xr.out.below hb1
  replace hbw := Below.on hbw hb1
  clear hb1
  go_wp2_with fail
  refine (word_any mn _ HM.out.1).mono ?_
  rintro e2 v2 ⟨p2, m2, z2, rfl, ho2, hn2, hm2, hb2⟩
  replace Xr : Hid _ := Xr.out.below hb2
  replace hbw := Below.on hbw hb2
  clear hb2
  have Z2 : Hid (ZN v2 s p2 m2 m2 (iv s mn)) := ZN.of (Num.of ho2 hn2 (by omega)) (fun _ => HM.out.2.2)
  clear ho2 hn2 hm2
  go_wp2_with fail
  have HRL : Hid (gr < v2.heap.size ∧ w.heap.size ≤ v2.heap.size) := ⟨Xr.out.lt, hbw.size⟩
  refine (makep Z2.out HM.out.2.1 (TB.out.below hbw)).mono ?_
  rintro e2 v6 ⟨hv, hb6⟩
  obtain ⟨s6, p6, m6, eo, er, rfl, hmp⟩ := hv.open
  clear hv
  replace Xr : Hid _ := Xr.out.below hb6
  replace Z2 : Hid _ := Z2.out.below hb6
  replace hbw := Below.on hbw hb6
  clear hb6
  have M6 : Hid (MP v2.heap.size v6 s6 p6 m6 eo er (iv s mn) (ex)) := hmp
  clear hmp
  obtain ⟨cr0, cr1, cr2, fr0, fr1, fr2⟩ := Xr.out
  have hner : gr < v6.heap.size := World.block_lt_of_cell? v6 _ cr0
  go_wp2_with fail
  refine bodyPost_ret (v := .tuple #[DV s6 p6 m6 m6 eo, .int .i64 er]) (by rw [results_cell_tmp rfl]; go_simp) rfl ⟨(M6.out.set HRL.out.1 HRL.out.2 _ _ _).close, ?_⟩
  exact bSet (bSet (bSet hbw _ _ _ HGr.out) _ _ _ HGr.out) _ _ _ HGr.out
theorem wpJ_nodes5 {P : Program} {md : Region.Mode} {ops : Array Oper} {Q : Exit → Act → World → Prop} {J : World → Prop} {fuel : Nat} {listed : Array Bool} {a : Act} {w : World} (h : ∀ WP : Nat → Array Bool → Act → World → Prop, WP = wpJ P md ops Q J → ∀ L a0, L = listed → a0 = a → WP fuel L a0 w) : wpJ P md ops Q J fuel listed a w := h _ rfl _ _ rfl rfl
theorem wpJ_same5 {P : Program} {md : Region.Mode} {ops : Array Oper} {Q : Exit → Act → World → Prop} {J : World → Prop} {fuel : Nat} {L L' : Array Bool} {a a' : Act} {w : World} (h1 : L = L') (h2 : a = a') (h : wpJ P md ops Q J fuel L a w) : wpJ P md ops Q J fuel L' a' w := by
  subst h1 h2; exact h
theorem Hid.mk5 {p : Prop} (h : p) : Hid p := h
theorem mid_e {f : Int} {b : Nat} {er : Int} (hB : ∀ w, Calls Tryd.prog 34 #[.int .i64 f, U b] w fun e w' => e = .returned (.tuple #[PV 0 0 0 false 0, .int .i64 er]) ∧ Below w.heap.size w w') (he : er ≠ 0) (w : World) :
    Calls Tryd.prog 6 #[.int .i64 f, U b] w fun en w' => en = .returned (.tuple #[DV false none 0 0 0, .int .i64 er]) ∧ Below w.heap.size w w' := by
  have HB : Hid (∀ w, Calls Tryd.prog 34 #[.int .i64 f, U b] w fun e w' => e = .returned (.tuple #[PV 0 0 0 false 0, .int .i64 er]) ∧ Below w.heap.size w w') := hB
  have HE : Hid (er ≠ 0) := he
  have e1 : (er == 0) = false := by simp [he]
  have e2 : (er != 0) = true := by simp [he]
  clear hB he
  go_enter Tryd.func6, Tryd.ntmps6
  go_wp2_with fail
  obtain ⟨W0, hW0⟩ : ∃ W0, W0 = (w.alloc (.cells #[.bool false, .slice none 0 0, .int .i64 0] 29)) := ⟨_, rfl⟩
  have Xr : Hid (B3q W0 (w.heap.size) (.bool false) (.slice none 0 0) (.int .i64 0)) := by rw [hW0]; exact ⟨by go_simp, by go_simp, by go_simp, by go_simp, by go_simp, by go_simp⟩
  have hb0 : Below w.heap.size w W0 := by rw [hW0]; exact below1 w _
  rw [← hW0]
  clear hW0
  have hbw : Below w.heap.size w w := Below.refl _ _
  obtain ⟨gr, hgr⟩ : ∃ g, g = w.heap.size := ⟨_, rfl⟩
  have HGr : Hid (w.heap.size ≤ gr) := by rw [hgr]; show _ ≤ _; omega
  rw [← hgr] at Xr
  try rw [← hgr]
  clear hgr
  replace hbw := Below.on hbw hb0
  clear hb0
  refine (split_e HB.out HE.out _).mono ?_
  rintro e v1 ⟨rfl, hb1⟩
  replace Xr : Hid _ := Xr.out.below hb1
  replace hbw := Below.on hbw hb1
  clear hb1
  obtain ⟨cr0, cr1, cr2, fr0, fr1, fr2⟩ := Xr.out
  have hner : gr < v1.heap.size := World.block_lt_of_cell? v1 _ cr0
  go_wp2_with fail
  refine bodyPost_ret (v := .tuple #[DV false none 0 0 0, .int .i64 er]) (by rw [results_cell_tmp rfl]; go_simp) rfl ⟨rfl, ?_⟩
  first | exact hbw | exact bSet (bSet (bSet hbw _ _ _ HGr.out) _ _ _ HGr.out) _ _ _ HGr.out
theorem rmid_e {f : Int} {b : Nat} {er : Int} (hB : ∀ w, Calls Tryd.prog 17 #[.int .i64 f, U b] w fun e w' => e = .returned (.int .i64 er) ∧ Below w.heap.size w w') (he : er ≠ 0) (w : World) :
    Calls Tryd.prog 8 #[.int .i64 f, U b] w fun en w' => en = .returned (.tuple #[DV false none 0 0 0, .int .i64 er]) ∧ Below w.heap.size w w' := by
  have HB : Hid (∀ w, Calls Tryd.prog 17 #[.int .i64 f, U b] w fun e w' => e = .returned (.int .i64 er) ∧ Below w.heap.size w w') := hB
  have HE : Hid (er ≠ 0) := he
  have e1 : (er == 0) = false := by simp [he]
  have e2 : (er != 0) = true := by simp [he]
  clear hB he
  go_enter Tryd.func8, Tryd.ntmps8
  go_wp2_with fail
  obtain ⟨W0, hW0⟩ : ∃ W0, W0 = (w.alloc (.cells #[.bool false, .slice none 0 0, .int .i64 0] 29)) := ⟨_, rfl⟩
  have Xr : Hid (B3q W0 (w.heap.size) (.bool false) (.slice none 0 0) (.int .i64 0)) := by rw [hW0]; exact ⟨by go_simp, by go_simp, by go_simp, by go_simp, by go_simp, by go_simp⟩
  have hb0 : Below w.heap.size w W0 := by rw [hW0]; exact below1 w _
  rw [← hW0]
  clear hW0
  have hbw : Below w.heap.size w w := Below.refl _ _
  obtain ⟨gr, hgr⟩ : ∃ g, g = w.heap.size := ⟨_, rfl⟩
  have HGr : Hid (w.heap.size ≤ gr) := by rw [hgr]; show _ ≤ _; omega
  rw [← hgr] at Xr
  try rw [← hgr]
  clear hgr
  replace hbw := Below.on hbw hb0
  clear hb0
  refine (HB.out _).mono ?_
  rintro e v1 ⟨rfl, hb1⟩
  replace Xr : Hid _ := Xr.out.below hb1
  replace hbw := Below.on hbw hb1
  clear hb1
  obtain ⟨cr0, cr1, cr2, fr0, fr1, fr2⟩ := Xr.out
  have hner : gr < v1.heap.size := World.block_lt_of_cell? v1 _ cr0
  go_wp2_with fail
  refine bodyPost_ret (v := .tuple #[DV false none 0 0 0, .int .i64 er]) (by rw [results_cell_tmp rfl]; go_simp) rfl ⟨rfl, ?_⟩
  first | exact hbw | exact bSet (bSet (bSet hbw _ _ _ HGr.out) _ _ _ HGr.out) _ _ _ HGr.out
theorem zr_blk8 {w : World} {s : Bool} {g m : Nat} {z : Int} (h : ZR w s (some ⟨g, 0, none⟩) m z) : m = 0 ∨ g < w.heap.size := by
  obtain ⟨zs, hA, _⟩ := h.ex
  rcases hA.cells with h0 | ⟨g9, off, hp, hc⟩
  · exact .inl h0
  · by_cases h0 : m = 0
    · exact .inl h0
    · have h1 := World.block_lt_of_cell? w _ (hc 0 (by omega))
      injection hp with hp
      injection hp with hp1 hp2
      subst hp1
      exact .inr h1
theorem zr_set8 {w : World} {s : Bool} {g m : Nat} {z : Int} (h : ZR w s (some ⟨g, 0, none⟩) m z) (g2 o2 : Nat) (v : Value) (hne : m = 0 ∨ g ≠ g2) : ZR (w.setCell ⟨g2, o2, none⟩ v) s (some ⟨g, 0, none⟩) m z := by
  rcases hne with h0 | h0
  · obtain ⟨zs, hA, hN⟩ := h.ex
    exact ⟨⟨zs, ⟨hA.len, hA.cap, hA.big, hA.dig, .inl h0⟩, hN⟩, h.sg⟩
  · exact h.set g2 o2 v h0
theorem mid_sum {H : Nat} (hH : 0 < H) (s : Nat) : vs H s + vs H (s + 1) = (2 * (s - (s / H - 1) * H) + 1) * 2 ^ (s / H - 1) := by
  rw [vs_next hH]
  unfold vs
  rw [Nat.add_mul, Nat.one_mul, Nat.mul_assoc]
  omega
theorem mid_zo {sg : Bool} {M q : Nat} (hM : M % 2 = 1) : iv sg (M * 2 ^ q) ≠ 0 ∧ TzIs (iv sg (M * 2 ^ q)).natAbs q ∧ ((iv sg M).natAbs = (iv sg (M * 2 ^ q)).natAbs / 2 ^ q ∧ iv sg M % 2 = 1 ∧ decide (iv sg M < 0) = decide (iv sg (M * 2 ^ q) < 0) ∧ iv (decide (iv sg (M * 2 ^ q) < 0)) ((iv sg (M * 2 ^ q)).natAbs / 2 ^ q) = iv sg M) ∧ decide (iv sg (M * 2 ^ q) < 0) = sg := by
  have hq : 0 < 2 ^ q := Nat.pow_pos (by omega)
  have h1 : 0 < M * 2 ^ q := Nat.mul_pos (by omega) hq
  have h2 : ∀ a : Nat, (iv sg a).natAbs = a := fun a => by cases sg <;> simp [iv]
  have h3 : ∀ a : Nat, 0 < a → decide (iv sg a < 0) = sg := fun a ha => by rw [iv_lt, decide_eq_true ha, Bool.and_true]
  have h4 : M * 2 ^ q / 2 ^ q = M := Nat.mul_div_cancel _ hq
  refine ⟨fun e0 => ?_, ?_, ⟨?_, ?_, ?_, ?_⟩, h3 _ h1⟩
  · have := h2 (M * 2 ^ q)
    rw [e0] at this
    have h5 : Int.natAbs 0 = 0 := rfl
    omega
  · rw [h2]
    exact ⟨Nat.mul_mod_left _ _, by rw [h4]; exact hM⟩
  · rw [h2, h2, h4]
  · cases sg
    · rw [iv_f]; omega
    · rw [iv_t]; omega
  · rw [h3 _ h1, h3 _ (by omega)]
  · rw [h3 _ h1, h2, h4]
theorem rmid_o {f P E G : Int} {S I Q H : Nat} (R : Rf f S P E G I Q) (wh : ∀ (b : Nat) w, Calls Tryd.prog 20 #[FV S P E G I Q, U b] w fun en w' => ∃ v, en = .returned v ∧ GotR w.heap.size w' v (svS S H b) 2200 ∧ Below w.heap.size w w') (b : Nat) (hb : b < 2 * S) (hr : b % S < I) (hc : I < S ∧ S ≤ 9223372036854775808 ∧ 0 < H ∧ -1074 ≤ E ∧ E ≤ -149) (hq : b % S / H - 1 ≤ 2045) (w : World) :
    Calls Tryd.prog 8 #[.int .i64 f, U b] w fun en w' => ∃ g m' c', en = .returned (.tuple #[DV (decide (S ≤ b)) (some ⟨g, 0, none⟩) m' c' (E - 1 + ((b % S / H - 1 : Nat) : Int)), .int .i64 0]) ∧ DN w' (decide (S ≤ b)) (some ⟨g, 0, none⟩) m' c' (E - 1 + ((b % S / H - 1 : Nat) : Int)) (iv (decide (S ≤ b)) (2 * (b % S - (b % S / H - 1) * H) + 1)) ∧ Below w.heap.size w w' := by
  obtain ⟨s, hs⟩ : ∃ s, s = b % S := ⟨_, rfl⟩
  obtain ⟨sg, hsg⟩ : ∃ sg, sg = decide (S ≤ b) := ⟨_, rfl⟩
  obtain ⟨q, hqq⟩ : ∃ q, q = s / H - 1 := ⟨_, rfl⟩
  obtain ⟨M, hM⟩ : ∃ M, M = 2 * (s - q * H) + 1 := ⟨_, rfl⟩
  rw [← hs] at hr hq ⊢
  rw [← hqq] at hq ⊢
  rw [← hM, ← hsg]
  have HC : Hid (Rf f S P E G I Q ∧ b < 2 * S ∧ s < I ∧ (I < S ∧ S ≤ 9223372036854775808 ∧ 0 < H ∧ -1074 ≤ E ∧ E ≤ -149) ∧ q ≤ 2045 ∧ b % S = s ∧ decide (S ≤ b) = sg) := ⟨R, hb, hr, hc, hq, hs.symm, hsg.symm⟩
  have HW : Hid (∀ (b : Nat) w, Calls Tryd.prog 20 #[FV S P E G I Q, U b] w fun en w' => ∃ v, en = .returned v ∧ GotR w.heap.size w' v (svS S H b) 2200 ∧ Below w.heap.size w w') := wh
  have HM : Hid (vs H s + vs H (s + 1) = M * 2 ^ q ∧ M % 2 = 1) := ⟨by rw [hM, hqq]; exact mid_sum hc.2.2.1 s, by omega⟩
  have k1 : IntKind.u64.wrap ((s : Int) + 1) = ((s + 1 : Nat) : Int) := by rw [IntKind.wrap_u64]; omega
  have k2 : wrap64 (E - 1) = E - 1 := by simp only [wrap64]; omega
  have k3 : IntKind.i64.wrap (E - 1) = E - 1 := by simp [IntKind.wrap, IntKind.signed, IntKind.bits]; omega
  clear R wh hb hr hc hq hs hsg hqq hM
  go_enter Tryd.func8, Tryd.ntmps8
  go_wp2_with fail
  obtain ⟨W0, hW0⟩ : ∃ W0, W0 = (w.alloc (.cells #[.bool false, .slice none 0 0, .int .i64 0] 29)) := ⟨_, rfl⟩
  have Xr : Hid (B3q W0 (w.heap.size) (.bool false) (.slice none 0 0) (.int .i64 0)) := by rw [hW0]; exact ⟨by go_simp, by go_simp, by go_simp, by go_simp, by go_simp, by go_simp⟩
  have hb0 : Below w.heap.size w W0 := by rw [hW0]; exact below1 w _
  rw [← hW0]
  clear hW0
  have hbw : Below w.heap.size w w := Below.refl _ _
  obtain ⟨gr, hgr⟩ : ∃ g, g = w.heap.size := ⟨_, rfl⟩
  have HGr : Hid (w.heap.size ≤ gr) := by rw [hgr]; show _ ≤ _; omega
  rw [← hgr] at Xr
  try rw [← hgr]
  clear hgr
  replace hbw := Below.on hbw hb0
  clear hb0
  refine (rfin_o HC.out.1 b HC.out.2.1 (by rw [HC.out.2.2.2.2.2.1]; exact HC.out.2.2.1) (by have := HC.out.2.2.2.1; omega) HC.out.2.2.2.1.2.1 _).mono ?_
  rintro e v1 ⟨rfl, hb1⟩
  replace Xr : Hid _ := Xr.out.below hb1
  replace hbw := Below.on hbw hb1
  clear hb1
  go_wp2_with fail
  refine (HC.out.1.of _).mono ?_
  rintro e v2 ⟨rfl, hb2⟩
  replace Xr : Hid _ := Xr.out.below hb2
  replace hbw := Below.on hbw hb2
  clear hb2
  go_wp2_with fail
  have HKR0' : Hid (gr < v2.heap.size) := Xr.out.lt
  have Xk0 : Hid (B6q (v2.alloc (.cells #[U S, .int .i64 P, .int .i64 E, .int .i64 G, U I, U Q] 51)) v2.heap.size (U S) (.int .i64 P) (.int .i64 E) (.int .i64 G) (U I) (U Q)) := B6q.new v2 _ _ _ _ _ _ _
  have hbn : Below v2.heap.size v2 (v2.alloc (.cells #[U S, .int .i64 P, .int .i64 E, .int .i64 G, U I, U Q] 51)) := below1 v2 _
  generalize v2.alloc (.cells #[U S, .int .i64 P, .int .i64 E, .int .i64 G, U I, U Q] 51) = Wk at *
  have HGk : Hid (w.heap.size ≤ v2.heap.size) := hbw.size
  replace Xr : Hid _ := Xr.out.below hbn
  replace hbw := Below.on hbw hbn
  clear hbn
  generalize v2.heap.size = gk at *
  have Xk := Xk0
  clear Xk0
  have HKR0 : Hid (gk ≠ gr) := Nat.ne_of_gt HKR0'.out
  refine (cut_any (by have := HC.out.2.2.2.1; omega) HC.out.2.2.2.1.2.1 b _).mono ?_
  rintro e v3 ⟨rfl, hb3⟩
  rw [HC.out.2.2.2.2.2.1, HC.out.2.2.2.2.2.2]
  replace Xr : Hid _ := Xr.out.below hb3
  replace Xk : Hid _ := Xk.out.below hb3
  replace hbw := Below.on hbw hb3
  clear hb3
  obtain ⟨ck0, ck1, ck2, ck3, ck4, ck5, fk0, fk1, fk2, fk3, fk4, fk5⟩ := Xk.out
  have hnek : gk < v3.heap.size := World.block_lt_of_cell? v3 _ ck0
  go_wp2_with fail
  clear ck0 ck1 ck2 ck3 ck4 ck5 fk0 fk1 fk2 fk3 fk4 fk5 hnek
  have HV1 : Hid (svS S H s = (vs H s : Int) ∧ svS S H (s + 1) = (vs H (s + 1) : Int)) := by have h := HC.out; constructor <;> (rw [svS_eq, if_neg (by omega), Nat.mod_eq_of_lt (by omega)])
  have HKR : Hid (gk ≠ gr) := HKR0.out
  obtain ⟨W5, hW5⟩ : ∃ W1, W1 = v3.drew := ⟨_, rfl⟩
  have hbd : Below v3.heap.size v3 W5 := by rw [hW5]; exact bDrew1 (Below.refl _ _)
  replace Xr : Hid _ := Xr.out.below hbd
  replace Xk : Hid _ := Xk.out.below hbd
  replace hbw := Below.on hbw hbd
  clear hbd
  have HJ : Hid ((fun W' : World => W'.cell? ⟨gk, 0, none⟩ = some (U S) ∧ W'.cell? ⟨gk, 1, none⟩ = some (.int .i64 P) ∧ W'.cell? ⟨gk, 2, none⟩ = some (.int .i64 E) ∧ W'.cell? ⟨gk, 3, none⟩ = some (.int .i64 G) ∧ W'.cell? ⟨gk, 4, none⟩ = some (U I) ∧ W'.cell? ⟨gk, 5, none⟩ = some (U Q)) W5) := ⟨Xk.out.c0, Xk.out.c1, Xk.out.c2, Xk.out.c3, Xk.out.c4, Xk.out.c5⟩
  refine wp_region_J (fun W' => W'.cell? ⟨gk, 0, none⟩ = some (U S) ∧ W'.cell? ⟨gk, 1, none⟩ = some (.int .i64 P) ∧ W'.cell? ⟨gk, 2, none⟩ = some (.int .i64 E) ∧ W'.cell? ⟨gk, 3, none⟩ = some (.int .i64 G) ∧ W'.cell? ⟨gk, 4, none⟩ = some (U I) ∧ W'.cell? ⟨gk, 5, none⟩ = some (U Q)) (by kernel_rfl) ?_
  rw [← hW5]
  clear hW5
  refine wpJ_tq 0 rfl HJ.out ?_
  refine wpJ_tq 1 rfl HJ.out ?_
  refine wpJ_tq 3 rfl HJ.out ?_
  refine wpJ_tq 4 rfl HJ.out ?_
  refine wpJ_tq 5 rfl HJ.out ?_
  go_simp
  refine wpJ_nodes5 fun WP hWP L0 a0 hL ha => ?_
  have N2_6_7_8 : ∀ (t1 : Bool) (k1_ : Nat) (n1 : Nat) (t2 : Bool) (k2_ : Nat) (n2 : Nat) (t3 : Bool) (k3_ : Nat) (n3 : Nat) (gm : Nat) (W' : World), (B6q W' gk (U S) (.int .i64 P) (.int .i64 E) (.int .i64 G) (U I) (U Q)) ∧ (B3q W' gr (.bool false) (.slice none 0 0) (.int .i64 0)) ∧ (Below w.heap.size w W') ∧ (ZR W' t1 (some ⟨k1_, 0, none⟩) n1 (vs H s : Int)) ∧ (n1 ≤ 2200) ∧ (ZR W' t2 (some ⟨k2_, 0, none⟩) n2 (vs H (s + 1) : Int)) ∧ (n2 ≤ 2200) ∧ (ZR W' t3 (some ⟨k3_, 0, none⟩) n3 ((vs H s : Int) + (vs H (s + 1) : Int))) ∧ (n3 ≤ 2300) ∧ (Box W' gm (.bool false) (.slice none 0 0)) ∧ (w.heap.size ≤ gm) ∧ (gk ≠ gm ∧ gr ≠ gm) ∧ (n3 = 0 ∨ k3_ ≠ gm) → WP 1 ((((L0.setIfInBounds 2 true).setIfInBounds 6 true).setIfInBounds 7 true).setIfInBounds 8 true) ((((a0.put (some 32) (.agg #[.bool t1, .slice (some ⟨k1_, 0, none⟩) n1 n1])).put (some 36) (.agg #[.bool t2, .slice (some ⟨k2_, 0, none⟩) n2 n2])).put (some 37) (.agg #[.bool t3, .slice (some ⟨k3_, 0, none⟩) n3 n3])).put (some 11) (.pointer (some ⟨gm, 0, none⟩))) W' := by
    rintro t1 k1_ n1 t2 k2_ n2 t3 k3_ n3 gm W' ⟨xk, xr, hbw, z1, l1, z2, l2, z3, l3, xm, hm, nm, o3⟩
    subst hWP hL ha
    have Hxk := Hid.mk5 xk
    have Hxr := Hid.mk5 xr
    have Hz1 := Hid.mk5 z1
    have Hl1 := Hid.mk5 l1
    have Hz2 := Hid.mk5 z2
    have Hl2 := Hid.mk5 l2
    have Hz3 := Hid.mk5 z3
    have Hl3 := Hid.mk5 l3
    have Hxm := Hid.mk5 xm
    have Hhm := Hid.mk5 hm
    have Hnm := Hid.mk5 nm
    have Ho3 := Hid.mk5 o3
    clear xk xr z1 l1 z2 l2 z3 l3 xm hm nm o3
    go_simp
    have Xk := Hxk
    have Xr := Hxr
    have Xm := Hxm
    clear Hxk Hxr Hxm
    obtain ⟨q1, q2⟩ := Hnm.out
    have q1' := Ne.symm q1
    have q2' := Ne.symm q2
    have HJ : Hid ((fun W' : World => W'.cell? ⟨gk, 0, none⟩ = some (U S) ∧ W'.cell? ⟨gk, 1, none⟩ = some (.int .i64 P) ∧ W'.cell? ⟨gk, 2, none⟩ = some (.int .i64 E) ∧ W'.cell? ⟨gk, 3, none⟩ = some (.int .i64 G) ∧ W'.cell? ⟨gk, 4, none⟩ = some (U I) ∧ W'.cell? ⟨gk, 5, none⟩ = some (U Q)) W') := ⟨Xk.out.c0, Xk.out.c1, Xk.out.c2, Xk.out.c3, Xk.out.c4, Xk.out.c5⟩
    obtain ⟨ck0, ck1, ck2, ck3, ck4, ck5, fk0, fk1, fk2, fk3, fk4, fk5⟩ := Xk.out
    have hnek : gk < W'.heap.size := World.block_lt_of_cell? W' _ ck0
    obtain ⟨cr0, cr1, cr2, fr0, fr1, fr2⟩ := Xr.out
    have hner : gr < W'.heap.size := World.block_lt_of_cell? W' _ cr0
    obtain ⟨cm0, cm1, fm0, fm1⟩ := Xm.out
    have hnem := Xm.out.lt
    refine wpJ_on 9 rfl fun KJ hK => ?_
    go_simp
    have Yk : Hid (B6q ((W'.setCell ⟨gm, 0, none⟩ (.bool t3)).setCell ⟨gm, 1, none⟩ (.slice (some ⟨k3_, 0, none⟩) n3 n3)) gk (U S) (.int .i64 P) (.int .i64 E) (.int .i64 G) (U I) (U Q)) := ⟨by go_simp, by go_simp, by go_simp, by go_simp, by go_simp, by go_simp, by go_simp, by go_simp, by go_simp, by go_simp, by go_simp, by go_simp⟩
    have Yr : Hid (B3q ((W'.setCell ⟨gm, 0, none⟩ (.bool t3)).setCell ⟨gm, 1, none⟩ (.slice (some ⟨k3_, 0, none⟩) n3 n3)) gr (.bool false) (.slice none 0 0) (.int .i64 0)) := ⟨by go_simp, by go_simp, by go_simp, by go_simp, by go_simp, by go_simp⟩
    have Ym : Hid (Box ((W'.setCell ⟨gm, 0, none⟩ (.bool t3)).setCell ⟨gm, 1, none⟩ (.slice (some ⟨k3_, 0, none⟩) n3 n3)) gm (.bool t3) (.slice (some ⟨k3_, 0, none⟩) n3 n3)) := ⟨by go_simp, by go_simp, by go_simp, by go_simp⟩
    have HJ2 : Hid ((fun W' : World => W'.cell? ⟨gk, 0, none⟩ = some (U S) ∧ W'.cell? ⟨gk, 1, none⟩ = some (.int .i64 P) ∧ W'.cell? ⟨gk, 2, none⟩ = some (.int .i64 E) ∧ W'.cell? ⟨gk, 3, none⟩ = some (.int .i64 G) ∧ W'.cell? ⟨gk, 4, none⟩ = some (U I) ∧ W'.cell? ⟨gk, 5, none⟩ = some (U Q)) ((W'.setCell ⟨gm, 0, none⟩ (.bool t3)).setCell ⟨gm, 1, none⟩ (.slice (some ⟨k3_, 0, none⟩) n3 n3))) := ⟨Yk.out.c0, Yk.out.c1, Yk.out.c2, Yk.out.c3, Yk.out.c4, Yk.out.c5⟩
    have Hy3 : Hid (ZR ((W'.setCell ⟨gm, 0, none⟩ (.bool t3)).setCell ⟨gm, 1, none⟩ (.slice (some ⟨k3_, 0, none⟩) n3 n3)) t3 (some ⟨k3_, 0, none⟩) n3 ((vs H s : Int) + (vs H (s + 1) : Int))) := zr_set8 (zr_set8 Hz3.out _ _ _ Ho3.out) _ _ _ Ho3.out
    have hbw2 : Below w.heap.size w ((W'.setCell ⟨gm, 0, none⟩ (.bool t3)).setCell ⟨gm, 1, none⟩ (.slice (some ⟨k3_, 0, none⟩) n3 n3)) := bSet (bSet hbw _ _ _ Hhm.out) _ _ _ Hhm.out
    refine hK _ _ HJ2.out ?_
    clear hK HJ
    have HJ := HJ2
    clear HJ2
    clear ck0 ck1 ck2 ck3 ck4 ck5 fk0 fk1 fk2 fk3 fk4 fk5 hnek
    clear cr0 cr1 cr2 fr0 fr1 fr2 hner
    clear cm0 cm1 fm0 fm1 hnem
    clear Hz1 Hz2 Hz3 hbw Xk Xr Xm
    have Xk := Yk
    have Xr := Yr
    have Xm := Ym
    have Z3 := Hy3
    have hbw := hbw2
    clear Hy3 hbw2 Yk Yr Ym
    generalize ((W'.setCell ⟨gm, 0, none⟩ (.bool t3)).setCell ⟨gm, 1, none⟩ (.slice (some ⟨k3_, 0, none⟩) n3 n3)) = V9 at *
    refine wpJ_done (by kernel_rfl) ?_ _
    clear HJ
    obtain ⟨ck0, ck1, ck2, ck3, ck4, ck5, fk0, fk1, fk2, fk3, fk4, fk5⟩ := Xk.out
    have hnek : gk < V9.heap.size := World.block_lt_of_cell? V9 _ ck0
    obtain ⟨cm0, cm1, fm0, fm1⟩ := Xm.out
    have hnem := Xm.out.lt
    go_wp2_with fail
    clear ck0 ck1 ck2 ck3 ck4 ck5 fk0 fk1 fk2 fk3 fk4 fk5 hnek
    clear cm0 cm1 fm0 fm1 hnem
    obtain ⟨W6, hW6⟩ : ∃ W1, W1 = V9.drew := ⟨_, rfl⟩
    have hbd : Below V9.heap.size V9 W6 := by rw [hW6]; exact bDrew1 (Below.refl _ _)
    replace Xr : Hid _ := Xr.out.below hbd
    replace Xk : Hid _ := Xk.out.below hbd
    replace Xm : Hid _ := Xm.out.below hbd
    replace Z3 : Hid _ := Z3.out.below hbd
    replace hbw := Below.on hbw hbd
    clear hbd
    have HJ : Hid ((fun W' : World => W'.cell? ⟨gk, 2, none⟩ = some (.int .i64 E) ∧ W'.cell? ⟨gm, 0, none⟩ = some (.bool t3) ∧ W'.cell? ⟨gm, 1, none⟩ = some (.slice (some ⟨k3_, 0, none⟩) n3 n3)) W6) := ⟨Xk.out.c2, Xm.out.c0, Xm.out.c1⟩
    refine wp_region_J (fun W' => W'.cell? ⟨gk, 2, none⟩ = some (.int .i64 E) ∧ W'.cell? ⟨gm, 0, none⟩ = some (.bool t3) ∧ W'.cell? ⟨gm, 1, none⟩ = some (.slice (some ⟨k3_, 0, none⟩) n3 n3)) (by kernel_rfl) ?_
    rw [← hW6]
    clear hW6
    refine wpJ_tq 0 rfl HJ.out ?_
    refine wpJ_tq 1 rfl HJ.out ?_
    refine wpJ_tq 2 rfl HJ.out ?_
    refine wpJ_tq 4 rfl HJ.out ?_
    refine wpJ_tq 5 rfl HJ.out ?_
    go_simp
    refine wpJ_tq 6 rfl HJ.out ?_
    refine wpJ_on 3 rfl fun KJ hK => ?_
    go_simp
    obtain ⟨zs, hA, hN⟩ := Z3.out.ex
    rw [show ((vs H s : Int) + (vs H (s + 1) : Int)).natAbs = M * 2 ^ q from by rw [← HM.out.1]; omega] at hN
    have HNR : Hid (gr < W6.heap.size) := Xr.out.lt
    refine (rmk_any sg hA hN (by have := Hl3.out; omega)).mono ?_
    rintro e9 v4 ⟨v, rfl, ⟨t4, g4, n4, rfl, _, hz4, hl4⟩, hb4⟩
    clear hA hN
    replace Xr : Hid _ := Xr.out.below hb4
    replace Xk : Hid _ := Xk.out.below hb4
    replace Xm : Hid _ := Xm.out.below hb4
    replace Z3 : Hid _ := Z3.out.below hb4
    replace hbw := Below.on hbw hb4
    clear hb4
    have Z4 : Hid (ZR v4 t4 (some ⟨g4, 0, none⟩) n4 (iv sg (M * 2 ^ q))) := hz4
    have HL4 : Hid (n4 ≤ 16384) := by have := Hl3.out; show _ ≤ _; omega
    clear hz4 hl4
    refine hK _ _ ⟨Xk.out.c2, Xm.out.c0, Xm.out.c1⟩ ?_
    clear hK
    refine wpJ_on 7 rfl fun KJ hK => ?_
    go_simp
    obtain ⟨y1, y2, y3, y4⟩ := mid_zo (sg := sg) (q := q) HM.out.2
    have HT4 : Hid (t4 = sg) := Z4.out.sg.trans y4
    have HRB : Hid (gr < v4.heap.size ∧ w.heap.size ≤ v4.heap.size) := ⟨Xr.out.lt, hbw.size⟩
    refine (rdyad_n t4 Z4.out y1 y2 y3 HL4.out (by have := HC.out; omega) (by have := HC.out; omega)).mono ?_
    rintro e9 v5 ⟨g5, m5, c5, rfl, hg5, hd5, hb5⟩
    clear y1 y2 y3 y4
    rw [HT4.out] at hd5 ⊢
    have HR5 : Hid (gr < g5) := Nat.lt_of_lt_of_le HRB.out.1 hg5
    replace Xr : Hid _ := Xr.out.below hb5
    replace Xk : Hid _ := Xk.out.below hb5
    replace Xm : Hid _ := Xm.out.below hb5
    replace Z3 : Hid _ := Z3.out.below hb5
    replace Z4 : Hid _ := Z4.out.below hb5
    replace hbw := Below.on hbw hb5
    clear hb5
    have D5 : Hid (DN v5 sg (some ⟨g5, 0, none⟩) m5 c5 (E - 1 + (q : Int)) (iv sg M)) := hd5
    clear hd5 hg5
    refine hK _ _ ⟨Xk.out.c2, Xm.out.c0, Xm.out.c1⟩ ?_
    clear hK
    have z1 : gk ≠ gr := HKR.out
    have z2 := Ne.symm z1
    obtain ⟨cr0, cr1, cr2, fr0, fr1, fr2⟩ := Xr.out
    have hner : gr < v5.heap.size := World.block_lt_of_cell? v5 _ cr0
    obtain ⟨ck0, ck1, ck2, ck3, ck4, ck5, fk0, fk1, fk2, fk3, fk4, fk5⟩ := Xk.out
    have hnek : gk < v5.heap.size := World.block_lt_of_cell? v5 _ ck0
    obtain ⟨cm0, cm1, fm0, fm1⟩ := Xm.out
    have hnem := Xm.out.lt
    refine wpJ_on 8 rfl fun KJ hK => ?_
    go_simp
    have HJ2 : Hid ((fun W' : World => W'.cell? ⟨gk, 2, none⟩ = some (.int .i64 E) ∧ W'.cell? ⟨gm, 0, none⟩ = some (.bool t3) ∧ W'.cell? ⟨gm, 1, none⟩ = some (.slice (some ⟨k3_, 0, none⟩) n3 n3)) (((v5.setCell ⟨gr, 0, none⟩ (.bool sg)).setCell ⟨gr, 1, none⟩ (.slice (some ⟨g5, 0, none⟩) m5 c5)).setCell ⟨gr, 2, none⟩ (.int .i64 (E - 1 + (q : Int))))) := ⟨by go_simp, by go_simp, by go_simp⟩
    refine hK _ _ HJ2.out ?_
    clear hK HJ
    have HJ := HJ2
    clear HJ2
    refine wpJ_tq 9 rfl HJ.out ?_
    refine wpJ_done (by kernel_rfl) ?_ _
    clear HJ
    go_wp2_with fail
    refine bodyPost_ret (v := .tuple #[DV sg (some ⟨g5, 0, none⟩) m5 c5 (E - 1 + (q : Int)), .int .i64 0]) (by rw [results_cell_tmp rfl]; go_simp) rfl ⟨g5, m5, c5, rfl, ?_, ?_⟩
    · have := HR5.out
      exact ((D5.out.set _ _ _ (by omega)).set _ _ _ (by omega)).set _ _ _ (by omega)
    · exact bSet (bSet (bSet hbw _ _ _ HGr.out) _ _ _ HGr.out) _ _ _ HGr.out
  have N2_6_7 : ∀ (t1 : Bool) (k1_ : Nat) (n1 : Nat) (t2 : Bool) (k2_ : Nat) (n2 : Nat) (t3 : Bool) (k3_ : Nat) (n3 : Nat) (W' : World), (B6q W' gk (U S) (.int .i64 P) (.int .i64 E) (.int .i64 G) (U I) (U Q)) ∧ (B3q W' gr (.bool false) (.slice none 0 0) (.int .i64 0)) ∧ (Below w.heap.size w W') ∧ (ZR W' t1 (some ⟨k1_, 0, none⟩) n1 (vs H s : Int)) ∧ (n1 ≤ 2200) ∧ (ZR W' t2 (some ⟨k2_, 0, none⟩) n2 (vs H (s + 1) : Int)) ∧ (n2 ≤ 2200) ∧ (ZR W' t3 (some ⟨k3_, 0, none⟩) n3 ((vs H s : Int) + (vs H (s + 1) : Int))) ∧ (n3 ≤ 2300) → WP 2 (((L0.setIfInBounds 2 true).setIfInBounds 6 true).setIfInBounds 7 true) (((a0.put (some 32) (.agg #[.bool t1, .slice (some ⟨k1_, 0, none⟩) n1 n1])).put (some 36) (.agg #[.bool t2, .slice (some ⟨k2_, 0, none⟩) n2 n2])).put (some 37) (.agg #[.bool t3, .slice (some ⟨k3_, 0, none⟩) n3 n3])) W' := by
    rintro t1 k1_ n1 t2 k2_ n2 t3 k3_ n3 W' ⟨xk, xr, hbw, z1, l1, z2, l2, z3, l3⟩
    subst hWP hL ha
    have Hxk := Hid.mk5 xk
    have Hxr := Hid.mk5 xr
    have Hz1 := Hid.mk5 z1
    have Hl1 := Hid.mk5 l1
    have Hz2 := Hid.mk5 z2
    have Hl2 := Hid.mk5 l2
    have Hz3 := Hid.mk5 z3
    have Hl3 := Hid.mk5 l3
    clear xk xr z1 l1 z2 l2 z3 l3
    go_simp
    refine wpJ_on 8 rfl fun KJ hK => ?_
    go_simp
    have hb := below1 W' (.cells #[.bool false, .slice none 0 0] 57)
    refine hK _ _ ⟨(Hxk.out.below hb).c0, (Hxk.out.below hb).c1, (Hxk.out.below hb).c2, (Hxk.out.below hb).c3, (Hxk.out.below hb).c4, (Hxk.out.below hb).c5⟩ ?_
    exact wpJ_same5 (by kernel_rfl) (by kernel_rfl) (N2_6_7_8 t1 k1_ n1 t2 k2_ n2 t3 k3_ n3 W'.heap.size _ ⟨(Hxk.out.below hb), (Hxr.out.below hb), (Below.on hbw hb), (Hz1.out.below hb), Hl1.out, (Hz2.out.below hb), Hl2.out, (Hz3.out.below hb), Hl3.out, (Box.new W' _ _ _), hbw.size, ⟨Nat.ne_of_lt (World.block_lt_of_cell? W' _ Hxk.out.c0), Nat.ne_of_lt Hxr.out.lt⟩, ((zr_blk8 Hz3.out).imp id Nat.ne_of_lt)⟩)
  have N2_6_8 : ∀ (t1 : Bool) (k1_ : Nat) (n1 : Nat) (t2 : Bool) (k2_ : Nat) (n2 : Nat) (gm : Nat) (W' : World), (B6q W' gk (U S) (.int .i64 P) (.int .i64 E) (.int .i64 G) (U I) (U Q)) ∧ (B3q W' gr (.bool false) (.slice none 0 0) (.int .i64 0)) ∧ (Below w.heap.size w W') ∧ (ZR W' t1 (some ⟨k1_, 0, none⟩) n1 (vs H s : Int)) ∧ (n1 ≤ 2200) ∧ (ZR W' t2 (some ⟨k2_, 0, none⟩) n2 (vs H (s + 1) : Int)) ∧ (n2 ≤ 2200) ∧ (Box W' gm (.bool false) (.slice none 0 0)) ∧ (w.heap.size ≤ gm) ∧ (gk ≠ gm ∧ gr ≠ gm) → WP 2 (((L0.setIfInBounds 2 true).setIfInBounds 6 true).setIfInBounds 8 true) (((a0.put (some 32) (.agg #[.bool t1, .slice (some ⟨k1_, 0, none⟩) n1 n1])).put (some 36) (.agg #[.bool t2, .slice (some ⟨k2_, 0, none⟩) n2 n2])).put (some 11) (.pointer (some ⟨gm, 0, none⟩))) W' := by
    rintro t1 k1_ n1 t2 k2_ n2 gm W' ⟨xk, xr, hbw, z1, l1, z2, l2, xm, hm, nm⟩
    subst hWP hL ha
    have Hxk := Hid.mk5 xk
    have Hxr := Hid.mk5 xr
    have Hz1 := Hid.mk5 z1
    have Hl1 := Hid.mk5 l1
    have Hz2 := Hid.mk5 z2
    have Hl2 := Hid.mk5 l2
    have Hxm := Hid.mk5 xm
    have Hhm := Hid.mk5 hm
    have Hnm := Hid.mk5 nm
    clear xk xr z1 l1 z2 l2 xm hm nm
    go_simp
    refine wpJ_on 7 rfl fun KJ hK => ?_
    go_simp
    refine (radd04 t1 t2 Hz1.out Hz2.out (by have := Hl1.out; omega) (by have := Hl2.out; omega)).mono ?_
    rintro e9 W2 ⟨v, rfl, ⟨t3, k3_, n3, rfl, hg, hz, hl⟩, hb⟩
    have hl9 : n3 ≤ 2300 := by have := Hl1.out; have := Hl2.out; omega
    refine hK _ _ ⟨(Hxk.out.below hb).c0, (Hxk.out.below hb).c1, (Hxk.out.below hb).c2, (Hxk.out.below hb).c3, (Hxk.out.below hb).c4, (Hxk.out.below hb).c5⟩ ?_
    exact wpJ_same5 (by kernel_rfl) (by kernel_rfl) (N2_6_7_8 t1 k1_ n1 t2 k2_ n2 t3 k3_ n3 gm W2 ⟨(Hxk.out.below hb), (Hxr.out.below hb), (Below.on hbw hb), (Hz1.out.below hb), Hl1.out, (Hz2.out.below hb), Hl2.out, hz, hl9, (Hxm.out.below hb), Hhm.out, Hnm.out, (.inr (Nat.ne_of_gt (Nat.lt_of_lt_of_le Hxm.out.lt hg)))⟩)
  have N2_6 : ∀ (t1 : Bool) (k1_ : Nat) (n1 : Nat) (t2 : Bool) (k2_ : Nat) (n2 : Nat) (W' : World), (B6q W' gk (U S) (.int .i64 P) (.int .i64 E) (.int .i64 G) (U I) (U Q)) ∧ (B3q W' gr (.bool false) (.slice none 0 0) (.int .i64 0)) ∧ (Below w.heap.size w W') ∧ (ZR W' t1 (some ⟨k1_, 0, none⟩) n1 (vs H s : Int)) ∧ (n1 ≤ 2200) ∧ (ZR W' t2 (some ⟨k2_, 0, none⟩) n2 (vs H (s + 1) : Int)) ∧ (n2 ≤ 2200) → WP 3 ((L0.setIfInBounds 2 true).setIfInBounds 6 true) ((a0.put (some 32) (.agg #[.bool t1, .slice (some ⟨k1_, 0, none⟩) n1 n1])).put (some 36) (.agg #[.bool t2, .slice (some ⟨k2_, 0, none⟩) n2 n2])) W' := by
    rintro t1 k1_ n1 t2 k2_ n2 W' ⟨xk, xr, hbw, z1, l1, z2, l2⟩
    subst hWP hL ha
    have Hxk := Hid.mk5 xk
    have Hxr := Hid.mk5 xr
    have Hz1 := Hid.mk5 z1
    have Hl1 := Hid.mk5 l1
    have Hz2 := Hid.mk5 z2
    have Hl2 := Hid.mk5 l2
    clear xk xr z1 l1 z2 l2
    go_simp
    refine wpJ_two (i := 7) (k := 8) (by kernel_rfl) rfl rfl (by kernel_rfl) (by kernel_rfl) (fun KJ hK => ?_) (fun KJ hK => ?_)
    · go_simp
      refine (radd04 t1 t2 Hz1.out Hz2.out (by have := Hl1.out; omega) (by have := Hl2.out; omega)).mono ?_
      rintro e9 W2 ⟨v, rfl, ⟨t3, k3_, n3, rfl, hg, hz, hl⟩, hb⟩
      have hl9 : n3 ≤ 2300 := by have := Hl1.out; have := Hl2.out; omega
      refine hK _ _ ⟨(Hxk.out.below hb).c0, (Hxk.out.below hb).c1, (Hxk.out.below hb).c2, (Hxk.out.below hb).c3, (Hxk.out.below hb).c4, (Hxk.out.below hb).c5⟩ ?_
      exact wpJ_same5 (by kernel_rfl) (by kernel_rfl) (N2_6_7 t1 k1_ n1 t2 k2_ n2 t3 k3_ n3 W2 ⟨(Hxk.out.below hb), (Hxr.out.below hb), (Below.on hbw hb), (Hz1.out.below hb), Hl1.out, (Hz2.out.below hb), Hl2.out, hz, hl9⟩)
    · go_simp
      have hb := below1 W' (.cells #[.bool false, .slice none 0 0] 57)
      refine hK _ _ ⟨(Hxk.out.below hb).c0, (Hxk.out.below hb).c1, (Hxk.out.below hb).c2, (Hxk.out.below hb).c3, (Hxk.out.below hb).c4, (Hxk.out.below hb).c5⟩ ?_
      exact wpJ_same5 (by kernel_rfl) (by kernel_rfl) (N2_6_8 t1 k1_ n1 t2 k2_ n2 W'.heap.size _ ⟨(Hxk.out.below hb), (Hxr.out.below hb), (Below.on hbw hb), (Hz1.out.below hb), Hl1.out, (Hz2.out.below hb), Hl2.out, (Box.new W' _ _ _), hbw.size, ⟨Nat.ne_of_lt (World.block_lt_of_cell? W' _ Hxk.out.c0), Nat.ne_of_lt Hxr.out.lt⟩⟩)
  have N2_8 : ∀ (t1 : Bool) (k1_ : Nat) (n1 : Nat) (gm : Nat) (W' : World), (B6q W' gk (U S) (.int .i64 P) (.int .i64 E) (.int .i64 G) (U I) (U Q)) ∧ (B3q W' gr (.bool false) (.slice none 0 0) (.int .i64 0)) ∧ (Below w.heap.size w W') ∧ (ZR W' t1 (some ⟨k1_, 0, none⟩) n1 (vs H s : Int)) ∧ (n1 ≤ 2200) ∧ (Box W' gm (.bool false) (.slice none 0 0)) ∧ (w.heap.size ≤ gm) ∧ (gk ≠ gm ∧ gr ≠ gm) → WP 3 ((L0.setIfInBounds 2 true).setIfInBounds 8 true) ((a0.put (some 32) (.agg #[.bool t1, .slice (some ⟨k1_, 0, none⟩) n1 n1])).put (some 11) (.pointer (some ⟨gm, 0, none⟩))) W' := by
    rintro t1 k1_ n1 gm W' ⟨xk, xr, hbw, z1, l1, xm, hm, nm⟩
    subst hWP hL ha
    have Hxk := Hid.mk5 xk
    have Hxr := Hid.mk5 xr
    have Hz1 := Hid.mk5 z1
    have Hl1 := Hid.mk5 l1
    have Hxm := Hid.mk5 xm
    have Hhm := Hid.mk5 hm
    have Hnm := Hid.mk5 nm
    clear xk xr z1 l1 xm hm nm
    go_simp
    refine wpJ_on 6 rfl fun KJ hK => ?_
    go_simp
    refine (HW.out (s + 1) W').mono ?_
    rintro e9 W2 ⟨v, rfl, ⟨t2, k2_, n2, rfl, hg, hz, hl⟩, hb⟩
    rw [HV1.out.2] at hz
    refine hK _ _ ⟨(Hxk.out.below hb).c0, (Hxk.out.below hb).c1, (Hxk.out.below hb).c2, (Hxk.out.below hb).c3, (Hxk.out.below hb).c4, (Hxk.out.below hb).c5⟩ ?_
    exact wpJ_same5 (by kernel_rfl) (by kernel_rfl) (N2_6_8 t1 k1_ n1 t2 k2_ n2 gm W2 ⟨(Hxk.out.below hb), (Hxr.out.below hb), (Below.on hbw hb), (Hz1.out.below hb), Hl1.out, hz, hl, (Hxm.out.below hb), Hhm.out, Hnm.out⟩)
  have N2 : ∀ (t1 : Bool) (k1_ : Nat) (n1 : Nat) (W' : World), (B6q W' gk (U S) (.int .i64 P) (.int .i64 E) (.int .i64 G) (U I) (U Q)) ∧ (B3q W' gr (.bool false) (.slice none 0 0) (.int .i64 0)) ∧ (Below w.heap.size w W') ∧ (ZR W' t1 (some ⟨k1_, 0, none⟩) n1 (vs H s : Int)) ∧ (n1 ≤ 2200) → WP 4 (L0.setIfInBounds 2 true) (a0.put (some 32) (.agg #[.bool t1, .slice (some ⟨k1_, 0, none⟩) n1 n1])) W' := by
    rintro t1 k1_ n1 W' ⟨xk, xr, hbw, z1, l1⟩
    subst hWP hL ha
    have Hxk := Hid.mk5 xk
    have Hxr := Hid.mk5 xr
    have Hz1 := Hid.mk5 z1
    have Hl1 := Hid.mk5 l1
    clear xk xr z1 l1
    go_simp
    refine wpJ_two (i := 6) (k := 8) (by kernel_rfl) rfl rfl (by kernel_rfl) (by kernel_rfl) (fun KJ hK => ?_) (fun KJ hK => ?_)
    · go_simp
      refine (HW.out (s + 1) W').mono ?_
      rintro e9 W2 ⟨v, rfl, ⟨t2, k2_, n2, rfl, hg, hz, hl⟩, hb⟩
      rw [HV1.out.2] at hz
      refine hK _ _ ⟨(Hxk.out.below hb).c0, (Hxk.out.below hb).c1, (Hxk.out.below hb).c2, (Hxk.out.below hb).c3, (Hxk.out.below hb).c4, (Hxk.out.below hb).c5⟩ ?_
      exact wpJ_same5 (by kernel_rfl) (by kernel_rfl) (N2_6 t1 k1_ n1 t2 k2_ n2 W2 ⟨(Hxk.out.below hb), (Hxr.out.below hb), (Below.on hbw hb), (Hz1.out.below hb), Hl1.out, hz, hl⟩)
    · go_simp
      have hb := below1 W' (.cells #[.bool false, .slice none 0 0] 57)
      refine hK _ _ ⟨(Hxk.out.below hb).c0, (Hxk.out.below hb).c1, (Hxk.out.below hb).c2, (Hxk.out.below hb).c3, (Hxk.out.below hb).c4, (Hxk.out.below hb).c5⟩ ?_
      exact wpJ_same5 (by kernel_rfl) (by kernel_rfl) (N2_8 t1 k1_ n1 W'.heap.size _ ⟨(Hxk.out.below hb), (Hxr.out.below hb), (Below.on hbw hb), (Hz1.out.below hb), Hl1.out, (Box.new W' _ _ _), hbw.size, ⟨Nat.ne_of_lt (World.block_lt_of_cell? W' _ Hxk.out.c0), Nat.ne_of_lt Hxr.out.lt⟩⟩)
  have N8 : ∀ (gm : Nat) (W' : World), (B6q W' gk (U S) (.int .i64 P) (.int .i64 E) (.int .i64 G) (U I) (U Q)) ∧ (B3q W' gr (.bool false) (.slice none 0 0) (.int .i64 0)) ∧ (Below w.heap.size w W') ∧ (Box W' gm (.bool false) (.slice none 0 0)) ∧ (w.heap.size ≤ gm) ∧ (gk ≠ gm ∧ gr ≠ gm) → WP 4 (L0.setIfInBounds 8 true) (a0.put (some 11) (.pointer (some ⟨gm, 0, none⟩))) W' := by
    rintro gm W' ⟨xk, xr, hbw, xm, hm, nm⟩
    subst hWP hL ha
    have Hxk := Hid.mk5 xk
    have Hxr := Hid.mk5 xr
    have Hxm := Hid.mk5 xm
    have Hhm := Hid.mk5 hm
    have Hnm := Hid.mk5 nm
    clear xk xr xm hm nm
    go_simp
    refine wpJ_on 2 rfl fun KJ hK => ?_
    go_simp
    refine (HW.out (s) W').mono ?_
    rintro e9 W2 ⟨v, rfl, ⟨t1, k1_, n1, rfl, hg, hz, hl⟩, hb⟩
    rw [HV1.out.1] at hz
    refine hK _ _ ⟨(Hxk.out.below hb).c0, (Hxk.out.below hb).c1, (Hxk.out.below hb).c2, (Hxk.out.below hb).c3, (Hxk.out.below hb).c4, (Hxk.out.below hb).c5⟩ ?_
    exact wpJ_same5 (by kernel_rfl) (by kernel_rfl) (N2_8 t1 k1_ n1 gm W2 ⟨(Hxk.out.below hb), (Hxr.out.below hb), (Below.on hbw hb), hz, hl, (Hxm.out.below hb), Hhm.out, Hnm.out⟩)
  have N_ : ∀ (W' : World), (B6q W' gk (U S) (.int .i64 P) (.int .i64 E) (.int .i64 G) (U I) (U Q)) ∧ (B3q W' gr (.bool false) (.slice none 0 0) (.int .i64 0)) ∧ (Below w.heap.size w W') → WP 5 L0 a0 W' := by
    rintro  W' ⟨xk, xr, hbw⟩
    subst hWP hL ha
    have Hxk := Hid.mk5 xk
    have Hxr := Hid.mk5 xr
    clear xk xr
    go_simp
    refine wpJ_two (i := 2) (k := 8) (by kernel_rfl) rfl rfl (by kernel_rfl) (by kernel_rfl) (fun KJ hK => ?_) (fun KJ hK => ?_)
    · go_simp
      refine (HW.out (s) W').mono ?_
      rintro e9 W2 ⟨v, rfl, ⟨t1, k1_, n1, rfl, hg, hz, hl⟩, hb⟩
      rw [HV1.out.1] at hz
      refine hK _ _ ⟨(Hxk.out.below hb).c0, (Hxk.out.below hb).c1, (Hxk.out.below hb).c2, (Hxk.out.below hb).c3, (Hxk.out.below hb).c4, (Hxk.out.below hb).c5⟩ ?_
      exact wpJ_same5 (by kernel_rfl) (by kernel_rfl) (N2 t1 k1_ n1 W2 ⟨(Hxk.out.below hb), (Hxr.out.below hb), (Below.on hbw hb), hz, hl⟩)
    · go_simp
      have hb := below1 W' (.cells #[.bool false, .slice none 0 0] 57)
      refine hK _ _ ⟨(Hxk.out.below hb).c0, (Hxk.out.below hb).c1, (Hxk.out.below hb).c2, (Hxk.out.below hb).c3, (Hxk.out.below hb).c4, (Hxk.out.below hb).c5⟩ ?_
      exact wpJ_same5 (by kernel_rfl) (by kernel_rfl) (N8 W'.heap.size _ ⟨(Hxk.out.below hb), (Hxr.out.below hb), (Below.on hbw hb), (Box.new W' _ _ _), hbw.size, ⟨Nat.ne_of_lt (World.block_lt_of_cell? W' _ Hxk.out.c0), Nat.ne_of_lt Hxr.out.lt⟩⟩)
  exact N_ W5 ⟨Xk.out, Xr.out, hbw⟩
theorem dn_z0 (w : World) : DN w false none 0 0 0 0 := ⟨⟨⟨[], ⟨At.empty w none 0 (Nat.zero_le _), Nf.nil _, by omega⟩⟩, rfl⟩, .inl ⟨rfl, rfl⟩⟩
theorem rdyad_z {p : Option Addr} {m : Nat} {w : World} {e : Int} (s : Bool) (h : ZR w s p m 0) :
    Calls Tryd.prog 19 #[.agg #[.bool s, .slice p m m], .int .i64 e] w fun en w' => en = .returned (DV false none 0 0 0) ∧ Below w.heap.size w w' := by
  have HS : Hid (ZR w s p m 0) := h
  clear h
  go_enter Tryd.func19, Tryd.ntmps19
  go_wp2_with fail
  obtain ⟨W0, hW0⟩ : ∃ W0, W0 = ((w.alloc (.cells #[.bool s, .slice p m m] 57)).alloc (.cells #[.bool false, .slice none 0 0, .int .i64 0] 29)) := ⟨_, rfl⟩
  have Xm : Hid (Box W0 (w.heap.size) (.bool s) (.slice p m m)) := by rw [hW0]; exact ⟨by go_simp, by go_simp, by go_simp, by go_simp⟩
  have Xr : Hid (B3q W0 (w.heap.size + 1) (.bool false) (.slice none 0 0) (.int .i64 0)) := by rw [hW0]; exact ⟨by go_simp, by go_simp, by go_simp, by go_simp, by go_simp, by go_simp⟩
  have hb0 : Below w.heap.size w W0 := by rw [hW0]; exact below2 w _ _
  rw [← hW0]
  clear hW0
  have hbw : Below w.heap.size w w := Below.refl _ _
  obtain ⟨gr, hgr⟩ : ∃ g, g = w.heap.size + 1 := ⟨_, rfl⟩
  have HGr : Hid (w.heap.size ≤ gr) := by rw [hgr]; show _ ≤ _; omega
  rw [← hgr] at Xr
  try rw [← hgr]
  obtain ⟨gm, hgm⟩ : ∃ g, g = w.heap.size := ⟨_, rfl⟩
  have HGm : Hid (w.heap.size ≤ gm) := by rw [hgm]; show _ ≤ _; omega
  rw [← hgm] at Xm
  try rw [← hgm]
  have HGD : Hid (gm ≠ gr ∧ gr ≠ gm) := by rw [hgm, hgr]; exact ⟨by omega, by omega⟩
  clear hgm hgr
  replace hbw := Below.on hbw hb0
  clear hb0
  refine (rsign04 s (HS.out.below hbw)).mono ?_
  rintro e v9 ⟨rfl, hb9⟩
  rw [show sgnI 0 = 0 from rfl]
  replace Xm : Hid _ := Xm.out.below hb9
  replace Xr : Hid _ := Xr.out.below hb9
  replace hbw := Below.on hbw hb9
  clear hb9
  obtain ⟨cm0, cm1, fm0, fm1⟩ := Xm.out
  have hnem := Xm.out.lt
  obtain ⟨cr0, cr1, cr2, fr0, fr1, fr2⟩ := Xr.out
  have hner : gr < v9.heap.size := World.block_lt_of_cell? v9 _ cr0
  go_wp2_with fail
  refine bodyPost_ret (v := DV false none 0 0 0) (by rw [results_cell1 rfl]; go_simp) rfl ⟨rfl, ?_⟩
  first | exact hbw | exact bSet (bSet (bSet hbw _ _ _ HGr.out) _ _ _ HGr.out) _ _ _ HGr.out
theorem docvalue_e {f : Int} {b : Nat} {er : Int} (hB : ∀ w, Calls Tryd.prog 17 #[.int .i64 f, U b] w fun e w' => e = .returned (.int .i64 er) ∧ Below w.heap.size w w') (he : er ≠ 0) (w : World) :
    Calls Tryd.prog 7 #[.int .i64 f, U b] w fun en w' => en = .returned (.tuple #[DV false none 0 0 0, .int .i64 er]) ∧ Below w.heap.size w w' := by
  have HB : Hid (∀ w, Calls Tryd.prog 17 #[.int .i64 f, U b] w fun e w' => e = .returned (.int .i64 er) ∧ Below w.heap.size w w') := hB
  have e1 : (er == 0) = false := by simp [he]
  have e2 : (er != 0) = true := by simp [he]
  clear hB he
  go_enter Tryd.func7, Tryd.ntmps7
  go_wp2_with fail
  obtain ⟨W0, hW0⟩ : ∃ W0, W0 = (w.alloc (.cells #[.bool false, .slice none 0 0, .int .i64 0] 29)) := ⟨_, rfl⟩
  have Xr : Hid (B3q W0 (w.heap.size) (.bool false) (.slice none 0 0) (.int .i64 0)) := by rw [hW0]; exact ⟨by go_simp, by go_simp, by go_simp, by go_simp, by go_simp, by go_simp⟩
  have hb0 : Below w.heap.size w W0 := by rw [hW0]; exact below1 w _
  rw [← hW0]
  clear hW0
  have hbw : Below w.heap.size w w := Below.refl _ _
  obtain ⟨gr, hgr⟩ : ∃ g, g = w.heap.size := ⟨_, rfl⟩
  have HGr : Hid (w.heap.size ≤ gr) := by rw [hgr]; show _ ≤ _; omega
  rw [← hgr] at Xr
  try rw [← hgr]
  clear hgr
  replace hbw := Below.on hbw hb0
  clear hb0
  refine (HB.out _).mono ?_
  rintro e v1 ⟨rfl, hb1⟩
  replace Xr : Hid _ := Xr.out.below hb1
  replace hbw := Below.on hbw hb1
  clear hb1
  obtain ⟨cr0, cr1, cr2, fr0, fr1, fr2⟩ := Xr.out
  have hner : gr < v1.heap.size := World.block_lt_of_cell? v1 _ cr0
  go_wp2_with fail
  refine bodyPost_ret (v := .tuple #[DV false none 0 0 0, .int .i64 er]) (by rw [results_cell_tmp rfl]; go_simp) rfl ⟨rfl, ?_⟩
  first | exact hbw | exact bSet (bSet (bSet hbw _ _ _ HGr.out) _ _ _ HGr.out) _ _ _ HGr.out
theorem docvalue_z {f P E G : Int} {S I Q H : Nat} (R : Rf f S P E G I Q) (wh : ∀ (b : Nat) w, Calls Tryd.prog 20 #[FV S P E G I Q, U b] w fun en w' => ∃ v, en = .returned v ∧ GotR w.heap.size w' v (svS S H b) 2200 ∧ Below w.heap.size w w') (b : Nat) (hb : b < 2 * S) (hr : b % S < I) (hc : 0 < S ∧ S ≤ 9223372036854775808 ∧ -1074 ≤ E ∧ E ≤ 0) (hz : svS S H b = 0) (w : World) :
    Calls Tryd.prog 7 #[.int .i64 f, U b] w fun en w' => en = .returned (.tuple #[DV false none 0 0 0, .int .i64 0]) ∧ Below w.heap.size w w' := by
  obtain ⟨z, hzz⟩ : ∃ z, z = svS S H b := ⟨_, rfl⟩
  have HC : Hid (Rf f S P E G I Q ∧ b < 2 * S ∧ b % S < I ∧ (0 < S ∧ S ≤ 9223372036854775808 ∧ -1074 ≤ E ∧ E ≤ 0)) := ⟨R, hb, hr, hc⟩
  have HW : Hid (∀ (b : Nat) w, Calls Tryd.prog 20 #[FV S P E G I Q, U b] w fun en w' => ∃ v, en = .returned v ∧ GotR w.heap.size w' v (svS S H b) 2200 ∧ Below w.heap.size w w') := wh
  have HZZ : Hid (svS S H b = z) := hzz.symm
  rw [← hzz] at hz
  have HZ : Hid (z = 0) := hz
  clear R wh hb hr hc hz hzz
  go_enter Tryd.func7, Tryd.ntmps7
  go_wp2_with fail
  obtain ⟨W0, hW0⟩ : ∃ W0, W0 = (w.alloc (.cells #[.bool false, .slice none 0 0, .int .i64 0] 29)) := ⟨_, rfl⟩
  have Xr : Hid (B3q W0 (w.heap.size) (.bool false) (.slice none 0 0) (.int .i64 0)) := by rw [hW0]; exact ⟨by go_simp, by go_simp, by go_simp, by go_simp, by go_simp, by go_simp⟩
  have hb0 : Below w.heap.size w W0 := by rw [hW0]; exact below1 w _
  rw [← hW0]
  clear hW0
  have hbw : Below w.heap.size w w := Below.refl _ _
  obtain ⟨gr, hgr⟩ : ∃ g, g = w.heap.size := ⟨_, rfl⟩
  have HGr : Hid (w.heap.size ≤ gr) := by rw [hgr]; show _ ≤ _; omega
  rw [← hgr] at Xr
  try rw [← hgr]
  clear hgr
  replace hbw := Below.on hbw hb0
  clear hb0
  refine (rfin_o HC.out.1 b HC.out.2.1 HC.out.2.2.1 HC.out.2.2.2.1 HC.out.2.2.2.2.1 _).mono ?_
  rintro e v1 ⟨rfl, hb1⟩
  replace Xr : Hid _ := Xr.out.below hb1
  replace hbw := Below.on hbw hb1
  clear hb1
  go_wp2_with fail
  refine (HC.out.1.of _).mono ?_
  rintro e v2 ⟨rfl, hb2⟩
  replace Xr : Hid _ := Xr.out.below hb2
  replace hbw := Below.on hbw hb2
  clear hb2
  go_wp2_with fail
  have HKR0' : Hid (gr < v2.heap.size) := Xr.out.lt
  have Xk0 : Hid (B6q (v2.alloc (.cells #[U S, .int .i64 P, .int .i64 E, .int .i64 G, U I, U Q] 51)) v2.heap.size (U S) (.int .i64 P) (.int .i64 E) (.int .i64 G) (U I) (U Q)) := B6q.new v2 _ _ _ _ _ _ _
  have hbn : Below v2.heap.size v2 (v2.alloc (.cells #[U S, .int .i64 P, .int .i64 E, .int .i64 G, U I, U Q] 51)) := below1 v2 _
  generalize v2.alloc (.cells #[U S, .int .i64 P, .int .i64 E, .int .i64 G, U I, U Q] 51) = Wk at *
  have HGk : Hid (w.heap.size ≤ v2.heap.size) := hbw.size
  replace Xr : Hid _ := Xr.out.below hbn
  replace hbw := Below.on hbw hbn
  clear hbn
  generalize v2.heap.size = gk at *
  have Xk := Xk0
  clear Xk0
  have HKR0 : Hid (gk ≠ gr) := Nat.ne_of_gt HKR0'.out
  obtain ⟨Wr, hWr⟩ : ∃ W1, W1 = Wk.drew := ⟨_, rfl⟩
  have hbd : Below Wk.heap.size Wk Wr := by rw [hWr]; exact bDrew1 (Below.refl _ _)
  replace Xr : Hid _ := Xr.out.below hbd
  replace Xk : Hid _ := Xk.out.below hbd
  replace hbw := Below.on hbw hbd
  clear hbd
  have HJ : Hid ((fun W' : World => W'.cell? ⟨gk, 0, none⟩ = some (U S) ∧ W'.cell? ⟨gk, 1, none⟩ = some (.int .i64 P) ∧ W'.cell? ⟨gk, 2, none⟩ = some (.int .i64 E) ∧ W'.cell? ⟨gk, 3, none⟩ = some (.int .i64 G) ∧ W'.cell? ⟨gk, 4, none⟩ = some (U I) ∧ W'.cell? ⟨gk, 5, none⟩ = some (U Q)) Wr) := ⟨Xk.out.c0, Xk.out.c1, Xk.out.c2, Xk.out.c3, Xk.out.c4, Xk.out.c5⟩
  refine wp_region_J (fun W' => W'.cell? ⟨gk, 0, none⟩ = some (U S) ∧ W'.cell? ⟨gk, 1, none⟩ = some (.int .i64 P) ∧ W'.cell? ⟨gk, 2, none⟩ = some (.int .i64 E) ∧ W'.cell? ⟨gk, 3, none⟩ = some (.int .i64 G) ∧ W'.cell? ⟨gk, 4, none⟩ = some (U I) ∧ W'.cell? ⟨gk, 5, none⟩ = some (U Q)) (by kernel_rfl) ?_
  rw [← hWr]
  clear hWr
  refine wpJ_tq 0 rfl HJ.out ?_
  refine wpJ_tq 1 rfl HJ.out ?_
  refine wpJ_tq 3 rfl HJ.out ?_
  refine wpJ_tq 4 rfl HJ.out ?_
  refine wpJ_on 2 rfl fun KJ hK => ?_
  go_simp
  refine (HW.out b _).mono ?_
  rintro e9 v3 ⟨v, rfl, ⟨t3, k3_, n3, rfl, _, hz3, hl3⟩, hb3⟩
  rw [HZZ.out] at hz3
  replace Xr : Hid _ := Xr.out.below hb3
  replace Xk : Hid _ := Xk.out.below hb3
  replace hbw := Below.on hbw hb3
  clear hb3
  have Z3 : Hid (ZR v3 t3 (some ⟨k3_, 0, none⟩) n3 z) := hz3
  have HL3 : Hid (n3 ≤ 2200) := hl3
  clear hz3 hl3
  refine hK _ _ ⟨Xk.out.c0, Xk.out.c1, Xk.out.c2, Xk.out.c3, Xk.out.c4, Xk.out.c5⟩ ?_
  clear hK
  refine wpJ_on 5 rfl fun KJ hK => ?_
  go_simp
  have HRB : Hid (gr < v3.heap.size ∧ w.heap.size ≤ v3.heap.size) := ⟨Xr.out.lt, hbw.size⟩
  refine (rdyad_z t3 (Z3.out.cast HZ.out)).mono ?_
  rintro e v4 ⟨rfl, hb4⟩
  replace Xr : Hid _ := Xr.out.below hb4
  replace Xk : Hid _ := Xk.out.below hb4
  replace Z3 : Hid _ := Z3.out.below hb4
  replace hbw := Below.on hbw hb4
  clear hb4
  refine hK _ _ ⟨Xk.out.c0, Xk.out.c1, Xk.out.c2, Xk.out.c3, Xk.out.c4, Xk.out.c5⟩ ?_
  clear hK
  have z1 : gk ≠ gr := HKR0.out
  have z2 := Ne.symm z1
  obtain ⟨cr0, cr1, cr2, fr0, fr1, fr2⟩ := Xr.out
  have hner : gr < v4.heap.size := World.block_lt_of_cell? v4 _ cr0
  obtain ⟨ck0, ck1, ck2, ck3, ck4, ck5, fk0, fk1, fk2, fk3, fk4, fk5⟩ := Xk.out
  have hnek : gk < v4.heap.size := World.block_lt_of_cell? v4 _ ck0
  refine wpJ_on 6 rfl fun KJ hK => ?_
  go_simp
  have HJ2 : Hid ((fun W' : World => W'.cell? ⟨gk, 0, none⟩ = some (U S) ∧ W'.cell? ⟨gk, 1, none⟩ = some (.int .i64 P) ∧ W'.cell? ⟨gk, 2, none⟩ = some (.int .i64 E) ∧ W'.cell? ⟨gk, 3, none⟩ = some (.int .i64 G) ∧ W'.cell? ⟨gk, 4, none⟩ = some (U I) ∧ W'.cell? ⟨gk, 5, none⟩ = some (U Q)) (((v4.setCell ⟨gr, 0, none⟩ (.bool false)).setCell ⟨gr, 1, none⟩ (.slice none 0 0)).setCell ⟨gr, 2, none⟩ (.int .i64 0))) := ⟨by go_simp, by go_simp, by go_simp, by go_simp, by go_simp, by go_simp⟩
  refine hK _ _ HJ2.out ?_
  clear hK HJ
  have HJ := HJ2
  clear HJ2
  refine wpJ_tq 7 rfl HJ.out ?_
  refine wpJ_done (by kernel_rfl) ?_ _
  clear HJ
  go_wp2_with fail
  refine bodyPost_ret (v := .tuple #[DV false none 0 0 0, .int .i64 0]) (by rw [results_cell_tmp rfl]; go_simp) rfl ⟨rfl, ?_⟩
  exact bSet (bSet (bSet hbw _ _ _ HGr.out) _ _ _ HGr.out) _ _ _ HGr.out
theorem docvalue_n {f P E G : Int} {S I Q H : Nat} (R : Rf f S P E G I Q) (wh : ∀ (b : Nat) w, Calls Tryd.prog 20 #[FV S P E G I Q, U b] w fun en w' => ∃ v, en = .returned v ∧ GotR w.heap.size w' v (svS S H b) 2200 ∧ Below w.heap.size w w') (b : Nat) (hb : b < 2 * S) (hr : b % S < I) (hc : 0 < S ∧ S ≤ 9223372036854775808 ∧ -1074 ≤ E ∧ E ≤ 0) {K : Nat} {zo : Int} (hz : svS S H b ≠ 0) (hK : TzIs (svS S H b).natAbs K) (hzo : zo.natAbs = (svS S H b).natAbs / 2 ^ K ∧ zo % 2 = 1 ∧ decide (zo < 0) = decide (svS S H b < 0) ∧ iv (decide (svS S H b < 0)) ((svS S H b).natAbs / 2 ^ K) = zo) (hK9 : K ≤ 2200) (w : World) :
    Calls Tryd.prog 7 #[.int .i64 f, U b] w fun en w' => ∃ s g m' c', en = .returned (.tuple #[DV s (some ⟨g, 0, none⟩) m' c' (E + K), .int .i64 0]) ∧ DN w' s (some ⟨g, 0, none⟩) m' c' (E + K) zo ∧ Below w.heap.size w w' := by
  obtain ⟨z, hzz⟩ : ∃ z, z = svS S H b := ⟨_, rfl⟩
  have HC : Hid (Rf f S P E G I Q ∧ b < 2 * S ∧ b % S < I ∧ (0 < S ∧ S ≤ 9223372036854775808 ∧ -1074 ≤ E ∧ E ≤ 0)) := ⟨R, hb, hr, hc⟩
  have HW : Hid (∀ (b : Nat) w, Calls Tryd.prog 20 #[FV S P E G I Q, U b] w fun en w' => ∃ v, en = .returned v ∧ GotR w.heap.size w' v (svS S H b) 2200 ∧ Below w.heap.size w w') := wh
  have HZZ : Hid (svS S H b = z) := hzz.symm
  rw [← hzz] at hz
  rw [← hzz] at hK hzo
  have HZ : Hid (z ≠ 0 ∧ TzIs z.natAbs K ∧ (zo.natAbs = z.natAbs / 2 ^ K ∧ zo % 2 = 1 ∧ decide (zo < 0) = decide (z < 0) ∧ iv (decide (z < 0)) (z.natAbs / 2 ^ K) = zo) ∧ K ≤ 2200) := ⟨hz, hK, hzo, hK9⟩
  clear R wh hb hr hc hz hzz hK hzo hK9
  go_enter Tryd.func7, Tryd.ntmps7
  go_wp2_with fail
  obtain ⟨W0, hW0⟩ : ∃ W0, W0 = (w.alloc (.cells #[.bool false, .slice none 0 0, .int .i64 0] 29)) := ⟨_, rfl⟩
  have Xr : Hid (B3q W0 (w.heap.size) (.bool false) (.slice none 0 0) (.int .i64 0)) := by rw [hW0]; exact ⟨by go_simp, by go_simp, by go_simp, by go_simp, by go_simp, by go_simp⟩
  have hb0 : Below w.heap.size w W0 := by rw [hW0]; exact below1 w _
  rw [← hW0]
  clear hW0
  have hbw : Below w.heap.size w w := Below.refl _ _
  obtain ⟨gr, hgr⟩ : ∃ g, g = w.heap.size := ⟨_, rfl⟩
  have HGr : Hid (w.heap.size ≤ gr) := by rw [hgr]; show _ ≤ _; omega
  rw [← hgr] at Xr
  try rw [← hgr]
  clear hgr
  replace hbw := Below.on hbw hb0
  clear hb0
  refine (rfin_o HC.out.1 b HC.out.2.1 HC.out.2.2.1 HC.out.2.2.2.1 HC.out.2.2.2.2.1 _).mono ?_
  rintro e v1 ⟨rfl, hb1⟩
  replace Xr : Hid _ := Xr.out.below hb1
  replace hbw := Below.on hbw hb1
  clear hb1
  go_wp2_with fail
  refine (HC.out.1.of _).mono ?_
  rintro e v2 ⟨rfl, hb2⟩
  replace Xr : Hid _ := Xr.out.below hb2
  replace hbw := Below.on hbw hb2
  clear hb2
  go_wp2_with fail
  have HKR0' : Hid (gr < v2.heap.size) := Xr.out.lt
  have Xk0 : Hid (B6q (v2.alloc (.cells #[U S, .int .i64 P, .int .i64 E, .int .i64 G, U I, U Q] 51)) v2.heap.size (U S) (.int .i64 P) (.int .i64 E) (.int .i64 G) (U I) (U Q)) := B6q.new v2 _ _ _ _ _ _ _
  have hbn : Below v2.heap.size v2 (v2.alloc (.cells #[U S, .int .i64 P, .int .i64 E, .int .i64 G, U I, U Q] 51)) := below1 v2 _
  generalize v2.alloc (.cells #[U S, .int .i64 P, .int .i64 E, .int .i64 G, U I, U Q] 51) = Wk at *
  have HGk : Hid (w.heap.size ≤ v2.heap.size) := hbw.size
  replace Xr : Hid _ := Xr.out.below hbn
  replace hbw := Below.on hbw hbn
  clear hbn
  generalize v2.heap.size = gk at *
  have Xk := Xk0
  clear Xk0
  have HKR0 : Hid (gk ≠ gr) := Nat.ne_of_gt HKR0'.out
  obtain ⟨Wr, hWr⟩ : ∃ W1, W1 = Wk.drew := ⟨_, rfl⟩
  have hbd : Below Wk.heap.size Wk Wr := by rw [hWr]; exact bDrew1 (Below.refl _ _)
  replace Xr : Hid _ := Xr.out.below hbd
  replace Xk : Hid _ := Xk.out.below hbd
  replace hbw := Below.on hbw hbd
  clear hbd
  have HJ : Hid ((fun W' : World => W'.cell? ⟨gk, 0, none⟩ = some (U S) ∧ W'.cell? ⟨gk, 1, none⟩ = some (.int .i64 P) ∧ W'.cell? ⟨gk, 2, none⟩ = some (.int .i64 E) ∧ W'.cell? ⟨gk, 3, none⟩ = some (.int .i64 G) ∧ W'.cell? ⟨gk, 4, none⟩ = some (U I) ∧ W'.cell? ⟨gk, 5, none⟩ = some (U Q)) Wr) := ⟨Xk.out.c0, Xk.out.c1, Xk.out.c2, Xk.out.c3, Xk.out.c4, Xk.out.c5⟩
  refine wp_region_J (fun W' => W'.cell? ⟨gk, 0, none⟩ = some (U S) ∧ W'.cell? ⟨gk, 1, none⟩ = some (.int .i64 P) ∧ W'.cell? ⟨gk, 2, none⟩ = some (.int .i64 E) ∧ W'.cell? ⟨gk, 3, none⟩ = some (.int .i64 G) ∧ W'.cell? ⟨gk, 4, none⟩ = some (U I) ∧ W'.cell? ⟨gk, 5, none⟩ = some (U Q)) (by kernel_rfl) ?_
  rw [← hWr]
  clear hWr
  refine wpJ_tq 0 rfl HJ.out ?_
  refine wpJ_tq 1 rfl HJ.out ?_
  refine wpJ_tq 3 rfl HJ.out ?_
  refine wpJ_tq 4 rfl HJ.out ?_
  refine wpJ_on 2 rfl fun KJ hK => ?_
  go_simp
  refine (HW.out b _).mono ?_
  rintro e9 v3 ⟨v, rfl, ⟨t3, k3_, n3, rfl, _, hz3, hl3⟩, hb3⟩
  rw [HZZ.out] at hz3
  replace Xr : Hid _ := Xr.out.below hb3
  replace Xk : Hid _ := Xk.out.below hb3
  replace hbw := Below.on hbw hb3
  clear hb3
  have Z3 : Hid (ZR v3 t3 (some ⟨k3_, 0, none⟩) n3 z) := hz3
  have HL3 : Hid (n3 ≤ 2200) := hl3
  clear hz3 hl3
  refine hK _ _ ⟨Xk.out.c0, Xk.out.c1, Xk.out.c2, Xk.out.c3, Xk.out.c4, Xk.out.c5⟩ ?_
  clear hK
  refine wpJ_on 5 rfl fun KJ hK => ?_
  go_simp
  have HRB : Hid (gr < v3.heap.size ∧ w.heap.size ≤ v3.heap.size) := ⟨Xr.out.lt, hbw.size⟩
  refine (rdyad_n t3 Z3.out HZ.out.1 HZ.out.2.1 HZ.out.2.2.1 (by have := HL3.out; omega) (by have := HC.out; omega) (by have := HC.out; have := HZ.out; omega)).mono ?_
  rintro e9 v5 ⟨g5, m5, c5, rfl, hg5, hd5, hb5⟩
  have HR5 : Hid (gr < g5) := Nat.lt_of_lt_of_le HRB.out.1 hg5
  replace Xr : Hid _ := Xr.out.below hb5
  replace Xk : Hid _ := Xk.out.below hb5
  replace Z3 : Hid _ := Z3.out.below hb5
  replace hbw := Below.on hbw hb5
  clear hb5
  have D5 : Hid (DN v5 t3 (some ⟨g5, 0, none⟩) m5 c5 (E + (K : Int)) zo) := hd5
  clear hd5 hg5
  refine hK _ _ ⟨Xk.out.c0, Xk.out.c1, Xk.out.c2, Xk.out.c3, Xk.out.c4, Xk.out.c5⟩ ?_
  clear hK
  have z1 : gk ≠ gr := HKR0.out
  have z2 := Ne.symm z1
  obtain ⟨cr0, cr1, cr2, fr0, fr1, fr2⟩ := Xr.out
  have hner : gr < v5.heap.size := World.block_lt_of_cell? v5 _ cr0
  obtain ⟨ck0, ck1, ck2, ck3, ck4, ck5, fk0, fk1, fk2, fk3, fk4, fk5⟩ := Xk.out
  have hnek : gk < v5.heap.size := World.block_lt_of_cell? v5 _ ck0
  refine wpJ_on 6 rfl fun KJ hK => ?_
  go_simp
  have HJ2 : Hid ((fun W' : World => W'.cell? ⟨gk, 0, none⟩ = some (U S) ∧ W'.cell? ⟨gk, 1, none⟩ = some (.int .i64 P) ∧ W'.cell? ⟨gk, 2, none⟩ = some (.int .i64 E) ∧ W'.cell? ⟨gk, 3, none⟩ = some (.int .i64 G) ∧ W'.cell? ⟨gk, 4, none⟩ = some (U I) ∧ W'.cell? ⟨gk, 5, none⟩ = some (U Q)) (((v5.setCell ⟨gr, 0, none⟩ (.bool t3)).setCell ⟨gr, 1, none⟩ (.slice (some ⟨g5, 0, none⟩) m5 c5)).setCell ⟨gr, 2, none⟩ (.int .i64 (E + (K : Int))))) := ⟨by go_simp, by go_simp, by go_simp, by go_simp, by go_simp, by go_simp⟩
  refine hK _ _ HJ2.out ?_
  clear hK HJ
  have HJ := HJ2
  clear HJ2
  refine wpJ_tq 7 rfl HJ.out ?_
  refine wpJ_done (by kernel_rfl) ?_ _
  clear HJ
  go_wp2_with fail
  refine bodyPost_ret (v := .tuple #[DV t3 (some ⟨g5, 0, none⟩) m5 c5 (E + (K : Int)), .int .i64 0]) (by rw [results_cell_tmp rfl]; go_simp) rfl ⟨t3, g5, m5, c5, rfl, ?_, ?_⟩
  · have := HR5.out
    exact ((D5.out.set _ _ _ (by omega)).set _ _ _ (by omega)).set _ _ _ (by omega)
  · exact bSet (bSet (bSet hbw _ _ _ HGr.out) _ _ _ HGr.out) _ _ _ HGr.out
def FinB (f : Int) (b : Nat) : Prop := ∃ er : Int, er ≠ 0 ∧ (∀ w, Calls Tryd.prog 34 #[.int .i64 f, U b] w fun e w' => e = .returned (.tuple #[PV 0 0 0 false 0, .int .i64 er]) ∧ Below w.heap.size w w') ∧ (∀ w, Calls Tryd.prog 17 #[.int .i64 f, U b] w fun e w' => e = .returned (.int .i64 er) ∧ Below w.heap.size w w')
theorem finb_fmt {f p m l P G : Int} {S I Q H : Nat} (F : Pm f p m l S I H) (R : Rf f S P l G I Q) (hc : I < S ∧ S ≤ 9223372036854775808) {b : Nat} (hb9 : b < B64) (h : ¬ (b < 2 * S ∧ b % S < I)) : FinB f b := by
  by_cases h1 : b < 2 * S
  · have h3 : I ≤ b % S := by omega
    refine ⟨6, by decide, fun w => ?_, fun w => rfin_i R b h1 h3 (by omega) hc.2 w⟩
    rcases Nat.eq_or_lt_of_le h3 with h4 | h4
    · exact finite_i F b h1 h4.symm w
    · exact finite_e (fun w => ranked_nan F.fm b h1 h4 w) (by decide) w
  · exact ⟨2, by decide, fun w => finite_e (fun w => ranked_bad (fun w => F.fm.big b w hb9 (by omega)) (by decide) w) (by decide) w, fun w => rfin_b R b hb9 (by omega) w⟩
theorem finb_x (f : Int) (h1 : f ≠ 32) (h2 : f ≠ 64) (b : Nat) : FinB f b :=
  ⟨1, by decide, fun w => finite_e (fun w => ranked_bad (fun w => patternOf_x f h1 h2 b w) (by decide) w) (by decide) w, fun w => rfin_x f h1 h2 b w⟩
theorem hk9 {v K L : Nat} (hv : v < 2 ^ L) (hK : TzIs v K) : K < L := by
  have h1 : 2 ^ K ≤ v := by
    rcases Nat.lt_or_ge v (2 ^ K) with e | e
    · have h2 := hK.2
      rw [Nat.div_eq_of_lt e] at h2
      omega
    · exact e
  exact (Nat.pow_lt_pow_iff_right (by omega : 1 < 2)).1 (Nat.lt_of_le_of_lt h1 hv)
theorem JA.ex (S H I : Nat) (l : Int) (neg : Bool) (man : Nat) (ex : Int) : ∃ r er, JA S H I l neg man ex r er := by
  by_cases h : ∃ s, JnR H I l man ex s
  · obtain ⟨s, hs⟩ := h
    exact ⟨_, 0, .inl ⟨rfl, s, hs, rfl⟩⟩
  · exact ⟨0, 5, .inr ⟨rfl, rfl, fun s hs => h ⟨s, hs⟩⟩⟩
structure DO (B : Nat) (w : World) (s : Bool) (p : Option Addr) (m : Nat) (e z : Int) : Prop where
  own : ∃ zs, Own B w p m zs ∧ Nf B64 zs z.natAbs ∧ m ≤ 8192
  sg : s = decide (z < 0)
  fm : DFm z e
theorem DO.dn {B : Nat} {w : World} {s : Bool} {p : Option Addr} {m : Nat} {e z : Int} (h : DO B w s p m e z) : DN w s p m m e z := by
  obtain ⟨zs, h1, h2, h3⟩ := h.own
  exact ⟨⟨⟨zs, Num.of h1 h2 h3⟩, h.sg⟩, h.fm⟩
theorem DO.below {B : Nat} {w w' : World} {s : Bool} {p : Option Addr} {m : Nat} {e z : Int} (h : DO B w s p m e z) (hb : Below w.heap.size w w') : DO B w' s p m e z := by
  obtain ⟨zs, h1, h2, h3⟩ := h.own
  exact ⟨⟨zs, h1.below hb, h2, h3⟩, h.sg, h.fm⟩
theorem DO.set {B : Nat} {w : World} {s : Bool} {p : Option Addr} {m : Nat} {e z : Int} (h : DO B w s p m e z) (g o : Nat) (v : Value) (hg : g < B) : DO B (w.setCell ⟨g, o, none⟩ v) s p m e z := by
  obtain ⟨zs, h1, h2, h3⟩ := h.own
  exact ⟨⟨zs, h1.setOld _ _ _ hg, h2, h3⟩, h.sg, h.fm⟩
theorem DO.of {B : Nat} {w : World} {v : Value} {e z : Int} (h : AnsD B w v z e) (hf : DFm z e) : ∃ s p m, v = DV s p m m e ∧ DO B w s p m e z := by
  obtain ⟨p, m, zs, rfl, h1, h2, h3⟩ := h
  exact ⟨_, p, m, rfl, ⟨zs, h1, h2, h3⟩, rfl, hf⟩
structure It where
  p : Option Addr
  n : Nat
  c : Nat
  xs : List Nat
  a : Nat
structure Lists (w : World) (P : Option Addr) (N C : Nat) (its : List It) : Prop where
  len : its.length = N
  cap : N ≤ C
  big : C ≤ maxLen
  cells : N = 0 ∨ ∃ g off, P = some ⟨g, off, none⟩ ∧ ∀ j (h : j < its.length), w.cell? ⟨g, off + j, none⟩ = some (.slice its[j].p its[j].n its[j].c)
  nums : ∀ t ∈ its, Num w t.p t.n t.c t.xs t.a
theorem Lists.below {w w' : World} {P : Option Addr} {N C : Nat} {its : List It} (h : Lists w P N C its) (hb : Below w.heap.size w w') : Lists w' P N C its := by
  refine ⟨h.len, h.cap, h.big, ?_, fun t ht => (h.nums t ht).below hb⟩
  rcases h.cells with h0 | ⟨g, off, rfl, hc⟩
  · exact .inl h0
  · exact .inr ⟨g, off, rfl, fun j hj => (hb.cell (p := ⟨g, off + j, none⟩) (World.block_lt_of_cell? w _ (hc j hj))).trans (hc j hj)⟩
def prodI : List It → Nat
  | [] => 1
  | t :: ts => t.a * prodI ts
theorem Lists.take {w : World} {g off N C : Nat} {its : List It} (h : Lists w (some ⟨g, off, none⟩) N C its) (k : Nat) (hk : k ≤ N) : Lists w (some ⟨g, off, none⟩) k k (its.take k) := by
  have hl := h.len; have hc := h.cap; have hb := h.big
  refine ⟨by rw [List.length_take]; omega, Nat.le_refl _, by omega, ?_, fun t ht => h.nums t (List.mem_of_mem_take ht)⟩
  rcases h.cells with h0 | ⟨g', off', he, hcl⟩
  · exact .inl (by omega)
  · refine .inr ⟨g', off', he, fun j hj => ?_⟩
    have hj2 : j < its.length := by rw [List.length_take] at hj; omega
    rw [hcl j hj2]; simp
theorem Lists.drop {w : World} {g off N C : Nat} {its : List It} (h : Lists w (some ⟨g, off, none⟩) N C its) (k : Nat) (hk : k < N) : Lists w (some ⟨g, off + k, none⟩) (N - k) (C - k) (its.drop k) := by
  have hl := h.len; have hc := h.cap; have hb := h.big
  refine ⟨by rw [List.length_drop]; omega, by omega, by omega, ?_, fun t ht => h.nums t (List.mem_of_mem_drop ht)⟩
  rcases h.cells with h0 | ⟨g', off', he, hcl⟩
  · omega
  · simp only [Option.some.injEq, Addr.mk.injEq, and_true] at he
    obtain ⟨rfl, rfl⟩ := he
    refine .inr ⟨g, off + k, rfl, fun j hj => ?_⟩
    have hj2 : k + j < its.length := by rw [List.length_drop] at hj; omega
    have := hcl (k + j) hj2
    rw [← Nat.add_assoc] at this
    rw [this]; simp
theorem Lists.pos {w : World} {P : Option Addr} {N C : Nat} {its : List It} (_h : Lists w P N C its) (hp : ∀ t ∈ its, 0 < t.a) : 0 < prodI its := by
  clear _h
  induction its with
  | nil => simp [prodI]
  | cons t ts ih => exact Nat.mul_pos (hp t (by simp)) (ih (fun u hu => hp u (by simp [hu])))
end Go.Proofs.YtffechjldakmjaaDoor
