import Derived.Test.YtoclnjbmhepcnaaJ9
import Derived.Test.YtoclnjbmhepcnaaJ8
import Derived.Test.YtoclnjbmhepcnaaJ7
namespace Go.Proofs.Ytoclnjbmhepcnaa
open Go.RowKit Go.Shelf
set_option maxRecDepth 20000
set_option maxHeartbeats 0
theorem rof04 (z : Int) (w : World) (h0 : -9223372036854775808 ≤ z) (h1 : z ≤ 9223372036854775807) :
    Calls Try.prog 26 #[.int .i64 z] w fun e w' => ∃ s g m, e = .returned (.agg #[.bool s, .slice (some ⟨g, 0, none⟩) m m]) ∧ ZR w' s (some ⟨g, 0, none⟩) m z ∧ m ≤ 3 ∧ Below w.heap.size w w' :=
  (rof_any z w h0 h1).mono fun _ _ ⟨g, m, zs, he, hA, hN, hl, hb⟩ => ⟨_, g, m, he, ⟨⟨zs, hA, hN⟩, rfl⟩, hl, hb⟩
theorem rshl_nil {p : Option Addr} {c : Nat} {w : World} (hc : c ≤ maxLen) (k : Int) :
    Calls Try.prog 38 #[.slice p 0 c, .int .i64 k] w fun e w' => ∃ g, e = .returned (.slice (some ⟨g, 0, none⟩) 0 0) ∧ At32 w' (some ⟨g, 0, none⟩) 0 0 [] ∧ Below w.heap.size w w' := by
  have HC : Hid (c ≤ maxLen) := hc
  clear hc
  by_cases h0 : k ≤ 0
  · have h1 : ¬ 0 < k := by omega
    go_enter Try.func38, Try.ntmps38
    go_wp2_with fail
    refine (rnorm_any (At32.empty w p c HC.out) (by omega)).mono ?_
    rintro e w1 ⟨g, rfl, hg, hblk, hb⟩
    go_wp2_with fail
    go_ret
    exact ⟨g, rfl, At32.empty _ _ _ (by decide), hb⟩
  · have h1 : 0 < k := by omega
    go_enter Try.func38, Try.ntmps38
    go_wp2_with fail
    refine (rnorm_any (At32.empty w p c HC.out) (by omega)).mono ?_
    rintro e w1 ⟨g, rfl, hg, hblk, hb⟩
    go_wp2_with fail
    go_ret
    exact ⟨g, rfl, At32.empty _ _ _ (by decide), hb⟩
theorem rshl_all {p : Option Addr} {n : Nat} {xs : List Nat} {a : Nat} {w : World} (h : At32 w p n n xs) (hx : Nf B32 xs a) (hn : n ≤ 16384) (k : Nat) (hk : k ≤ 524288 ∨ a = 0) :
    Calls Try.prog 38 #[.slice p n n, .int .i64 k] w fun e w' => ∃ p' m' zs, e = .returned (.slice p' m' m') ∧ At32 w' p' m' m' zs ∧ Nf B32 zs (a * 2 ^ k) ∧ m' ≤ 40000 ∧ Below w.heap.size w w' := by
  rcases Nat.eq_zero_or_pos n with h0 | h0
  · subst h0
    have ha : a = 0 := (hx.zero_iff B32_one).1 (List.eq_nil_of_length_eq_zero h.len)
    refine (rshl_nil (by unfold maxLen; omega) (k : Int)).mono ?_
    rintro e w' ⟨g, he, hA, hb⟩
    exact ⟨_, 0, [], he, hA, by rw [ha, Nat.zero_mul]; exact Nf.nil _, by omega, hb⟩
  · refine rshl_any h hx h0 hn k (hk.resolve_right fun e => ?_)
    have := (hx.zero_iff B32_one).2 e
    rw [this] at h
    have := h.len
    simp at this
    omega
theorem iv_mul_nat (s : Bool) (a k : Nat) : iv s (a * k) = iv s a * (k : Int) := by cases s <;> simp [iv, Int.neg_mul]
theorem rshl04 {p : Option Addr} {m : Nat} {w : World} {x : Int} (s : Bool) (h : ZR w s p m x) (hm : m ≤ 16384) (k : Nat) (hk : k ≤ 524288 ∨ x = 0) :
    Calls Try.prog 23 #[.agg #[.bool s, .slice p m m], .int .i64 k] w fun e w' => ∃ v, e = .returned v ∧ GotR w.heap.size w' v (x * 2 ^ k) (40000) ∧ Below w.heap.size w w' := by
  have HA : Hid (ZR w s p m x) := h
  have HM : Hid (m ≤ 16384 ∧ (k ≤ 524288 ∨ x = 0)) := ⟨hm, hk⟩
  have HZV : Hid (iv s (x.natAbs * 2 ^ k) = x * 2 ^ k) := by show _ = _; rw [iv_mul_nat, h.iv]; rfl
  obtain ⟨xs, hAx, hNx⟩ := h.ex
  have HNX : Hid (Nf B32 xs x.natAbs) := hNx
  have AX : Hid (At32 w p m m xs) := hAx
  clear h hm hk hAx hNx
  go_enter Try.func23, Try.ntmps23
  go_wp2_with fail
  obtain ⟨W0, hW0⟩ : ∃ W0, W0 = ((w.alloc (.cells #[.bool s, .slice p m m] 47)).alloc (.cells #[.bool false, .slice none 0 0] 47)) := ⟨_, rfl⟩
  have Xa : Hid (Box W0 (w.heap.size) (.bool s) (.slice p m m)) := by rw [hW0]; exact ⟨by go_simp, by go_simp, by go_simp, by go_simp⟩
  have Xr : Hid (Box W0 (w.heap.size + 1) (.bool false) (.slice none 0 0)) := by rw [hW0]; exact ⟨by go_simp, by go_simp, by go_simp, by go_simp⟩
  have hb0 : Below w.heap.size w W0 := by rw [hW0]; exact below2 w _ _
  rw [← hW0]
  clear hW0
  have hbw : Below w.heap.size w w := Below.refl _ _
  obtain ⟨gr, hgr⟩ : ∃ g, g = w.heap.size + 1 := ⟨_, rfl⟩
  have HGr : Hid (w.heap.size ≤ gr) := by rw [hgr]; show _ ≤ _; omega
  rw [← hgr] at Xr
  try rw [← hgr]
  obtain ⟨ga, hga⟩ : ∃ g, g = w.heap.size := ⟨_, rfl⟩
  have HGa : Hid (w.heap.size ≤ ga) := by rw [hga]; show _ ≤ _; omega
  rw [← hga] at Xa
  try rw [← hga]
  have HGD : Hid (ga ≠ gr ∧ gr ≠ ga) := by rw [hga, hgr]; exact ⟨by omega, by omega⟩
  clear hga hgr
  replace AX : Hid _ := AX.out.below hb0
  replace hbw := Below.on hbw hb0
  clear hb0
  obtain ⟨W1, hW1⟩ : ∃ W1, W1 = W0.drew := ⟨_, rfl⟩
  have hbd : Below W0.heap.size W0 W1 := by rw [hW1]; exact bDrew1 (Below.refl _ _)
  replace Xa : Hid _ := Xa.out.below hbd
  replace Xr : Hid _ := Xr.out.below hbd
  replace AX : Hid _ := AX.out.below hbd
  replace hbw := Below.on hbw hbd
  clear hbd
  have HJ : Hid ((fun W' : World => W'.cell? ⟨ga, 0, none⟩ = some (.bool s) ∧ W'.cell? ⟨ga, 1, none⟩ = some (.slice p m m)) W1) := ⟨Xa.out.c0, Xa.out.c1⟩
  refine wp_region_J (fun W' => W'.cell? ⟨ga, 0, none⟩ = some (.bool s) ∧ W'.cell? ⟨ga, 1, none⟩ = some (.slice p m m)) (by kernel_rfl) ?_
  rw [← hW1]
  clear hW1
  refine wpJ_tq 0 rfl HJ.out ?_
  refine wpJ_tq 1 rfl HJ.out ?_
  refine wpJ_tq 2 rfl HJ.out ?_
  refine wpJ_tq 3 rfl HJ.out ?_
  refine wpJ_tq 4 rfl HJ.out ?_
  refine wpJ_on 5 rfl fun KJ hK => ?_
  go_simp
  refine (rshl_all AX.out HNX.out HM.out.1 k (by have := HM.out.2; omega)).mono ?_
  rintro e v2 ⟨p2, m2, z2, rfl, hA2, hN2, hl2, hb2⟩
  replace Xa : Hid _ := Xa.out.below hb2
  replace Xr : Hid _ := Xr.out.below hb2
  replace AX : Hid _ := AX.out.below hb2
  replace hbw := Below.on hbw hb2
  clear hb2
  have A2 : Hid (At32 v2 p2 m2 m2 z2) := hA2
  have N2 : Hid (Nf B32 z2 (x.natAbs * 2 ^ k) ∧ m2 ≤ 40000) := ⟨hN2, hl2⟩
  clear hA2 hN2 hl2
  refine hK _ _ ⟨Xa.out.c0, Xa.out.c1⟩ ?_
  clear hK
  have HRB : Hid (gr < v2.heap.size ∧ w.heap.size ≤ v2.heap.size) := ⟨Xr.out.lt, hbw.size⟩
  refine wpJ_on 6 rfl fun KJ hK => ?_
  go_simp
  refine (rmk_any s A2.out N2.out.1 (by have := N2.out.2; omega)).mono ?_
  rintro e v3 ⟨v, rfl, hv, hb3⟩
  rw [HZV.out] at hv
  obtain ⟨s9, g9, m9, rfl, hg9, hz9, hl9⟩ := hv
  have HN9 : Hid (v2.heap.size ≤ g9) := hg9
  replace Xa : Hid _ := Xa.out.below hb3
  replace Xr : Hid _ := Xr.out.below hb3
  replace AX : Hid _ := AX.out.below hb3
  replace A2 : Hid _ := A2.out.below hb3
  replace hbw := Below.on hbw hb3
  clear hb3
  have Z9 : Hid (ZR v3 s9 (some ⟨g9, 0, none⟩) m9 (x * 2 ^ k)) := hz9
  have HL9 : Hid (m9 ≤ 40000) := Nat.le_trans hl9 N2.out.2
  clear hg9 hz9 hl9
  refine hK _ _ ⟨Xa.out.c0, Xa.out.c1⟩ ?_
  clear hK
  obtain ⟨cr0, cr1, fr0, fr1⟩ := Xr.out
  have hner := Xr.out.lt
  obtain ⟨ca0, ca1, fa0, fa1⟩ := Xa.out
  have hnea := Xa.out.lt
  obtain ⟨hgd0, hgd1⟩ := HGD.out
  refine wpJ_on 7 rfl fun KJ hK => ?_
  go_simp
  have HJ2 : Hid ((fun W' : World => W'.cell? ⟨ga, 0, none⟩ = some (.bool s) ∧ W'.cell? ⟨ga, 1, none⟩ = some (.slice p m m)) ((v3.setCell ⟨gr, 0, none⟩ (.bool s9)).setCell ⟨gr, 1, none⟩ (.slice (some ⟨g9, 0, none⟩) m9 m9))) := ⟨by go_simp, by go_simp⟩
  refine hK _ _ HJ2.out ?_
  clear hK HJ
  have HJ := HJ2
  clear HJ2
  refine wpJ_done (by kernel_rfl) ?_ _
  clear HJ
  go_wp2_with fail
  refine bodyPost_ret (v := .agg #[.bool s9, .slice (some ⟨g9, 0, none⟩) m9 m9]) (by rw [results_cell1 rfl]; go_simp) rfl ⟨_, rfl, ⟨s9, g9, m9, rfl, Nat.le_trans HRB.out.2 HN9.out, ?_, HL9.out⟩, ?_⟩
  · have := HN9.out; have := HRB.out.1
    exact (Z9.out.set _ _ _ (by omega)).set _ _ _ (by omega)
  · exact bSet (bSet hbw _ _ _ HGr.out) _ _ _ HGr.out
abbrev F64t : Value := FV 9223372036854775808 53 (-1074) 971 9218868437227405312 9221120237041090561
theorem rparts_64nt (s : Nat) (hs : 4503599627370496 ≤ s) (hs9 : s < 9223372036854775808) (w : World) : Calls Try.prog 58 #[F64t, U s] w fun e w' => e = .returned (.tuple #[U (s - (s / 4503599627370496 - 1) * 4503599627370496), .int .i64 ((-1074) + ((s / 4503599627370496 - 1 : Nat) : Int))]) ∧ Below w.heap.size w w' := by
  obtain ⟨z, hz⟩ : ∃ z, z = s / 4503599627370496 := ⟨_, rfl⟩
  obtain ⟨r, hr⟩ : ∃ r, r = s % 4503599627370496 := ⟨_, rfl⟩
  have d1 : (s : Int).tdiv 4503599627370496 = (z : Int) := by rw [Int.tdiv_eq_ediv_of_nonneg (by omega)]; omega
  have d2 : (s : Int).tmod 4503599627370496 = (r : Int) := by rw [Int.tmod_eq_emod_of_nonneg (by omega)]; omega
  have d3 : IntKind.u64.wrap (z : Int) = (z : Int) := by rw [IntKind.wrap_u64]; omega
  have d4 : IntKind.u64.wrap (r : Int) = (r : Int) := by rw [IntKind.wrap_u64]; omega
  have hzb : ((z : Int) == 0) = false := by simp; omega
  obtain ⟨y, hy⟩ : ∃ y, y = s - (z - 1) * 4503599627370496 := ⟨_, rfl⟩
  obtain ⟨x, hx⟩ : ∃ x : Int, x = (-1074) + ((z - 1 : Nat) : Int) := ⟨_, rfl⟩
  obtain ⟨x1, hx1⟩ : ∃ x1 : Int, x1 = (-1074) + (z : Int) := ⟨_, rfl⟩
  rw [← hz, ← hy, ← hx]
  have d5 : IntKind.u64.wrap (4503599627370496 + (r : Int)) = (y : Int) := by rw [IntKind.wrap_u64]; omega
  have d6 : IntKind.i64.wrap (z : Int) = (z : Int) := by simp [IntKind.wrap, IntKind.signed, IntKind.bits]; omega
  have d7 : IntKind.i64.wrap ((-1074) + (z : Int)) = x1 := by rw [hx1]; simp [IntKind.wrap, IntKind.signed, IntKind.bits]; omega
  have d8 : IntKind.i64.wrap (x1 - 1) = x := by simp [IntKind.wrap, IntKind.signed, IntKind.bits]; omega
  clear hz hr hs hs9 hy hx hx1
  go_enter Try.func58, Try.ntmps58
  go_wp2_with fail
  go_quiet (fail)
  go_wp2_with fail
  go_quiet (fail)
  go_wp2_with fail
  go_ret2
  exact ⟨rfl, bwDrewN (bwDrewN (bwAlloc w _) _) _⟩
theorem rparts_640t (s : Nat) (hs : s < 4503599627370496) (w : World) : Calls Try.prog 58 #[F64t, U s] w fun e w' => e = .returned (.tuple #[U s, .int .i64 (-1074)]) ∧ Below w.heap.size w w' := by
  obtain ⟨z, hz⟩ : ∃ z, z = s / 4503599627370496 := ⟨_, rfl⟩
  obtain ⟨r, hr⟩ : ∃ r, r = s % 4503599627370496 := ⟨_, rfl⟩
  have d1 : (s : Int).tdiv 4503599627370496 = (z : Int) := by rw [Int.tdiv_eq_ediv_of_nonneg (by omega)]; omega
  have d2 : (s : Int).tmod 4503599627370496 = (r : Int) := by rw [Int.tmod_eq_emod_of_nonneg (by omega)]; omega
  have d3 : IntKind.u64.wrap (z : Int) = (z : Int) := by rw [IntKind.wrap_u64]; omega
  have d4 : IntKind.u64.wrap (r : Int) = (r : Int) := by rw [IntKind.wrap_u64]; omega
  have hz0 : z = 0 := by omega
  have hrs : r = s := by omega
  subst hz0
  subst hrs
  clear hz hr hs
  go_enter Try.func58, Try.ntmps58
  go_wp2_with fail
  go_quiet (fail)
  go_wp2_with fail
  go_quiet (fail)
  go_wp2_with fail
  go_ret2
  exact ⟨rfl, bwDrewN (bwDrewN (bwAlloc w _) _) _⟩
theorem rparts_all64 (s : Nat) (hs9 : s < 9223372036854775808) (w : World) : Calls Try.prog 58 #[F64t, U s] w fun e w' => e = .returned (.tuple #[U (s - (s / 4503599627370496 - 1) * 4503599627370496), .int .i64 ((-1074) + ((s / 4503599627370496 - 1 : Nat) : Int))]) ∧ Below w.heap.size w w' := by
  by_cases h : s < 4503599627370496
  · have h1 : s / 4503599627370496 = 0 := Nat.div_eq_of_lt h
    rw [h1, show 0 - 1 = 0 from rfl, Nat.zero_mul, Nat.sub_zero, show ((-1074 : Int) + ((0 : Nat) : Int)) = -1074 from rfl]
    exact rparts_640t s h w
  · exact rparts_64nt s (by omega) (by omega) w
theorem zr_len9 {w : World} {s : Bool} {p : Option Addr} {m : Nat} {z : Int} (h : ZR w s p m z) {L : Nat} (hL : z.natAbs < 2 ^ L) : m ≤ L := by
  obtain ⟨zs, hA, hN⟩ := h.ex
  have h1 := (hN.len_le B32_one (k := L)).2 (Nat.lt_of_lt_of_le hL (Nat.pow_le_pow_left (by decide) L))
  rw [hA.len] at h1
  exact h1
theorem GotR.len9 {B : Nat} {w : World} {v : Value} {z : Int} {L L' : Nat} (h : GotR B w v z L) (hL : z.natAbs < 2 ^ L') : GotR B w v z L' := by
  obtain ⟨s, g, m, h1, h2, h3, _⟩ := h
  exact ⟨s, g, m, h1, h2, h3, zr_len9 h3 hL⟩
theorem svS_lt {S H : Nat} (b : Nat) {L a c : Nat} (hH : H ≤ 2 ^ a) (h0 : 0 < H) (hS : S ≤ c * H) (hS0 : 0 < S) (hL : a + c ≤ L) : (svS S H b).natAbs < 2 ^ L := by
  rw [svS_eq]
  have h1 : (if S ≤ b then -(vs H (b % S) : Int) else (vs H (b % S) : Int)).natAbs = vs H (b % S) := by split <;> omega
  rw [h1]
  have h2 : b % S < c * H := Nat.lt_of_lt_of_le (Nat.mod_lt _ hS0) hS
  have h3 : b % S / H < c := (Nat.div_lt_iff_lt_mul h0).2 h2
  have e1 := Nat.div_add_mod (b % S) H
  have e2 := Nat.mod_lt (b % S) h0
  rw [Nat.mul_comm] at e1
  have h4 : b % S - (b % S / H - 1) * H < 2 * H := by
    by_cases e3 : b % S / H = 0
    · rw [e3] at e1 ⊢; omega
    · rw [Nat.sub_mul]; omega
  unfold vs
  have h5 : 2 ^ (b % S / H - 1) ≤ 2 ^ (c - 1) := Nat.pow_le_pow_right (by decide) (by generalize b % S / H = t at h3 ⊢; omega)
  have h6 : 0 < 2 ^ (b % S / H - 1) := Nat.two_pow_pos _
  refine Nat.lt_of_lt_of_le (Nat.mul_lt_mul_of_pos_right h4 h6) (Nat.le_trans (Nat.mul_le_mul (Nat.mul_le_mul_left 2 hH) h5) ?_)
  rw [← Nat.pow_succ', ← Nat.pow_add]
  have h7 : 1 ≤ c := Nat.lt_of_le_of_lt (Nat.zero_le _) h3
  exact Nat.pow_le_pow_right (by decide) (by omega)
theorem rwhole_64 {b : Nat} (w : World) :
    Calls Try.prog 43 #[FV 9223372036854775808 53 (-1074) 971 9218868437227405312 9221120237041090561, U b] w fun en w' => ∃ v, en = .returned v ∧ GotR w.heap.size w' v (svS 9223372036854775808 4503599627370496 b) 2200 ∧ Below w.heap.size w w' := by
  obtain ⟨q, hq⟩ : ∃ q, q = b % 9223372036854775808 / 4503599627370496 - 1 := ⟨_, rfl⟩
  obtain ⟨man, hman⟩ : ∃ man, man = b % 9223372036854775808 - q * 4503599627370496 := ⟨_, rfl⟩
  obtain ⟨neg, hneg⟩ : ∃ neg, neg = decide (9223372036854775808 ≤ b) := ⟨_, rfl⟩
  obtain ⟨s, hs⟩ : ∃ s, s = b % 9223372036854775808 := ⟨_, rfl⟩
  have hv : iv neg (man * 2 ^ q) = svS 9223372036854775808 4503599627370496 b := by
    rw [svS_eq, hneg, show vs 4503599627370496 (b % 9223372036854775808) = man * 2 ^ q from by unfold vs; rw [← hq, ← hman]]
    by_cases h : 9223372036854775808 ≤ b
    · rw [if_pos h, decide_eq_true h]; rfl
    · rw [if_neg h, decide_eq_false h]; rfl
  have hq9 : q ≤ 2048 := by omega
  have e1 : IntKind.i64.wrap ((-1074 : Int) + (q : Int) - (-1074)) = (q : Int) := by simp [IntKind.wrap, IntKind.signed, IntKind.bits]; omega
  obtain ⟨ex, hex⟩ : ∃ ex : Int, ex = (-1074 : Int) + (q : Int) := ⟨_, rfl⟩
  rw [← hex] at e1
  have e2 : wrap64 (ex + 1074) = (q : Int) := by rw [hex]; simp only [wrap64]; omega
  have e3 : IntKind.i64.wrap (ex + 1074) = (q : Int) := by rw [hex]; simp [IntKind.wrap, IntKind.signed, IntKind.bits]; omega
  have HV : Hid (iv neg (man * 2 ^ q) = svS 9223372036854775808 4503599627370496 b ∧ q ≤ 2048 ∧ man < B64 ∧ b % 9223372036854775808 = s ∧ decide (9223372036854775808 ≤ b) = neg ∧ s < 9223372036854775808 ∧ s / 4503599627370496 - 1 = q ∧ s - q * 4503599627370496 = man ∧ (-1074 : Int) + (q : Int) = ex) := ⟨hv, hq9, by rw [B64_eq]; omega, hs.symm, hneg.symm, by omega, by rw [hs]; exact hq.symm, by rw [hs]; exact hman.symm, hex.symm⟩
  clear hq hman hneg hs hv hq9 hex
  go_enter Try.func43, Try.ntmps43
  go_wp2_with fail
  obtain ⟨W0, hW0⟩ : ∃ W0, W0 = ((w.alloc (.cells #[U 9223372036854775808, .int .i64 53, .int .i64 (-1074), .int .i64 971, U 9218868437227405312, U 9221120237041090561] 63)).alloc (.cells #[.bool false, .slice none 0 0] 47)) := ⟨_, rfl⟩
  have Xk : Hid (B6q W0 (w.heap.size) (U 9223372036854775808) (.int .i64 53) (.int .i64 (-1074)) (.int .i64 971) (U 9218868437227405312) (U 9221120237041090561)) := by rw [hW0]; exact ⟨by go_simp, by go_simp, by go_simp, by go_simp, by go_simp, by go_simp, by go_simp, by go_simp, by go_simp, by go_simp, by go_simp, by go_simp⟩
  have Xr : Hid (Box W0 (w.heap.size + 1) (.bool false) (.slice none 0 0)) := by rw [hW0]; exact ⟨by go_simp, by go_simp, by go_simp, by go_simp⟩
  have hb0 : Below w.heap.size w W0 := by rw [hW0]; exact below2 w _ _
  rw [← hW0]
  clear hW0
  have hbw : Below w.heap.size w w := Below.refl _ _
  obtain ⟨gr, hgr⟩ : ∃ g, g = w.heap.size + 1 := ⟨_, rfl⟩
  have HGr : Hid (w.heap.size ≤ gr) := by rw [hgr]; show _ ≤ _; omega
  rw [← hgr] at Xr
  try rw [← hgr]
  obtain ⟨gk, hgk⟩ : ∃ g, g = w.heap.size := ⟨_, rfl⟩
  have HGk : Hid (w.heap.size ≤ gk) := by rw [hgk]; show _ ≤ _; omega
  rw [← hgk] at Xk
  try rw [← hgk]
  have HGD : Hid (gk ≠ gr ∧ gr ≠ gk) := by rw [hgk, hgr]; exact ⟨by omega, by omega⟩
  clear hgk hgr
  replace hbw := Below.on hbw hb0
  clear hb0
  refine (cut_any (by decide) (by decide) b _).mono ?_
  rintro e v1 ⟨rfl, hb1⟩
  rw [HV.out.2.2.2.1, HV.out.2.2.2.2.1]
  replace Xk : Hid _ := Xk.out.below hb1
  replace Xr : Hid _ := Xr.out.below hb1
  replace hbw := Below.on hbw hb1
  clear hb1
  obtain ⟨ck0, ck1, ck2, ck3, ck4, ck5, fk0, fk1, fk2, fk3, fk4, fk5⟩ := Xk.out
  have hnek : gk < v1.heap.size := World.block_lt_of_cell? v1 _ ck0
  go_wp2_with fail
  clear ck0 ck1 ck2 ck3 ck4 ck5 fk0 fk1 fk2 fk3 fk4 fk5 hnek
  refine (rparts_all64 s HV.out.2.2.2.2.2.1 _).mono ?_
  rintro e v2 ⟨rfl, hb2⟩
  rw [HV.out.2.2.2.2.2.2.1, HV.out.2.2.2.2.2.2.2.1, HV.out.2.2.2.2.2.2.2.2]
  replace Xk : Hid _ := Xk.out.below hb2
  replace Xr : Hid _ := Xr.out.below hb2
  replace hbw := Below.on hbw hb2
  clear hb2
  obtain ⟨ck0, ck1, ck2, ck3, ck4, ck5, fk0, fk1, fk2, fk3, fk4, fk5⟩ := Xk.out
  have hnek : gk < v2.heap.size := World.block_lt_of_cell? v2 _ ck0
  go_wp2_with fail
  clear ck0 ck1 ck2 ck3 ck4 ck5 fk0 fk1 fk2 fk3 fk4 fk5 hnek
  obtain ⟨W1, hW1⟩ : ∃ W1, W1 = v2.drew := ⟨_, rfl⟩
  have hbd : Below v2.heap.size v2 W1 := by rw [hW1]; exact bDrew1 (Below.refl _ _)
  replace Xk : Hid _ := Xk.out.below hbd
  replace Xr : Hid _ := Xr.out.below hbd
  replace hbw := Below.on hbw hbd
  clear hbd
  have HJ : Hid ((fun W' : World => W'.cell? ⟨gk, 2, none⟩ = some (.int .i64 (-1074)) ∧ W'.cell? ⟨gk, 1, none⟩ = some (.int .i64 53)) W1) := ⟨Xk.out.c2, Xk.out.c1⟩
  refine wp_region_J (fun W' => W'.cell? ⟨gk, 2, none⟩ = some (.int .i64 (-1074)) ∧ W'.cell? ⟨gk, 1, none⟩ = some (.int .i64 53)) (by kernel_rfl) ?_
  rw [← hW1]
  clear hW1
  refine wpJ_tq 0 rfl HJ.out ?_
  refine wpJ_tq 1 rfl HJ.out ?_
  refine wpJ_tq 3 rfl HJ.out ?_
  refine wpJ_tq 4 rfl HJ.out ?_
  refine wpJ_tq 5 rfl HJ.out ?_
  refine wpJ_tq 6 rfl HJ.out ?_
  refine wpJ_on 2 rfl fun KJ hK => ?_
  go_simp
  refine (rword man HV.out.2.2.1 _).mono ?_
  rintro e v5 ⟨g5, z5, rfl, hl5, hA5, hN5, hb5⟩
  replace Xk : Hid _ := Xk.out.below hb5
  replace Xr : Hid _ := Xr.out.below hb5
  replace hbw := Below.on hbw hb5
  clear hb5
  have A5 : Hid (At32 v5 (some ⟨g5, 0, none⟩) z5.length z5.length z5) := hA5
  have N5 : Hid (Nf B32 z5 man ∧ z5.length ≤ 2) := ⟨hN5, hl5⟩
  clear hA5 hN5 hl5
  obtain ⟨l5, hl5⟩ : ∃ l5, l5 = z5.length := ⟨_, rfl⟩
  rw [← hl5] at A5 N5 ⊢
  clear hl5
  refine hK _ _ ⟨Xk.out.c2, Xk.out.c1⟩ ?_
  clear hK
  refine wpJ_on 7 rfl fun KJ hK => ?_
  go_simp
  refine (rshl_all A5.out N5.out.1 (by have := N5.out.2; omega) q (.inl (by have := HV.out.2.1; omega))).mono ?_
  rintro e v6 ⟨p6, m6, z6, rfl, hA6, hN6, hm6, hb6⟩
  replace Xk : Hid _ := Xk.out.below hb6
  replace Xr : Hid _ := Xr.out.below hb6
  replace A5 : Hid _ := A5.out.below hb6
  replace hbw := Below.on hbw hb6
  clear hb6
  clear A5
  have A6 : Hid (At32 v6 p6 m6 m6 z6) := hA6
  have N6 : Hid (Nf B32 z6 (man * 2 ^ q) ∧ m6 ≤ 40000) := ⟨hN6, hm6⟩
  clear hA6 hN6 hm6 N5
  refine hK _ _ ⟨Xk.out.c2, Xk.out.c1⟩ ?_
  clear hK
  have HRL : Hid (gr < v6.heap.size ∧ w.heap.size ≤ v6.heap.size) := ⟨Xr.out.lt, hbw.size⟩
  refine wpJ_on 8 rfl fun KJ hK => ?_
  go_simp
  refine (rmk_any neg A6.out N6.out.1 (by have := N6.out.2; omega)).mono ?_
  rintro e v7 ⟨v, rfl, hv, hb7⟩
  rw [HV.out.1] at hv
  obtain ⟨LL, hLL⟩ : ∃ LL : Nat, LL = 2200 := ⟨_, rfl⟩
  obtain ⟨s7, g7, m7, rfl, hg7, hz7, hl7⟩ := hv.len9 (L' := LL) (svS_lt b (a := 52) (c := 2048) (by decide) (by decide) (by decide) (by decide) (by omega))
  rw [hLL] at hl7
  clear hLL
  have HN7 : Hid (v6.heap.size ≤ g7) := hg7
  replace Xk : Hid _ := Xk.out.below hb7
  replace Xr : Hid _ := Xr.out.below hb7
  replace A6 : Hid _ := A6.out.below hb7
  replace hbw := Below.on hbw hb7
  clear hb7
  clear A6
  have Z7 : Hid (ZR v7 s7 (some ⟨g7, 0, none⟩) m7 (svS 9223372036854775808 4503599627370496 b)) := hz7
  have HL7 : Hid (m7 ≤ 2200) := hl7
  clear hv hg7 hz7 hl7 N6
  refine hK _ _ ⟨Xk.out.c2, Xk.out.c1⟩ ?_
  clear hK
  obtain ⟨cr0, cr1, fr0, fr1⟩ := Xr.out
  have hner := Xr.out.lt
  obtain ⟨ck0, ck1, ck2, ck3, ck4, ck5, fk0, fk1, fk2, fk3, fk4, fk5⟩ := Xk.out
  have hnek : gk < v7.heap.size := World.block_lt_of_cell? v7 _ ck0
  obtain ⟨hgd0, hgd1⟩ := HGD.out
  refine wpJ_on 9 rfl fun KJ hK => ?_
  go_simp
  have HJ2 : Hid ((fun W' : World => W'.cell? ⟨gk, 2, none⟩ = some (.int .i64 (-1074)) ∧ W'.cell? ⟨gk, 1, none⟩ = some (.int .i64 53)) ((v7.setCell ⟨gr, 0, none⟩ (.bool s7)).setCell ⟨gr, 1, none⟩ (.slice (some ⟨g7, 0, none⟩) m7 m7))) := ⟨by go_simp, by go_simp⟩
  refine hK _ _ HJ2.out ?_
  clear hK HJ
  have HJ := HJ2
  clear HJ2
  refine wpJ_done (by kernel_rfl) ?_ _
  clear HJ
  go_wp2_with fail
  refine bodyPost_ret (v := .agg #[.bool s7, .slice (some ⟨g7, 0, none⟩) m7 m7]) (by rw [results_cell1 rfl]; go_simp) rfl ⟨_, rfl, ⟨s7, g7, m7, rfl, Nat.le_trans HRL.out.2 HN7.out, ?_, HL7.out⟩, ?_⟩
  · have := HN7.out; have := HRL.out.1
    exact (Z7.out.set _ _ _ (by omega)).set _ _ _ (by omega)
  · exact bSet (bSet hbw _ _ _ HGr.out) _ _ _ HGr.out
theorem rsz (b : Nat) (w : World) : Calls Try.prog 17 #[U b] w fun e w' => e = .returned (U (b % 9223372036854775808)) ∧ w' = w := by
  go_enter Try.func17, Try.ntmps17
  go_wp2_with fail
  go_ret
  exact ⟨congrArg (fun z => Ending.returned (.int .u64 z)) (by omega), rfl⟩
theorem rfin (b : Nat) (w : World) : Calls Try.prog 16 #[U b] w fun e w' => e = .returned (.bool (decide (b % 9223372036854775808 < 9218868437227405312))) ∧ w' = w := by
  go_enter Try.func16, Try.ntmps16
  go_wp2_with fail
  refine (rsz b _).mono ?_
  rintro e w' ⟨rfl, rfl⟩
  go_wp2_with fail
  go_ret
  exact ⟨congrArg (fun z => Ending.returned (.bool z)) (decide_eq_decide.2 (by omega)), rfl⟩
theorem rpow19 (k : Nat) (e : Int) (he : e = (k : Int) - 1023) (hk : k ≤ 2046) (w : World) : Calls Try.prog 18 #[.int .i64 e] w fun e w' => e = .returned (U (k * 4503599627370496)) ∧ w' = w := by
  go_enter Try.func18, Try.ntmps18
  have h1 : wrap64 (e + 1023) = (k : Int) := by rw [he]; simp only [wrap64]; omega
  have h2 : IntKind.i64.wrap (e + 1023) = (k : Int) := by rw [he]; simp [IntKind.wrap, IntKind.signed, IntKind.bits]; omega
  have h3 : IntKind.u64.wrap (k : Int) = (k : Int) := by rw [IntKind.wrap_u64]; omega
  have h4 : IntKind.u64.wrap ((k : Int) * 4503599627370496) = ((k * 4503599627370496 : Nat) : Int) := by rw [IntKind.wrap_u64]; omega
  clear he
  go_wp2_with fail
  go_ret
  exact ⟨congrArg (fun z => Ending.returned (.int .u64 z)) (by omega), rfl⟩
theorem rdouble (w : World) :
    Calls Try.prog 35 #[] w fun en w' => en = .returned (FV 9223372036854775808 53 (-1074) 971 9218868437227405312 9221120237041090561) ∧ Below w.heap.size w w' := by
  go_enter Try.func35, Try.ntmps35
  go_wp2_with fail
  obtain ⟨W0, hW0⟩ : ∃ W0, W0 = (w.alloc (.cells #[.int .u64 0, .int .i64 0, .int .i64 0, .int .i64 0, .int .u64 0, .int .u64 0] 63)) := ⟨_, rfl⟩
  have Xr : Hid (B6q W0 (w.heap.size) (.int .u64 0) (.int .i64 0) (.int .i64 0) (.int .i64 0) (.int .u64 0) (.int .u64 0)) := by rw [hW0]; exact ⟨by go_simp, by go_simp, by go_simp, by go_simp, by go_simp, by go_simp, by go_simp, by go_simp, by go_simp, by go_simp, by go_simp, by go_simp⟩
  have hb0 : Below w.heap.size w W0 := by rw [hW0]; exact below1 w _
  rw [← hW0]
  clear hW0
  have hbw : Below w.heap.size w w := Below.refl _ _
  obtain ⟨gr, hgr⟩ : ∃ g, g = w.heap.size := ⟨_, rfl⟩
  have HGr : Hid (w.heap.size ≤ gr) := by rw [hgr]; show _ ≤ _; omega
  rw [← hgr] at Xr
  try rw [← hgr]
  clear hgr
  replace hbw := Below.on hbw hb0
  clear hb0
  refine (rof_64 _).mono ?_
  rintro e v1 ⟨rfl, hb1⟩
  replace Xr : Hid _ := Xr.out.below hb1
  replace hbw := Below.on hbw hb1
  clear hb1
  obtain ⟨cr0, cr1, cr2, cr3, cr4, cr5, fr0, fr1, fr2, fr3, fr4, fr5⟩ := Xr.out
  have hner : gr < v1.heap.size := World.block_lt_of_cell? v1 _ cr0
  go_wp2_with fail
  obtain ⟨V, hV⟩ : ∃ V, V = ((((((v1.setCell ⟨gr, 0, none⟩ (.int .u64 9223372036854775808)).setCell ⟨gr, 1, none⟩ (.int .i64 53)).setCell ⟨gr, 2, none⟩ (.int .i64 (-1074))).setCell ⟨gr, 3, none⟩ (.int .i64 971)).setCell ⟨gr, 4, none⟩ (.int .u64 9218868437227405312)).setCell ⟨gr, 5, none⟩ (.int .u64 9221120237041090561)) := ⟨_, rfl⟩
  have Y : B6q V gr (U 9223372036854775808) (.int .i64 53) (.int .i64 (-1074)) (.int .i64 971) (U 9218868437227405312) (U 9221120237041090561) := by rw [hV]; exact ⟨by go_simp, by go_simp, by go_simp, by go_simp, by go_simp, by go_simp, by go_simp, by go_simp, by go_simp, by go_simp, by go_simp, by go_simp⟩
  have hbV : Below w.heap.size w V := by rw [hV]; exact bSet (bSet (bSet (bSet (bSet (bSet hbw _ _ _ HGr.out) _ _ _ HGr.out) _ _ _ HGr.out) _ _ _ HGr.out) _ _ _ HGr.out) _ _ _ HGr.out
  rw [← hV]
  clear hV cr0 fr0 cr1 fr1 cr2 fr2 cr3 fr3 cr4 fr4 cr5 fr5 hner hbw Xr
  have hb2 := below1 V (.cells #[.int .u64 9223372036854775808, .int .i64 53, .int .i64 (-1074), .int .i64 971, .int .u64 9218868437227405312, .int .u64 9221120237041090561] 63)
  have Y2 := Y.below hb2
  have hb3 := Below.on hbV hb2
  generalize V.alloc (.cells #[.int .u64 9223372036854775808, .int .i64 53, .int .i64 (-1074), .int .i64 971, .int .u64 9218868437227405312, .int .u64 9221120237041090561] 63) = V2 at *
  obtain ⟨y0, y1, y2, y3, y4, y5, y6, y7, y8, y9, y10, y11⟩ := Y2
  refine bodyPost_ret (v := FV 9223372036854775808 53 (-1074) 971 9218868437227405312 9221120237041090561) (by rw [results_cell1 rfl]; go_simp) rfl ⟨rfl, hb3⟩
theorem runits {b : Nat} (w : World) :
    Calls Try.prog 36 #[U b] w fun en w' => ∃ v, en = .returned v ∧ GotR w.heap.size w' v (ux b) 2200 ∧ Below w.heap.size w w' := by
  go_enter Try.func36, Try.ntmps36
  go_wp2_with fail
  obtain ⟨W0, hW0⟩ : ∃ W0, W0 = (w.alloc (.cells #[.bool false, .slice none 0 0] 47)) := ⟨_, rfl⟩
  have Xr : Hid (Box W0 (w.heap.size) (.bool false) (.slice none 0 0)) := by rw [hW0]; exact ⟨by go_simp, by go_simp, by go_simp, by go_simp⟩
  have hb0 : Below w.heap.size w W0 := by rw [hW0]; exact below1 w _
  rw [← hW0]
  clear hW0
  have hbw : Below w.heap.size w w := Below.refl _ _
  obtain ⟨gr, hgr⟩ : ∃ g, g = w.heap.size := ⟨_, rfl⟩
  have HGr : Hid (w.heap.size ≤ gr) := by rw [hgr]; show _ ≤ _; omega
  rw [← hgr] at Xr
  try rw [← hgr]
  clear hgr
  replace hbw := Below.on hbw hb0
  clear hb0
  refine (rdouble _).mono ?_
  rintro e v1 ⟨rfl, hb1⟩
  replace Xr : Hid _ := Xr.out.below hb1
  replace hbw := Below.on hbw hb1
  clear hb1
  go_wp2_with fail
  have HRB : Hid (gr < v1.heap.size ∧ w.heap.size ≤ v1.heap.size) := ⟨Xr.out.lt, hbw.size⟩
  refine (rwhole_64 _).mono ?_
  rintro e v2 ⟨v, rfl, hv, hb2⟩
  obtain ⟨s2, g2, m2, rfl, hg2, hz2, hl2⟩ := hv
  have HN2 : Hid (v1.heap.size ≤ g2) := hg2
  have HB2 : Hid (v1.heap.size ≤ v2.heap.size) := hb2.size
  replace Xr : Hid _ := Xr.out.below hb2
  replace hbw := Below.on hbw hb2
  clear hb2
  have Z2 : Hid (ZR v2 s2 (some ⟨g2, 0, none⟩) m2 (ux b)) := hz2
  have HL2 : Hid (m2 ≤ 2200) := hl2
  clear hz2 hl2 hg2
  obtain ⟨cr0, cr1, fr0, fr1⟩ := Xr.out
  have hner := Xr.out.lt
  go_wp2_with fail
  refine bodyPost_ret (v := .agg #[.bool s2, .slice (some ⟨g2, 0, none⟩) m2 m2]) (by rw [results_cell1 rfl]; go_simp) rfl ⟨_, rfl, ⟨s2, g2, m2, rfl, Nat.le_trans HRB.out.2 HN2.out, ?_, HL2.out⟩, ?_⟩
  · have := HN2.out; have := HRB.out.1
    exact (Z2.out.set _ _ _ (by omega)).set _ _ _ (by omega)
  · exact bSet (bSet hbw _ _ _ HGr.out) _ _ _ HGr.out
theorem rfitst {p : Option Addr} {n c : Nat} {xs : List Nat} {w : World} (h : At32 w p n c xs) (hn : n ≤ 35184372088832) :
    Calls Try.prog 67 #[.slice p n c] w fun e w' => e = .returned (if valB B32 xs < B64 then .tuple #[U (valB B32 xs), .bool true] else .tuple #[.int .u64 0, .bool false]) ∧ Below w.heap.size w w' := by
  have H : Hid (At32 w p n c xs) := h
  clear h
  obtain ⟨rv, hrv⟩ : ∃ rv : Value, rv = (if valB B32 xs < B64 then .tuple #[U (valB B32 xs), .bool true] else .tuple #[.int .u64 0, .bool false]) := ⟨_, rfl⟩
  rw [← hrv]
  have HRV : Hid (rv = (if valB B32 xs < B64 then .tuple #[U (valB B32 xs), .bool true] else .tuple #[.int .u64 0, .bool false])) := hrv
  clear hrv
  go_enter Try.func67, Try.ntmps67
  go_wp2_with fail
  refine (rto_any H.out hn).mono ?_
  rintro e w1 ⟨g1, k1, N1, us, rfl, hg1, hA1, hn1, hb1⟩
  have hl := hA1.len
  match k1, us, hl with
  | 0, [], _ =>
    have HV : Hid (valB B32 xs = 0) := by show _ = _; rw [← hn1.val]; rfl
    clear hA1 hn1 hg1
    go_wp2_with fail
    go_ret2
    refine ⟨?_, hb1⟩
    rw [HRV.out, HV.out, if_pos (by rw [B64_eq]; decide)]
    rfl
  | 1, [u], _ =>
    have HV : Hid (valB B32 xs = u ∧ u < B64) := ⟨by rw [← hn1.val]; simp [valB], hA1.dig u (by simp)⟩
    have hc := hA1.cellAt 0 (by omega)
    have hc2 : w1.cell? ⟨g1, 0, none⟩ = some (U u) := hc
    have hlt := World.block_lt_of_cell? w1 _ hc2
    clear hA1 hn1 hg1 hc
    go_wp2_with fail
    go_ret2
    refine ⟨?_, hb1⟩
    rw [HRV.out, HV.out.1, if_pos HV.out.2]
    rfl
  | k + 2, us, hl =>
    have HV : Hid (¬ valB B32 xs < B64) := by
      intro hlt
      have := (hn1.len_le B64_one (k := 1)).2 (by rw [Nat.pow_one]; exact hlt)
      omega
    have h0 : (((k + 2 : Nat) : Int) == 0) = false := by simp; omega
    have h1 : (((k + 2 : Nat) : Int) == 1) = false := by simp; omega
    clear hA1 hn1 hg1
    go_wp2_with fail
    go_ret2
    refine ⟨?_, hb1⟩
    rw [HRV.out, if_neg HV.out]
    rfl
def szN (v : Nat) : Nat := (v.log2 - 52) * 4503599627370496 + v / 2 ^ (v.log2 - 52)
theorem log2_bits (v : Nat) : v.log2 - 52 = bitsN v - 53 := by
  unfold bitsN
  by_cases h : v = 0
  · subst h; simp
  · rw [if_neg h]; omega
theorem sz_lt (v : Nat) : v / 2 ^ (v.log2 - 52) < 9007199254740992 := by
  by_cases h : v = 0
  · subst h; simp
  · refine Nat.div_lt_of_lt_mul ?_
    have hu : v < 2 ^ (v.log2 + 1) := Nat.lt_log2_self
    refine Nat.lt_of_lt_of_le hu ?_
    rw [show (9007199254740992 : Nat) = 2 ^ 53 by decide, ← Nat.pow_add]
    exact p2le (by omega)
theorem rsizeN {p : Option Addr} {n c : Nat} {zs : List Nat} {v : Nat} {w : World} (h : At32 w p n c zs) (hx : Nf B32 zs v) (hn : n ≤ 16384) (hv : bitsN v ≤ 2099) :
    Calls Try.prog 55 #[FV 9223372036854775808 53 (-1074) 971 9218868437227405312 9221120237041090561, .slice p n c] w fun en w' => en = .returned (U (szN v)) ∧ Below w.heap.size w w' := by
  have hlt := sz_lt v
  have hlg := log2_bits v
  have hval : valB B32 zs = v := hx.val
  obtain ⟨t, ht⟩ : ∃ t, t = bitsN v := ⟨_, rfl⟩
  rw [hlg, ← ht] at hlt
  rw [← ht] at hv
  obtain ⟨d, hd⟩ : ∃ d, d = t - 53 := ⟨_, rfl⟩
  obtain ⟨m, hm⟩ : ∃ m, m = v / 2 ^ d := ⟨_, rfl⟩
  have hsz : szN v = d * 4503599627370496 + m := by unfold szN; rw [hlg, ← ht, ← hd, ← hm]
  rw [hsz]
  rw [← hd, ← hm] at hlt
  have HA : Hid (At32 w p n c zs) := h
  have HX : Hid (Nf B32 zs v ∧ n ≤ 16384 ∧ t = bitsN v ∧ m = v / 2 ^ d ∧ m < 9007199254740992) := ⟨hx, hn, ht, hm, hlt⟩
  obtain ⟨y, hy⟩ : ∃ y, y = d * 4503599627370496 := ⟨_, rfl⟩
  obtain ⟨r, hr⟩ : ∃ r, r = y + m := ⟨_, rfl⟩
  rw [← hy, ← hr]
  have e2 : IntKind.u64.wrap (d : Int) = (d : Int) := by rw [IntKind.wrap_u64]; omega
  have e3 : IntKind.u64.wrap ((d : Int) * 4503599627370496) = (y : Int) := by rw [IntKind.wrap_u64]; omega
  have e4 : IntKind.u64.wrap ((y : Int) + (m : Int)) = (r : Int) := by rw [IntKind.wrap_u64]; omega
  have h53 : t < 53 → m = v ∧ r = v := fun h => by
    have h1 : d = 0 := by omega
    have h2 : m = v := by rw [hm, h1, Nat.pow_zero, Nat.div_one]
    exact ⟨h2, by rw [hr, hy, h1, Nat.zero_mul, Nat.zero_add, h2]⟩
  have H53 : Hid (t < 53 → m = v ∧ r = v) := h53
  have e1 : 53 ≤ t → IntKind.i64.wrap ((t : Int) - 53) = (d : Int) := fun h => by simp [IntKind.wrap, IntKind.signed, IntKind.bits]; omega
  have e0 : 53 ≤ t → wrap64 ((t : Int) - 53) = (d : Int) := fun h => by simp only [wrap64]; omega
  have HE : Hid ((53 ≤ t → IntKind.i64.wrap ((t : Int) - 53) = (d : Int)) ∧ (53 ≤ t → wrap64 ((t : Int) - 53) = (d : Int)) ∧ d ≤ 2046) := ⟨e1, e0, by omega⟩
  have HVL : Hid (valB B32 zs = v) := hval
  clear h hx hn hv ht hd hm hsz hlt hlg hy hr h53 e1 e0 hval
  go_enter Try.func55, Try.ntmps55
  go_wp2_with fail
  obtain ⟨W0, hW0⟩ : ∃ W0, W0 = (w.alloc (.cells #[U 9223372036854775808, .int .i64 53, .int .i64 (-1074), .int .i64 971, U 9218868437227405312, U 9221120237041090561] 63)) := ⟨_, rfl⟩
  have Xk : Hid (B6q W0 (w.heap.size) (U 9223372036854775808) (.int .i64 53) (.int .i64 (-1074)) (.int .i64 971) (U 9218868437227405312) (U 9221120237041090561)) := by rw [hW0]; exact ⟨by go_simp, by go_simp, by go_simp, by go_simp, by go_simp, by go_simp, by go_simp, by go_simp, by go_simp, by go_simp, by go_simp, by go_simp⟩
  have hb0 : Below w.heap.size w W0 := by rw [hW0]; exact below1 w _
  rw [← hW0]
  clear hW0
  have hbw : Below w.heap.size w w := Below.refl _ _
  obtain ⟨gk, hgk⟩ : ∃ g, g = w.heap.size := ⟨_, rfl⟩
  have HGk : Hid (w.heap.size ≤ gk) := by rw [hgk]; show _ ≤ _; omega
  rw [← hgk] at Xk
  try rw [← hgk]
  clear hgk
  replace HA : Hid _ := HA.out.below hb0
  replace hbw := Below.on hbw hb0
  clear hb0
  refine (rbits_any HA.out HX.out.1 (by have := HX.out.2.1; omega)).mono ?_
  rintro e w1 ⟨rfl, hw⟩
  rw [← HX.out.2.2.1]
  obtain rfl := hw.symm
  clear hw
  by_cases h5 : t < 53
  · have c1 : decide ((t : Int) < 53) = true := decide_eq_true (by omega)
    have HT : Hid (t < 53) := h5
    clear h5
    obtain ⟨ck0, ck1, ck2, ck3, ck4, ck5, fk0, fk1, fk2, fk3, fk4, fk5⟩ := Xk.out
    have hnek : gk < W0.heap.size := World.block_lt_of_cell? W0 _ ck0
    go_wp2_with fail
    clear ck0 ck1 ck2 ck3 ck4 ck5 fk0 fk1 fk2 fk3 fk4 fk5 hnek
    refine (rfitst HA.out (by have := HX.out.2.1; omega)).mono ?_
    rintro e v3 ⟨rfl, hb3⟩
    rw [HVL.out, if_pos (show v < B64 by have h1 := (H53.out HT.out).1; have h2 := HX.out.2.2.2.2; rw [B64_eq]; omega)]
    replace Xk : Hid _ := Xk.out.below hb3
    replace HA : Hid _ := HA.out.below hb3
    replace hbw := Below.on hbw hb3
    clear hb3
    obtain ⟨ck0, ck1, ck2, ck3, ck4, ck5, fk0, fk1, fk2, fk3, fk4, fk5⟩ := Xk.out
    have hnek : gk < v3.heap.size := World.block_lt_of_cell? v3 _ ck0
    go_wp2_with fail
    clear ck0 ck1 ck2 ck3 ck4 ck5 fk0 fk1 fk2 fk3 fk4 fk5 hnek
    go_ret
    rw [(H53.out HT.out).2]
    exact ⟨rfl, hbw⟩
  · have c1 : decide ((t : Int) < 53) = false := decide_eq_false (by omega)
    have e1 := HE.out.1 (by omega)
    have e0 := HE.out.2.1 (by omega)
    clear h5
    obtain ⟨ck0, ck1, ck2, ck3, ck4, ck5, fk0, fk1, fk2, fk3, fk4, fk5⟩ := Xk.out
    have hnek : gk < W0.heap.size := World.block_lt_of_cell? W0 _ ck0
    go_wp2_with fail
    clear ck0 ck1 ck2 ck3 ck4 ck5 fk0 fk1 fk2 fk3 fk4 fk5 hnek
    refine (rshr_all HA.out HX.out.1 HX.out.2.1 d (by have := HE.out.2.2; omega)).mono ?_
    rintro e v3 ⟨p3, m3, z3, rfl, hA3, hN3, hm3, hb3⟩
    rw [← HX.out.2.2.2.1] at hN3
    replace Xk : Hid _ := Xk.out.below hb3
    replace HA : Hid _ := HA.out.below hb3
    replace hbw := Below.on hbw hb3
    clear hb3
    have A3 : Hid (At32 v3 p3 m3 m3 z3) := hA3
    have N3 : Hid (valB B32 z3 = m ∧ m3 ≤ n) := ⟨hN3.val, hm3⟩
    clear hA3 hN3 hm3
    obtain ⟨ck0, ck1, ck2, ck3, ck4, ck5, fk0, fk1, fk2, fk3, fk4, fk5⟩ := Xk.out
    have hnek : gk < v3.heap.size := World.block_lt_of_cell? v3 _ ck0
    go_wp2_with fail
    clear ck0 ck1 ck2 ck3 ck4 ck5 fk0 fk1 fk2 fk3 fk4 fk5 hnek
    refine (rfitst A3.out (by have := HX.out.2.1; have := N3.out.2; omega)).mono ?_
    rintro e v4 ⟨rfl, hb4⟩
    rw [N3.out.1, if_pos (show m < B64 by have h2 := HX.out.2.2.2.2; rw [B64_eq]; omega)]
    replace Xk : Hid _ := Xk.out.below hb4
    replace HA : Hid _ := HA.out.below hb4
    replace A3 : Hid _ := A3.out.below hb4
    replace hbw := Below.on hbw hb4
    clear hb4
    obtain ⟨ck0, ck1, ck2, ck3, ck4, ck5, fk0, fk1, fk2, fk3, fk4, fk5⟩ := Xk.out
    have hnek : gk < v4.heap.size := World.block_lt_of_cell? v4 _ ck0
    go_wp2_with fail
    clear ck0 ck1 ck2 ck3 ck4 ck5 fk0 fk1 fk2 fk3 fk4 fk5 hnek
    go_ret
    exact ⟨rfl, hbw⟩
theorem sgn_pos8 {x : Int} (h : 0 < x) : sgnI x = 1 := by
  unfold sgnI; rw [if_neg (by omega), if_neg (by omega)]
theorem bits_cmp {x y : Int} {k : Nat} (hx : 0 < x) (hy : 0 < y) : (bitsN x.natAbs + k < bitsN y.natAbs → x * 2 ^ k < y) ∧ (bitsN y.natAbs < bitsN x.natAbs + k → y < x * 2 ^ k) := by
  have h1 := bitsN_lt x.natAbs
  have h2 := bitsN_le x.natAbs (by omega)
  have h3 := bitsN_lt y.natAbs
  have h4 := bitsN_le y.natAbs (by omega)
  have h5 := bitsN_pos (a := x.natAbs) (by omega)
  have h6 := bitsN_pos (a := y.natAbs) (by omega)
  have hp : 0 < 2 ^ k := p2pos k
  have e1 : x * 2 ^ k = ((x.natAbs * 2 ^ k : Nat) : Int) := by
    rw [Int.natCast_mul, Int.natCast_pow]
    congr 1
    omega
  rw [e1]
  refine ⟨fun h => ?_, fun h => ?_⟩
  · have h7 : x.natAbs * 2 ^ k < 2 ^ (bitsN x.natAbs + k) := by rw [Nat.pow_add]; exact Nat.mul_lt_mul_of_pos_right h1 hp
    have h8 : 2 ^ (bitsN x.natAbs + k) ≤ 2 ^ (bitsN y.natAbs - 1) := p2le (by omega)
    omega
  · have h7 : 2 ^ (bitsN x.natAbs - 1 + k) ≤ x.natAbs * 2 ^ k := by rw [Nat.pow_add]; exact Nat.mul_le_mul_right _ h2
    have h8 : 2 ^ (bitsN y.natAbs) ≤ 2 ^ (bitsN x.natAbs - 1 + k) := p2le (by omega)
    omega
theorem cmp_lt {x y : Int} (h : x < y) : cmpI x y = -1 := by unfold cmpI; rw [if_pos h]
theorem cmp_gt {x y : Int} (h : y < x) : cmpI x y = 1 := by unfold cmpI; rw [if_neg (by omega), if_neg (by omega)]
theorem rhold_g {p q : Option Addr} {m n k : Nat} {w : World} {x y e f : Int} (s t : Bool) (h : ZR w s p m x) (k0 : ZR w t q n y) (hm : m ≤ 10000) (hn : n ≤ 10000) (hx : 0 < x) (hy : 0 < y) (hbx : bitsN x.natAbs ≤ 100000) (hby : bitsN y.natAbs ≤ 100000) (hk : 1 ≤ k ∧ k ≤ 5000) (he : -5000 ≤ e ∧ e ≤ 5000) (hf : -5000 ≤ f ∧ f ≤ 5000) (hef : e = f + (k : Int)) :
    Calls Try.prog 56 #[.agg #[.bool s, .slice p m m], .int .i64 e, .agg #[.bool t, .slice q n n], .int .i64 f] w fun en w' => en = .returned (.int .i64 (cmpI (x * 2 ^ k) y)) ∧ Below w.heap.size w w' := by
  obtain ⟨bx, hbxe⟩ : ∃ bx, bx = bitsN x.natAbs := ⟨_, rfl⟩
  obtain ⟨yb, hbye⟩ : ∃ yb, yb = bitsN y.natAbs := ⟨_, rfl⟩
  obtain ⟨tt, htt⟩ : ∃ tt : Int, tt = (bx : Int) + e := ⟨_, rfl⟩
  obtain ⟨uu, huu⟩ : ∃ uu : Int, uu = (yb : Int) + f := ⟨_, rfl⟩
  obtain ⟨rs, hrs⟩ : ∃ rs, rs = cmpI (x * 2 ^ k) y := ⟨_, rfl⟩
  rw [← hbxe] at hbx
  rw [← hbye] at hby
  rw [← hrs]
  have HA : Hid (ZR w s p m x) := h
  have HB : Hid (ZR w t q n y) := k0
  have HM : Hid (m ≤ 10000 ∧ n ≤ 10000 ∧ 0 < x ∧ 0 < y) := ⟨hm, hn, hx, hy⟩
  have HX : Hid (bx = bitsN x.natAbs ∧ yb = bitsN y.natAbs ∧ rs = cmpI (x * 2 ^ k) y ∧ k ≤ 5000) := ⟨hbxe, hbye, hrs, hk.2⟩
  have HLT : Hid (tt < uu → rs = -1) := fun h => by
    have := (bits_cmp (k := k) hx hy).1 (by rw [← hbxe, ← hbye]; omega)
    rw [hrs]; exact cmp_lt this
  have HGT : Hid (uu < tt → rs = 1) := fun h => by
    have := (bits_cmp (k := k) hx hy).2 (by rw [← hbxe, ← hbye]; omega)
    rw [hrs]; exact cmp_gt this
  have w1 : IntKind.i64.wrap ((bx : Int) + e) = tt := by rw [htt]; simp [IntKind.wrap, IntKind.signed, IntKind.bits]; omega
  have w2 : IntKind.i64.wrap ((yb : Int) + f) = uu := by rw [huu]; simp [IntKind.wrap, IntKind.signed, IntKind.bits]; omega
  have c3 : decide (f < e) = true := decide_eq_true (by omega)
  have w3 : IntKind.i64.wrap (e - f) = (k : Int) := by rw [show e - f = (k : Int) by omega]; simp [IntKind.wrap, IntKind.signed, IntKind.bits]; omega
  have w4 : wrap64 (e - f) = (k : Int) := by rw [show e - f = (k : Int) by omega]; simp only [wrap64]; omega
  clear h k0 hm hn hx hy hk he hf hef hbx hby hbxe hbye htt huu hrs
  go_enter Try.func56, Try.ntmps56
  go_wp2_with fail
  obtain ⟨W0, hW0⟩ : ∃ W0, W0 = ((w.alloc (.cells #[.bool s, .slice p m m] 47)).alloc (.cells #[.bool t, .slice q n n] 47)) := ⟨_, rfl⟩
  have Xm : Hid (Box W0 (w.heap.size) (.bool s) (.slice p m m)) := by rw [hW0]; exact ⟨by go_simp, by go_simp, by go_simp, by go_simp⟩
  have Xl : Hid (Box W0 (w.heap.size + 1) (.bool t) (.slice q n n)) := by rw [hW0]; exact ⟨by go_simp, by go_simp, by go_simp, by go_simp⟩
  have hb0 : Below w.heap.size w W0 := by rw [hW0]; exact below2 w _ _
  rw [← hW0]
  clear hW0
  have hbw : Below w.heap.size w w := Below.refl _ _
  obtain ⟨gl, hgl⟩ : ∃ g, g = w.heap.size + 1 := ⟨_, rfl⟩
  have HGl : Hid (w.heap.size ≤ gl) := by rw [hgl]; show _ ≤ _; omega
  rw [← hgl] at Xl
  try rw [← hgl]
  obtain ⟨gm, hgm⟩ : ∃ g, g = w.heap.size := ⟨_, rfl⟩
  have HGm : Hid (w.heap.size ≤ gm) := by rw [hgm]; show _ ≤ _; omega
  rw [← hgm] at Xm
  try rw [← hgm]
  have HGD : Hid (gm ≠ gl ∧ gl ≠ gm) := by rw [hgm, hgl]; exact ⟨by omega, by omega⟩
  clear hgm hgl
  replace HA : Hid _ := HA.out.below hb0
  replace HB : Hid _ := HB.out.below hb0
  replace hbw := Below.on hbw hb0
  clear hb0
  obtain ⟨W1, hW1⟩ : ∃ W1, W1 = W0.drew := ⟨_, rfl⟩
  have hbd : Below W0.heap.size W0 W1 := by rw [hW1]; exact bDrew1 (Below.refl _ _)
  replace Xm : Hid _ := Xm.out.below hbd
  replace Xl : Hid _ := Xl.out.below hbd
  replace HA : Hid _ := HA.out.below hbd
  replace HB : Hid _ := HB.out.below hbd
  replace hbw := Below.on hbw hbd
  clear hbd
  have HJ : Hid ((fun W' : World => W'.cell? ⟨gm, 0, none⟩ = some (.bool s) ∧ W'.cell? ⟨gm, 1, none⟩ = some (.slice p m m) ∧ W'.cell? ⟨gl, 0, none⟩ = some (.bool t) ∧ W'.cell? ⟨gl, 1, none⟩ = some (.slice q n n)) W1) := ⟨Xm.out.c0, Xm.out.c1, Xl.out.c0, Xl.out.c1⟩
  refine wp_region_J (fun W' => W'.cell? ⟨gm, 0, none⟩ = some (.bool s) ∧ W'.cell? ⟨gm, 1, none⟩ = some (.slice p m m) ∧ W'.cell? ⟨gl, 0, none⟩ = some (.bool t) ∧ W'.cell? ⟨gl, 1, none⟩ = some (.slice q n n)) (by kernel_rfl) ?_
  rw [← hW1]
  clear hW1
  refine wpJ_tq 0 rfl HJ.out ?_
  refine wpJ_tq 2 rfl HJ.out ?_
  refine wpJ_on 1 rfl fun KJ hK => ?_
  go_simp
  refine (rsign04 s HA.out).mono ?_
  rintro e v1 ⟨rfl, hb1⟩
  rw [sgn_pos8 HM.out.2.2.1]
  replace Xm : Hid _ := Xm.out.below hb1
  replace Xl : Hid _ := Xl.out.below hb1
  replace HA : Hid _ := HA.out.below hb1
  replace HB : Hid _ := HB.out.below hb1
  replace hbw := Below.on hbw hb1
  clear hb1
  refine hK _ _ ⟨Xm.out.c0, Xm.out.c1, Xl.out.c0, Xl.out.c1⟩ ?_
  clear hK
  refine wpJ_on 3 rfl fun KJ hK => ?_
  go_simp
  refine (rsign04 t HB.out).mono ?_
  rintro e v2 ⟨rfl, hb2⟩
  rw [sgn_pos8 HM.out.2.2.2]
  replace Xm : Hid _ := Xm.out.below hb2
  replace Xl : Hid _ := Xl.out.below hb2
  replace HA : Hid _ := HA.out.below hb2
  replace HB : Hid _ := HB.out.below hb2
  replace hbw := Below.on hbw hb2
  clear hb2
  clear HJ
  have HJ : Hid ((fun W' : World => W'.cell? ⟨gm, 0, none⟩ = some (.bool s) ∧ W'.cell? ⟨gm, 1, none⟩ = some (.slice p m m) ∧ W'.cell? ⟨gl, 0, none⟩ = some (.bool t) ∧ W'.cell? ⟨gl, 1, none⟩ = some (.slice q n n)) v2) := ⟨Xm.out.c0, Xm.out.c1, Xl.out.c0, Xl.out.c1⟩
  refine hK _ _ HJ.out ?_
  clear hK
  refine wpJ_tq 4 rfl HJ.out ?_
  refine wpJ_tq 5 rfl HJ.out ?_
  refine wpJ_tq 6 rfl HJ.out ?_
  refine wpJ_on 7 rfl fun KJ hK => ?_
  go_simp
  refine (rsign04 s HA.out).mono ?_
  rintro e v3 ⟨rfl, hb3⟩
  rw [sgn_pos8 HM.out.2.2.1]
  replace Xm : Hid _ := Xm.out.below hb3
  replace Xl : Hid _ := Xl.out.below hb3
  replace HA : Hid _ := HA.out.below hb3
  replace HB : Hid _ := HB.out.below hb3
  replace hbw := Below.on hbw hb3
  clear hb3
  clear HJ
  have HJ : Hid ((fun W' : World => W'.cell? ⟨gm, 0, none⟩ = some (.bool s) ∧ W'.cell? ⟨gm, 1, none⟩ = some (.slice p m m) ∧ W'.cell? ⟨gl, 0, none⟩ = some (.bool t) ∧ W'.cell? ⟨gl, 1, none⟩ = some (.slice q n n)) v3) := ⟨Xm.out.c0, Xm.out.c1, Xl.out.c0, Xl.out.c1⟩
  refine hK _ _ HJ.out ?_
  clear hK
  refine wpJ_tq 8 rfl HJ.out ?_
  refine wpJ_tq 9 rfl HJ.out ?_
  refine wpJ_done (by kernel_rfl) ?_ _
  clear HJ
  obtain ⟨cm0, cm1, fm0, fm1⟩ := Xm.out
  have hnem := Xm.out.lt
  obtain ⟨cl0, cl1, fl0, fl1⟩ := Xl.out
  have hnel := Xl.out.lt
  go_wp2_with fail
  clear cm0 cm1 fm0 fm1 hnem
  clear cl0 cl1 fl0 fl1 hnel
  refine (rsign04 s HA.out).mono ?_
  rintro e v4 ⟨rfl, hb4⟩
  rw [sgn_pos8 HM.out.2.2.1]
  replace Xm : Hid _ := Xm.out.below hb4
  replace Xl : Hid _ := Xl.out.below hb4
  replace HA : Hid _ := HA.out.below hb4
  replace HB : Hid _ := HB.out.below hb4
  replace hbw := Below.on hbw hb4
  clear hb4
  obtain ⟨cm0, cm1, fm0, fm1⟩ := Xm.out
  have hnem := Xm.out.lt
  obtain ⟨cl0, cl1, fl0, fl1⟩ := Xl.out
  have hnel := Xl.out.lt
  go_wp2_with fail
  clear cm0 cm1 fm0 fm1 hnem
  clear cl0 cl1 fl0 fl1 hnel
  obtain ⟨W2, hW2⟩ : ∃ W1, W1 = v4.drew := ⟨_, rfl⟩
  have hbd : Below v4.heap.size v4 W2 := by rw [hW2]; exact bDrew1 (Below.refl _ _)
  replace Xm : Hid _ := Xm.out.below hbd
  replace Xl : Hid _ := Xl.out.below hbd
  replace HA : Hid _ := HA.out.below hbd
  replace HB : Hid _ := HB.out.below hbd
  replace hbw := Below.on hbw hbd
  clear hbd
  have HJ : Hid ((fun W' : World => W'.cell? ⟨gm, 1, none⟩ = some (.slice p m m) ∧ W'.cell? ⟨gl, 1, none⟩ = some (.slice q n n)) W2) := ⟨Xm.out.c1, Xl.out.c1⟩
  refine wp_region_J (fun W' => W'.cell? ⟨gm, 1, none⟩ = some (.slice p m m) ∧ W'.cell? ⟨gl, 1, none⟩ = some (.slice q n n)) (by kernel_rfl) ?_
  rw [← hW2]
  clear hW2
  refine wpJ_tq 0 rfl HJ.out ?_
  refine wpJ_tq 1 rfl HJ.out ?_
  refine wpJ_tq 3 rfl HJ.out ?_
  refine wpJ_tq 5 rfl HJ.out ?_
  refine wpJ_tq 6 rfl HJ.out ?_
  go_simp
  refine wpJ_tq 8 rfl HJ.out ?_
  refine wpJ_on 2 rfl fun KJ hK => ?_
  go_simp
  obtain ⟨zs, hA, hN⟩ := HA.out.ex
  refine (rbits_any hA hN (by have := HM.out.1; omega)).mono ?_
  rintro e1 v5 ⟨rfl, hw⟩
  obtain rfl := hw.symm
  clear hw hA hN
  rw [← HX.out.1]
  clear HJ
  have HJ : Hid ((fun W' : World => W'.cell? ⟨gm, 1, none⟩ = some (.slice p m m) ∧ W'.cell? ⟨gl, 1, none⟩ = some (.slice q n n)) W2) := ⟨Xm.out.c1, Xl.out.c1⟩
  refine hK _ _ HJ.out ?_
  clear hK
  refine wpJ_tq 4 rfl HJ.out ?_
  refine wpJ_on 7 rfl fun KJ hK => ?_
  go_simp
  obtain ⟨zs, hA, hN⟩ := HB.out.ex
  refine (rbits_any hA hN (by have := HM.out.2.1; omega)).mono ?_
  rintro e1 v6 ⟨rfl, hw⟩
  obtain rfl := hw.symm
  clear hw hA hN
  rw [← HX.out.2.1]
  clear HJ
  have HJ : Hid ((fun W' : World => W'.cell? ⟨gm, 1, none⟩ = some (.slice p m m) ∧ W'.cell? ⟨gl, 1, none⟩ = some (.slice q n n)) W2) := ⟨Xm.out.c1, Xl.out.c1⟩
  refine hK _ _ HJ.out ?_
  clear hK
  refine wpJ_tq 9 rfl HJ.out ?_
  refine wpJ_tq 10 rfl HJ.out ?_
  refine wpJ_tq 11 rfl HJ.out ?_
  refine wpJ_done (by kernel_rfl) ?_ _
  clear HJ
  rcases Int.lt_trichotomy tt uu with h5 | h5 | h5
  · have c1 : decide (tt < uu) = true := decide_eq_true h5
    have HT : Hid (tt < uu) := h5
    clear h5
    obtain ⟨cm0, cm1, fm0, fm1⟩ := Xm.out
    have hnem := Xm.out.lt
    obtain ⟨cl0, cl1, fl0, fl1⟩ := Xl.out
    have hnel := Xl.out.lt
    go_wp2_with fail
    clear cm0 cm1 fm0 fm1 hnem
    clear cl0 cl1 fl0 fl1 hnel
    go_ret
    rw [HLT.out HT.out]
    exact ⟨rfl, hbw⟩
  · have c1 : decide (tt < uu) = false := decide_eq_false (by rw [h5]; exact Int.lt_irrefl _)
    have c2 : decide (uu < tt) = false := decide_eq_false (by rw [h5]; exact Int.lt_irrefl _)
    clear h5 HLT HGT
    go_wp2_with fail
    obtain ⟨W3, hW3⟩ : ∃ W1, W1 = W2.drew := ⟨_, rfl⟩
    have hbd : Below W2.heap.size W2 W3 := by rw [hW3]; exact bDrew1 (Below.refl _ _)
    replace Xm : Hid _ := Xm.out.below hbd
    replace Xl : Hid _ := Xl.out.below hbd
    replace HA : Hid _ := HA.out.below hbd
    replace HB : Hid _ := HB.out.below hbd
    replace hbw := Below.on hbw hbd
    clear hbd
    have HJ : Hid ((fun W' : World => W'.cell? ⟨gm, 0, none⟩ = some (.bool s) ∧ W'.cell? ⟨gm, 1, none⟩ = some (.slice p m m) ∧ W'.cell? ⟨gl, 0, none⟩ = some (.bool t) ∧ W'.cell? ⟨gl, 1, none⟩ = some (.slice q n n)) W3) := ⟨Xm.out.c0, Xm.out.c1, Xl.out.c0, Xl.out.c1⟩
    refine wp_region_J (fun W' => W'.cell? ⟨gm, 0, none⟩ = some (.bool s) ∧ W'.cell? ⟨gm, 1, none⟩ = some (.slice p m m) ∧ W'.cell? ⟨gl, 0, none⟩ = some (.bool t) ∧ W'.cell? ⟨gl, 1, none⟩ = some (.slice q n n)) (by kernel_rfl) ?_
    rw [← hW3]
    clear hW3
    refine wpJ_tq 0 rfl HJ.out ?_
    refine wpJ_tq 1 rfl HJ.out ?_
    refine wpJ_tq 2 rfl HJ.out ?_
    refine wpJ_tq 3 rfl HJ.out ?_
    refine wpJ_tq 5 rfl HJ.out ?_
    refine wpJ_on 4 rfl fun KJ hK => ?_
    go_simp
    refine (rshl04 s HA.out (by have := HM.out.1; omega) k (.inl (by have := HX.out.2.2.2; omega))).mono ?_
    rintro e v8 ⟨v, rfl, hv, hb8⟩
    obtain ⟨s8, g8, m8, rfl, hg8, hz8, hl8⟩ := hv
    have HN8 : Hid (W3.heap.size ≤ g8) := hg8
    have HB8 : Hid (W3.heap.size ≤ v8.heap.size) := hb8.size
    replace Xm : Hid _ := Xm.out.below hb8
    replace Xl : Hid _ := Xl.out.below hb8
    replace HA : Hid _ := HA.out.below hb8
    replace HB : Hid _ := HB.out.below hb8
    replace hbw := Below.on hbw hb8
    clear hb8
    have Z8 : Hid (ZR v8 s8 (some ⟨g8, 0, none⟩) m8 (x * 2 ^ k)) := hz8
    have HL8 : Hid (m8 ≤ 40000) := hl8
    clear hz8 hl8 hg8
    refine hK _ _ ⟨Xm.out.c0, Xm.out.c1, Xl.out.c0, Xl.out.c1⟩ ?_
    clear hK
    refine wpJ_on 6 rfl fun KJ hK => ?_
    go_simp
    refine (rcmp04 s8 t Z8.out HB.out (by have := HL8.out; omega) (by have := HM.out.2.1; omega)).mono ?_
    rintro e v9 ⟨rfl, hb9⟩
    rw [← HX.out.2.2.1]
    replace Xm : Hid _ := Xm.out.below hb9
    replace Xl : Hid _ := Xl.out.below hb9
    replace HA : Hid _ := HA.out.below hb9
    replace HB : Hid _ := HB.out.below hb9
    replace Z8 : Hid _ := Z8.out.below hb9
    replace hbw := Below.on hbw hb9
    clear hb9
    clear HJ
    have HJ : Hid ((fun W' : World => W'.cell? ⟨gm, 0, none⟩ = some (.bool s) ∧ W'.cell? ⟨gm, 1, none⟩ = some (.slice p m m) ∧ W'.cell? ⟨gl, 0, none⟩ = some (.bool t) ∧ W'.cell? ⟨gl, 1, none⟩ = some (.slice q n n)) v9) := ⟨Xm.out.c0, Xm.out.c1, Xl.out.c0, Xl.out.c1⟩
    refine hK _ _ HJ.out ?_
    clear hK
    refine wpJ_tq 7 rfl HJ.out ?_
    refine wpJ_done (by kernel_rfl) ?_ _
    clear HJ
    go_wp2_with fail
    go_ret
    exact ⟨rfl, hbw⟩
  · have c1 : decide (tt < uu) = false := decide_eq_false (Int.lt_asymm h5)
    have c2 : decide (uu < tt) = true := decide_eq_true h5
    have HT : Hid (uu < tt) := h5
    clear h5
    obtain ⟨cm0, cm1, fm0, fm1⟩ := Xm.out
    have hnem := Xm.out.lt
    obtain ⟨cl0, cl1, fl0, fl1⟩ := Xl.out
    have hnel := Xl.out.lt
    go_wp2_with fail
    clear cm0 cm1 fm0 fm1 hnem
    clear cl0 cl1 fl0 fl1 hnel
    go_ret
    rw [HGT.out HT.out]
    exact ⟨rfl, hbw⟩
end Go.Proofs.Ytoclnjbmhepcnaa
namespace Go.Proofs.Ytoclnjbmhepcnaa
open Go.RowKit
set_option maxRecDepth 20000
set_option maxHeartbeats 0
theorem FlR.add {x y r : Nat} (h : FlR .add x y r) (hx : Fin64 x) (hy : Fin64 y) (hm : (ux x + ux y).natAbs ≤ MaxU) : Sm64 (ux x + ux y) r := by
  obtain ⟨v, h1, h2⟩ := fl_add_fin hx hy hm
  rw [h.some v h1]; exact h2
theorem FlR.sub {x y r : Nat} (h : FlR .sub x y r) (hx : Fin64 x) (hy : Fin64 y) (hm : (ux x - ux y).natAbs ≤ MaxU) : Sm64 (ux x - ux y) r := by
  obtain ⟨v, h1, h2⟩ := fl_sub_fin hx hy hm
  rw [h.some v h1]; exact h2
theorem ux_abs (b : Nat) : (ux b).natAbs = vs 4503599627370496 (b % 9223372036854775808) := by
  rw [ux_eq]; split <;> omega
theorem vs_le4 {s t : Nat} (h : s ≤ t) : vs 4503599627370496 s ≤ vs 4503599627370496 t := by
  rcases Nat.lt_or_eq_of_le h with h1 | h1
  · exact Nat.le_of_lt (vs_mono (by omega) h1)
  · rw [h1]; exact Nat.le_refl _
theorem ux_pow {b K : Nat} (h : b % 9223372036854775808 ≤ (K + 1) * 4503599627370496) : (ux b).natAbs ≤ 2 ^ (52 + K) := by
  rw [ux_abs]
  refine Nat.le_trans (vs_le4 h) (Nat.le_of_eq ?_)
  have := vs_at K 4503599627370496 (.inr (Nat.le_refl _)) (by omega)
  rw [show (K + 1) * 4503599627370496 = K * 4503599627370496 + 4503599627370496 by omega, this, Nat.pow_add, show (2 : Nat) ^ 52 = 4503599627370496 by decide]
theorem Rn.bound {p : Nat} {x s : Int} {K : Nat} (h : Rn p x s) (hx : x.natAbs ≤ 2 ^ K) : s.natAbs ≤ 2 ^ K := by
  have h1 := h.hi (Fl.pow p K) (by omega)
  have h2 := h.neg.hi (Fl.pow p K) (by omega)
  omega
theorem Rn.near1 {x s : Int} {M : Nat} (h : Rn 53 x s) (hs : s.natAbs ≤ 4 * M) : (x - s).natAbs ≤ M := by
  have h1 := h.little (by omega)
  rw [show (2 : Nat) ^ 53 = 9007199254740992 by decide] at h1
  omega
theorem max_big {K M : Nat} (hK : K = 2044) (h : M = 2 ^ (52 + K)) : 3 * M ≤ MaxU ∧ 2 ^ (53 + K) = 2 * M := by
  have h1 : 2 ^ (52 + K) = 2251799813685248 * 2 ^ (K + 1) := by
    rw [show (2251799813685248 : Nat) = 2 ^ 51 by decide, ← Nat.pow_add]
    congr 1
    omega
  have h2 : 2 ^ (53 + K) = 2 * 2 ^ (52 + K) := by rw [show 53 + K = 52 + K + 1 by omega, p2succ]
  refine ⟨?_, by rw [h2, h]⟩
  rw [MaxU_eq (show K + 1 = 2045 by omega), h, h1]
  generalize 2 ^ (K + 1) = z
  omega
theorem pow1022 {a K : Nat} (hK : K = 2044) (h : a % 9223372036854775808 ≤ 9209861237972664320) : (ux a).natAbs ≤ 2 ^ (52 + K) := ux_pow (by omega)
theorem TSR.ok {a b s r : Nat} (h : TSR a b s r) (ha : a < 18446744073709551616) (hb : b < 18446744073709551616) (ka : a % 9223372036854775808 ≤ 9209861237972664320) (kb : b % 9223372036854775808 ≤ 9209861237972664320) :
    Sm64 (ux a + ux b) s ∧ Fin64 r ∧ ux s + ux r = ux a + ux b := by
  obtain ⟨ob, oa, da, db, F1, F2, F3, F4, F5, F6⟩ := h
  have fa : Fin64 a := ⟨ha, by omega⟩
  have fb : Fin64 b := ⟨hb, by omega⟩
  obtain ⟨K, hK⟩ : ∃ K, K = 2044 := ⟨_, rfl⟩
  have ma := pow1022 hK ka
  have mb := pow1022 hK kb
  obtain ⟨M, hM⟩ : ∃ M, M = 2 ^ (52 + K) := ⟨_, rfl⟩
  obtain ⟨m3, m2⟩ := max_big hK hM
  rw [← hM] at ma mb
  have S1 := F1.add fa fb (by omega)
  have bs := S1.rn.bound (K := 53 + K) (by rw [m2]; omega)
  rw [m2] at bs
  have e1 := S1.rn.near1 (M := M) (by omega)
  have S2 := F2.sub S1.fin fa (by omega)
  have bb := S2.rn.bound (K := 53 + K) (by rw [m2]; omega)
  rw [m2] at bb
  have e2 := S2.rn.near1 (M := M) (by omega)
  have S3 := F3.sub S1.fin S2.fin (by omega)
  have ba := S3.rn.bound (K := 53 + K) (by rw [m2]; omega)
  rw [m2] at ba
  have S4 := F4.sub fa S3.fin (by omega)
  have S5 := F5.sub fb S2.fin (by omega)
  have hd := two_sum_a (by omega) fa.fl fb.fl S1.rn S2.rn S3.rn S4.rn S5.rn
  have S6 := F6.add S4.fin S5.fin (by omega)
  exact ⟨S1, S6.fin, two_sum (by omega) fa.fl fb.fl S1.rn S2.rn S3.rn S4.rn S5.rn S6.rn⟩
theorem FSR.ok {a b s r : Nat} (h : FSR a b s r) (ha : a < 18446744073709551616) (hb : b < 18446744073709551616) (ka : a % 9223372036854775808 ≤ 9209861237972664320) (kb : b % 9223372036854775808 ≤ 9209861237972664320) (hab : a % 9223372036854775808 = 0 ∨ b % 9223372036854775808 ≤ a % 9223372036854775808) :
    Sm64 (ux a + ux b) s ∧ Fin64 r ∧ ux s + ux r = ux a + ux b := by
  obtain ⟨t, F1, F2, F3⟩ := h
  have fa : Fin64 a := ⟨ha, by omega⟩
  have fb : Fin64 b := ⟨hb, by omega⟩
  obtain ⟨K, hK⟩ : ∃ K, K = 2044 := ⟨_, rfl⟩
  have ma := pow1022 hK ka
  have mb := pow1022 hK kb
  have hab : ux a = 0 ∨ (ux b).natAbs ≤ (ux a).natAbs := by
    rcases hab with h | h
    · refine .inl ?_
      have := ux_abs a
      rw [h, vs_zero] at this
      omega
    · refine .inr ?_
      rw [ux_abs, ux_abs]; exact vs_le4 h
  obtain ⟨M, hM⟩ : ∃ M, M = 2 ^ (52 + K) := ⟨_, rfl⟩
  obtain ⟨m3, m2⟩ := max_big hK hM
  rw [← hM] at ma mb
  have S1 := F1.add fa fb (by omega)
  have bs := S1.rn.bound (K := 53 + K) (by rw [m2]; omega)
  rw [m2] at bs
  have e1 := S1.rn.near1 (M := M) (by omega)
  have S2 := F2.sub S1.fin fa (by omega)
  have bb := S2.rn.bound (K := 53 + K) (by rw [m2]; omega)
  rw [m2] at bb
  have S3 := F3.sub fb S2.fin (by omega)
  exact ⟨S1, S3.fin, fast_sum (by omega) fa.fl fb.fl hab S1.rn S2.rn S3.rn⟩
end Go.Proofs.Ytoclnjbmhepcnaa
namespace Go.Proofs.Ytoclnjbmhepcnaa
open Go.RowKit Go.Shelf
set_option maxRecDepth 20000
set_option maxHeartbeats 0
theorem sz_vs (v : Nat) (hv : v ≠ 0) : vs 4503599627370496 (szN v) = v / 2 ^ (v.log2 - 52) * 2 ^ (v.log2 - 52) ∧ vs 4503599627370496 (szN v + 1) = (v / 2 ^ (v.log2 - 52) + 1) * 2 ^ (v.log2 - 52) ∧ szN v % 2 = v / 2 ^ (v.log2 - 52) % 2 := by
  have h1 := sz_lt v
  have h2 : v.log2 - 52 = 0 ∨ 4503599627370496 ≤ v / 2 ^ (v.log2 - 52) := by
    by_cases h : v.log2 - 52 = 0
    · exact .inl h
    · refine .inr ((Nat.le_div_iff_mul_le (p2pos _)).2 ?_)
      have hl : 2 ^ v.log2 ≤ v := Nat.log2_self_le hv
      refine Nat.le_trans ?_ hl
      rw [show (4503599627370496 : Nat) = 2 ^ 52 by decide, ← Nat.pow_add]
      exact p2le (by omega)
  unfold szN
  refine ⟨vs_at _ _ h2 (by omega), ?_, by omega⟩
  have := vs_at (v.log2 - 52) (v / 2 ^ (v.log2 - 52) + 1) (by omega) (by omega)
  rw [← this, Nat.add_assoc]
def upB (c : Int) (s : Nat) : Nat := s + (decide (0 < c) || (decide (c = 0) && decide (s % 2 = 1))).toNat
theorem rne_cmp (v L s : Nat) (hs : s % 2 = v / 2 ^ L % 2) (c : Int) (hc : c = cmpI ((v : Int) * 2) (((2 * (v / 2 ^ L) + 1) * 2 ^ L : Nat) : Int)) : upB c s = s + (rne v L - v / 2 ^ L) := by
  have h1 := Nat.div_add_mod v (2 ^ L)
  have h2 : (2 * (v / 2 ^ L) + 1) * 2 ^ L = 2 * (2 ^ L * (v / 2 ^ L)) + 2 ^ L := by rw [Nat.add_mul, Nat.one_mul, Nat.mul_assoc, Nat.mul_comm (v / 2 ^ L)]
  unfold upB rne
  rw [h2] at hc
  generalize hr : v % 2 ^ L = r at *
  generalize hq : v / 2 ^ L = q at *
  generalize 2 ^ L = D at *
  generalize D * q = Y at *
  rw [Nat.add_sub_cancel_left]
  congr 2
  rcases Nat.lt_trichotomy D (2 * r) with h | h | h
  · rw [cmp_gt (by omega)] at hc
    subst hc
    rw [decide_eq_true h]; rfl
  · have h5 : c = 0 := by rw [hc]; unfold cmpI; rw [if_neg (by omega), if_pos (by omega)]
    subst h5
    rw [decide_eq_false (show ¬ D < 2 * r by omega), hs, h]
    rcases Nat.mod_two_eq_zero_or_one q with h3 | h3 <;> rw [h3] <;> simp
  · rw [cmp_lt (by omega)] at hc
    subst hc
    rw [decide_eq_false (show ¬ D < 2 * r by omega), show (D == 2 * r) = false by simp; omega]
    rfl
theorem rg_up (v : Nat) (hv : v ≠ 0) (c : Int) (hc : c = cmpI ((v : Int) * 2) ((vs 4503599627370496 (szN v) : Int) + (vs 4503599627370496 (szN v + 1) : Int))) : min (upB c (szN v)) 9218868437227405312 = rg 0 v := by
  obtain ⟨h1, h2, h3⟩ := sz_vs v hv
  rw [h1, h2, ← Int.natCast_add, ← Nat.add_mul, show v / 2 ^ (v.log2 - 52) + (v / 2 ^ (v.log2 - 52) + 1) = 2 * (v / 2 ^ (v.log2 - 52)) + 1 by omega] at hc
  rw [rne_cmp v _ _ h3 c hc]
  unfold rg szN
  rw [if_neg hv, Nat.sub_zero]
  have h4 : v / 2 ^ (v.log2 - 52) ≤ rne v (v.log2 - 52) := by unfold rne; omega
  generalize v / 2 ^ (v.log2 - 52) = q at h4 ⊢
  rw [show (v.log2 - 52) * 4503599627370496 + q + (rne v (v.log2 - 52) - q) = (v.log2 - 52) * 4503599627370496 + rne v (v.log2 - 52) by omega]
theorem min_lit (s : Nat) : min (s : Int) 9218868437227405312 = ((min s 9218868437227405312 : Nat) : Int) := by omega
theorem min_lit1 (s : Nat) : min ((s : Int) + 1) 9218868437227405312 = ((min (s + 1) 9218868437227405312 : Nat) : Int) := by omega
theorem bits_le_of {n k : Nat} (h : n < 2 ^ k) : bitsN n ≤ k := by
  by_cases h0 : n = 0
  · subst h0; exact Nat.zero_le _
  · have h1 := bitsN_le n h0
    have h2 := bitsN_pos h0
    have := p2lt (Nat.lt_of_le_of_lt h1 h)
    omega
theorem nf_len5 {w : World} {p : Option Addr} {m c : Nat} {zs : List Nat} {v : Nat} (h : At32 w p m c zs) (hN : Nf B32 zs v) {K : Nat} (hb : bitsN v ≤ K) : m ≤ K := by
  have h1 := (hN.len_le B32_one (k := K)).2 (Nat.lt_of_lt_of_le (Nat.lt_of_lt_of_le (bitsN_lt v) (p2le hb)) (Nat.pow_le_pow_left (by decide) K))
  rw [h.len] at h1
  exact h1
theorem rround_z {p : Option Addr} {e : Int} {w : World} (h0 : -10000 ≤ e) (h1 : e ≤ 10000) :
    Calls Try.prog 34 #[FV 9223372036854775808 53 (-1074) 971 9218868437227405312 9221120237041090561, .slice p 0 0, .int .i64 e] w fun en w' => en = .returned (U 0) ∧ Below w.heap.size w w' := by
  have w1 : IntKind.i64.wrap ((0 : Int) + e) = e := by simp [IntKind.wrap, IntKind.signed, IntKind.bits]; omega
  have w2 : wrap64 ((0 : Int) + e) = e := by simp only [wrap64]; omega
  have hAt : ∀ W : World, At32 W p 0 0 [] := fun W => ⟨rfl, by omega, by unfold maxLen; omega, Dig.nil _, .inl rfl⟩
  have HAt : Hid (∀ W : World, At32 W p 0 0 []) := hAt
  have HE : Hid (-10000 ≤ e ∧ e ≤ 10000) := ⟨h0, h1⟩
  clear h0 h1 hAt
  go_enter Try.func34, Try.ntmps34
  go_wp2_with fail
  obtain ⟨W0, hW0⟩ : ∃ W0, W0 = (w.alloc (.cells #[U 9223372036854775808, .int .i64 53, .int .i64 (-1074), .int .i64 971, U 9218868437227405312, U 9221120237041090561] 63)) := ⟨_, rfl⟩
  have Xk : Hid (B6q W0 (w.heap.size) (U 9223372036854775808) (.int .i64 53) (.int .i64 (-1074)) (.int .i64 971) (U 9218868437227405312) (U 9221120237041090561)) := by rw [hW0]; exact ⟨by go_simp, by go_simp, by go_simp, by go_simp, by go_simp, by go_simp, by go_simp, by go_simp, by go_simp, by go_simp, by go_simp, by go_simp⟩
  have hb0 : Below w.heap.size w W0 := by rw [hW0]; exact below1 w _
  rw [← hW0]
  clear hW0
  have hbw : Below w.heap.size w w := Below.refl _ _
  obtain ⟨gk, hgk⟩ : ∃ g, g = w.heap.size := ⟨_, rfl⟩
  have HGk : Hid (w.heap.size ≤ gk) := by rw [hgk]; show _ ≤ _; omega
  rw [← hgk] at Xk
  try rw [← hgk]
  clear hgk
  replace hbw := Below.on hbw hb0
  clear hb0
  refine (rbits_any (HAt.out _) ⟨Dig.nil _, by intro x hx; simp at hx, rfl⟩ (by omega)).mono ?_
  rintro e1 w1 ⟨rfl, hw⟩
  rw [show ((bitsN (valB B32 []) : Nat) : Int) = 0 from rfl]
  obtain rfl := hw.symm
  clear hw
  obtain ⟨ck0, ck1, ck2, ck3, ck4, ck5, fk0, fk1, fk2, fk3, fk4, fk5⟩ := Xk.out
  have hnek : gk < W0.heap.size := World.block_lt_of_cell? W0 _ ck0
  go_wp2_with fail
  clear ck0 ck1 ck2 ck3 ck4 ck5 fk0 fk1 fk2 fk3 fk4 fk5 hnek
  go_ret
  exact ⟨rfl, hbw⟩
theorem rround_s {p : Option Addr} {n : Nat} {zs : List Nat} {v : Nat} {w : World} (h : At32 w p n n zs) (hx : Nf B32 zs v) (hn : n ≤ 10000) (hv : v ≠ 0) (hb : bitsN v ≤ 2098) :
    Calls Try.prog 34 #[FV 9223372036854775808 53 (-1074) 971 9218868437227405312 9221120237041090561, .slice p n n, .int .i64 (-1074)] w fun en w' => en = .returned (U (rg 0 v)) ∧ Below w.heap.size w w' := by
  obtain ⟨b, hbe⟩ : ∃ b, b = bitsN v := ⟨_, rfl⟩
  have hb1 := bitsN_pos hv
  rw [← hbe] at hb hb1
  obtain ⟨s, hs⟩ : ∃ s, s = szN v := ⟨_, rfl⟩
  have hs9 : s < 9223372036854775807 := by
    have h1 := sz_lt v
    have h2 := log2_bits v
    rw [hs]; unfold szN; omega
  obtain ⟨c, hc⟩ : ∃ c, c = cmpI ((v : Int) * 2 ^ 1) (ux s + ux (s + 1)) := ⟨_, rfl⟩
  have hu1 : ux s = (vs 4503599627370496 s : Int) := by rw [ux_eq, if_neg (by omega), Nat.mod_eq_of_lt (by omega)]
  have hu2 : ux (s + 1) = (vs 4503599627370496 (s + 1) : Int) := by rw [ux_eq, if_neg (by omega), Nat.mod_eq_of_lt (by omega)]
  have HCC : Hid ((c = -1 ∨ c = 0 ∨ c = 1) ∧ min (upB c s) 9218868437227405312 = rg 0 v) := by
    refine ⟨?_, ?_⟩
    · rw [hc]; unfold cmpI; split
      · exact .inl rfl
      · split
        · exact .inr (.inl rfl)
        · exact .inr (.inr rfl)
    · have := rg_up v hv c (by rw [hc, hu1, hu2, hs, Int.pow_succ, Int.pow_zero, Int.one_mul])
      rw [← hs] at this
      exact this
  have HTW : Hid (0 < ux s + ux (s + 1) ∧ bitsN (ux s + ux (s + 1)).natAbs ≤ 100000 ∧ cmpI ((v : Int) * 2 ^ 1) (ux s + ux (s + 1)) = c) := by
    refine ⟨?_, ?_, hc.symm⟩
    · have : vs 4503599627370496 s < vs 4503599627370496 (s + 1) := vs_mono (by omega) (by omega)
      rw [hu1, hu2]
      omega
    · obtain ⟨L, hL⟩ : ∃ L, L = 2200 := ⟨_, rfl⟩
      have h1 : (ux s).natAbs < 2 ^ L := svS_lt s (a := 52) (c := 2048) (by decide) (by decide) (by decide) (by decide) (by omega)
      have h2 : (ux (s + 1)).natAbs < 2 ^ L := svS_lt (s + 1) (a := 52) (c := 2048) (by decide) (by decide) (by decide) (by decide) (by omega)
      have h3 := bits_le_of (n := (ux s + ux (s + 1)).natAbs) (k := L + 1) (by rw [p2succ]; omega)
      omega
  have n0 : ((n : Int) == 0) = false := by
    have hl := h.len
    have : n ≠ 0 := fun h0 => by
      subst h0
      have : zs = [] := List.eq_nil_of_length_eq_zero hl
      subst this
      exact hv hx.val.symm
    simp; omega
  have n1 : ¬ n = 0 := by simpa using n0
  obtain ⟨t, ht⟩ : ∃ t : Int, t = (b : Int) - 1074 := ⟨_, rfl⟩
  have w1 : wrap64 ((b : Int) + -1074) = t := by rw [ht]; simp only [wrap64]; omega
  have w1' : IntKind.i64.wrap ((b : Int) + -1074) = t := by rw [ht]; simp [IntKind.wrap, IntKind.signed, IntKind.bits]; omega
  have c1 : decide (t < -1074) = false := decide_eq_false (by omega)
  have c2 : decide (1024 < t) = false := decide_eq_false (by omega)
  have w5 : IntKind.i64.wrap (-1075) = -1075 := by decide
  have w3 : IntKind.u64.wrap ((s : Int) + 1) = ((s + 1 : Nat) : Int) := by rw [IntKind.wrap_u64]; omega
  have HA : Hid (At32 w p n n zs) := h
  have HX : Hid (Nf B32 zs v ∧ n ≤ 10000 ∧ b = bitsN v ∧ s = szN v ∧ v ≠ 0 ∧ bitsN v ≤ 2098 ∧ s < 9223372036854775807) := ⟨hx, hn, hbe, hs, hv, by omega, hs9⟩
  clear h hx hn hbe hs hv hb hb1 ht hs9 hc hu1 hu2
  go_enter Try.func34, Try.ntmps34
  go_wp2_with fail
  obtain ⟨W0, hW0⟩ : ∃ W0, W0 = (w.alloc (.cells #[U 9223372036854775808, .int .i64 53, .int .i64 (-1074), .int .i64 971, U 9218868437227405312, U 9221120237041090561] 63)) := ⟨_, rfl⟩
  have Xk : Hid (B6q W0 (w.heap.size) (U 9223372036854775808) (.int .i64 53) (.int .i64 (-1074)) (.int .i64 971) (U 9218868437227405312) (U 9221120237041090561)) := by rw [hW0]; exact ⟨by go_simp, by go_simp, by go_simp, by go_simp, by go_simp, by go_simp, by go_simp, by go_simp, by go_simp, by go_simp, by go_simp, by go_simp⟩
  have hb0 : Below w.heap.size w W0 := by rw [hW0]; exact below1 w _
  rw [← hW0]
  clear hW0
  have hbw : Below w.heap.size w w := Below.refl _ _
  obtain ⟨gk, hgk⟩ : ∃ g, g = w.heap.size := ⟨_, rfl⟩
  have HGk : Hid (w.heap.size ≤ gk) := by rw [hgk]; show _ ≤ _; omega
  rw [← hgk] at Xk
  try rw [← hgk]
  clear hgk
  replace HA : Hid _ := HA.out.below hb0
  replace hbw := Below.on hbw hb0
  clear hb0
  refine (rbits_any HA.out HX.out.1 (by have := HX.out.2.1; omega)).mono ?_
  rintro e1 w1 ⟨rfl, hw⟩
  rw [← HX.out.2.2.1]
  obtain rfl := hw.symm
  clear hw
  obtain ⟨ck0, ck1, ck2, ck3, ck4, ck5, fk0, fk1, fk2, fk3, fk4, fk5⟩ := Xk.out
  have hnek : gk < W0.heap.size := World.block_lt_of_cell? W0 _ ck0
  go_wp2_with fail
  clear ck0 ck1 ck2 ck3 ck4 ck5 fk0 fk1 fk2 fk3 fk4 fk5 hnek
  refine (rshl_all HA.out HX.out.1 (by have := HX.out.2.1; omega) 0 (.inl (by omega))).mono ?_
  rintro e1 v5 ⟨p5, m5, z5, rfl, hA5, hN5, hm5, hb5⟩
  rw [Nat.pow_zero, Nat.mul_one] at hN5
  replace Xk : Hid _ := Xk.out.below hb5
  replace HA : Hid _ := HA.out.below hb5
  replace hbw := Below.on hbw hb5
  clear hb5
  have A5 : Hid (At32 v5 p5 m5 m5 z5) := hA5
  have N5 : Hid (Nf B32 z5 v ∧ m5 ≤ 16384) := ⟨hN5, Nat.le_trans (nf_len5 hA5 hN5 HX.out.2.2.2.2.2.1) (by omega)⟩
  clear hA5 hN5 hm5
  obtain ⟨ck0, ck1, ck2, ck3, ck4, ck5, fk0, fk1, fk2, fk3, fk4, fk5⟩ := Xk.out
  have hnek : gk < v5.heap.size := World.block_lt_of_cell? v5 _ ck0
  go_wp2_with fail
  clear ck0 ck1 ck2 ck3 ck4 ck5 fk0 fk1 fk2 fk3 fk4 fk5 hnek
  refine (rsizeN A5.out N5.out.1 N5.out.2 (by have := HX.out.2.2.2.2.2.1; omega)).mono ?_
  rintro e v6 ⟨rfl, hb6⟩
  rw [← HX.out.2.2.2.1]
  replace Xk : Hid _ := Xk.out.below hb6
  replace HA : Hid _ := HA.out.below hb6
  replace A5 : Hid _ := A5.out.below hb6
  replace hbw := Below.on hbw hb6
  clear hb6
  clear A5
  clear N5
  obtain ⟨ck0, ck1, ck2, ck3, ck4, ck5, fk0, fk1, fk2, fk3, fk4, fk5⟩ := Xk.out
  have hnek : gk < v6.heap.size := World.block_lt_of_cell? v6 _ ck0
  go_wp2_with fail
  clear ck0 ck1 ck2 ck3 ck4 ck5 fk0 fk1 fk2 fk3 fk4 fk5 hnek
  have HAu : Hid (At32 v6 p n n zs) := HA.out
  have hbu : Below v6.heap.size v6 v6 := Below.refl _ _
  clear HA
  obtain ⟨Wr, hWr⟩ : ∃ W1, W1 = v6.drew := ⟨_, rfl⟩
  have hbd : Below v6.heap.size v6 Wr := by rw [hWr]; exact bDrew1 (Below.refl _ _)
  have hbu' := Below.on hbu hbd
  clear hbu
  have hbu := hbu'
  clear hbu'
  replace Xk : Hid _ := Xk.out.below hbd
  replace hbw := Below.on hbw hbd
  clear hbd
  have HJ : Hid ((fun W' : World => W'.cell? ⟨gk, 0, none⟩ = some (U 9223372036854775808) ∧ W'.cell? ⟨gk, 1, none⟩ = some (.int .i64 53) ∧ W'.cell? ⟨gk, 2, none⟩ = some (.int .i64 (-1074)) ∧ W'.cell? ⟨gk, 3, none⟩ = some (.int .i64 971) ∧ W'.cell? ⟨gk, 4, none⟩ = some (U 9218868437227405312) ∧ W'.cell? ⟨gk, 5, none⟩ = some (U 9221120237041090561)) Wr) := ⟨Xk.out.c0, Xk.out.c1, Xk.out.c2, Xk.out.c3, Xk.out.c4, Xk.out.c5⟩
  refine wp_region_J (fun W' => W'.cell? ⟨gk, 0, none⟩ = some (U 9223372036854775808) ∧ W'.cell? ⟨gk, 1, none⟩ = some (.int .i64 53) ∧ W'.cell? ⟨gk, 2, none⟩ = some (.int .i64 (-1074)) ∧ W'.cell? ⟨gk, 3, none⟩ = some (.int .i64 971) ∧ W'.cell? ⟨gk, 4, none⟩ = some (U 9218868437227405312) ∧ W'.cell? ⟨gk, 5, none⟩ = some (U 9221120237041090561)) (by kernel_rfl) ?_
  rw [← hWr]
  clear hWr
  refine wpJ_tq 0 rfl HJ.out ?_
  refine wpJ_tq 1 rfl HJ.out ?_
  refine wpJ_tq 3 rfl HJ.out ?_
  refine wpJ_tq 4 rfl HJ.out ?_
  refine wpJ_tq 5 rfl HJ.out ?_
  obtain ⟨RQ, HRQ, HRP⟩ : ∃ RQ : Act → Act → World → Prop, Hid (∀ a1 a2 a3, (fun a0 a' W' => ∃ gtw tA kA nA tB kB nB tF kF nF, a' = ((((a0.put (some 58) (.agg #[.bool tA, .slice (some ⟨kA, 0, none⟩) nA nA])).put (some 62) (.agg #[.bool tB, .slice (some ⟨kB, 0, none⟩) nB nB])).put (some 63) (.agg #[.bool tF, .slice (some ⟨kF, 0, none⟩) nF nF])).put (some 10) (.pointer (some ⟨gtw, 0, none⟩))) ∧ Box W' gtw (.bool tF) (.slice (some ⟨kF, 0, none⟩) nF nF) ∧ B6q W' gk (U 9223372036854775808) (.int .i64 53) (.int .i64 (-1074)) (.int .i64 971) (U 9218868437227405312) (U 9221120237041090561) ∧ ZR W' tF (some ⟨kF, 0, none⟩) nF (ux s + ux (s + 1)) ∧ w.heap.size ≤ gtw ∧ gk ≠ gtw ∧ (nF ≤ 2300) ∧ Below v6.heap.size v6 W' ∧ Below w.heap.size w W') a1 a2 a3 → RQ a1 a2 a3) ∧ Hid (∀ a1 a2 a3, RQ a1 a2 a3 → (fun a0 a' W' => ∃ gtw tA kA nA tB kB nB tF kF nF, a' = ((((a0.put (some 58) (.agg #[.bool tA, .slice (some ⟨kA, 0, none⟩) nA nA])).put (some 62) (.agg #[.bool tB, .slice (some ⟨kB, 0, none⟩) nB nB])).put (some 63) (.agg #[.bool tF, .slice (some ⟨kF, 0, none⟩) nF nF])).put (some 10) (.pointer (some ⟨gtw, 0, none⟩))) ∧ Box W' gtw (.bool tF) (.slice (some ⟨kF, 0, none⟩) nF nF) ∧ B6q W' gk (U 9223372036854775808) (.int .i64 53) (.int .i64 (-1074)) (.int .i64 971) (U 9218868437227405312) (U 9221120237041090561) ∧ ZR W' tF (some ⟨kF, 0, none⟩) nF (ux s + ux (s + 1)) ∧ w.heap.size ≤ gtw ∧ gk ≠ gtw ∧ (nF ≤ 2300) ∧ Below v6.heap.size v6 W' ∧ Below w.heap.size w W') a1 a2 a3) := ⟨_, fun _ _ _ h => h, fun _ _ _ h => h⟩
  refine wpJ_cutA RQ ?_ ?_
  · intro a' Wc hrq
    obtain ⟨gtw, tA, kA, nA, tB, kB, nB, tF, kF, nF, rfl, xb, xk, rr, hg, hdk, hHNF, hbuc, hbc⟩ := HRP.out _ _ _ hrq
    clear hrq HRP HRQ
    clear hbw hbu HJ Xk
    have hbw := hbc
    have hbu := hbuc
    have Xtw : Hid (Box Wc gtw (.bool tF) (.slice (some ⟨kF, 0, none⟩) nF nF)) := xb
    have Xk : Hid (B6q Wc gk (U 9223372036854775808) (.int .i64 53) (.int .i64 (-1074)) (.int .i64 971) (U 9218868437227405312) (U 9221120237041090561)) := xk
    have RR : Hid (ZR Wc tF (some ⟨kF, 0, none⟩) nF (ux s + ux (s + 1))) := rr
    have HGtw : Hid (w.heap.size ≤ gtw) := hg
    have HDktw : Hid (gk ≠ gtw) := hdk
    have HNF : Hid (nF ≤ 2300) := hHNF
    clear xb xk rr hg hdk hHNF hbuc hbc
    have HA : Hid (At32 Wc p n n zs) := HAu.out.below hbu
    clear hbu HAu
    obtain ⟨ck0, ck1, ck2, ck3, ck4, ck5, fk0, fk1, fk2, fk3, fk4, fk5⟩ := Xk.out
    have hnek : gk < Wc.heap.size := World.block_lt_of_cell? Wc _ ck0
    obtain ⟨ctw0, ctw1, ftw0, ftw1⟩ := Xtw.out
    have hnetw := Xtw.out.lt
    go_wp2_with fail
    clear ck0 ck1 ck2 ck3 ck4 ck5 fk0 fk1 fk2 fk3 fk4 fk5 hnek
    clear ctw0 ctw1 ftw0 ftw1 hnetw
    obtain ⟨Wy, hWy⟩ : ∃ W1, W1 = Wc.drew := ⟨_, rfl⟩
    have hbd : Below Wc.heap.size Wc Wy := by rw [hWy]; exact bDrew1 (Below.refl _ _)
    replace Xtw : Hid _ := Xtw.out.below hbd
    replace Xk : Hid _ := Xk.out.below hbd
    replace RR : Hid _ := RR.out.below hbd
    replace HA : Hid _ := HA.out.below hbd
    replace hbw := Below.on hbw hbd
    clear hbd
    have HJ : Hid ((fun W' : World => W'.cell? ⟨gk, 2, none⟩ = some (.int .i64 (-1074)) ∧ W'.cell? ⟨gtw, 0, none⟩ = some (.bool tF) ∧ W'.cell? ⟨gtw, 1, none⟩ = some (.slice (some ⟨kF, 0, none⟩) nF nF)) Wy) := ⟨Xk.out.c2, Xtw.out.c0, Xtw.out.c1⟩
    refine wp_region_J (fun W' => W'.cell? ⟨gk, 2, none⟩ = some (.int .i64 (-1074)) ∧ W'.cell? ⟨gtw, 0, none⟩ = some (.bool tF) ∧ W'.cell? ⟨gtw, 1, none⟩ = some (.slice (some ⟨kF, 0, none⟩) nF nF)) (by kernel_rfl) ?_
    rw [← hWy]
    clear hWy
    refine wpJ_tq 0 rfl HJ.out ?_
    refine wpJ_tq 2 rfl HJ.out ?_
    refine wpJ_tq 3 rfl HJ.out ?_
    refine wpJ_tq 4 rfl HJ.out ?_
    refine wpJ_tq 5 rfl HJ.out ?_
    go_simp
    refine wpJ_tq 6 rfl HJ.out ?_
    refine wpJ_on 1 rfl fun KJ hK => ?_
    go_simp
    have hiv : iv false v = (v : Int) := rfl
    refine (rmk_any false HA.out HX.out.1 (by have := HX.out.2.1; omega)).mono ?_
    rintro e9 uM ⟨v, rfl, hv, hbM⟩
    obtain ⟨tM, kM, nM, rfl, hgM, hzM, hlM⟩ := hv
    skip
    replace Xtw : Hid _ := Xtw.out.below hbM
    replace Xk : Hid _ := Xk.out.below hbM
    replace RR : Hid _ := RR.out.below hbM
    replace HA : Hid _ := HA.out.below hbM
    replace hbw := Below.on hbw hbM
    clear hbM
    have YM : Hid (ZR uM tM (some ⟨kM, 0, none⟩) nM (iv false v)) := hzM
    have HLM : Hid (nM ≤ n) := hlM
    clear hzM hlM hgM
    rw [hiv] at YM
    clear hiv
    refine hK _ _ ⟨Xk.out.c2, Xtw.out.c0, Xtw.out.c1⟩ ?_
    clear hK
    refine wpJ_on 7 rfl fun KJ hK => ?_
    go_simp
    refine (rhold_g (k := 1) (e := -1074) (f := -1075) tM tF YM.out RR.out (by have h1 := HLM.out; have h2 := HX.out.2.1; omega) (by have := HNF.out; omega) (by have := HX.out.2.2.2.2.1; omega) HTW.out.1 (by rw [Int.natAbs_natCast]; have := HX.out.2.2.2.2.2.1; omega) HTW.out.2.1 ⟨by decide, by decide⟩ ⟨by decide, by decide⟩ ⟨by decide, by decide⟩ rfl).mono ?_
    rintro e vH ⟨rfl, hbH⟩
    rw [HTW.out.2.2]
    replace Xtw : Hid _ := Xtw.out.below hbH
    replace Xk : Hid _ := Xk.out.below hbH
    replace RR : Hid _ := RR.out.below hbH
    replace HA : Hid _ := HA.out.below hbH
    replace YM : Hid _ := YM.out.below hbH
    replace hbw := Below.on hbw hbH
    clear hbH
    clear HJ
    have HJ : Hid ((fun W' : World => W'.cell? ⟨gk, 2, none⟩ = some (.int .i64 (-1074)) ∧ W'.cell? ⟨gtw, 0, none⟩ = some (.bool tF) ∧ W'.cell? ⟨gtw, 1, none⟩ = some (.slice (some ⟨kF, 0, none⟩) nF nF)) vH) := ⟨Xk.out.c2, Xtw.out.c0, Xtw.out.c1⟩
    refine hK _ _ HJ.out ?_
    clear hK
    refine wpJ_tq 8 rfl HJ.out ?_
    refine wpJ_done (by kernel_rfl) ?_ _
    clear HJ
    rcases HCC.out.1 with hc | hc | hc
    · rw [hc]
      have HC1 : Hid (c = -1) := hc
      clear hc
      obtain ⟨ck0, ck1, ck2, ck3, ck4, ck5, fk0, fk1, fk2, fk3, fk4, fk5⟩ := Xk.out
      have hnek : gk < vH.heap.size := World.block_lt_of_cell? vH _ ck0
      go_wp2_with fail
      clear ck0 ck1 ck2 ck3 ck4 ck5 fk0 fk1 fk2 fk3 fk4 fk5 hnek
      go_ret
      have hm := HCC.out.2
      rw [HC1.out] at hm
      have hu : upB (-1) s = s := by unfold upB; rfl
      rw [hu] at hm
      refine ⟨congrArg (fun z => Ending.returned (.int .u64 z)) ?_, hbw⟩
      rw [← hm]
      exact min_lit s
    · rw [hc]
      have HC1 : Hid (c = 0) := hc
      clear hc
      rcases Nat.mod_two_eq_zero_or_one s with hp | hp
      · have p1 : ((s : Int) % 2 == 1) = false := by rw [show (s : Int) % 2 = ((s % 2 : Nat) : Int) by omega, hp]; rfl
        have HP : Hid (s % 2 = 0) := hp
        have p2 : (s : Int) % 2 = 0 := by omega
        clear hp
        obtain ⟨ck0, ck1, ck2, ck3, ck4, ck5, fk0, fk1, fk2, fk3, fk4, fk5⟩ := Xk.out
        have hnek : gk < vH.heap.size := World.block_lt_of_cell? vH _ ck0
        go_wp2_with fail
        clear ck0 ck1 ck2 ck3 ck4 ck5 fk0 fk1 fk2 fk3 fk4 fk5 hnek
        go_ret
        have hm := HCC.out.2
        rw [HC1.out] at hm
        have hu : upB (0) s = s := by unfold upB; rw [HP.out]; rfl
        rw [hu] at hm
        refine ⟨congrArg (fun z => Ending.returned (.int .u64 z)) ?_, hbw⟩
        rw [← hm]
        exact min_lit s
      · have p1 : ((s : Int) % 2 == 1) = true := by rw [show (s : Int) % 2 = ((s % 2 : Nat) : Int) by omega, hp]; rfl
        have HP : Hid (s % 2 = 1) := hp
        have p2 : (s : Int) % 2 = 1 := by omega
        clear hp
        obtain ⟨ck0, ck1, ck2, ck3, ck4, ck5, fk0, fk1, fk2, fk3, fk4, fk5⟩ := Xk.out
        have hnek : gk < vH.heap.size := World.block_lt_of_cell? vH _ ck0
        go_wp2_with fail
        clear ck0 ck1 ck2 ck3 ck4 ck5 fk0 fk1 fk2 fk3 fk4 fk5 hnek
        go_ret
        have hm := HCC.out.2
        rw [HC1.out] at hm
        have hu : upB (0) s = s + 1 := by unfold upB; rw [HP.out]; rfl
        rw [hu] at hm
        refine ⟨congrArg (fun z => Ending.returned (.int .u64 z)) ?_, hbw⟩
        rw [← hm]
        exact min_lit1 s
    · rw [hc]
      have HC1 : Hid (c = 1) := hc
      clear hc
      obtain ⟨ck0, ck1, ck2, ck3, ck4, ck5, fk0, fk1, fk2, fk3, fk4, fk5⟩ := Xk.out
      have hnek : gk < vH.heap.size := World.block_lt_of_cell? vH _ ck0
      go_wp2_with fail
      clear ck0 ck1 ck2 ck3 ck4 ck5 fk0 fk1 fk2 fk3 fk4 fk5 hnek
      go_ret
      have hm := HCC.out.2
      rw [HC1.out] at hm
      have hu : upB (1) s = s + 1 := by unfold upB; rfl
      rw [hu] at hm
      refine ⟨congrArg (fun z => Ending.returned (.int .u64 z)) ?_, hbw⟩
      rw [← hm]
      exact min_lit1 s
  · skip
    refine wpJ_two (i := 2) (k := 8) (by kernel_rfl) rfl rfl (by kernel_rfl) (by kernel_rfl) (fun KJ hK => ?_) (fun KJ hK => ?_)
    · go_simp
      refine (rwhole_64 _).mono ?_
      rintro e9 uA ⟨v, rfl, hv, hbA⟩
      obtain ⟨tA, kA, nA, rfl, hgA, hzA, hlA⟩ := hv
      skip
      have hbu' := Below.on hbu hbA
      clear hbu
      have hbu := hbu'
      clear hbu'
      replace Xk : Hid _ := Xk.out.below hbA
      replace hbw := Below.on hbw hbA
      clear hbA
      have YA : Hid (ZR uA tA (some ⟨kA, 0, none⟩) nA (ux s)) := hzA
      have HLA : Hid (nA ≤ 2200) := hlA
      clear hzA hlA hgA
      clear HJ
      have HJ : Hid ((fun W' : World => W'.cell? ⟨gk, 0, none⟩ = some (U 9223372036854775808) ∧ W'.cell? ⟨gk, 1, none⟩ = some (.int .i64 53) ∧ W'.cell? ⟨gk, 2, none⟩ = some (.int .i64 (-1074)) ∧ W'.cell? ⟨gk, 3, none⟩ = some (.int .i64 971) ∧ W'.cell? ⟨gk, 4, none⟩ = some (U 9218868437227405312) ∧ W'.cell? ⟨gk, 5, none⟩ = some (U 9221120237041090561)) uA) := ⟨Xk.out.c0, Xk.out.c1, Xk.out.c2, Xk.out.c3, Xk.out.c4, Xk.out.c5⟩
      refine hK _ _ HJ.out ?_
      clear hK
      refine wpJ_two (i := 6) (k := 8) (by kernel_rfl) rfl rfl (by kernel_rfl) (by kernel_rfl) (fun KJ hK => ?_) (fun KJ hK => ?_)
      · go_simp
        refine (rwhole_64 _).mono ?_
        rintro e9 uB ⟨v, rfl, hv, hbB⟩
        obtain ⟨tB, kB, nB, rfl, hgB, hzB, hlB⟩ := hv
        skip
        have hbu' := Below.on hbu hbB
        clear hbu
        have hbu := hbu'
        clear hbu'
        replace Xk : Hid _ := Xk.out.below hbB
        replace YA : Hid _ := YA.out.below hbB
        replace hbw := Below.on hbw hbB
        clear hbB
        have YB : Hid (ZR uB tB (some ⟨kB, 0, none⟩) nB (ux (s + 1))) := hzB
        have HLB : Hid (nB ≤ 2200) := hlB
        clear hzB hlB hgB
        clear HJ
        have HJ : Hid ((fun W' : World => W'.cell? ⟨gk, 0, none⟩ = some (U 9223372036854775808) ∧ W'.cell? ⟨gk, 1, none⟩ = some (.int .i64 53) ∧ W'.cell? ⟨gk, 2, none⟩ = some (.int .i64 (-1074)) ∧ W'.cell? ⟨gk, 3, none⟩ = some (.int .i64 971) ∧ W'.cell? ⟨gk, 4, none⟩ = some (U 9218868437227405312) ∧ W'.cell? ⟨gk, 5, none⟩ = some (U 9221120237041090561)) uB) := ⟨Xk.out.c0, Xk.out.c1, Xk.out.c2, Xk.out.c3, Xk.out.c4, Xk.out.c5⟩
        refine hK _ _ HJ.out ?_
        clear hK
        refine wpJ_two (i := 7) (k := 8) (by kernel_rfl) rfl rfl (by kernel_rfl) (by kernel_rfl) (fun KJ hK => ?_) (fun KJ hK => ?_)
        · go_simp
          refine (radd04 tA tB YA.out YB.out (by have := HLA.out; omega) (by have := HLB.out; omega)).mono ?_
          rintro e9 uF ⟨v, rfl, hv, hbF⟩
          obtain ⟨tF, kF, nF, rfl, hgF, hzF, hlF⟩ := hv
          have HGB : Hid (uB.heap.size ≤ kF) := hgF
          have hbu' := Below.on hbu hbF
          clear hbu
          have hbu := hbu'
          clear hbu'
          replace Xk : Hid _ := Xk.out.below hbF
          replace YA : Hid _ := YA.out.below hbF
          replace YB : Hid _ := YB.out.below hbF
          replace hbw := Below.on hbw hbF
          clear hbF
          have RR : Hid (ZR uF tF (some ⟨kF, 0, none⟩) nF (ux s + ux (s + 1))) := hzF
          have HLF : Hid (nF ≤ max nA nB + 1) := hlF
          clear hzF hlF hgF
          clear YA
          clear YB
          have HNF : Hid (nF ≤ 2300) := by have h1 := HLA.out; have h2 := HLB.out; have h3 := HLF.out; show _ ≤ _; omega
          refine hK _ _ ⟨Xk.out.c0, Xk.out.c1, Xk.out.c2, Xk.out.c3, Xk.out.c4, Xk.out.c5⟩ ?_
          clear hK
          refine wpJ_on 8 rfl fun KJ hK => ?_
          go_simp
          have HDktw : Hid (gk ≠ uF.heap.size) := Nat.ne_of_lt Xk.out.lt
          have HLS : Hid (∀ v0 v1, ZR (((uF.alloc (.cells #[.bool false, .slice none 0 0] 47)).setCell ⟨uF.heap.size, 0, none⟩ v0).setCell ⟨uF.heap.size, 1, none⟩ v1) tF (some ⟨kF, 0, none⟩) nF (ux s + ux (s + 1))) := fun v0 v1 => RR.out.below (bSet (bSet (below1 _ _) _ _ _ (Nat.le_refl _)) _ _ _ (Nat.le_refl _))
          have HGU : Hid (v6.heap.size ≤ uF.heap.size) := hbu.size
          have Xtw0 : Hid (Box (uF.alloc (.cells #[.bool false, .slice none 0 0] 47)) uF.heap.size (.bool false) (.slice none 0 0)) := Box.new uF _ _ _
          have hbn : Below uF.heap.size uF (uF.alloc (.cells #[.bool false, .slice none 0 0] 47)) := below1 uF _
          generalize uF.alloc (.cells #[.bool false, .slice none 0 0] 47) = Wn at *
          have HGtw : Hid (w.heap.size ≤ uF.heap.size) := hbw.size
          have hbu' := Below.on hbu hbn
          clear hbu
          have hbu := hbu'
          clear hbu'
          replace Xk : Hid _ := Xk.out.below hbn
          replace RR : Hid _ := RR.out.below hbn
          replace hbw := Below.on hbw hbn
          clear hbn
          generalize uF.heap.size = gtw at *
          have Xtw := Xtw0
          clear Xtw0
          refine hK _ _ ⟨Xk.out.c0, Xk.out.c1, Xk.out.c2, Xk.out.c3, Xk.out.c4, Xk.out.c5⟩ ?_
          clear hK
          obtain ⟨ctw0, ctw1, ftw0, ftw1⟩ := Xtw.out
          have hnetw := Xtw.out.lt
          obtain ⟨ck0, ck1, ck2, ck3, ck4, ck5, fk0, fk1, fk2, fk3, fk4, fk5⟩ := Xk.out
          have hnek : gk < Wn.heap.size := World.block_lt_of_cell? Wn _ ck0
          have qak : gk ≠ gtw := HDktw.out
          have qbk : gtw ≠ gk := fun h => qak h.symm
          refine wpJ_on 9 rfl fun KJ hK => ?_
          go_simp
          have HJ2 : Hid ((fun W' : World => W'.cell? ⟨gk, 0, none⟩ = some (U 9223372036854775808) ∧ W'.cell? ⟨gk, 1, none⟩ = some (.int .i64 53) ∧ W'.cell? ⟨gk, 2, none⟩ = some (.int .i64 (-1074)) ∧ W'.cell? ⟨gk, 3, none⟩ = some (.int .i64 971) ∧ W'.cell? ⟨gk, 4, none⟩ = some (U 9218868437227405312) ∧ W'.cell? ⟨gk, 5, none⟩ = some (U 9221120237041090561)) ((Wn.setCell ⟨gtw, 0, none⟩ (.bool tF)).setCell ⟨gtw, 1, none⟩ (.slice (some ⟨kF, 0, none⟩) nF nF))) := ⟨by go_simp, by go_simp, by go_simp, by go_simp, by go_simp, by go_simp⟩
          have Xtw2 : Hid (Box ((Wn.setCell ⟨gtw, 0, none⟩ (.bool tF)).setCell ⟨gtw, 1, none⟩ (.slice (some ⟨kF, 0, none⟩) nF nF)) gtw (.bool tF) (.slice (some ⟨kF, 0, none⟩) nF nF)) := ⟨by go_simp, by go_simp, by go_simp, by go_simp⟩
          have Xk2 : Hid (B6q ((Wn.setCell ⟨gtw, 0, none⟩ (.bool tF)).setCell ⟨gtw, 1, none⟩ (.slice (some ⟨kF, 0, none⟩) nF nF)) gk (U 9223372036854775808) (.int .i64 53) (.int .i64 (-1074)) (.int .i64 971) (U 9218868437227405312) (U 9221120237041090561)) := ⟨by go_simp, by go_simp, by go_simp, by go_simp, by go_simp, by go_simp, by go_simp, by go_simp, by go_simp, by go_simp, by go_simp, by go_simp⟩
          have RR2 : Hid (ZR ((Wn.setCell ⟨gtw, 0, none⟩ (.bool tF)).setCell ⟨gtw, 1, none⟩ (.slice (some ⟨kF, 0, none⟩) nF nF)) tF (some ⟨kF, 0, none⟩) nF (ux s + ux (s + 1))) := HLS.out _ _
          have hbu2 : Below v6.heap.size v6 ((Wn.setCell ⟨gtw, 0, none⟩ (.bool tF)).setCell ⟨gtw, 1, none⟩ (.slice (some ⟨kF, 0, none⟩) nF nF)) := bSet (bSet hbu _ _ _ HGU.out) _ _ _ HGU.out
          have hbw2 : Below w.heap.size w ((Wn.setCell ⟨gtw, 0, none⟩ (.bool tF)).setCell ⟨gtw, 1, none⟩ (.slice (some ⟨kF, 0, none⟩) nF nF)) := bSet (bSet hbw _ _ _ HGtw.out) _ _ _ HGtw.out
          refine hK _ _ HJ2.out ?_
          clear hK HJ
          have HJ := HJ2
          clear HJ2
          refine wpJ_done (by kernel_rfl) ?_ _
          exact ⟨rfl, HRQ.out _ _ _ ⟨gtw, tA, kA, nA, tB, kB, nB, tF, kF, nF, by kernel_rfl, Xtw2.out, Xk2.out, RR2.out, HGtw.out, HDktw.out, HNF.out, hbu2, hbw2⟩⟩
        · go_simp
          have HDktw : Hid (gk ≠ uB.heap.size) := Nat.ne_of_lt Xk.out.lt
          have HGU : Hid (v6.heap.size ≤ uB.heap.size) := hbu.size
          have Xtw0 : Hid (Box (uB.alloc (.cells #[.bool false, .slice none 0 0] 47)) uB.heap.size (.bool false) (.slice none 0 0)) := Box.new uB _ _ _
          have hbn : Below uB.heap.size uB (uB.alloc (.cells #[.bool false, .slice none 0 0] 47)) := below1 uB _
          generalize uB.alloc (.cells #[.bool false, .slice none 0 0] 47) = Wn at *
          have HGtw : Hid (w.heap.size ≤ uB.heap.size) := hbw.size
          have hbu' := Below.on hbu hbn
          clear hbu
          have hbu := hbu'
          clear hbu'
          replace Xk : Hid _ := Xk.out.below hbn
          replace YA : Hid _ := YA.out.below hbn
          replace YB : Hid _ := YB.out.below hbn
          replace hbw := Below.on hbw hbn
          clear hbn
          generalize uB.heap.size = gtw at *
          have Xtw := Xtw0
          clear Xtw0
          refine hK _ _ ⟨Xk.out.c0, Xk.out.c1, Xk.out.c2, Xk.out.c3, Xk.out.c4, Xk.out.c5⟩ ?_
          clear hK
          refine wpJ_on 7 rfl fun KJ hK => ?_
          go_simp
          have HLT : Hid (gtw < Wn.heap.size) := Xtw.out.lt
          refine (radd04 tA tB YA.out YB.out (by have := HLA.out; omega) (by have := HLB.out; omega)).mono ?_
          rintro e9 uF ⟨v, rfl, hv, hbF⟩
          obtain ⟨tF, kF, nF, rfl, hgF, hzF, hlF⟩ := hv
          have HGB : Hid (Wn.heap.size ≤ kF) := hgF
          have hbu' := Below.on hbu hbF
          clear hbu
          have hbu := hbu'
          clear hbu'
          replace Xk : Hid _ := Xk.out.below hbF
          replace Xtw : Hid _ := Xtw.out.below hbF
          replace YA : Hid _ := YA.out.below hbF
          replace YB : Hid _ := YB.out.below hbF
          replace hbw := Below.on hbw hbF
          clear hbF
          have RR : Hid (ZR uF tF (some ⟨kF, 0, none⟩) nF (ux s + ux (s + 1))) := hzF
          have HLF : Hid (nF ≤ max nA nB + 1) := hlF
          clear hzF hlF hgF
          clear YA
          clear YB
          have HNF : Hid (nF ≤ 2300) := by have h1 := HLA.out; have h2 := HLB.out; have h3 := HLF.out; show _ ≤ _; omega
          have HNE : Hid (kF ≠ gtw) := by have h1 := HLT.out; have h2 := HGB.out; show _ ≠ _; omega
          refine hK _ _ ⟨Xk.out.c0, Xk.out.c1, Xk.out.c2, Xk.out.c3, Xk.out.c4, Xk.out.c5⟩ ?_
          clear hK
          obtain ⟨ctw0, ctw1, ftw0, ftw1⟩ := Xtw.out
          have hnetw := Xtw.out.lt
          obtain ⟨ck0, ck1, ck2, ck3, ck4, ck5, fk0, fk1, fk2, fk3, fk4, fk5⟩ := Xk.out
          have hnek : gk < uF.heap.size := World.block_lt_of_cell? uF _ ck0
          have qak : gk ≠ gtw := HDktw.out
          have qbk : gtw ≠ gk := fun h => qak h.symm
          refine wpJ_on 9 rfl fun KJ hK => ?_
          go_simp
          have HJ2 : Hid ((fun W' : World => W'.cell? ⟨gk, 0, none⟩ = some (U 9223372036854775808) ∧ W'.cell? ⟨gk, 1, none⟩ = some (.int .i64 53) ∧ W'.cell? ⟨gk, 2, none⟩ = some (.int .i64 (-1074)) ∧ W'.cell? ⟨gk, 3, none⟩ = some (.int .i64 971) ∧ W'.cell? ⟨gk, 4, none⟩ = some (U 9218868437227405312) ∧ W'.cell? ⟨gk, 5, none⟩ = some (U 9221120237041090561)) ((uF.setCell ⟨gtw, 0, none⟩ (.bool tF)).setCell ⟨gtw, 1, none⟩ (.slice (some ⟨kF, 0, none⟩) nF nF))) := ⟨by go_simp, by go_simp, by go_simp, by go_simp, by go_simp, by go_simp⟩
          have Xtw2 : Hid (Box ((uF.setCell ⟨gtw, 0, none⟩ (.bool tF)).setCell ⟨gtw, 1, none⟩ (.slice (some ⟨kF, 0, none⟩) nF nF)) gtw (.bool tF) (.slice (some ⟨kF, 0, none⟩) nF nF)) := ⟨by go_simp, by go_simp, by go_simp, by go_simp⟩
          have Xk2 : Hid (B6q ((uF.setCell ⟨gtw, 0, none⟩ (.bool tF)).setCell ⟨gtw, 1, none⟩ (.slice (some ⟨kF, 0, none⟩) nF nF)) gk (U 9223372036854775808) (.int .i64 53) (.int .i64 (-1074)) (.int .i64 971) (U 9218868437227405312) (U 9221120237041090561)) := ⟨by go_simp, by go_simp, by go_simp, by go_simp, by go_simp, by go_simp, by go_simp, by go_simp, by go_simp, by go_simp, by go_simp, by go_simp⟩
          have RR2 : Hid (ZR ((uF.setCell ⟨gtw, 0, none⟩ (.bool tF)).setCell ⟨gtw, 1, none⟩ (.slice (some ⟨kF, 0, none⟩) nF nF)) tF (some ⟨kF, 0, none⟩) nF (ux s + ux (s + 1))) := (RR.out.set _ _ _ HNE.out).set _ _ _ HNE.out
          have hbu2 : Below v6.heap.size v6 ((uF.setCell ⟨gtw, 0, none⟩ (.bool tF)).setCell ⟨gtw, 1, none⟩ (.slice (some ⟨kF, 0, none⟩) nF nF)) := bSet (bSet hbu _ _ _ HGU.out) _ _ _ HGU.out
          have hbw2 : Below w.heap.size w ((uF.setCell ⟨gtw, 0, none⟩ (.bool tF)).setCell ⟨gtw, 1, none⟩ (.slice (some ⟨kF, 0, none⟩) nF nF)) := bSet (bSet hbw _ _ _ HGtw.out) _ _ _ HGtw.out
          refine hK _ _ HJ2.out ?_
          clear hK HJ
          have HJ := HJ2
          clear HJ2
          refine wpJ_done (by kernel_rfl) ?_ _
          exact ⟨rfl, HRQ.out _ _ _ ⟨gtw, tA, kA, nA, tB, kB, nB, tF, kF, nF, by kernel_rfl, Xtw2.out, Xk2.out, RR2.out, HGtw.out, HDktw.out, HNF.out, hbu2, hbw2⟩⟩
      · go_simp
        have HDktw : Hid (gk ≠ uA.heap.size) := Nat.ne_of_lt Xk.out.lt
        have HGU : Hid (v6.heap.size ≤ uA.heap.size) := hbu.size
        have Xtw0 : Hid (Box (uA.alloc (.cells #[.bool false, .slice none 0 0] 47)) uA.heap.size (.bool false) (.slice none 0 0)) := Box.new uA _ _ _
        have hbn : Below uA.heap.size uA (uA.alloc (.cells #[.bool false, .slice none 0 0] 47)) := below1 uA _
        generalize uA.alloc (.cells #[.bool false, .slice none 0 0] 47) = Wn at *
        have HGtw : Hid (w.heap.size ≤ uA.heap.size) := hbw.size
        have hbu' := Below.on hbu hbn
        clear hbu
        have hbu := hbu'
        clear hbu'
        replace Xk : Hid _ := Xk.out.below hbn
        replace YA : Hid _ := YA.out.below hbn
        replace hbw := Below.on hbw hbn
        clear hbn
        generalize uA.heap.size = gtw at *
        have Xtw := Xtw0
        clear Xtw0
        refine hK _ _ ⟨Xk.out.c0, Xk.out.c1, Xk.out.c2, Xk.out.c3, Xk.out.c4, Xk.out.c5⟩ ?_
        clear hK
        refine wpJ_on 6 rfl fun KJ hK => ?_
        go_simp
        refine (rwhole_64 _).mono ?_
        rintro e9 uB ⟨v, rfl, hv, hbB⟩
        obtain ⟨tB, kB, nB, rfl, hgB, hzB, hlB⟩ := hv
        skip
        have hbu' := Below.on hbu hbB
        clear hbu
        have hbu := hbu'
        clear hbu'
        replace Xk : Hid _ := Xk.out.below hbB
        replace Xtw : Hid _ := Xtw.out.below hbB
        replace YA : Hid _ := YA.out.below hbB
        replace hbw := Below.on hbw hbB
        clear hbB
        have YB : Hid (ZR uB tB (some ⟨kB, 0, none⟩) nB (ux (s + 1))) := hzB
        have HLB : Hid (nB ≤ 2200) := hlB
        clear hzB hlB hgB
        refine hK _ _ ⟨Xk.out.c0, Xk.out.c1, Xk.out.c2, Xk.out.c3, Xk.out.c4, Xk.out.c5⟩ ?_
        clear hK
        refine wpJ_on 7 rfl fun KJ hK => ?_
        go_simp
        have HLT : Hid (gtw < uB.heap.size) := Xtw.out.lt
        refine (radd04 tA tB YA.out YB.out (by have := HLA.out; omega) (by have := HLB.out; omega)).mono ?_
        rintro e9 uF ⟨v, rfl, hv, hbF⟩
        obtain ⟨tF, kF, nF, rfl, hgF, hzF, hlF⟩ := hv
        have HGB : Hid (uB.heap.size ≤ kF) := hgF
        have hbu' := Below.on hbu hbF
        clear hbu
        have hbu := hbu'
        clear hbu'
        replace Xk : Hid _ := Xk.out.below hbF
        replace Xtw : Hid _ := Xtw.out.below hbF
        replace YA : Hid _ := YA.out.below hbF
        replace YB : Hid _ := YB.out.below hbF
        replace hbw := Below.on hbw hbF
        clear hbF
        have RR : Hid (ZR uF tF (some ⟨kF, 0, none⟩) nF (ux s + ux (s + 1))) := hzF
        have HLF : Hid (nF ≤ max nA nB + 1) := hlF
        clear hzF hlF hgF
        clear YA
        clear YB
        have HNF : Hid (nF ≤ 2300) := by have h1 := HLA.out; have h2 := HLB.out; have h3 := HLF.out; show _ ≤ _; omega
        have HNE : Hid (kF ≠ gtw) := by have h1 := HLT.out; have h2 := HGB.out; show _ ≠ _; omega
        refine hK _ _ ⟨Xk.out.c0, Xk.out.c1, Xk.out.c2, Xk.out.c3, Xk.out.c4, Xk.out.c5⟩ ?_
        clear hK
        obtain ⟨ctw0, ctw1, ftw0, ftw1⟩ := Xtw.out
        have hnetw := Xtw.out.lt
        obtain ⟨ck0, ck1, ck2, ck3, ck4, ck5, fk0, fk1, fk2, fk3, fk4, fk5⟩ := Xk.out
        have hnek : gk < uF.heap.size := World.block_lt_of_cell? uF _ ck0
        have qak : gk ≠ gtw := HDktw.out
        have qbk : gtw ≠ gk := fun h => qak h.symm
        refine wpJ_on 9 rfl fun KJ hK => ?_
        go_simp
        have HJ2 : Hid ((fun W' : World => W'.cell? ⟨gk, 0, none⟩ = some (U 9223372036854775808) ∧ W'.cell? ⟨gk, 1, none⟩ = some (.int .i64 53) ∧ W'.cell? ⟨gk, 2, none⟩ = some (.int .i64 (-1074)) ∧ W'.cell? ⟨gk, 3, none⟩ = some (.int .i64 971) ∧ W'.cell? ⟨gk, 4, none⟩ = some (U 9218868437227405312) ∧ W'.cell? ⟨gk, 5, none⟩ = some (U 9221120237041090561)) ((uF.setCell ⟨gtw, 0, none⟩ (.bool tF)).setCell ⟨gtw, 1, none⟩ (.slice (some ⟨kF, 0, none⟩) nF nF))) := ⟨by go_simp, by go_simp, by go_simp, by go_simp, by go_simp, by go_simp⟩
        have Xtw2 : Hid (Box ((uF.setCell ⟨gtw, 0, none⟩ (.bool tF)).setCell ⟨gtw, 1, none⟩ (.slice (some ⟨kF, 0, none⟩) nF nF)) gtw (.bool tF) (.slice (some ⟨kF, 0, none⟩) nF nF)) := ⟨by go_simp, by go_simp, by go_simp, by go_simp⟩
        have Xk2 : Hid (B6q ((uF.setCell ⟨gtw, 0, none⟩ (.bool tF)).setCell ⟨gtw, 1, none⟩ (.slice (some ⟨kF, 0, none⟩) nF nF)) gk (U 9223372036854775808) (.int .i64 53) (.int .i64 (-1074)) (.int .i64 971) (U 9218868437227405312) (U 9221120237041090561)) := ⟨by go_simp, by go_simp, by go_simp, by go_simp, by go_simp, by go_simp, by go_simp, by go_simp, by go_simp, by go_simp, by go_simp, by go_simp⟩
        have RR2 : Hid (ZR ((uF.setCell ⟨gtw, 0, none⟩ (.bool tF)).setCell ⟨gtw, 1, none⟩ (.slice (some ⟨kF, 0, none⟩) nF nF)) tF (some ⟨kF, 0, none⟩) nF (ux s + ux (s + 1))) := (RR.out.set _ _ _ HNE.out).set _ _ _ HNE.out
        have hbu2 : Below v6.heap.size v6 ((uF.setCell ⟨gtw, 0, none⟩ (.bool tF)).setCell ⟨gtw, 1, none⟩ (.slice (some ⟨kF, 0, none⟩) nF nF)) := bSet (bSet hbu _ _ _ HGU.out) _ _ _ HGU.out
        have hbw2 : Below w.heap.size w ((uF.setCell ⟨gtw, 0, none⟩ (.bool tF)).setCell ⟨gtw, 1, none⟩ (.slice (some ⟨kF, 0, none⟩) nF nF)) := bSet (bSet hbw _ _ _ HGtw.out) _ _ _ HGtw.out
        refine hK _ _ HJ2.out ?_
        clear hK HJ
        have HJ := HJ2
        clear HJ2
        refine wpJ_done (by kernel_rfl) ?_ _
        exact ⟨rfl, HRQ.out _ _ _ ⟨gtw, tA, kA, nA, tB, kB, nB, tF, kF, nF, by kernel_rfl, Xtw2.out, Xk2.out, RR2.out, HGtw.out, HDktw.out, HNF.out, hbu2, hbw2⟩⟩
    · go_simp
      have HDktw : Hid (gk ≠ Wr.heap.size) := Nat.ne_of_lt Xk.out.lt
      have HGU : Hid (v6.heap.size ≤ Wr.heap.size) := hbu.size
      have Xtw0 : Hid (Box (Wr.alloc (.cells #[.bool false, .slice none 0 0] 47)) Wr.heap.size (.bool false) (.slice none 0 0)) := Box.new Wr _ _ _
      have hbn : Below Wr.heap.size Wr (Wr.alloc (.cells #[.bool false, .slice none 0 0] 47)) := below1 Wr _
      generalize Wr.alloc (.cells #[.bool false, .slice none 0 0] 47) = Wn at *
      have HGtw : Hid (w.heap.size ≤ Wr.heap.size) := hbw.size
      have hbu' := Below.on hbu hbn
      clear hbu
      have hbu := hbu'
      clear hbu'
      replace Xk : Hid _ := Xk.out.below hbn
      replace hbw := Below.on hbw hbn
      clear hbn
      generalize Wr.heap.size = gtw at *
      have Xtw := Xtw0
      clear Xtw0
      refine hK _ _ ⟨Xk.out.c0, Xk.out.c1, Xk.out.c2, Xk.out.c3, Xk.out.c4, Xk.out.c5⟩ ?_
      clear hK
      refine wpJ_on 2 rfl fun KJ hK => ?_
      go_simp
      refine (rwhole_64 _).mono ?_
      rintro e9 uA ⟨v, rfl, hv, hbA⟩
      obtain ⟨tA, kA, nA, rfl, hgA, hzA, hlA⟩ := hv
      skip
      have hbu' := Below.on hbu hbA
      clear hbu
      have hbu := hbu'
      clear hbu'
      replace Xk : Hid _ := Xk.out.below hbA
      replace Xtw : Hid _ := Xtw.out.below hbA
      replace hbw := Below.on hbw hbA
      clear hbA
      have YA : Hid (ZR uA tA (some ⟨kA, 0, none⟩) nA (ux s)) := hzA
      have HLA : Hid (nA ≤ 2200) := hlA
      clear hzA hlA hgA
      refine hK _ _ ⟨Xk.out.c0, Xk.out.c1, Xk.out.c2, Xk.out.c3, Xk.out.c4, Xk.out.c5⟩ ?_
      clear hK
      refine wpJ_on 6 rfl fun KJ hK => ?_
      go_simp
      refine (rwhole_64 _).mono ?_
      rintro e9 uB ⟨v, rfl, hv, hbB⟩
      obtain ⟨tB, kB, nB, rfl, hgB, hzB, hlB⟩ := hv
      skip
      have hbu' := Below.on hbu hbB
      clear hbu
      have hbu := hbu'
      clear hbu'
      replace Xk : Hid _ := Xk.out.below hbB
      replace Xtw : Hid _ := Xtw.out.below hbB
      replace YA : Hid _ := YA.out.below hbB
      replace hbw := Below.on hbw hbB
      clear hbB
      have YB : Hid (ZR uB tB (some ⟨kB, 0, none⟩) nB (ux (s + 1))) := hzB
      have HLB : Hid (nB ≤ 2200) := hlB
      clear hzB hlB hgB
      refine hK _ _ ⟨Xk.out.c0, Xk.out.c1, Xk.out.c2, Xk.out.c3, Xk.out.c4, Xk.out.c5⟩ ?_
      clear hK
      refine wpJ_on 7 rfl fun KJ hK => ?_
      go_simp
      have HLT : Hid (gtw < uB.heap.size) := Xtw.out.lt
      refine (radd04 tA tB YA.out YB.out (by have := HLA.out; omega) (by have := HLB.out; omega)).mono ?_
      rintro e9 uF ⟨v, rfl, hv, hbF⟩
      obtain ⟨tF, kF, nF, rfl, hgF, hzF, hlF⟩ := hv
      have HGB : Hid (uB.heap.size ≤ kF) := hgF
      have hbu' := Below.on hbu hbF
      clear hbu
      have hbu := hbu'
      clear hbu'
      replace Xk : Hid _ := Xk.out.below hbF
      replace Xtw : Hid _ := Xtw.out.below hbF
      replace YA : Hid _ := YA.out.below hbF
      replace YB : Hid _ := YB.out.below hbF
      replace hbw := Below.on hbw hbF
      clear hbF
      have RR : Hid (ZR uF tF (some ⟨kF, 0, none⟩) nF (ux s + ux (s + 1))) := hzF
      have HLF : Hid (nF ≤ max nA nB + 1) := hlF
      clear hzF hlF hgF
      clear YA
      clear YB
      have HNF : Hid (nF ≤ 2300) := by have h1 := HLA.out; have h2 := HLB.out; have h3 := HLF.out; show _ ≤ _; omega
      have HNE : Hid (kF ≠ gtw) := by have h1 := HLT.out; have h2 := HGB.out; show _ ≠ _; omega
      refine hK _ _ ⟨Xk.out.c0, Xk.out.c1, Xk.out.c2, Xk.out.c3, Xk.out.c4, Xk.out.c5⟩ ?_
      clear hK
      obtain ⟨ctw0, ctw1, ftw0, ftw1⟩ := Xtw.out
      have hnetw := Xtw.out.lt
      obtain ⟨ck0, ck1, ck2, ck3, ck4, ck5, fk0, fk1, fk2, fk3, fk4, fk5⟩ := Xk.out
      have hnek : gk < uF.heap.size := World.block_lt_of_cell? uF _ ck0
      have qak : gk ≠ gtw := HDktw.out
      have qbk : gtw ≠ gk := fun h => qak h.symm
      refine wpJ_on 9 rfl fun KJ hK => ?_
      go_simp
      have HJ2 : Hid ((fun W' : World => W'.cell? ⟨gk, 0, none⟩ = some (U 9223372036854775808) ∧ W'.cell? ⟨gk, 1, none⟩ = some (.int .i64 53) ∧ W'.cell? ⟨gk, 2, none⟩ = some (.int .i64 (-1074)) ∧ W'.cell? ⟨gk, 3, none⟩ = some (.int .i64 971) ∧ W'.cell? ⟨gk, 4, none⟩ = some (U 9218868437227405312) ∧ W'.cell? ⟨gk, 5, none⟩ = some (U 9221120237041090561)) ((uF.setCell ⟨gtw, 0, none⟩ (.bool tF)).setCell ⟨gtw, 1, none⟩ (.slice (some ⟨kF, 0, none⟩) nF nF))) := ⟨by go_simp, by go_simp, by go_simp, by go_simp, by go_simp, by go_simp⟩
      have Xtw2 : Hid (Box ((uF.setCell ⟨gtw, 0, none⟩ (.bool tF)).setCell ⟨gtw, 1, none⟩ (.slice (some ⟨kF, 0, none⟩) nF nF)) gtw (.bool tF) (.slice (some ⟨kF, 0, none⟩) nF nF)) := ⟨by go_simp, by go_simp, by go_simp, by go_simp⟩
      have Xk2 : Hid (B6q ((uF.setCell ⟨gtw, 0, none⟩ (.bool tF)).setCell ⟨gtw, 1, none⟩ (.slice (some ⟨kF, 0, none⟩) nF nF)) gk (U 9223372036854775808) (.int .i64 53) (.int .i64 (-1074)) (.int .i64 971) (U 9218868437227405312) (U 9221120237041090561)) := ⟨by go_simp, by go_simp, by go_simp, by go_simp, by go_simp, by go_simp, by go_simp, by go_simp, by go_simp, by go_simp, by go_simp, by go_simp⟩
      have RR2 : Hid (ZR ((uF.setCell ⟨gtw, 0, none⟩ (.bool tF)).setCell ⟨gtw, 1, none⟩ (.slice (some ⟨kF, 0, none⟩) nF nF)) tF (some ⟨kF, 0, none⟩) nF (ux s + ux (s + 1))) := (RR.out.set _ _ _ HNE.out).set _ _ _ HNE.out
      have hbu2 : Below v6.heap.size v6 ((uF.setCell ⟨gtw, 0, none⟩ (.bool tF)).setCell ⟨gtw, 1, none⟩ (.slice (some ⟨kF, 0, none⟩) nF nF)) := bSet (bSet hbu _ _ _ HGU.out) _ _ _ HGU.out
      have hbw2 : Below w.heap.size w ((uF.setCell ⟨gtw, 0, none⟩ (.bool tF)).setCell ⟨gtw, 1, none⟩ (.slice (some ⟨kF, 0, none⟩) nF nF)) := bSet (bSet hbw _ _ _ HGtw.out) _ _ _ HGtw.out
      refine hK _ _ HJ2.out ?_
      clear hK HJ
      have HJ := HJ2
      clear HJ2
      refine wpJ_done (by kernel_rfl) ?_ _
      exact ⟨rfl, HRQ.out _ _ _ ⟨gtw, tA, kA, nA, tB, kB, nB, tF, kF, nF, by kernel_rfl, Xtw2.out, Xk2.out, RR2.out, HGtw.out, HDktw.out, HNF.out, hbu2, hbw2⟩⟩
def rp (c : Nat) (z : Int) : Nat := if z < 0 then 9223372036854775808 + rg c z.natAbs else rg c z.natAbs
theorem cast_S (r : Nat) : (r : Int) + 9223372036854775808 = ((r + 9223372036854775808 : Nat) : Int) := by omega
theorem rroundv {p : Option Addr} {m : Nat} {w : World} {z : Int} {s : Bool} (h : ZR w s p m z) (hm : m ≤ 10000) (hb : bitsN z.natAbs ≤ 2098) : Calls Try.prog 34 #[FV 9223372036854775808 53 (-1074) 971 9218868437227405312 9221120237041090561, .slice p m m, .int .i64 (-1074)] w fun en w' => en = .returned (U (rg 0 z.natAbs)) ∧ Below w.heap.size w w' := by
  obtain ⟨zs, hA, hN⟩ := h.ex
  by_cases h0 : z = 0
  · have hm0 := h.zero.2 h0
    subst hm0
    subst h0
    exact rround_z (by omega) (by omega)
  · exact rround_s hA hN hm (by omega) hb
theorem rround19 {p : Option Addr} {m : Nat} {w : World} {z : Int} (s : Bool) (h : ZR w s p m z) (hm : m ≤ 10000) (hb : bitsN z.natAbs ≤ 2098) :
    Calls Try.prog 19 #[.agg #[.bool s, .slice p m m], .int .i64 (-1074)] w fun en w' => en = .returned (U (rp 0 z)) ∧ Below w.heap.size w w' := by
  obtain ⟨r, hr⟩ : ∃ r, r = rg 0 z.natAbs := ⟨_, rfl⟩
  have hr9 : r ≤ 9218868437227405312 := by
    rw [hr]; unfold rg; split
    · omega
    · exact Nat.min_le_right ..
  have w1 : IntKind.u64.wrap ((r : Int) + 9223372036854775808) = ((r + 9223372036854775808 : Nat) : Int) := by rw [IntKind.wrap_u64]; omega
  have w2 : IntKind.u64.wrap ((9223372036854775808 : Int) + (r : Int)) = ((r + 9223372036854775808 : Nat) : Int) := by rw [IntKind.wrap_u64]; omega
  have HA : Hid (ZR w s p m z) := h
  have HX : Hid (m ≤ 10000 ∧ bitsN z.natAbs ≤ 2098 ∧ r = rg 0 z.natAbs ∧ s = decide (z < 0)) := ⟨hm, hb, hr, h.sg⟩
  have HRP : Hid ((z < 0 → rp 0 z = r + 9223372036854775808) ∧ (0 ≤ z → rp 0 z = r)) := ⟨fun h1 => by unfold rp; rw [if_pos h1, ← hr, Nat.add_comm], fun h1 => by unfold rp; rw [if_neg (by omega), ← hr]⟩
  clear h hm hb hr hr9
  go_enter Try.func19, Try.ntmps19
  go_wp2_with fail
  obtain ⟨W0, hW0⟩ : ∃ W0, W0 = (w.alloc (.cells #[.bool s, .slice p m m] 47)) := ⟨_, rfl⟩
  have Xv : Hid (Box W0 (w.heap.size) (.bool s) (.slice p m m)) := by rw [hW0]; exact ⟨by go_simp, by go_simp, by go_simp, by go_simp⟩
  have hb0 : Below w.heap.size w W0 := by rw [hW0]; exact below1 w _
  rw [← hW0]
  clear hW0
  have hbw : Below w.heap.size w w := Below.refl _ _
  obtain ⟨gv, hgv⟩ : ∃ g, g = w.heap.size := ⟨_, rfl⟩
  have HGv : Hid (w.heap.size ≤ gv) := by rw [hgv]; show _ ≤ _; omega
  rw [← hgv] at Xv
  try rw [← hgv]
  clear hgv
  replace HA : Hid _ := HA.out.below hb0
  replace hbw := Below.on hbw hb0
  clear hb0
  obtain ⟨W1, hW1⟩ : ∃ W1, W1 = W0.drew := ⟨_, rfl⟩
  have hbd : Below W0.heap.size W0 W1 := by rw [hW1]; exact bDrew1 (Below.refl _ _)
  replace Xv : Hid _ := Xv.out.below hbd
  replace HA : Hid _ := HA.out.below hbd
  replace hbw := Below.on hbw hbd
  clear hbd
  have HJ : Hid ((fun W' : World => W'.cell? ⟨gv, 1, none⟩ = some (.slice p m m)) W1) := Xv.out.c1
  refine wp_region_J (fun W' => W'.cell? ⟨gv, 1, none⟩ = some (.slice p m m)) (by kernel_rfl) ?_
  rw [← hW1]
  clear hW1
  refine wpJ_tk 1 (v := ?v1x1) rfl ?hy1x1 HJ.out ?_
  case hy1x1 => (intro W' hJ; have j0 := hJ; go_simp; first | done | with_reducible rfl)
  refine wpJ_tk 2 (v := ?v2x2) rfl ?hy2x2 HJ.out ?_
  case hy2x2 => (intro W' hJ; have j0 := hJ; go_simp; first | done | with_reducible rfl)
  refine wpJ_tk 3 (v := ?v3x3) rfl ?hy3x3 HJ.out ?_
  case hy3x3 => (intro W' hJ; have j0 := hJ; go_simp; first | done | with_reducible rfl)
  refine wpJ_on 0 rfl fun KJ hK => ?_
  go_simp
  refine (rdouble _).mono ?_
  rintro e v1 ⟨rfl, hb1⟩
  replace Xv : Hid _ := Xv.out.below hb1
  replace HA : Hid _ := HA.out.below hb1
  replace hbw := Below.on hbw hb1
  clear hb1
  refine hK _ _ Xv.out.c1 ?_
  clear hK
  refine wpJ_on 4 rfl fun KJ hK => ?_
  go_simp
  refine (rroundv HA.out HX.out.1 HX.out.2.1).mono ?_
  rintro e v2 ⟨rfl, hb2⟩
  rw [← HX.out.2.2.1]
  replace Xv : Hid _ := Xv.out.below hb2
  replace HA : Hid _ := HA.out.below hb2
  replace hbw := Below.on hbw hb2
  clear hb2
  clear HJ
  have HJ : Hid ((fun W' : World => W'.cell? ⟨gv, 1, none⟩ = some (.slice p m m)) v2) := Xv.out.c1
  refine hK _ _ HJ.out ?_
  clear hK
  refine wpJ_tk 5 (v := ?v4x5) rfl ?hy4x5 HJ.out ?_
  case hy4x5 => (intro W' hJ; have j0 := hJ; go_simp; first | done | with_reducible rfl)
  refine wpJ_done (by kernel_rfl) ?_ _
  clear HJ
  have hs := HX.out.2.2.2
  cases s
  · have HZ : Hid (rp 0 z = r) := HRP.out.2 (Int.not_lt.1 (of_decide_eq_false hs.symm))
    clear hs
    obtain ⟨cv0, cv1, fv0, fv1⟩ := Xv.out
    have hnev := Xv.out.lt
    go_wp2_with fail
    clear cv0 cv1 fv0 fv1 hnev
    go_ret
    rw [HZ.out]
    exact ⟨rfl, hbw⟩
  · have HZ : Hid (rp 0 z = r + 9223372036854775808) := HRP.out.1 (of_decide_eq_true hs.symm)
    clear hs
    obtain ⟨cv0, cv1, fv0, fv1⟩ := Xv.out
    have hnev := Xv.out.lt
    go_wp2_with fail
    clear cv0 cv1 fv0 fv1 hnev
    go_ret
    rw [HZ.out]
    exact ⟨congrArg (fun z => Ending.returned (.int .u64 z)) (cast_S r), hbw⟩
end Go.Proofs.Ytoclnjbmhepcnaa
