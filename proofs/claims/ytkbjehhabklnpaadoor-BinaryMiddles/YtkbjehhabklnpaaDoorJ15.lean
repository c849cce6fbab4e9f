import Derived.Test.YtkbjehhabklnpaaDoorJ14
import Derived.Test.YtkbjehhabklnpaaDoorJ11
import Derived.Test.YtkbjehhabklnpaaDoorJ12
import Derived.Laws.ResultCell
import Derived.Deep.RegionWith
import Derived.Deep.DeepCutAuto
import Derived.Deep.LoopGhost
namespace Go.Proofs.YtkbjehhabklnpaaDoor
open Go.RowKit Go.Shelf

structure Jm (f p m l : Int) (S I H sd : Nat) (Be : Int) : Prop where
  pm : Pm f p m l S I H
  be : ∀ w, Calls Tryd.prog 37 #[WV p m l] w fun e w' => e = .returned (.int .i64 Be) ∧ Below w.heap.size w w'
  un : ∀ (top : Int) w, -5000 ≤ top → top ≤ 5000 → Calls Tryd.prog 40 #[WV p m l, .int .i64 top] w fun e w' => e = .returned (.int .i64 (max (top - sd) l)) ∧ Below w.heap.size w w'
  sz : ∀ (man q : Nat) (u : Int) w, u = l + q → q < 2046 → (q : Int) < Be - l - sd → man < 2 * H → Calls Tryd.prog 41 #[WV p m l, U man, .int .i64 u] w fun e w' => e = .returned (U (q * H + man)) ∧ Below w.heap.size w w'
  hs : H = 2 ^ sd
  sl : 1 ≤ sd ∧ sd ≤ 52
  bq : ∀ s, s < I → ((s / H - 1 : Nat) : Int) ≤ Be - l - sd - 1
  bu : Be ≤ 1024 ∧ 0 < Be
theorem jm_32 : Jm 32 32 24 (-149) 2147483648 2139095040 8388608 23 128 :=
  ⟨pm_32, beyond_32, fun top w h1 h2 => unitg_32 top h1 h2 w, fun man q u w h1 _ h3 h2 => size_32 man q u (by omega) (by omega) h2 w, by decide, by decide, fun s hs => by omega, by decide⟩
theorem jm_64 : Jm 64 64 53 (-1074) 9223372036854775808 9218868437227405312 4503599627370496 52 1024 :=
  ⟨pm_64, beyond_64, fun top w h1 h2 => unitg_64 top h1 h2 w, fun man q u w h1 _ _ h2 => size_64 man q u (by omega) (by omega) h2 w, by decide, by decide, fun s hs => by omega, by decide⟩
set_option maxRecDepth 20000 in
set_option maxHeartbeats 8000000 in
theorem join_z {f p m l : Int} {S I H sd : Nat} {Be : Int} (J : Jm f p m l S I H sd Be) (neg : Bool) (ex : Int) (w : World) :
    Calls Tryd.prog 15 #[.int .i64 f, .bool neg, .int .u64 0, .int .i64 ex] w fun en w' => en = .returned (.tuple #[U (if neg then S else 0), .int .i64 0]) ∧ Below w.heap.size w w' := by
  have hbw : Below w.heap.size w w := Below.refl _ _
  have HJM : Hid (Jm f p m l S I H sd Be) := J
  have HS : Hid (0 < S) := by have := J.pm.fm.lt; show _ < _; omega
  obtain ⟨r, hr⟩ : ∃ r, r = (if neg then S else 0) := ⟨_, rfl⟩
  rw [← hr]
  have HR : Hid ((if neg then S + 0 else 0) = r) := hr.symm
  clear J hr
  go_enter Tryd.func15, Tryd.ntmps15
  go_wp2_with fail
  refine (HJM.out.pm.fm.of _).mono ?_
  rintro e v1 ⟨rfl, hb1⟩
  replace hbw := Below.on hbw hb1
  clear hb1
  go_wp2_with fail
  have Xg0 : Hid (B3q (v1.alloc (.cells #[.int .i64 p, .int .i64 m, .int .i64 l] 56)) v1.heap.size (.int .i64 p) (.int .i64 m) (.int .i64 l)) := B3q.new v1 _ _ _ _
  have hbn : Below v1.heap.size v1 (v1.alloc (.cells #[.int .i64 p, .int .i64 m, .int .i64 l] 56)) := below1 v1 _
  generalize v1.alloc (.cells #[.int .i64 p, .int .i64 m, .int .i64 l] 56) = Wg at *
  have HGg : Hid (w.heap.size ≤ v1.heap.size) := hbw.size
  replace hbw := Below.on hbw hbn
  clear hbn
  generalize v1.heap.size = gg at *
  have Xg := Xg0
  clear Xg0
  refine (HJM.out.pm.fm.sgn neg 0 _ HS.out).mono ?_
  rintro e v2 ⟨rfl, hb2⟩
  rw [HR.out]
  replace Xg : Hid _ := Xg.out.below hb2
  replace hbw := Below.on hbw hb2
  clear hb2
  go_wp2_with fail
  go_ret2
  exact ⟨rfl, hbw⟩
set_option maxRecDepth 20000 in
set_option maxHeartbeats 8000000 in
theorem join_s {f p m l : Int} {S I H sd : Nat} {Be : Int} (J : Jm f p m l S I H sd Be) (neg : Bool) (z man q : Nat) (hz : z < I) (hq : q = z / H - 1) (hm : man = z - q * H) (h0 : man ≠ 0) (w : World) (hT : qTab w) :
    Calls Tryd.prog 15 #[.int .i64 f, .bool neg, U man, .int .i64 (l + (q : Int))] w fun en w' => en = .returned (.tuple #[U (if neg then S + z else z), .int .i64 0]) ∧ Below w.heap.size w w' := by
  have hbw : Below w.heap.size w w := Below.refl _ _
  have HJM : Hid (Jm f p m l S I H sd Be) := J
  have TB : Hid (qTab w) := hT
  have hp := J.pm.hp
  have hlt := J.pm.fm.lt
  have hle := J.pm.fm.le
  have h9 := J.pm.h9
  have hlo := J.pm.lo
  have hsl := J.sl
  have hbq := J.bq z hz
  have hst := J.pm.st z hz
  have hbu := J.bu
  rw [← hq] at hbq hst
  have h1 := Nat.div_add_mod z H
  have h2 := Nat.mod_lt z hp
  rw [Nat.mul_comm] at h1
  have hcase : (q = 0 ∧ man = z ∧ man < 2 * H) ∨ (H ≤ man ∧ man < 2 * H ∧ z = q * H + man) := by
    by_cases h3 : z / H ≤ 1
    · have hq0 : q = 0 := by omega
      rw [hq0, Nat.zero_mul] at hm
      refine .inl ⟨hq0, by omega, ?_⟩
      have h4 : z / H * H ≤ 1 * H := Nat.mul_le_mul_right _ h3
      omega
    · right
      have h5 : q + 1 = z / H := by omega
      have h6 : q * H + H = z / H * H := by rw [← h5, Nat.add_mul, Nat.one_mul]
      omega
  have hzq : z = q * H + man := by
    rcases hcase with ⟨a1, a2, _⟩ | ⟨_, _, a3⟩
    · rw [a1, a2, Nat.zero_mul, Nat.zero_add]
    · exact a3
  have hm2 : man < 2 * H := by rcases hcase with ⟨_, _, a3⟩ | ⟨_, a2, _⟩ <;> assumption
  have hm9 : man < B64 := by rw [B64_eq]; omega
  obtain ⟨htz, ht64⟩ := qctz_is h0 hm9
  obtain ⟨t, ht⟩ : ∃ t, t = Lib.ctz 64 man := ⟨_, rfl⟩
  rw [← ht] at htz ht64
  obtain ⟨mo, hmo⟩ : ∃ mo, mo = man / 2 ^ t := ⟨_, rfl⟩
  have hmt : man = mo * 2 ^ t := by
    have := Nat.div_add_mod man (2 ^ t)
    rw [htz.1, Nat.add_zero, ← hmo, Nat.mul_comm] at this
    exact this.symm
  have hmo0 : mo ≠ 0 := by intro h; rw [h, Nat.zero_mul] at hmt; exact h0 hmt
  obtain ⟨L, hL⟩ : ∃ L, L = bl_bitsN mo := ⟨_, rfl⟩
  have hLB : bl_bitsN man = L + t := by rw [hL, ← bits_shift hmo0, ← hmt]
  have hB1 := bl_bitsN_lt man
  have hB2 := bl_bitsN_le man h0
  rw [hLB] at hB1 hB2
  have hLs : L + t ≤ sd + 1 := by
    have : 2 ^ (L + t - 1) < 2 ^ (sd + 1) := by rw [Nat.pow_succ, ← J.hs]; omega
    have := (Nat.pow_lt_pow_iff_right (by omega : 1 < 2)).1 this
    omega
  have hLp : 1 ≤ L := by rw [hL]; unfold bl_bitsN; rw [if_neg hmo0]; omega
  have hfull : q ≠ 0 → L + t = sd + 1 := by
    intro hq0
    rcases hcase with ⟨a1, _⟩ | ⟨a1, _⟩
    · exact absurd a1 hq0
    · have : 2 ^ sd < 2 ^ (L + t) := by rw [← J.hs]; omega
      have := (Nat.pow_lt_pow_iff_right (by omega : 1 < 2)).1 this
      omega
  obtain ⟨ex, hex⟩ : ∃ ex : Int, ex = l + (q : Int) := ⟨_, rfl⟩
  obtain ⟨ex2, hex2⟩ : ∃ e : Int, e = ex + t := ⟨_, rfl⟩
  obtain ⟨s1, hs1⟩ : ∃ e : Int, e = ex2 + L := ⟨_, rfl⟩
  obtain ⟨top, htop⟩ : ∃ e : Int, e = s1 - 1 := ⟨_, rfl⟩
  have hun : max (top - sd) l = ex := by
    by_cases hq0 : q = 0
    · omega
    · have := hfull hq0; omega
  obtain ⟨lb, hlb⟩ : ∃ e : Int, e = l - 63 := ⟨_, rfl⟩
  obtain ⟨r, hr⟩ : ∃ r, r = (if neg then S + z else z) := ⟨_, rfl⟩
  rw [← hr, ← hex]
  have b1 : ((man : Int) == 0) = false := by simp; omega
  have v1 : IntKind.i64.wrap (l - 63) = lb := by rw [hlb]; simp [IntKind.wrap, IntKind.signed, IntKind.bits]; omega
  have v2 : wrap64 (l - 63) = lb := by rw [hlb]; simp only [wrap64]; omega
  have a1 : (man : Int) / 2 ^ t = (mo : Int) := by rw [hmo]; simp
  have a2 : IntKind.i64.wrap (ex + (t : Int)) = ex2 := by rw [hex2]; simp [IntKind.wrap, IntKind.signed, IntKind.bits]; omega
  have a3 : IntKind.i64.wrap (ex2 + (L : Int)) = s1 := by rw [hs1]; simp [IntKind.wrap, IntKind.signed, IntKind.bits]; omega
  have a4 : IntKind.i64.wrap (s1 - 1) = top := by rw [htop]; simp [IntKind.wrap, IntKind.signed, IntKind.bits]; omega
  have a5 : IntKind.i64.wrap (ex2 - ex) = (t : Int) := by simp [IntKind.wrap, IntKind.signed, IntKind.bits]; omega
  have a6 : IntKind.u64.wrap ((mo : Int) * 2 ^ t) = (man : Int) := by
    have hyc : ((mo : Int) * 2 ^ t) = (man : Int) := by rw [hmt]; simp
    rw [hyc, IntKind.wrap_u64]; rw [B64_eq] at hm9; omega
  have w2 : wrap64 (ex + (t : Int)) = ex2 := by rw [hex2]; simp only [wrap64]; omega
  have w3 : wrap64 (ex2 + (L : Int)) = s1 := by rw [hs1]; simp only [wrap64]; omega
  have w4 : wrap64 (s1 - 1) = top := by rw [htop]; simp only [wrap64]; omega
  have w5 : wrap64 (ex2 - ex) = (t : Int) := by simp only [wrap64]; omega
  have c1 : decide (ex < lb) = false := decide_eq_false (by omega)
  have c2 : decide (Be ≤ ex) = false := decide_eq_false (by omega)
  have c3 : decide (ex2 < ex) = false := decide_eq_false (by omega)
  have c4 : decide (Be ≤ top) = false := decide_eq_false (by omega)
  have HTP : Hid (-5000 ≤ top ∧ top ≤ 5000 ∧ max (top - sd) l = ex) := ⟨by omega, by omega, hun⟩
  have HSZ : Hid (ex = l + q ∧ q < 2046 ∧ (q : Int) < Be - l - sd ∧ man < 2 * H ∧ q * H + man = z ∧ z < S) := ⟨hex, by omega, by omega, hm2, hzq.symm, by omega⟩
  have HR : Hid ((if neg then S + z else z) = r) := hr.symm
  have HMO : Hid (mo < B64 ∧ bl_bitsN mo = L ∧ man ≠ 0 ∧ man < B64 ∧ qTzIs man t) := ⟨by rw [hmo]; exact Nat.lt_of_le_of_lt (Nat.div_le_self _ _) hm9, hL.symm, h0, hm9, htz⟩
  clear J hT hp hlt hle h9 hlo hsl hbq hst hbu h1 h2 hcase hzq hm2 hm9 htz ht hmo hmt hmo0 hL hLB hB1 hB2 hLs hLp hfull hex hex2 hs1 htop hun hlb hr hz hq hm h0
  go_enter Tryd.func15, Tryd.ntmps15
  go_wp2_with fail
  refine (HJM.out.pm.fm.of _).mono ?_
  rintro e v1 ⟨rfl, hb1⟩
  replace hbw := Below.on hbw hb1
  clear hb1
  go_wp2_with fail
  have Xg0 : Hid (B3q (v1.alloc (.cells #[.int .i64 p, .int .i64 m, .int .i64 l] 56)) v1.heap.size (.int .i64 p) (.int .i64 m) (.int .i64 l)) := B3q.new v1 _ _ _ _
  have hbn : Below v1.heap.size v1 (v1.alloc (.cells #[.int .i64 p, .int .i64 m, .int .i64 l] 56)) := below1 v1 _
  generalize v1.alloc (.cells #[.int .i64 p, .int .i64 m, .int .i64 l] 56) = Wg at *
  have HGg : Hid (w.heap.size ≤ v1.heap.size) := hbw.size
  replace hbw := Below.on hbw hbn
  clear hbn
  generalize v1.heap.size = gg at *
  have Xg := Xg0
  clear Xg0
  refine (HJM.out.be _).mono ?_
  rintro e v2 ⟨rfl, hb2⟩
  replace Xg : Hid _ := Xg.out.below hb2
  replace hbw := Below.on hbw hb2
  clear hb2
  obtain ⟨cg0, cg1, cg2, fg0, fg1, fg2⟩ := Xg.out
  have hneg : gg < v2.heap.size := World.block_lt_of_cell? v2 _ cg0
  go_wp2_with fail
  clear cg0 cg1 cg2 fg0 fg1 fg2 hneg
  refine (qtz_any HMO.out.2.2.1 HMO.out.2.2.2.1 HMO.out.2.2.2.2 (TB.out.below hbw)).mono ?_
  rintro e2 v3 ⟨rfl, hw⟩
  obtain rfl := hw.symm
  clear hw
  obtain ⟨cg0, cg1, cg2, fg0, fg1, fg2⟩ := Xg.out
  have hneg : gg < v2.heap.size := World.block_lt_of_cell? v2 _ cg0
  go_wp2_with fail
  clear cg0 cg1 cg2 fg0 fg1 fg2 hneg
  refine (bl_len_any mo _ HMO.out.1).mono ?_
  rintro e2 v3 ⟨rfl, hw⟩
  obtain rfl := hw.symm
  clear hw
  rw [HMO.out.2.1]
  obtain ⟨cg0, cg1, cg2, fg0, fg1, fg2⟩ := Xg.out
  have hneg : gg < v2.heap.size := World.block_lt_of_cell? v2 _ cg0
  go_wp2_with fail
  clear cg0 cg1 cg2 fg0 fg1 fg2 hneg
  refine (HJM.out.un top _ HTP.out.1 HTP.out.2.1).mono ?_
  rintro e v4 ⟨rfl, hb4⟩
  rw [HTP.out.2.2]
  replace Xg : Hid _ := Xg.out.below hb4
  replace hbw := Below.on hbw hb4
  clear hb4
  obtain ⟨cg0, cg1, cg2, fg0, fg1, fg2⟩ := Xg.out
  have hneg : gg < v4.heap.size := World.block_lt_of_cell? v4 _ cg0
  go_wp2_with fail
  clear cg0 cg1 cg2 fg0 fg1 fg2 hneg
  refine (HJM.out.be _).mono ?_
  rintro e v5 ⟨rfl, hb5⟩
  replace Xg : Hid _ := Xg.out.below hb5
  replace hbw := Below.on hbw hb5
  clear hb5
  obtain ⟨cg0, cg1, cg2, fg0, fg1, fg2⟩ := Xg.out
  have hneg : gg < v5.heap.size := World.block_lt_of_cell? v5 _ cg0
  go_wp2_with fail
  clear cg0 cg1 cg2 fg0 fg1 fg2 hneg
  obtain ⟨Wr, hWr⟩ : ∃ W1, W1 = v5.drew := ⟨_, rfl⟩
  have hbd : Below v5.heap.size v5 Wr := by rw [hWr]; exact bDrew1 (Below.refl _ _)
  replace Xg : Hid _ := Xg.out.below hbd
  replace hbw := Below.on hbw hbd
  clear hbd
  have HJ : Hid ((fun W' : World => W'.cell? ⟨gg, 0, none⟩ = some (.int .i64 p) ∧ W'.cell? ⟨gg, 1, none⟩ = some (.int .i64 m) ∧ W'.cell? ⟨gg, 2, none⟩ = some (.int .i64 l)) Wr) := ⟨Xg.out.c0, Xg.out.c1, Xg.out.c2⟩
  refine wp_region_J (fun W' => W'.cell? ⟨gg, 0, none⟩ = some (.int .i64 p) ∧ W'.cell? ⟨gg, 1, none⟩ = some (.int .i64 m) ∧ W'.cell? ⟨gg, 2, none⟩ = some (.int .i64 l)) (by kernel_rfl) ?_
  rw [← hWr]
  clear hWr
  refine wpJ_take (i := 0) (v := ?v1x0) rfl (by kernel_rfl) (by kernel_rfl) (by kernel_rfl) (fun _ _ _ h => h) (by kernel_rfl) ?hy1x0 HJ.out ?rest1x0
  case hy1x0 => (intro W' hJ; obtain ⟨j0, j1, j2⟩ := hJ; go_simp; first | done | with_reducible rfl)
  refine wpJ_take (i := 1) (v := ?v2x1) rfl (by kernel_rfl) (by kernel_rfl) (by kernel_rfl) (fun _ _ _ h => h) (by kernel_rfl) ?hy2x1 HJ.out ?rest2x1
  case hy2x1 => (intro W' hJ; obtain ⟨j0, j1, j2⟩ := hJ; go_simp; first | done | with_reducible rfl)
  refine wpJ_take (i := 2) (v := ?v3x2) rfl (by kernel_rfl) (by kernel_rfl) (by kernel_rfl) (fun _ _ _ h => h) (by kernel_rfl) ?hy3x2 HJ.out ?rest3x2
  case hy3x2 => (intro W' hJ; obtain ⟨j0, j1, j2⟩ := hJ; go_simp; first | done | with_reducible rfl)
  refine wpJ_take (i := 3) (v := ?v4x3) rfl (by kernel_rfl) (by kernel_rfl) (by kernel_rfl) (fun _ _ _ h => h) (by kernel_rfl) ?hy4x3 HJ.out ?rest4x3
  case hy4x3 => (intro W' hJ; obtain ⟨j0, j1, j2⟩ := hJ; go_simp; first | done | with_reducible rfl)
  refine wpJ_take (i := 4) (v := ?v5x4) rfl (by kernel_rfl) (by kernel_rfl) (by kernel_rfl) (fun _ _ _ h => h) (by kernel_rfl) ?hy5x4 HJ.out ?rest5x4
  case hy5x4 => (intro W' hJ; obtain ⟨j0, j1, j2⟩ := hJ; go_simp; first | done | with_reducible rfl)
  refine wpJ_take (i := 5) (v := ?v6x5) rfl (by kernel_rfl) (by kernel_rfl) (by kernel_rfl) (fun _ _ _ h => h) (by kernel_rfl) ?hy6x5 HJ.out ?rest6x5
  case hy6x5 => (intro W' hJ; obtain ⟨j0, j1, j2⟩ := hJ; go_simp; first | done | with_reducible rfl)
  refine wpJ_take (i := 6) (v := ?v7x6) rfl (by kernel_rfl) (by kernel_rfl) (by kernel_rfl) (fun _ _ _ h => h) (by kernel_rfl) ?hy7x6 HJ.out ?rest7x6
  case hy7x6 => (intro W' hJ; obtain ⟨j0, j1, j2⟩ := hJ; go_simp; first | done | with_reducible rfl)
  refine wpJ_take (i := 7) (v := ?v8x7) rfl (by kernel_rfl) (by kernel_rfl) (by kernel_rfl) (fun _ _ _ h => h) (by kernel_rfl) ?hy8x7 HJ.out ?rest8x7
  case hy8x7 => (intro W' hJ; obtain ⟨j0, j1, j2⟩ := hJ; go_simp; first | done | with_reducible rfl)
  refine wpJ_take (i := 8) (v := ?v9x8) rfl (by kernel_rfl) (by kernel_rfl) (by kernel_rfl) (fun _ _ _ h => h) (by kernel_rfl) ?hy9x8 HJ.out ?rest9x8
  case hy9x8 => (intro W' hJ; obtain ⟨j0, j1, j2⟩ := hJ; go_simp; first | done | with_reducible rfl)
  refine wpJ_one (i := 9) (by kernel_rfl) rfl (by kernel_rfl) (fun KJ hK => ?_)
  go_simp
  refine (HJM.out.sz man q ex _ HSZ.out.1 HSZ.out.2.1 HSZ.out.2.2.1 HSZ.out.2.2.2.1).mono ?_
  rintro e v6 ⟨rfl, hb6⟩
  rw [HSZ.out.2.2.2.2.1]
  replace Xg : Hid _ := Xg.out.below hb6
  replace hbw := Below.on hbw hb6
  clear hb6
  refine hK _ _ ⟨Xg.out.c0, Xg.out.c1, Xg.out.c2⟩ ?_
  clear hK
  refine wpJ_one (i := 10) (by kernel_rfl) rfl (by kernel_rfl) (fun KJ hK => ?_)
  go_simp
  refine (HJM.out.pm.fm.sgn neg z _ HSZ.out.2.2.2.2.2).mono ?_
  rintro e v7 ⟨rfl, hb7⟩
  rw [HR.out]
  replace Xg : Hid _ := Xg.out.below hb7
  replace hbw := Below.on hbw hb7
  clear hb7
  clear HJ
  have HJ : Hid ((fun W' : World => W'.cell? ⟨gg, 0, none⟩ = some (.int .i64 p) ∧ W'.cell? ⟨gg, 1, none⟩ = some (.int .i64 m) ∧ W'.cell? ⟨gg, 2, none⟩ = some (.int .i64 l)) v7) := ⟨Xg.out.c0, Xg.out.c1, Xg.out.c2⟩
  refine hK _ _ HJ.out ?_
  clear hK
  refine wpJ_take (i := 11) (v := ?v10x11) rfl (by kernel_rfl) (by kernel_rfl) (by kernel_rfl) (fun _ _ _ h => h) (by kernel_rfl) ?hy10x11 HJ.out ?rest10x11
  case hy10x11 => (intro W' hJ; obtain ⟨j0, j1, j2⟩ := hJ; go_simp; first | done | with_reducible rfl)
  refine wpJ_take (i := 12) (v := ?v11x12) rfl (by kernel_rfl) (by kernel_rfl) (by kernel_rfl) (fun _ _ _ h => h) (by kernel_rfl) ?hy11x12 HJ.out ?rest11x12
  case hy11x12 => (intro W' hJ; obtain ⟨j0, j1, j2⟩ := hJ; go_simp; first | done | with_reducible rfl)
  refine wpJ_done (by kernel_rfl) ?_ _
  clear HJ
  go_wp2_with fail
  go_ret2
  exact ⟨rfl, hbw⟩
end Go.Proofs.YtkbjehhabklnpaaDoor

namespace Go.Proofs.YtkbjehhabklnpaaDoor
open Go.RowKit Go.Shelf

structure B5 (W : World) (g : Nat) (v0 v1 v2 v3 v4 : Value) : Prop where
  c0 : W.cell? ⟨g, 0, none⟩ = some v0
  c1 : W.cell? ⟨g, 1, none⟩ = some v1
  c2 : W.cell? ⟨g, 2, none⟩ = some v2
  c3 : W.cell? ⟨g, 3, none⟩ = some v3
  c4 : W.cell? ⟨g, 4, none⟩ = some v4
  f0 : W.frozen? ⟨g, 0, none⟩ = false
  f1 : W.frozen? ⟨g, 1, none⟩ = false
  f2 : W.frozen? ⟨g, 2, none⟩ = false
  f3 : W.frozen? ⟨g, 3, none⟩ = false
  f4 : W.frozen? ⟨g, 4, none⟩ = false
theorem B5.below {W W' : World} {g : Nat} {v0 v1 v2 v3 v4 : Value} (h : B5 W g v0 v1 v2 v3 v4) (hb : Below W.heap.size W W') : B5 W' g v0 v1 v2 v3 v4 := by
  have hl : g < W.heap.size := World.block_lt_of_cell? W _ h.c0
  exact ⟨(hb.cell (p := ⟨g, 0, none⟩) hl).trans h.c0, (hb.cell (p := ⟨g, 1, none⟩) hl).trans h.c1, (hb.cell (p := ⟨g, 2, none⟩) hl).trans h.c2, (hb.cell (p := ⟨g, 3, none⟩) hl).trans h.c3, (hb.cell (p := ⟨g, 4, none⟩) hl).trans h.c4,
    (hb.frozen (p := ⟨g, 0, none⟩) hl).trans h.f0, (hb.frozen (p := ⟨g, 1, none⟩) hl).trans h.f1, (hb.frozen (p := ⟨g, 2, none⟩) hl).trans h.f2, (hb.frozen (p := ⟨g, 3, none⟩) hl).trans h.f3, (hb.frozen (p := ⟨g, 4, none⟩) hl).trans h.f4⟩
theorem B5.new (w : World) (ty : TypeId) (v0 v1 v2 v3 v4 : Value) : B5 (w.alloc (.cells #[v0, v1, v2, v3, v4] ty)) w.heap.size v0 v1 v2 v3 v4 :=
  ⟨by go_simp, by go_simp, by go_simp, by go_simp, by go_simp, by go_simp, by go_simp, by go_simp, by go_simp, by go_simp⟩
theorem DocIs.inj {v : Nat} {us us' : List Nat} {f f' : Int} (h : DocIs v us f) (k : DocIs v us' f') : us = us' ∧ f = f' := by
  rcases h with ⟨h1, h2, rfl⟩ | ⟨h1, rfl, rfl⟩ <;> rcases k with ⟨k1, k2, rfl⟩ | ⟨k1, rfl, rfl⟩
  · exact ⟨h2.inj B64_one k2, rfl⟩
  · omega
  · omega
  · exact ⟨rfl, rfl⟩
theorem DocIs.er {v : Nat} {us : List Nat} {f : Int} (h : DocIs v us f) : f = 0 ∨ f = 5 := by
  rcases h with ⟨_, _, rfl⟩ | ⟨_, _, rfl⟩ <;> simp
theorem lit_at32 (w : World) (x y : Nat) (hx : x < B32) (hy : y < B32) : At32 (w.alloc (.cells #[V x, V y] 101)) (some ⟨w.heap.size, 0, none⟩) 2 2 [x, y] := by
  refine ⟨rfl, Nat.le_refl _, by decide, ?_, .inr ⟨w.heap.size, 0, rfl, ?_⟩⟩
  · intro z hz
    simp at hz
    rcases hz with rfl | rfl <;> assumption
  · intro j hj
    match j, hj with
    | 0, _ => exact World.cell?_alloc_new ..
    | 1, _ => exact World.cell?_alloc_new ..
end Go.Proofs.YtkbjehhabklnpaaDoor

namespace Go.Proofs.YtkbjehhabklnpaaDoor
open Go.RowKit Go.Shelf

set_option maxRecDepth 20000 in
set_option maxHeartbeats 1000000 in
theorem docwordD (x : Nat) (hx : x < B64) (w : World) :
    Calls Tryd.prog 18 #[U x] w fun e w' => ∃ p' m' N' us, e = .returned (.slice p' m' N') ∧ At w' p' m' N' us ∧ Nf B64 us x ∧ Below w.heap.size w w' := by
  obtain ⟨lo, hlo⟩ : ∃ lo, lo = x % B32 := ⟨_, rfl⟩
  obtain ⟨hi, hhi⟩ : ∃ hi, hi = x / B32 := ⟨_, rfl⟩
  have hlb : lo < B32 := by rw [hlo]; exact Nat.mod_lt _ B32_pos
  have hhb : hi < B32 := by rw [hhi]; refine Nat.div_lt_of_lt_mul ?_; rw [B32_two]; exact hx
  have e1 : bits .and .u64 (x : Int) 4294967295 = (lo : Int) := by rw [hlo, B32_eq]; exact and32 x (by rw [← B64_eq]; exact hx)
  have e2 : (x : Int) / 4294967296 = (hi : Int) := by rw [hhi, B32_eq]; exact div32 x
  have e3 : IntKind.u32.wrap (lo : Int) = (lo : Int) := wrap32 lo hlb
  have e4 : IntKind.u32.wrap (hi : Int) = (hi : Int) := wrap32 hi hhb
  have HV : Hid (valB B32 [lo, hi] = x) := by show _ = _; simp only [valB, hlo, hhi]; have := Nat.mod_add_div x B32; omega
  have HLB : Hid (lo < B32 ∧ hi < B32) := ⟨hlb, hhb⟩
  clear hlo hhi hlb hhb
  go_enter Tryd.func18, Tryd.ntmps18
  go_wp2_with fail
  have hW : Calls Tryd.prog 48 #[U x] w fun e w' => ∃ g zs, e = .returned (.slice (some ⟨g, 0, none⟩) zs.length zs.length) ∧ zs.length ≤ 2 ∧ At32 w' (some ⟨g, 0, none⟩) zs.length zs.length zs ∧ valB B32 zs = x ∧ Below w.heap.size w w' := by
    go_enter Tryd.func48, Tryd.ntmps48
    go_wp2_with fail
    refine (rnorm_any (lit_at32 w lo hi HLB.out.1 HLB.out.2) (by omega)).mono ?_
    rintro e w1 ⟨g, rfl, hg, hb, hbl⟩
    have hl := trimL_length_le [lo, hi]
    have hA : At32 w1 (some ⟨g, 0, none⟩) (trimL [lo, hi]).length (trimL [lo, hi]).length (trimL [lo, hi]) := hb.at_ (Dig.trimL (lit_at32 w lo hi HLB.out.1 HLB.out.2).dig) rfl (by unfold maxLen; simp at hl; omega)
    have hv : valB B32 (trimL [lo, hi]) = x := by rw [valB_trimL]; exact HV.out
    have HH : Hid (At32 w1 (some ⟨g, 0, none⟩) (trimL [lo, hi]).length (trimL [lo, hi]).length (trimL [lo, hi]) ∧ valB B32 (trimL [lo, hi]) = x ∧ (trimL [lo, hi]).length ≤ 2) := ⟨hA, hv, by simpa using hl⟩
    have hbw := Below.on (below1 w _) hbl
    generalize trimL [lo, hi] = zs at *
    clear hA hv hl hb hbl hg
    go_wp2_with fail
    go_ret
    exact ⟨g, zs, rfl, HH.out.2.2, HH.out.1, HH.out.2.1, hbw⟩
  refine hW.mono ?_
  rintro e w1 ⟨g, zs, rfl, hl, hA, hv, hb1⟩
  have A1 : Hid (At32 w1 (some ⟨g, 0, none⟩) zs.length zs.length zs) := hA
  have V1 : Hid (valB B32 zs = x) := hv
  obtain ⟨l1, hl1⟩ : ∃ l1, l1 = zs.length := ⟨_, rfl⟩
  rw [← hl1] at A1 hl ⊢
  clear hA hv hW hl1 e1 e2 e3 e4
  go_wp2_with fail
  refine (rto_any A1.out (by omega)).mono ?_
  rintro e w2 ⟨g2, k2, N2, us, rfl, hg2, hA2, hN2, hb2⟩
  have A2 : Hid (At w2 (some ⟨g2, 0, none⟩) k2 N2 us) := hA2
  have NN : Hid (Nf B64 us x) := by rw [V1.out] at hN2; exact hN2
  have hbw := Below.on hb1 hb2
  clear hA2 hN2 hb1 hb2
  go_wp2_with fail
  go_ret
  exact ⟨_, k2, N2, us, rfl, A2.out, NN.out, hbw⟩
end Go.Proofs.YtkbjehhabklnpaaDoor

namespace Go.Proofs.YtkbjehhabklnpaaDoor
open Go.RowKit Go.Shelf

end Go.Proofs.YtkbjehhabklnpaaDoor

namespace Go.Proofs.YtkbjehhabklnpaaDoor
open Go.RowKit Go.Shelf

structure Op7 where
  k : Int
  f : Int
  b : Nat
  neg : Bool
  n : Int
structure Scr7 (w : World) (P : Option Addr) (N C : Nat) (its : List Op7) : Prop where
  len : its.length = N
  cap : N ≤ C
  big : C ≤ maxLen
  ats : ∀ t ∈ its, t.b < B64 ∧ -9223372036854775808 ≤ t.n ∧ t.n ≤ 9223372036854775807
  cells : N = 0 ∨ ∃ g off, P = some ⟨g, off, none⟩ ∧ ∀ i (h : i < its.length), w.cell? ⟨g, off + i * 5, none⟩ = some (.int .i64 its[i].k) ∧ w.cell? ⟨g, off + i * 5 + 1, none⟩ = some (.int .i64 its[i].f) ∧
    w.cell? ⟨g, off + i * 5 + 2, none⟩ = some (U its[i].b) ∧ w.cell? ⟨g, off + i * 5 + 3, none⟩ = some (.bool its[i].neg) ∧ w.cell? ⟨g, off + i * 5 + 4, none⟩ = some (.int .i64 its[i].n)
theorem Scr7.below {w w' : World} {P : Option Addr} {N C : Nat} {its : List Op7} (h : Scr7 w P N C its) (hb : Below w.heap.size w w') : Scr7 w' P N C its := by
  refine ⟨h.len, h.cap, h.big, h.ats, ?_⟩
  rcases h.cells with h0 | ⟨g, off, hP, hc⟩
  · exact .inl h0
  · refine .inr ⟨g, off, hP, fun i hi => ?_⟩
    obtain ⟨h0, h1, h2, h3, h4⟩ := hc i hi
    have hl : g < w.heap.size := World.block_lt_of_cell? w _ h0
    exact ⟨(hb.cell (p := ⟨g, off + i * 5, none⟩) hl).trans h0, (hb.cell (p := ⟨g, off + i * 5 + 1, none⟩) hl).trans h1, (hb.cell (p := ⟨g, off + i * 5 + 2, none⟩) hl).trans h2,
      (hb.cell (p := ⟨g, off + i * 5 + 3, none⟩) hl).trans h3, (hb.cell (p := ⟨g, off + i * 5 + 4, none⟩) hl).trans h4⟩
structure Kds (w : World) (g : Nat) (ks : List Int) : Prop where
  c : ∀ j (h : j < ks.length), w.cell? ⟨g, j, none⟩ = some (.int .i64 ks[j])
  lt : g < w.heap.size
theorem Kds.below {w w' : World} {g : Nat} {ks : List Int} (h : Kds w g ks) (hb : Below w.heap.size w w') : Kds w' g ks :=
  ⟨fun j hj => (hb.cell (p := ⟨g, j, none⟩) h.lt).trans (h.c j hj), Nat.lt_of_lt_of_le h.lt hb.size⟩

end Go.Proofs.YtkbjehhabklnpaaDoor

namespace Go.Proofs.YtkbjehhabklnpaaDoor
open Go.RowKit Go.Shelf

end Go.Proofs.YtkbjehhabklnpaaDoor

namespace Go.Proofs.YtkbjehhabklnpaaDoor
open Go.RowKit Go.Shelf

theorem xor_nat (a k : Nat) (ha : a < 2 ^ (k + 1)) : a ^^^ 2 ^ k = xsS (2 ^ k) a := by
  unfold xsS
  have hp := Nat.two_pow_pos k
  have h1 : 2 ^ (k + 1) = 2 * 2 ^ k := by rw [Nat.pow_succ]; omega
  by_cases h : 2 ^ k ≤ a
  · rw [if_pos h]
    obtain ⟨c, rfl⟩ : ∃ c, a = 2 ^ k + c := ⟨a - 2 ^ k, by omega⟩
    have hc : c < 2 ^ k := by omega
    have h2 := Nat.two_pow_add_eq_or_of_lt (i := k) (b := c) hc 1
    rw [Nat.mul_one] at h2
    rw [show 2 ^ k + c - 2 ^ k = c from by omega, h2]
    refine Nat.eq_of_testBit_eq fun i => ?_
    rw [Nat.testBit_xor, Nat.testBit_or, Nat.testBit_two_pow]
    by_cases hi : k = i
    · subst hi
      rw [Nat.testBit_lt_two_pow hc]
      simp
    · simp [hi]
  · rw [if_neg h]
    have hc : a < 2 ^ k := by omega
    have h2 := Nat.two_pow_add_eq_or_of_lt (i := k) (b := a) hc 1
    rw [Nat.mul_one] at h2
    rw [show a + 2 ^ k = 2 ^ k + a from by omega, h2]
    refine Nat.eq_of_testBit_eq fun i => ?_
    rw [Nat.testBit_xor, Nat.testBit_or, Nat.testBit_two_pow]
    by_cases hi : k = i
    · subst hi
      rw [Nat.testBit_lt_two_pow hc]
      simp
    · simp [hi]
theorem sign_xor (b S k : Nat) (hS : S = 2 ^ k) (hk : k < 64) (hb : b < 2 * S) : bits BinOp.xor IntKind.u64 (b : Int) (S : Int) = ((xsS S b : Nat) : Int) := by
  have h1 : S ≤ 9223372036854775808 := by rw [hS]; exact Nat.le_trans (Nat.pow_le_pow_right (by decide) (by omega : k ≤ 63)) (by decide)
  have hb2 : b < 2 ^ (k + 1) := by rw [Nat.pow_succ, ← hS]; omega
  show IntKind.u64.wrap ((BitVec.ofInt 64 (b : Int) ^^^ BitVec.ofInt 64 (S : Int)).toNat : Int) = _
  rw [BitVec.ofInt_natCast, BitVec.ofInt_natCast, BitVec.toNat_xor, BitVec.toNat_ofNat, BitVec.toNat_ofNat, Nat.mod_eq_of_lt (by omega), Nat.mod_eq_of_lt (by omega), hS, xor_nat b k hb2, ← hS, IntKind.wrap_u64]
  unfold xsS
  split <;> omega
set_option maxRecDepth 20000 in
set_option maxHeartbeats 8000000 in
theorem lsign_32 (w : World) :
    Calls Tryd.prog 16 #[.int .i64 32] w fun en w' => en = .returned (.int .u64 2147483648) ∧ Below w.heap.size w w' := by
  go_enter Tryd.func16, Tryd.ntmps16
  go_wp2_with fail
  go_ret
  exact ⟨rfl, Below.refl _ _⟩
set_option maxRecDepth 20000 in
set_option maxHeartbeats 8000000 in
theorem lfin_32tt (b z : Nat) (hz : z = b % 2147483648) (w : World) (h1 : b < 4294967296) (h2 : z < 2139095040) :
    Calls Tryd.prog 9 #[.int .i64 32, U b] w fun en w' => en = .returned (.bool true) ∧ Below w.heap.size w w' := by
  have f1 : (b : Int).tmod 2147483648 = (z : Int) := by rw [Int.tmod_eq_emod_of_nonneg (by omega), hz]; omega
  have f2 : (b : Int) % 2147483648 = (z : Int) := by rw [hz]; omega
  have f3 : (b : Int) < 4294967296 := by omega
  have f4 : (z : Int) < 2139095040 := by omega
  clear hz h1 h2
  go_enter Tryd.func9, Tryd.ntmps9
  go_wp2_with fail
  go_ret
  exact ⟨rfl, Below.refl _ _⟩
set_option maxRecDepth 20000 in
set_option maxHeartbeats 8000000 in
theorem lfin_32tf (b z : Nat) (hz : z = b % 2147483648) (w : World) (h1 : b < 4294967296) (h2 : ¬ z < 2139095040) :
    Calls Tryd.prog 9 #[.int .i64 32, U b] w fun en w' => en = .returned (.bool false) ∧ Below w.heap.size w w' := by
  have f1 : (b : Int).tmod 2147483648 = (z : Int) := by rw [Int.tmod_eq_emod_of_nonneg (by omega), hz]; omega
  have f2 : (b : Int) % 2147483648 = (z : Int) := by rw [hz]; omega
  have f3 : (b : Int) < 4294967296 := by omega
  have f4 : ¬ (z : Int) < 2139095040 := by omega
  clear hz h1 h2
  go_enter Tryd.func9, Tryd.ntmps9
  go_wp2_with fail
  go_ret
  exact ⟨rfl, Below.refl _ _⟩
set_option maxRecDepth 20000 in
set_option maxHeartbeats 8000000 in
theorem lfin_32ff (b z : Nat) (hz : z = b % 2147483648) (w : World) (h1 : ¬ b < 4294967296) :
    Calls Tryd.prog 9 #[.int .i64 32, U b] w fun en w' => en = .returned (.bool false) ∧ Below w.heap.size w w' := by
  have f1 : (b : Int).tmod 2147483648 = (z : Int) := by rw [Int.tmod_eq_emod_of_nonneg (by omega), hz]; omega
  have f2 : (b : Int) % 2147483648 = (z : Int) := by rw [hz]; omega
  have f3 : ¬ (b : Int) < 4294967296 := by omega
  clear hz h1 
  go_enter Tryd.func9, Tryd.ntmps9
  go_wp2_with fail
  go_ret
  exact ⟨rfl, Below.refl _ _⟩
set_option maxRecDepth 20000 in
set_option maxHeartbeats 8000000 in
theorem lsign_64 (w : World) :
    Calls Tryd.prog 16 #[.int .i64 64] w fun en w' => en = .returned (.int .u64 9223372036854775808) ∧ Below w.heap.size w w' := by
  go_enter Tryd.func16, Tryd.ntmps16
  go_wp2_with fail
  go_ret
  exact ⟨rfl, Below.refl _ _⟩
set_option maxRecDepth 20000 in
set_option maxHeartbeats 8000000 in
theorem lfin_64tt (b z : Nat) (hz : z = b % 9223372036854775808) (w : World) (h1 : b < 18446744073709551616) (h2 : z < 9218868437227405312) :
    Calls Tryd.prog 9 #[.int .i64 64, U b] w fun en w' => en = .returned (.bool true) ∧ Below w.heap.size w w' := by
  have f1 : (b : Int).tmod 9223372036854775808 = (z : Int) := by rw [Int.tmod_eq_emod_of_nonneg (by omega), hz]; omega
  have f2 : (b : Int) % 9223372036854775808 = (z : Int) := by rw [hz]; omega
  have f3 : (b : Int) < 18446744073709551616 := by omega
  have f4 : (z : Int) < 9218868437227405312 := by omega
  clear hz h1 h2
  go_enter Tryd.func9, Tryd.ntmps9
  go_wp2_with fail
  go_ret
  exact ⟨rfl, Below.refl _ _⟩
set_option maxRecDepth 20000 in
set_option maxHeartbeats 8000000 in
theorem lfin_64tf (b z : Nat) (hz : z = b % 9223372036854775808) (w : World) (h1 : b < 18446744073709551616) (h2 : ¬ z < 9218868437227405312) :
    Calls Tryd.prog 9 #[.int .i64 64, U b] w fun en w' => en = .returned (.bool false) ∧ Below w.heap.size w w' := by
  have f1 : (b : Int).tmod 9223372036854775808 = (z : Int) := by rw [Int.tmod_eq_emod_of_nonneg (by omega), hz]; omega
  have f2 : (b : Int) % 9223372036854775808 = (z : Int) := by rw [hz]; omega
  have f3 : (b : Int) < 18446744073709551616 := by omega
  have f4 : ¬ (z : Int) < 9218868437227405312 := by omega
  clear hz h1 h2
  go_enter Tryd.func9, Tryd.ntmps9
  go_wp2_with fail
  go_ret
  exact ⟨rfl, Below.refl _ _⟩
end Go.Proofs.YtkbjehhabklnpaaDoor

namespace Go.Proofs.YtkbjehhabklnpaaDoor
open Go.RowKit Go.Shelf

theorem aw_v : ∃ b : Nat, b = 13832806255468478464 ∧ dv (-3) (-1) = dv (if 9223372036854775808 ≤ b then -(((b % 9223372036854775808 - (b % 9223372036854775808 / 4503599627370496 - 1) * 4503599627370496 : Nat)) : Int) else ((b % 9223372036854775808 - (b % 9223372036854775808 / 4503599627370496 - 1) * 4503599627370496 : Nat) : Int)) (-1074 + ((b % 9223372036854775808 / 4503599627370496 - 1 : Nat) : Int)) := by
  refine ⟨13832806255468478464, rfl, ?_⟩
  rw [if_pos (by decide), show 13832806255468478464 % 9223372036854775808 / 4503599627370496 - 1 = 1022 from by decide, show 13832806255468478464 % 9223372036854775808 - 1022 * 4503599627370496 = 6755399441055744 from by decide, dv_shift (z := -3) (e := -1) (f := -52) (by decide) (by decide)]
  rfl
set_option maxRecDepth 20000 in
set_option maxHeartbeats 8000000 in
theorem clsof_nan (w : World) :
    Calls Tryd.prog 10 #[.int .i64 32, .int .u64 4286578689] w fun en w' => en = .returned (.tuple #[.int .i64 4, .int .i64 0]) ∧ Below w.heap.size w w' := by
  have hbw : Below w.heap.size w w := Below.refl _ _
  go_enter Tryd.func10, Tryd.ntmps10
  go_wp2_with fail
  obtain ⟨z, hz⟩ : ∃ z : Nat, z = 4286578689 % 2147483648 := ⟨_, rfl⟩
  obtain ⟨B, hB⟩ : ∃ B : Nat, B = 4286578689 := ⟨_, rfl⟩
  have HPT := fun w => fm_32.pat 4286578689 w (by decide)
  rw [show decide (2147483648 ≤ 4286578689) = true from by decide, ← hz] at HPT
  have HZ : Hid (2139095040 < z) := by rw [hz]; show _ < _; decide
  clear hz hB
  refine (HPT _).mono ?_
  rintro e v1 ⟨rfl, hb1⟩
  replace hbw := Below.on hbw hb1
  clear hb1
  clear HPT
  go_wp2_with fail
  have Xp0 : Hid (B5q (v1.alloc (.cells #[.int .i64 32, .int .i64 24, .int .i64 (-149), .bool true, U z] 58)) v1.heap.size (.int .i64 32) (.int .i64 24) (.int .i64 (-149)) (.bool true) (U z)) := B5q.new v1 _ _ _ _ _ _
  have hbn : Below v1.heap.size v1 (v1.alloc (.cells #[.int .i64 32, .int .i64 24, .int .i64 (-149), .bool true, U z] 58)) := below1 v1 _
  generalize v1.alloc (.cells #[.int .i64 32, .int .i64 24, .int .i64 (-149), .bool true, U z] 58) = Wp at *
  have HGp : Hid (w.heap.size ≤ v1.heap.size) := hbw.size
  replace hbw := Below.on hbw hbn
  clear hbn
  generalize v1.heap.size = gp at *
  have Xp := Xp0
  clear Xp0
  refine (class_32 rfl true z _).mono ?_
  rintro e2 v2 ⟨rfl, hb2⟩
  rw [cls_nan (by decide) HZ.out]
  replace Xp : Hid _ := Xp.out.below hb2
  replace hbw := Below.on hbw hb2
  clear hb2
  go_wp2_with fail
  go_ret2
  exact ⟨rfl, hbw⟩
set_option maxRecDepth 20000 in
set_option maxHeartbeats 8000000 in
theorem awake7 (w : World) (hT : Tab w) :
    Calls Tryd.prog 7 #[] w fun en w' => en = .returned (.bool true) ∧ Below w.heap.size w w' := by
  have hbw : Below w.heap.size w w := Below.refl _ _
  have TB : Hid (Tab w) := hT
  obtain ⟨B, hB, hv⟩ := aw_v
  have HB : Hid (B = 13832806255468478464) := hB
  have HV : Hid (dv (-3) (-1) = dv (if 9223372036854775808 ≤ B then -(((B % 9223372036854775808 - (B % 9223372036854775808 / 4503599627370496 - 1) * 4503599627370496 : Nat)) : Int) else ((B % 9223372036854775808 - (B % 9223372036854775808 / 4503599627370496 - 1) * 4503599627370496 : Nat) : Int)) (-1074 + ((B % 9223372036854775808 / 4503599627370496 - 1 : Nat) : Int))) := hv
  have HJ : Hid (∀ w, Tab w → Calls Tryd.prog 15 #[.int .i64 64, .bool true, .int .u64 3, .int .i64 (-1)] w fun e w' => e = .returned (.tuple #[U B, .int .i64 0]) ∧ Below w.heap.size w w') := by
    intro w hT
    have := join_norm true 3 0 3 2 1022 (-1) 0 (by decide) (by decide) ⟨by decide, by decide⟩ (by decide) (by decide) (by decide) (by decide) (by decide) (by decide) (by decide) (by decide) (by decide) (by decide) w hT
    rw [show (if true = true then 9223372036854775808 + (1022 * 4503599627370496 + 3 * 2 ^ (53 - 2)) else 1022 * 4503599627370496 + 3 * 2 ^ (53 - 2)) = B from by rw [hB]; decide] at this
    exact this
  clear hT hB hv
  go_enter Tryd.func7, Tryd.ntmps7
  go_wp2_with fail
  refine (HJ.out _ (TB.out.below hbw)).mono ?_
  rintro e v1 ⟨rfl, hb1⟩
  replace hbw := Below.on hbw hb1
  clear hb1
  go_wp2_with fail
  refine (value_ok pm_64 B (by rw [HB.out]; decide) (by rw [HB.out]; decide) _ (TB.out.below hbw)).mono ?_
  rintro e2 v2 ⟨hv, hb2⟩
  obtain ⟨v, rfl, hv2⟩ := hv.form (.inr ⟨by decide, by decide, by decide⟩) (HV.out)
  obtain ⟨s2, p2, m2, rfl, hd2⟩ := hv2.dn (.inr ⟨by decide, by decide, by decide⟩)
  clear hv hv2
  replace hbw := Below.on hbw hb2
  clear hb2
  have D2 : Hid (DN v2 s2 p2 m2 m2 (-1) (-3)) := hd2
  clear hd2
  clear HV HJ
  have hB9 := HB.out
  clear HB
  subst hB9
  go_wp2_with fail
  have Xv0 : Hid (B3q (v2.alloc (.cells #[.bool s2, .slice p2 m2 m2, .int .i64 (-1)] 36)) v2.heap.size (.bool s2) (.slice p2 m2 m2) (.int .i64 (-1))) := B3q.new v2 _ _ _ _
  have hbn : Below v2.heap.size v2 (v2.alloc (.cells #[.bool s2, .slice p2 m2 m2, .int .i64 (-1)] 36)) := below1 v2 _
  generalize v2.alloc (.cells #[.bool s2, .slice p2 m2 m2, .int .i64 (-1)] 36) = Wv at *
  have HGv : Hid (w.heap.size ≤ v2.heap.size) := hbw.size
  replace D2 : Hid _ := D2.out.below hbn
  replace hbw := Below.on hbw hbn
  clear hbn
  generalize v2.heap.size = gv at *
  have Xv := Xv0
  clear Xv0
  refine (clsof_nan _).mono ?_
  rintro e v3 ⟨rfl, hb3⟩
  replace Xv : Hid _ := Xv.out.below hb3
  replace D2 : Hid _ := D2.out.below hb3
  replace hbw := Below.on hbw hb3
  clear hb3
  have hs2 : s2 = true := by rw [D2.out.zn.sg]; rfl
  obtain ⟨cv0, cv1, cv2, fv0, fv1, fv2⟩ := Xv.out
  have hnev : gv < v3.heap.size := World.block_lt_of_cell? v3 _ cv0
  go_wp2_with fail
  clear cv0 cv1 cv2 fv0 fv1 fv2 hnev
  obtain ⟨xs, hX⟩ := (D2.out.zn.below (below1 _ (.cells #[.int .u64 3] 22))).ex
  have hx3 : xs = [3] := hX.nf.inj B64_one (nf_one (x := 3) (by decide) (by decide))
  subst hx3
  refine (same_t hX.at_ (lit_at v3 _ [3] 1 rfl rfl (dig1 (by decide)) (by decide))).mono ?_
  rintro e2 v4 ⟨rfl, hb4⟩
  have hbw4 := Below.on (Below.on hbw (below1 _ _)) hb4
  clear hX hb4 hs2
  go_wp2_with fail
  go_ret
  exact ⟨rfl, hbw4⟩
end Go.Proofs.YtkbjehhabklnpaaDoor

namespace Go.Proofs.YtkbjehhabklnpaaDoor
open Go.RowKit Go.Shelf

set_option maxRecDepth 20000 in
set_option maxHeartbeats 8000000 in
theorem lfin_x (f : Int) (h1 : f ≠ 32) (h2 : f ≠ 64) (b : Nat) (w : World) :
    Calls Tryd.prog 9 #[.int .i64 f, U b] w fun en w' => en = .returned (.bool false) ∧ Below w.heap.size w w' := by
  have f1 : (f == 32) = false := by simp [h1]
  have f2 : (f == 64) = false := by simp [h2]
  go_enter Tryd.func9, Tryd.ntmps9
  go_wp2_with fail
  go_ret
  exact ⟨rfl, Below.refl _ _⟩
structure Lf (f : Int) (S I : Nat) : Prop where
  fin : ∀ (b : Nat) w, b < B64 → Calls Tryd.prog 9 #[.int .i64 f, U b] w fun en w' => en = .returned (.bool (decide (b < 2 * S ∧ b % S < I))) ∧ Below w.heap.size w w'
  sg : ∀ w, Calls Tryd.prog 16 #[.int .i64 f] w fun en w' => en = .returned (U S) ∧ Below w.heap.size w w'
  xr : ∀ b, b < 2 * S → bits BinOp.xor IntKind.u64 (b : Int) (S : Int) = ((xsS S b : Nat) : Int)
  up : 2 * S ≤ B64
theorem lf_32 : Lf 32 2147483648 2139095040 := by
  refine ⟨fun b w hb => ?_, fun w => lsign_32 w, fun b hb => sign_xor b _ 31 (by decide) (by decide) hb, by decide⟩
  by_cases h1 : b < 4294967296
  · by_cases h2 : b % 2147483648 < 2139095040
    · rw [decide_eq_true ⟨by omega, h2⟩]; exact lfin_32tt b _ rfl w h1 h2
    · rw [decide_eq_false (fun h => h2 h.2)]; exact lfin_32tf b _ rfl w h1 h2
  · rw [decide_eq_false (fun h => h1 (by omega))]; exact lfin_32ff b _ rfl w h1
theorem lf_64 : Lf 64 9223372036854775808 9218868437227405312 := by
  refine ⟨fun b w hb => ?_, fun w => lsign_64 w, fun b hb => sign_xor b _ 63 (by decide) (by decide) hb, by decide⟩
  rw [B64_eq] at hb
  by_cases h2 : b % 9223372036854775808 < 9218868437227405312
  · rw [decide_eq_true ⟨by omega, h2⟩]; exact lfin_64tt b _ rfl w hb h2
  · rw [decide_eq_false (fun h => h2 h.2)]; exact lfin_64tf b _ rfl w hb h2
end Go.Proofs.YtkbjehhabklnpaaDoor

namespace Go.Proofs.YtkbjehhabklnpaaDoor
open Go.RowKit Go.Shelf

theorem blb_le {m k : Nat} (h : m < 2 ^ k) : bl_bitsN m ≤ k := by
  by_cases h0 : m = 0
  · rw [h0, bl_bitsN_zero]; omega
  have h1 := bl_bitsN_le m h0
  have := (Nat.pow_lt_pow_iff_right (by omega : 1 < 2)).1 (Nat.lt_of_le_of_lt h1 h)
  omega
theorem blb_pos {m : Nat} (h : m ≠ 0) : 0 < bl_bitsN m := by unfold bl_bitsN; rw [if_neg h]; omega
theorem wV_parts {z : Nat} (hz : z < 2139095040) (h0 : z ≠ 0) : ∃ q m L, q = z / 8388608 - 1 ∧ m = z - q * 8388608 ∧ L = bl_bitsN m ∧ 1 ≤ L ∧ L ≤ 24 ∧ q ≤ 253 ∧ wV z = (872 + q + L) * 4503599627370496 + m * 2 ^ (53 - L) ∧ 4503599627370496 ≤ m * 2 ^ (53 - L) ∧ m * 2 ^ (53 - L) < 2 * 4503599627370496 := by
  obtain ⟨q, hq⟩ : ∃ q, q = z / 8388608 - 1 := ⟨_, rfl⟩
  obtain ⟨m, hm⟩ : ∃ m, m = z - q * 8388608 := ⟨_, rfl⟩
  obtain ⟨L, hL⟩ : ∃ L, L = bl_bitsN m := ⟨_, rfl⟩
  have hm0 : m ≠ 0 := by omega
  have hm1 : m < 16777216 := by omega
  have l1 := blb_pos hm0
  have l2 := blb_le (m := m) (k := 24) (by omega)
  have b1 := bl_bitsN_lt m
  have b2 := bl_bitsN_le m hm0
  rw [← hL] at l1 l2 b1 b2
  have e1 : (2 : Nat) ^ 52 = 4503599627370496 := by decide
  have h1 : 2 ^ (L - 1) * 2 ^ (53 - L) ≤ m * 2 ^ (53 - L) := Nat.mul_le_mul_right _ b2
  have h2 : m * 2 ^ (53 - L) < 2 ^ L * 2 ^ (53 - L) := Nat.mul_lt_mul_of_pos_right b1 (Nat.pow_pos (by omega))
  rw [← Nat.pow_add, show L - 1 + (53 - L) = 52 from by omega, e1] at h1
  rw [← Nat.pow_add, show L + (53 - L) = 52 + 1 from by omega, Nat.pow_succ, e1] at h2
  refine ⟨q, m, L, hq, hm, hL, l1, l2, by omega, ?_, h1, by omega⟩
  unfold wV
  rw [if_neg h0, ← hq, ← hm, ← hL]
theorem wV_vs {z K : Nat} (hz : z < 2139095040) (hK : K = 925) : vs 4503599627370496 (wV z) = vs 8388608 z * 2 ^ K := by
  by_cases h0 : z = 0
  · subst h0
    unfold wV
    rw [if_pos rfl, vs_zero, vs_zero, Nat.zero_mul]
  obtain ⟨q, m, L, hq, hm, _, l1, l2, l3, hw, h1, h2⟩ := wV_parts hz h0
  have hd : wV z / 4503599627370496 - 1 = 872 + q + L := by
    rw [hw]
    generalize m * 2 ^ (53 - L) = M at *
    omega
  have e1 : vs 8388608 z = m * 2 ^ q := by unfold vs; rw [← hq, ← hm]
  have e2 : wV z - (872 + q + L) * 4503599627370496 = m * 2 ^ (53 - L) := by
    rw [hw]
    generalize m * 2 ^ (53 - L) = M at *
    omega
  rw [e1]
  unfold vs
  rw [hd, e2, Nat.mul_assoc, Nat.mul_assoc, ← Nat.pow_add, ← Nat.pow_add, show 53 - L + (872 + q + L) = q + K from by omega]
theorem wV_lt {y z : Nat} (hy : y < 2139095040) (hz : z < 2139095040) (h : y < z) : wV y < wV z := by
  rcases Nat.lt_or_ge (wV y) (wV z) with h1 | h1
  · exact h1
  · have h2 := vs_mono (H := 8388608) (by decide) h
    have h3 : vs 4503599627370496 (wV z) ≤ vs 4503599627370496 (wV y) := by
      rcases Nat.lt_or_eq_of_le h1 with h4 | h4
      · exact Nat.le_of_lt (vs_mono (by decide) h4)
      · rw [h4]; exact Nat.le_refl _
    obtain ⟨K, hK⟩ : ∃ K, K = 925 := ⟨_, rfl⟩
    rw [wV_vs hy hK, wV_vs hz hK] at h3
    have h5 := Nat.le_of_mul_le_mul_right h3 (Nat.pow_pos (by omega))
    omega
theorem wV_cls {z : Nat} (hz : z < 2139095040) : wV z < 9218868437227405312 ∧ (z = 0 → wV z = 0) ∧ (z ≠ 0 → 4503599627370496 ≤ wV z) := by
  by_cases h0 : z = 0
  · subst h0
    have : wV 0 = 0 := by unfold wV; rw [if_pos rfl]
    rw [this]
    exact ⟨by decide, fun _ => rfl, fun h => absurd rfl h⟩
  obtain ⟨q, m, L, hq, hm, _, l1, l2, l3, hw, h1, h2⟩ := wV_parts hz h0
  rw [hw]
  generalize m * 2 ^ (53 - L) = M at *
  exact ⟨by omega, fun h => absurd h h0, fun _ => by omega⟩
structure WF (a x : Nat) : Prop where
  lt : x < 2 * 9223372036854775808
  nan : 2139095040 < a % 2147483648 → 9218868437227405312 < x % 9223372036854775808
  inf : a % 2147483648 = 2139095040 → x % 9223372036854775808 = 9218868437227405312
  fin : a % 2147483648 < 2139095040 → x % 9223372036854775808 = wV (a % 2147483648) ∧ (9223372036854775808 ≤ x ↔ 2147483648 ≤ a)
theorem cls_four {H I s : Nat} (hH : H ≤ I) : (clsN H I s == 4) = decide (I < s) := by
  by_cases h : I < s
  · rw [cls_nan hH h, decide_eq_true h]; rfl
  · rw [decide_eq_false h]; simp [cls_ne (Nat.le_of_not_lt h)]
theorem WF.cls {a x : Nat} (h : WF a x) : (clsN 8388608 2139095040 (a % 2147483648) == 4) = (clsN 4503599627370496 9218868437227405312 (x % 9223372036854775808) == 4) ∧ (clsN 8388608 2139095040 (a % 2147483648) == 3) = (clsN 4503599627370496 9218868437227405312 (x % 9223372036854775808) == 3) := by
  rw [cls_four (by decide), cls_four (by decide), cls_inf (by decide) (by decide), cls_inf (by decide) (by decide)]
  have h1 := h.nan
  have h2 := h.inf
  have h3 := h.fin
  rcases Nat.lt_trichotomy (a % 2147483648) 2139095040 with k | k | k
  · have k1 := (wV_cls k).1
    rw [← (h3 k).1] at k1
    refine ⟨decide_eq_decide.2 ⟨?_, ?_⟩, decide_eq_decide.2 ⟨?_, ?_⟩⟩ <;> omega
  · have := h2 k
    refine ⟨decide_eq_decide.2 ⟨?_, ?_⟩, decide_eq_decide.2 ⟨?_, ?_⟩⟩ <;> omega
  · have := h1 k
    refine ⟨decide_eq_decide.2 ⟨?_, ?_⟩, decide_eq_decide.2 ⟨?_, ?_⟩⟩ <;> omega
theorem WF.val {zo eo : Int} {a' x' : Nat} (h : WF a' x') (hf : a' % 2147483648 < 2139095040) (hv : VF 2147483648 8388608 (-149) a' zo eo) : VF 9223372036854775808 4503599627370496 (-1074) x' zo eo := by
  obtain ⟨h1, h2⟩ := h.fin hf
  refine ⟨hv.fm, ?_⟩
  obtain ⟨K, hK⟩ : ∃ K, K = 925 := ⟨_, rfl⟩
  have h3 := wV_vs hf hK
  rw [hv.v, show (-149 : Int) = -1074 + (K : Int) from by omega, dv_up K (by decide), svS_eq, svS_eq, h1, h3]
  by_cases h4 : 2147483648 ≤ a'
  · rw [if_pos h4, if_pos (h2.2 h4), Int.neg_mul, ← Int.natCast_mul]
  · rw [if_neg h4, if_neg (fun k => h4 (h2.1 k)), ← Int.natCast_mul]
theorem WF.rank {a x b y : Nat} (h : WF a x) (k : WF b y) (ha : a % 2147483648 < 2139095040) (hb : b % 2147483648 < 2139095040) : rkS 2147483648 a < rkS 2147483648 b ↔ rkS 9223372036854775808 x < rkS 9223372036854775808 y := by
  obtain ⟨h1, h2⟩ := h.fin ha
  obtain ⟨k1, k2⟩ := k.fin hb
  have a0 := (wV_cls ha).2
  have b0 := (wV_cls hb).2
  have l1 : a % 2147483648 < b % 2147483648 → wV (a % 2147483648) < wV (b % 2147483648) := wV_lt ha hb
  have l2 : b % 2147483648 < a % 2147483648 → wV (b % 2147483648) < wV (a % 2147483648) := wV_lt hb ha
  have l3 : a % 2147483648 = b % 2147483648 → wV (a % 2147483648) = wV (b % 2147483648) := fun e => by rw [e]
  unfold rkS
  rw [h1, k1]
  generalize a % 2147483648 = A at *
  generalize b % 2147483648 = B at *
  generalize wV A = WA at *
  generalize wV B = WB at *
  by_cases c1 : 2147483648 ≤ a <;> by_cases c2 : 2147483648 ≤ b
  · rw [if_pos c1, if_pos c2, if_pos (h2.2 c1), if_pos (k2.2 c2)]; omega
  · rw [if_pos c1, if_neg c2, if_pos (h2.2 c1), if_neg (fun e => c2 (k2.1 e))]; omega
  · rw [if_neg c1, if_pos c2, if_neg (fun e => c1 (h2.1 e)), if_pos (k2.2 c2)]; omega
  · rw [if_neg c1, if_neg c2, if_neg (fun e => c1 (h2.1 e)), if_neg (fun e => c2 (k2.1 e))]; omega
end Go.Proofs.YtkbjehhabklnpaaDoor

namespace Go.Proofs.YtkbjehhabklnpaaDoor
open Go.RowKit Go.Shelf

set_option maxRecDepth 20000 in
set_option maxHeartbeats 8000000 in
theorem same7 {p q : Option Addr} {m c n d : Nat} {w : World} {z e : Int} {s t : Bool} (h : DN w s p m c e z) (k : DN w t q n d e z) :
    Calls Tryd.prog 12 #[DV s p m c e, DV t q n d e] w fun en w' => en = .returned (.bool true) ∧ Below w.heap.size w w' := by
  obtain rfl : s = t := by rw [h.zn.sg, k.zn.sg]
  have H : Hid (DN w s p m c e z) := h
  have K : Hid (DN w s q n d e z) := k
  have hbb : (s == s) = true := by simp
  have hee : (e == e) = true := by simp
  clear h k
  go_enter Tryd.func12, Tryd.ntmps12
  go_wp2_with fail
  obtain ⟨W0, hW0⟩ : ∃ W0, W0 = ((w.alloc (.cells #[.bool s, .slice p m c, .int .i64 e] 36)).alloc (.cells #[.bool s, .slice q n d, .int .i64 e] 36)) := ⟨_, rfl⟩
  have Xa : Hid (B3q W0 (w.heap.size) (.bool s) (.slice p m c) (.int .i64 e)) := by rw [hW0]; exact ⟨by go_simp, by go_simp, by go_simp, by go_simp, by go_simp, by go_simp⟩
  have Xb : Hid (B3q W0 (w.heap.size + 1) (.bool s) (.slice q n d) (.int .i64 e)) := by rw [hW0]; exact ⟨by go_simp, by go_simp, by go_simp, by go_simp, by go_simp, by go_simp⟩
  have hb0 : Below w.heap.size w W0 := by rw [hW0]; exact below2 w _ _
  rw [← hW0]
  clear hW0
  have hbw : Below w.heap.size w w := Below.refl _ _
  obtain ⟨gb, hgb⟩ : ∃ g, g = w.heap.size + 1 := ⟨_, rfl⟩
  have HGb : Hid (w.heap.size ≤ gb) := by rw [hgb]; show _ ≤ _; omega
  rw [← hgb] at Xb
  try rw [← hgb]
  obtain ⟨ga, hga⟩ : ∃ g, g = w.heap.size := ⟨_, rfl⟩
  have HGa : Hid (w.heap.size ≤ ga) := by rw [hga]; show _ ≤ _; omega
  rw [← hga] at Xa
  try rw [← hga]
  have HGD : Hid (ga ≠ gb ∧ gb ≠ ga) := by rw [hga, hgb]; exact ⟨by omega, by omega⟩
  clear hga hgb
  replace hbw := Below.on hbw hb0
  clear hb0
  obtain ⟨xs, hX⟩ := (H.out.zn.below hbw).ex
  obtain ⟨ys, hY⟩ := (K.out.zn.below hbw).ex
  obtain rfl := hX.nf.inj B64_one hY.nf
  refine (same_t hX.at_ hY.at_).mono ?_
  rintro e2 v1 ⟨rfl, hb1⟩
  clear hX hY
  replace Xa : Hid _ := Xa.out.below hb1
  replace Xb : Hid _ := Xb.out.below hb1
  replace hbw := Below.on hbw hb1
  clear hb1
  obtain ⟨ca0, ca1, ca2, fa0, fa1, fa2⟩ := Xa.out
  have hnea : ga < v1.heap.size := World.block_lt_of_cell? v1 _ ca0
  obtain ⟨cb0, cb1, cb2, fb0, fb1, fb2⟩ := Xb.out
  have hneb : gb < v1.heap.size := World.block_lt_of_cell? v1 _ cb0
  go_wp2_with fail
  clear ca0 ca1 ca2 fa0 fa1 fa2 hnea
  clear cb0 cb1 cb2 fb0 fb1 fb2 hneb
  go_ret
  exact ⟨rfl, hbw⟩
end Go.Proofs.YtkbjehhabklnpaaDoor

namespace Go.Proofs.YtkbjehhabklnpaaDoor
open Go.RowKit Go.Shelf

set_option maxRecDepth 20000 in
set_option maxHeartbeats 8000000 in
theorem finite_e {f : Int} {b : Nat} {er : Int} (hB : ∀ w, Calls Tryd.prog 35 #[.int .i64 f, U b] w fun e w' => e = .returned (.tuple #[PV 0 0 0 false 0, .int .i64 er]) ∧ Below w.heap.size w w') (he : er ≠ 0) (w : World) :
    Calls Tryd.prog 36 #[.int .i64 f, U b] w fun en w' => en = .returned (.tuple #[PV 0 0 0 false 0, .int .i64 er]) ∧ Below w.heap.size w w' := by
  have HB : Hid (∀ w, Calls Tryd.prog 35 #[.int .i64 f, U b] w fun e w' => e = .returned (.tuple #[PV 0 0 0 false 0, .int .i64 er]) ∧ Below w.heap.size w w') := hB
  have e1 : (er == 0) = false := by simp [he]
  clear hB he
  go_enter Tryd.func36, Tryd.ntmps36
  go_wp2_with fail
  obtain ⟨W0, hW0⟩ : ∃ W0, W0 = (w.alloc (.cells #[.int .i64 0, .int .i64 0, .int .i64 0, .bool false, .int .u64 0] 58)) := ⟨_, rfl⟩
  have Xr : Hid (B5q W0 (w.heap.size) (.int .i64 0) (.int .i64 0) (.int .i64 0) (.bool false) (.int .u64 0)) := by rw [hW0]; exact ⟨by go_simp, by go_simp, by go_simp, by go_simp, by go_simp, by go_simp, by go_simp, by go_simp, by go_simp, by go_simp⟩
  have hb0 : Below w.heap.size w W0 := by rw [hW0]; exact below1 w _
  rw [← hW0]
  clear hW0
  have hbw : Below w.heap.size w w := Below.refl _ _
  obtain ⟨gr, hgr⟩ : ∃ g, g = w.heap.size := ⟨_, rfl⟩
  have HGr : Hid (w.heap.size ≤ gr) := by rw [hgr]; show _ ≤ _; omega
  rw [← hgr] at Xr
  try rw [← hgr]
  clear hgr
  replace hbw := Below.on hbw hb0
  clear hb0
  refine (HB.out _).mono ?_
  rintro e v1 ⟨rfl, hb1⟩
  replace Xr : Hid _ := Xr.out.below hb1
  replace hbw := Below.on hbw hb1
  clear hb1
  obtain ⟨cr0, cr1, cr2, cr3, cr4, fr0, fr1, fr2, fr3, fr4⟩ := Xr.out
  have hner : gr < v1.heap.size := World.block_lt_of_cell? v1 _ cr0
  go_wp2_with fail
  refine bodyPost_ret (v := .tuple #[PV 0 0 0 false 0, .int .i64 er]) (by rw [results_cell_tmp rfl]; go_simp) rfl ⟨rfl, ?_⟩
  first | exact Below.on hbw (below1 _ _) | exact Below.on (bSet (bSet (bSet (bSet (bSet hbw _ _ _ HGr.out) _ _ _ HGr.out) _ _ _ HGr.out) _ _ _ HGr.out) _ _ _ HGr.out) (below1 _ _)
set_option maxRecDepth 20000 in
set_option maxHeartbeats 8000000 in
theorem finite_i {f p m l : Int} {S I H : Nat} (F : Pm f p m l S I H) (b : Nat) (hb : b < 2 * S) (hr : b % S = I) (w : World) :
    Calls Tryd.prog 36 #[.int .i64 f, U b] w fun en w' => en = .returned (.tuple #[PV 0 0 0 false 0, .int .i64 6]) ∧ Below w.heap.size w w' := by
  have HF : Hid (Pm f p m l S I H) := F
  have HR : Hid (b < 2 * S ∧ b % S ≤ I ∧ decide (b % S = I) = true) := ⟨hb, by omega, decide_eq_true hr⟩
  obtain ⟨z, hz⟩ : ∃ z, z = b % S := ⟨_, rfl⟩
  obtain ⟨s, hs⟩ : ∃ s, s = decide (S ≤ b) := ⟨_, rfl⟩
  have HZ : Hid (b % S = z ∧ decide (S ≤ b) = s) := ⟨hz.symm, hs.symm⟩
  clear F hb hr hz hs
  go_enter Tryd.func36, Tryd.ntmps36
  go_wp2_with fail
  obtain ⟨W0, hW0⟩ : ∃ W0, W0 = (w.alloc (.cells #[.int .i64 0, .int .i64 0, .int .i64 0, .bool false, .int .u64 0] 58)) := ⟨_, rfl⟩
  have Xr : Hid (B5q W0 (w.heap.size) (.int .i64 0) (.int .i64 0) (.int .i64 0) (.bool false) (.int .u64 0)) := by rw [hW0]; exact ⟨by go_simp, by go_simp, by go_simp, by go_simp, by go_simp, by go_simp, by go_simp, by go_simp, by go_simp, by go_simp⟩
  have hb0 : Below w.heap.size w W0 := by rw [hW0]; exact below1 w _
  rw [← hW0]
  clear hW0
  have hbw : Below w.heap.size w w := Below.refl _ _
  obtain ⟨gr, hgr⟩ : ∃ g, g = w.heap.size := ⟨_, rfl⟩
  have HGr : Hid (w.heap.size ≤ gr) := by rw [hgr]; show _ ≤ _; omega
  rw [← hgr] at Xr
  try rw [← hgr]
  clear hgr
  replace hbw := Below.on hbw hb0
  clear hb0
  refine (ranked_ok HF.out.fm b HR.out.1 HR.out.2.1 _).mono ?_
  rintro e v1 ⟨rfl, hb1⟩
  rw [HZ.out.1, HZ.out.2]
  replace Xr : Hid _ := Xr.out.below hb1
  replace hbw := Below.on hbw hb1
  clear hb1
  go_wp2_with fail
  have Xp0 : Hid (B5q (v1.alloc (.cells #[.int .i64 p, .int .i64 m, .int .i64 l, .bool s, U z] 58)) v1.heap.size (.int .i64 p) (.int .i64 m) (.int .i64 l) (.bool s) (U z)) := B5q.new v1 _ _ _ _ _ _
  have hbn : Below v1.heap.size v1 (v1.alloc (.cells #[.int .i64 p, .int .i64 m, .int .i64 l, .bool s, U z] 58)) := below1 v1 _
  generalize v1.alloc (.cells #[.int .i64 p, .int .i64 m, .int .i64 l, .bool s, U z] 58) = Wp at *
  have HGp : Hid (w.heap.size ≤ v1.heap.size) := hbw.size
  replace Xr : Hid _ := Xr.out.below hbn
  replace hbw := Below.on hbw hbn
  clear hbn
  generalize v1.heap.size = gp at *
  have Xp := Xp0
  clear Xp0
  refine (HF.out.fm.cls s z _).mono ?_
  rintro e2 v2 ⟨c, rfl, hc4, hc3, hb2⟩
  have hc0 : (c == 3) = true := by rw [hc3, ← HZ.out.1]; exact HR.out.2.2
  clear hc4 hc3
  replace Xr : Hid _ := Xr.out.below hb2
  replace Xp : Hid _ := Xp.out.below hb2
  replace hbw := Below.on hbw hb2
  clear hb2
  obtain ⟨cr0, cr1, cr2, cr3, cr4, fr0, fr1, fr2, fr3, fr4⟩ := Xr.out
  have hner : gr < v2.heap.size := World.block_lt_of_cell? v2 _ cr0
  go_wp2_with fail
  refine bodyPost_ret (v := .tuple #[PV 0 0 0 false 0, .int .i64 6]) (by rw [results_cell_tmp rfl]; go_simp) rfl ⟨rfl, ?_⟩
  first | exact hbw | exact bSet (bSet (bSet (bSet (bSet hbw _ _ _ HGr.out) _ _ _ HGr.out) _ _ _ HGr.out) _ _ _ HGr.out) _ _ _ HGr.out
set_option maxRecDepth 20000 in
set_option maxHeartbeats 8000000 in
theorem split_e {f : Int} {b : Nat} {er : Int} (hB : ∀ w, Calls Tryd.prog 36 #[.int .i64 f, U b] w fun e w' => e = .returned (.tuple #[PV 0 0 0 false 0, .int .i64 er]) ∧ Below w.heap.size w w') (he : er ≠ 0) (w : World) :
    Calls Tryd.prog 14 #[.int .i64 f, U b] w fun en w' => en = .returned (.tuple #[.bool false, .int .u64 0, .int .i64 0, .int .i64 er]) ∧ Below w.heap.size w w' := by
  have hbw : Below w.heap.size w w := Below.refl _ _
  have HB : Hid (∀ w, Calls Tryd.prog 36 #[.int .i64 f, U b] w fun e w' => e = .returned (.tuple #[PV 0 0 0 false 0, .int .i64 er]) ∧ Below w.heap.size w w') := hB
  have e1 : (er == 0) = false := by simp [he]
  have e2 : (er != 0) = true := by simp [he]
  clear hB he
  go_enter Tryd.func14, Tryd.ntmps14
  go_wp2_with fail
  refine (HB.out _).mono ?_
  rintro e v1 ⟨rfl, hb1⟩
  replace hbw := Below.on hbw hb1
  clear hb1
  go_wp2_with fail
  refine bodyPost_ret (v := .tuple #[.bool false, .int .u64 0, .int .i64 0, .int .i64 er]) (by rw [results_t4 rfl]; go_simp) rfl ⟨rfl, ?_⟩
  first | exact hbw | exact Below.on hbw (below1 _ _)
set_option maxRecDepth 20000 in
set_option maxHeartbeats 8000000 in
theorem value_e {f : Int} {b : Nat} {er : Int} (hB : ∀ w, Calls Tryd.prog 36 #[.int .i64 f, U b] w fun e w' => e = .returned (.tuple #[PV 0 0 0 false 0, .int .i64 er]) ∧ Below w.heap.size w w') (he : er ≠ 0) (w : World) :
    Calls Tryd.prog 11 #[.int .i64 f, U b] w fun en w' => en = .returned (.tuple #[DV false none 0 0 0, .int .i64 er]) ∧ Below w.heap.size w w' := by
  have HB : Hid (∀ w, Calls Tryd.prog 36 #[.int .i64 f, U b] w fun e w' => e = .returned (.tuple #[PV 0 0 0 false 0, .int .i64 er]) ∧ Below w.heap.size w w') := hB
  have HE : Hid (er ≠ 0) := he
  have e1 : (er == 0) = false := by simp [he]
  have e2 : (er != 0) = true := by simp [he]
  clear hB he
  go_enter Tryd.func11, Tryd.ntmps11
  go_wp2_with fail
  obtain ⟨W0, hW0⟩ : ∃ W0, W0 = (w.alloc (.cells #[.bool false, .slice none 0 0, .int .i64 0] 36)) := ⟨_, rfl⟩
  have Xr : Hid (B3q W0 (w.heap.size) (.bool false) (.slice none 0 0) (.int .i64 0)) := by rw [hW0]; exact ⟨by go_simp, by go_simp, by go_simp, by go_simp, by go_simp, by go_simp⟩
  have hb0 : Below w.heap.size w W0 := by rw [hW0]; exact below1 w _
  rw [← hW0]
  clear hW0
  have hbw : Below w.heap.size w w := Below.refl _ _
  obtain ⟨gr, hgr⟩ : ∃ g, g = w.heap.size := ⟨_, rfl⟩
  have HGr : Hid (w.heap.size ≤ gr) := by rw [hgr]; show _ ≤ _; omega
  rw [← hgr] at Xr
  try rw [← hgr]
  clear hgr
  replace hbw := Below.on hbw hb0
  clear hb0
  refine (split_e HB.out HE.out _).mono ?_
  rintro e v1 ⟨rfl, hb1⟩
  replace Xr : Hid _ := Xr.out.below hb1
  replace hbw := Below.on hbw hb1
  clear hb1
  obtain ⟨cr0, cr1, cr2, fr0, fr1, fr2⟩ := Xr.out
  have hner : gr < v1.heap.size := World.block_lt_of_cell? v1 _ cr0
  go_wp2_with fail
  refine bodyPost_ret (v := .tuple #[DV false none 0 0 0, .int .i64 er]) (by rw [results_cell_tmp rfl]; go_simp) rfl ⟨rfl, ?_⟩
  first | exact hbw | exact bSet (bSet (bSet hbw _ _ _ HGr.out) _ _ _ HGr.out) _ _ _ HGr.out
theorem fin_bad {f p m l : Int} {S I H : Nat} (F : Pm f p m l S I H) {b : Nat} (hb9 : b < B64) (h : ¬ (b < 2 * S ∧ b % S < I)) : ∃ er : Int, er ≠ 0 ∧ ∀ w, Calls Tryd.prog 36 #[.int .i64 f, U b] w fun e w' => e = .returned (.tuple #[PV 0 0 0 false 0, .int .i64 er]) ∧ Below w.heap.size w w' := by
  by_cases h1 : b < 2 * S
  · rcases Nat.lt_trichotomy (b % S) I with h2 | h2 | h2
    · exact absurd ⟨h1, h2⟩ h
    · exact ⟨6, by decide, fun w => finite_i F b h1 h2 w⟩
    · exact ⟨6, by decide, fun w => finite_e (fun w => ranked_nan F.fm b h1 h2 w) (by decide) w⟩
  · exact ⟨2, by decide, fun w => finite_e (fun w => ranked_bad (fun w => F.fm.big b w hb9 (by omega)) (by decide) w) (by decide) w⟩
theorem fin_badx (f : Int) (h1 : f ≠ 32) (h2 : f ≠ 64) (b : Nat) : ∃ er : Int, er ≠ 0 ∧ ∀ w, Calls Tryd.prog 36 #[.int .i64 f, U b] w fun e w' => e = .returned (.tuple #[PV 0 0 0 false 0, .int .i64 er]) ∧ Below w.heap.size w w' :=
  ⟨1, by decide, fun w => finite_e (fun w => ranked_bad (fun w => patternOf_x f h1 h2 b w) (by decide) w) (by decide) w⟩
end Go.Proofs.YtkbjehhabklnpaaDoor

namespace Go.Proofs.YtkbjehhabklnpaaDoor
open Go.RowKit Go.Shelf

theorem xs_neg {S H : Nat} {l : Int} {b : Nat} {zo eo : Int} (hb : b < 2 * S) (hv : VF S H l b zo eo) : VF S H l (xsS S b) (-zo) eo ∧ xsS S b < 2 * S ∧ xsS S b % S = b % S := by
  have hm : xsS S b % S = b % S := by
    unfold xsS
    split
    · rename_i h
      rw [Nat.mod_eq_sub_mod h]
    · rw [Nat.add_mod_right]
  refine ⟨⟨hv.fm.neg, ?_⟩, by unfold xsS; split <;> omega, hm⟩
  rw [dv_neg, hv.v, ← dv_neg, svS_eq, svS_eq, hm]
  unfold xsS
  by_cases h : S ≤ b
  · rw [if_pos h, if_pos h, if_neg (by omega), Int.neg_neg]
  · rw [if_neg h, if_neg h, if_pos (by omega)]
theorem docw_num {w : World} {p : Option Addr} {m c : Nat} {us : List Nat} {x : Nat} (h : At w p m c us) (hn : Nf B64 us x) (hx : x < B64) : Num w p m c us x := by
  have h1 := (hn.len_le B64_one (k := 1)).2 (by rw [Nat.pow_one]; exact hx)
  exact ⟨h, hn, by rw [← h.len]; omega⟩
theorem join_b {f p m l : Int} {S I H sd : Nat} {Be : Int} (J : Jm f p m l S I H sd Be) {b man : Nat} (hb : b < 2 * S) (hz : b % S < I) (hm : man = b % S - (b % S / H - 1) * H) (w : World) (hT : Tab w) :
    Calls Tryd.prog 15 #[.int .i64 f, .bool (decide (S ≤ b)), U man, .int .i64 (l + ((b % S / H - 1 : Nat) : Int))] w fun en w' => en = .returned (.tuple #[U b, .int .i64 0]) ∧ Below w.heap.size w w' := by
  have hlt := J.pm.fm.lt
  have hbm : (if decide (S ≤ b) = true then S + b % S else b % S) = b := by
    by_cases h : S ≤ b
    · rw [if_pos (decide_eq_true h), Nat.mod_eq_sub_mod h, Nat.mod_eq_of_lt (by omega)]; omega
    · rw [if_neg (by rw [decide_eq_false h]; decide), Nat.mod_eq_of_lt (by omega)]
  by_cases h0 : man = 0
  · have hz0 : b % S = 0 := by
      have hp := J.pm.hp
      have h1 := Nat.div_add_mod (b % S) H
      have h2 := Nat.mod_lt (b % S) hp
      rw [Nat.mul_comm] at h1
      by_cases h3 : b % S / H = 0
      · rw [h3] at hm; omega
      · obtain ⟨k, hk⟩ : ∃ k, b % S / H = k + 1 := ⟨b % S / H - 1, (Nat.sub_add_cancel (Nat.pos_of_ne_zero h3)).symm⟩
        rw [hk, Nat.add_sub_cancel] at hm
        rw [hk, Nat.add_mul, Nat.one_mul] at h1
        omega
    have := join_z J (decide (S ≤ b)) (l + ((b % S / H - 1 : Nat) : Int)) w
    rw [hz0, Nat.add_zero] at hbm
    rw [hbm] at this
    rw [h0]
    exact this
  · have := join_s J (decide (S ≤ b)) (b % S) man (b % S / H - 1) hz rfl hm h0 w hT
    rw [hbm] at this
    exact this
set_option maxRecDepth 20000 in
set_option maxHeartbeats 8000000 in
theorem binaryRejoins_x (f : Int) (h1 : f ≠ 32) (h2 : f ≠ 64) (b : Nat) (w : World) (hT : Tab w) :
    Calls Tryd.prog 4 #[.int .i64 f, U b] w fun en w' => en = .returned (.bool true) ∧ Below w.heap.size w w' := by
  have hbw : Below w.heap.size w w := Below.refl _ _
  have TB : Hid (Tab w) := hT
  obtain ⟨er, he, hB⟩ := fin_badx f h1 h2 b
  have HX : Hid (f ≠ 32 ∧ f ≠ 64) := ⟨h1, h2⟩
  have HB : Hid (∀ w, Calls Tryd.prog 36 #[.int .i64 f, U b] w fun e w' => e = .returned (.tuple #[PV 0 0 0 false 0, .int .i64 er]) ∧ Below w.heap.size w w') := hB
  have HE : Hid (er ≠ 0) := he
  clear h1 h2 hT hB he
  go_enter Tryd.func4, Tryd.ntmps4
  go_wp2_with fail
  refine (awake7 _ (TB.out.below hbw)).mono ?_
  rintro e v1 ⟨rfl, hb1⟩
  replace hbw := Below.on hbw hb1
  clear hb1
  go_wp2_with fail
  refine (lfin_x f HX.out.1 HX.out.2 b _).mono ?_
  rintro e v2 ⟨rfl, hb2⟩
  replace hbw := Below.on hbw hb2
  clear hb2
  go_wp2_with fail
  refine (split_e HB.out HE.out _).mono ?_
  rintro e v3 ⟨rfl, hb3⟩
  replace hbw := Below.on hbw hb3
  clear hb3
  go_wp2_with fail
  refine (value_e HB.out HE.out _).mono ?_
  rintro e v4 ⟨rfl, hb4⟩
  replace hbw := Below.on hbw hb4
  clear hb4
  have e1 : (er == 0) = false := by simp [HE.out]
  have e2 : (er != 0) = true := by simp [HE.out]
  have e3 : (er == er) = true := by simp
  go_wp2_with fail
  go_ret
  exact ⟨rfl, by first | exact hbw | exact Below.on hbw (below1 _ _)⟩
set_option maxRecDepth 20000 in
set_option maxHeartbeats 8000000 in
theorem binaryRejoins_f {f p m l : Int} {S I H sd : Nat} {Be : Int} (J : Jm f p m l S I H sd Be) (L : Lf f S I) (b : Nat) (hb : b < B64) (w : World) (hT : Tab w) :
    Calls Tryd.prog 4 #[.int .i64 f, U b] w fun en w' => en = .returned (.bool true) ∧ Below w.heap.size w w' := by
  have hbw : Below w.heap.size w w := Below.refl _ _
  have TB : Hid (Tab w) := hT
  have HJM : Hid (Jm f p m l S I H sd Be) := J
  have HL : Hid (Lf f S I) := L
  have HB9 : Hid (b < B64) := hb
  clear J L hb hT
  go_enter Tryd.func4, Tryd.ntmps4
  go_wp2_with fail
  refine (awake7 _ (TB.out.below hbw)).mono ?_
  rintro e v1 ⟨rfl, hb1⟩
  replace hbw := Below.on hbw hb1
  clear hb1
  go_wp2_with fail
  refine (HL.out.fin b _ HB9.out).mono ?_
  rintro e v2 ⟨rfl, hb2⟩
  replace hbw := Below.on hbw hb2
  clear hb2
  by_cases hf : b < 2 * S ∧ b % S < I
  · rw [decide_eq_true hf]
    have HF : Hid (b < 2 * S ∧ b % S < I) := hf
    clear hf
    obtain ⟨man, hman⟩ : ∃ man, man = b % S - (b % S / H - 1) * H := ⟨_, rfl⟩
    obtain ⟨ex, hex⟩ : ∃ ex : Int, ex = l + ((b % S / H - 1 : Nat) : Int) := ⟨_, rfl⟩
    obtain ⟨ng, hng⟩ : ∃ ng, ng = decide (S ≤ b) := ⟨_, rfl⟩
    have HM : Hid (b % S - (b % S / H - 1) * H = man ∧ l + ((b % S / H - 1 : Nat) : Int) = ex ∧ decide (S ≤ b) = ng ∧ man = b % S - (b % S / H - 1) * H) := ⟨hman.symm, hex.symm, hng.symm, hman⟩
    obtain ⟨zo, eo, hv, hv2⟩ := vf_ex HJM.out.pm HF.out.2
    have VV : Hid (VF S H l b zo eo) := hv
    rw [← hman, ← hex] at hv2
    have hm9 := HJM.out.pm.h9
    have hpp := HJM.out.pm.hp
    have hmn : man < 2 * H := by
      have h1 := Nat.div_add_mod (b % S) H
      have h2 := Nat.mod_lt (b % S) hpp
      rw [Nat.mul_comm] at h1
      by_cases h3 : b % S / H = 0
      · rw [h3] at h1 hman; omega
      · rw [hman, Nat.sub_mul]; omega
    have hst := HJM.out.pm.st _ HF.out.2
    have hlo := HJM.out.pm.lo
    have V2 : Hid (dv zo eo = dv (iv (ng && decide (man ≠ 0)) man) ex ∧ man < B64 ∧ -3145728 ≤ ex ∧ ex ≤ 3145728) := by
      refine ⟨?_, by rw [B64_eq]; omega, by omega, by omega⟩
      rw [hv2, hng]
      by_cases h1 : S ≤ b
      · rw [if_pos h1, decide_eq_true h1, Bool.true_and]
        by_cases h2 : man = 0
        · rw [h2]; rfl
        · rw [decide_eq_true h2]; rfl
      · rw [if_neg h1, decide_eq_false h1, Bool.false_and]; rfl
    clear hman hex hng hv hv2 hm9 hpp hmn hst hlo
    go_wp2_with fail
    refine (split_ok HJM.out.pm b HF.out.1 HF.out.2 _).mono ?_
    rintro e v3 ⟨rfl, hb3⟩
    rw [HM.out.1, HM.out.2.1, HM.out.2.2.1]
    replace hbw := Below.on hbw hb3
    clear hb3
    go_wp2_with fail
    have HJB := join_b HJM.out HF.out.1 HF.out.2 HM.out.2.2.2
    rw [HM.out.2.1, HM.out.2.2.1] at HJB
    have HJ2 : Hid (∀ w, Tab w → Calls Tryd.prog 15 #[.int .i64 f, .bool ng, U man, .int .i64 ex] w fun en w' => en = .returned (.tuple #[U b, .int .i64 0]) ∧ Below w.heap.size w w') := HJB
    clear HJB
    refine (HJ2.out _ (TB.out.below hbw)).mono ?_
    rintro e v4 ⟨rfl, hb4⟩
    replace hbw := Below.on hbw hb4
    clear hb4
    have q1 : ((b : Int) == (b : Int)) = true := by simp
    have q2 : ((b : Int) != (b : Int)) = false := by simp
    go_wp2_with fail
    clear q1 q2
    refine (HL.out.sg _).mono ?_
    rintro e v5 ⟨rfl, hb5⟩
    replace hbw := Below.on hbw hb5
    clear hb5
    have hd : decide ((S : Int) ≤ (b : Int)) = ng := by rw [← HM.out.2.2.1]; apply decide_eq_decide.2; omega
    have hn1 : (ng == ng) = true := by simp
    have hn2 : (ng != ng) = false := by simp
    have hdN : decide (S ≤ b) = ng := HM.out.2.2.1
    have hn3 : ((!ng) == ng) = false := by cases ng <;> rfl
    go_wp2_with fail
    clear hd hn1 hn2 hdN hn3
    refine (value_v HJM.out.pm HF.out.1 HF.out.2 VV.out _ (TB.out.below hbw)).mono ?_
    rintro e2 v6 ⟨v, rfl, hv, hb6⟩
    obtain ⟨s6, p6, m6, rfl, hd6⟩ := hv.dn (VV.out.fm)
    clear hv
    replace hbw := Below.on hbw hb6
    clear hb6
    have D6 : Hid (DN v6 s6 p6 m6 m6 (eo) (zo)) := hd6
    clear hd6
    rcases Bool.eq_false_or_eq_true ng with hg | hg
    · by_cases hm0 : man = 0
      · have d1 : ((man : Int) == 0) = true := by simp [hm0]
        have d2 : ((man : Int) != 0) = false := by simp [hm0]
        have HM0 : Hid (man = 0) := hm0
        clear hm0
        have HEQ : Hid (iv false man = iv (ng && decide (man ≠ 0)) man ∧ True) := ⟨by rw [HM0.out]; cases ng <;> rfl, trivial⟩
        go_wp2_with fail
        have HG0 := hg
        clear hg HG0
        have Xv0 : Hid (B3q (v6.alloc (.cells #[.bool s6, .slice p6 m6 m6, .int .i64 (eo)] 36)) v6.heap.size (.bool s6) (.slice p6 m6 m6) (.int .i64 (eo))) := B3q.new v6 _ _ _ _
        have hbn : Below v6.heap.size v6 (v6.alloc (.cells #[.bool s6, .slice p6 m6 m6, .int .i64 (eo)] 36)) := below1 v6 _
        generalize v6.alloc (.cells #[.bool s6, .slice p6 m6 m6, .int .i64 (eo)] 36) = Wv at *
        have HGv : Hid (w.heap.size ≤ v6.heap.size) := hbw.size
        replace D6 : Hid _ := D6.out.below hbn
        replace hbw := Below.on hbw hbn
        clear hbn
        generalize v6.heap.size = gv at *
        have Xv := Xv0
        clear Xv0
        refine (docwordD man V2.out.2.1 _).mono ?_
        rintro e2 v7 ⟨p7, m7, N7, us7, rfl, hA7, hN7, hb7⟩
        replace Xv : Hid _ := Xv.out.below hb7
        replace D6 : Hid _ := D6.out.below hb7
        replace hbw := Below.on hbw hb7
        clear hb7
        have Z7 : Hid (ZN v7 false p7 m7 N7 (iv (ng && decide (man ≠ 0)) man)) := (ZN.of (t := false) (docw_num hA7 hN7 V2.out.2.1) (fun h => by cases h)).cast HEQ.out.1
        clear hA7 hN7
        go_wp2_with fail
        refine (makep Z7.out V2.out.2.2 (TB.out.below hbw)).mono ?_
        rintro e2 v8 ⟨hv, hb8⟩
        obtain ⟨v, rfl, hv2⟩ := hv.form (VV.out.fm) (V2.out.1)
        obtain ⟨s8, p8, m8, rfl, hd8⟩ := hv2.dn (VV.out.fm)
        clear hv hv2
        replace Xv : Hid _ := Xv.out.below hb8
        replace D6 : Hid _ := D6.out.below hb8
        replace Z7 : Hid _ := Z7.out.below hb8
        replace hbw := Below.on hbw hb8
        clear hb8
        have D8 : Hid (DN v8 s8 p8 m8 m8 (eo) (zo)) := hd8
        clear hd8
        go_wp2_with fail
        have HDvw : Hid (gv ≠ v8.heap.size) := Nat.ne_of_lt Xv.out.lt
        have Xw0 : Hid (B3q (v8.alloc (.cells #[.bool s8, .slice p8 m8 m8, .int .i64 (eo)] 36)) v8.heap.size (.bool s8) (.slice p8 m8 m8) (.int .i64 (eo))) := B3q.new v8 _ _ _ _
        have hbn : Below v8.heap.size v8 (v8.alloc (.cells #[.bool s8, .slice p8 m8 m8, .int .i64 (eo)] 36)) := below1 v8 _
        generalize v8.alloc (.cells #[.bool s8, .slice p8 m8 m8, .int .i64 (eo)] 36) = Ww at *
        have HGw : Hid (w.heap.size ≤ v8.heap.size) := hbw.size
        replace Xv : Hid _ := Xv.out.below hbn
        replace D6 : Hid _ := D6.out.below hbn
        replace Z7 : Hid _ := Z7.out.below hbn
        replace D8 : Hid _ := D8.out.below hbn
        replace hbw := Below.on hbw hbn
        clear hbn
        generalize v8.heap.size = gw at *
        have Xw := Xw0
        clear Xw0
        refine (HL.out.sg _).mono ?_
        rintro e v9 ⟨rfl, hb9⟩
        replace Xv : Hid _ := Xv.out.below hb9
        replace Xw : Hid _ := Xw.out.below hb9
        replace D6 : Hid _ := D6.out.below hb9
        replace Z7 : Hid _ := Z7.out.below hb9
        replace D8 : Hid _ := D8.out.below hb9
        replace hbw := Below.on hbw hb9
        clear hb9
        have hx1 := HL.out.xr b HF.out.1
        go_wp2_with fail
        clear hx1
        obtain ⟨vx, hx2, hx3⟩ := xs_neg HF.out.1 VV.out
        have VX : Hid (VF S H l (xsS S b) (-zo) eo ∧ xsS S b < 2 * S ∧ xsS S b % S < I) := ⟨vx, hx2, by rw [hx3]; exact HF.out.2⟩
        clear vx hx2 hx3
        refine (value_v HJM.out.pm VX.out.2.1 VX.out.2.2 VX.out.1 _ (TB.out.below hbw)).mono ?_
        rintro e2 v10 ⟨v, rfl, hv, hb10⟩
        obtain ⟨s10, p10, m10, rfl, hd10⟩ := hv.dn (VX.out.1.fm)
        clear hv
        replace Xv : Hid _ := Xv.out.below hb10
        replace Xw : Hid _ := Xw.out.below hb10
        replace D6 : Hid _ := D6.out.below hb10
        replace Z7 : Hid _ := Z7.out.below hb10
        replace D8 : Hid _ := D8.out.below hb10
        replace hbw := Below.on hbw hb10
        clear hb10
        have D10 : Hid (DN v10 s10 p10 m10 m10 (eo) (-zo)) := hd10
        clear hd10
        go_wp2_with fail
        have HDvu : Hid (gv ≠ v10.heap.size) := Nat.ne_of_lt Xv.out.lt
        have HDwu : Hid (gw ≠ v10.heap.size) := Nat.ne_of_lt Xw.out.lt
        have Xu0 : Hid (B3q (v10.alloc (.cells #[.bool s10, .slice p10 m10 m10, .int .i64 (eo)] 36)) v10.heap.size (.bool s10) (.slice p10 m10 m10) (.int .i64 (eo))) := B3q.new v10 _ _ _ _
        have hbn : Below v10.heap.size v10 (v10.alloc (.cells #[.bool s10, .slice p10 m10 m10, .int .i64 (eo)] 36)) := below1 v10 _
        generalize v10.alloc (.cells #[.bool s10, .slice p10 m10 m10, .int .i64 (eo)] 36) = Wu at *
        have HGu : Hid (w.heap.size ≤ v10.heap.size) := hbw.size
        replace Xv : Hid _ := Xv.out.below hbn
        replace Xw : Hid _ := Xw.out.below hbn
        replace D6 : Hid _ := D6.out.below hbn
        replace Z7 : Hid _ := Z7.out.below hbn
        replace D8 : Hid _ := D8.out.below hbn
        replace D10 : Hid _ := D10.out.below hbn
        replace hbw := Below.on hbw hbn
        clear hbn
        generalize v10.heap.size = gu at *
        have Xu := Xu0
        clear Xu0
        refine (dneg D10.out).mono ?_
        rintro e2 v11 ⟨v, rfl, hv, hf11, hb11⟩
        rw [Int.neg_neg] at hv hf11
        obtain ⟨s11, p11, m11, rfl, hd11⟩ := hv.dn hf11
        clear hv hf11
        replace Xv : Hid _ := Xv.out.below hb11
        replace Xw : Hid _ := Xw.out.below hb11
        replace Xu : Hid _ := Xu.out.below hb11
        replace D6 : Hid _ := D6.out.below hb11
        replace Z7 : Hid _ := Z7.out.below hb11
        replace D8 : Hid _ := D8.out.below hb11
        replace D10 : Hid _ := D10.out.below hb11
        replace hbw := Below.on hbw hb11
        clear hb11
        have D11 : Hid (DN v11 s11 p11 m11 m11 eo zo) := hd11
        clear hd11
        obtain ⟨cv0, cv1, cv2, fv0, fv1, fv2⟩ := Xv.out
        have hnev : gv < v11.heap.size := World.block_lt_of_cell? v11 _ cv0
        obtain ⟨cw0, cw1, cw2, fw0, fw1, fw2⟩ := Xw.out
        have hnew : gw < v11.heap.size := World.block_lt_of_cell? v11 _ cw0
        go_wp2_with fail
        clear cv0 cv1 cv2 fv0 fv1 fv2 hnev
        clear cw0 cw1 cw2 fw0 fw1 fw2 hnew
        have HDvm : Hid (gv ≠ v11.heap.size) := Nat.ne_of_lt Xv.out.lt
        have HDwm : Hid (gw ≠ v11.heap.size) := Nat.ne_of_lt Xw.out.lt
        have HDum : Hid (gu ≠ v11.heap.size) := Nat.ne_of_lt Xu.out.lt
        have Xm0 : Hid (B3q (v11.alloc (.cells #[.bool s11, .slice p11 m11 m11, .int .i64 (eo)] 36)) v11.heap.size (.bool s11) (.slice p11 m11 m11) (.int .i64 (eo))) := B3q.new v11 _ _ _ _
        have hbn : Below v11.heap.size v11 (v11.alloc (.cells #[.bool s11, .slice p11 m11 m11, .int .i64 (eo)] 36)) := below1 v11 _
        generalize v11.alloc (.cells #[.bool s11, .slice p11 m11 m11, .int .i64 (eo)] 36) = Wm at *
        have HGm : Hid (w.heap.size ≤ v11.heap.size) := hbw.size
        replace Xv : Hid _ := Xv.out.below hbn
        replace Xw : Hid _ := Xw.out.below hbn
        replace Xu : Hid _ := Xu.out.below hbn
        replace D6 : Hid _ := D6.out.below hbn
        replace Z7 : Hid _ := Z7.out.below hbn
        replace D8 : Hid _ := D8.out.below hbn
        replace D10 : Hid _ := D10.out.below hbn
        replace D11 : Hid _ := D11.out.below hbn
        replace hbw := Below.on hbw hbn
        clear hbn
        generalize v11.heap.size = gm at *
        have Xm := Xm0
        clear Xm0
        refine (same7 D6.out D8.out).mono ?_
        rintro e v12 ⟨rfl, hb12⟩
        replace Xv : Hid _ := Xv.out.below hb12
        replace Xw : Hid _ := Xw.out.below hb12
        replace Xu : Hid _ := Xu.out.below hb12
        replace Xm : Hid _ := Xm.out.below hb12
        replace D6 : Hid _ := D6.out.below hb12
        replace Z7 : Hid _ := Z7.out.below hb12
        replace D8 : Hid _ := D8.out.below hb12
        replace D10 : Hid _ := D10.out.below hb12
        replace D11 : Hid _ := D11.out.below hb12
        replace hbw := Below.on hbw hb12
        clear hb12
        obtain ⟨cv0, cv1, cv2, fv0, fv1, fv2⟩ := Xv.out
        have hnev : gv < v12.heap.size := World.block_lt_of_cell? v12 _ cv0
        obtain ⟨cm0, cm1, cm2, fm0, fm1, fm2⟩ := Xm.out
        have hnem : gm < v12.heap.size := World.block_lt_of_cell? v12 _ cm0
        go_wp2_with fail
        clear cv0 cv1 cv2 fv0 fv1 fv2 hnev
        clear cm0 cm1 cm2 fm0 fm1 fm2 hnem
        refine (same7 D6.out D11.out).mono ?_
        rintro e v13 ⟨rfl, hb13⟩
        replace Xv : Hid _ := Xv.out.below hb13
        replace Xw : Hid _ := Xw.out.below hb13
        replace Xu : Hid _ := Xu.out.below hb13
        replace Xm : Hid _ := Xm.out.below hb13
        replace D6 : Hid _ := D6.out.below hb13
        replace Z7 : Hid _ := Z7.out.below hb13
        replace D8 : Hid _ := D8.out.below hb13
        replace D10 : Hid _ := D10.out.below hb13
        replace D11 : Hid _ := D11.out.below hb13
        replace hbw := Below.on hbw hb13
        clear hb13
        go_wp2_with fail
        go_ret
        exact ⟨rfl, hbw⟩
      · have d1 : ((man : Int) == 0) = false := by simp [hm0]
        have d2 : ((man : Int) != 0) = true := by simp [hm0]
        have HMN : Hid (man ≠ 0) := hm0
        clear hm0
        have HEQ : Hid (iv true man = iv (ng && decide (man ≠ 0)) man ∧ 0 < man) := ⟨by rw [decide_eq_true HMN.out, hg]; rfl, by have := HMN.out; omega⟩
        go_wp2_with fail
        have HG0 := hg
        clear hg HG0
        have Xv0 : Hid (B3q (v6.alloc (.cells #[.bool s6, .slice p6 m6 m6, .int .i64 (eo)] 36)) v6.heap.size (.bool s6) (.slice p6 m6 m6) (.int .i64 (eo))) := B3q.new v6 _ _ _ _
        have hbn : Below v6.heap.size v6 (v6.alloc (.cells #[.bool s6, .slice p6 m6 m6, .int .i64 (eo)] 36)) := below1 v6 _
        generalize v6.alloc (.cells #[.bool s6, .slice p6 m6 m6, .int .i64 (eo)] 36) = Wv at *
        have HGv : Hid (w.heap.size ≤ v6.heap.size) := hbw.size
        replace D6 : Hid _ := D6.out.below hbn
        replace hbw := Below.on hbw hbn
        clear hbn
        generalize v6.heap.size = gv at *
        have Xv := Xv0
        clear Xv0
        refine (docwordD man V2.out.2.1 _).mono ?_
        rintro e2 v7 ⟨p7, m7, N7, us7, rfl, hA7, hN7, hb7⟩
        replace Xv : Hid _ := Xv.out.below hb7
        replace D6 : Hid _ := D6.out.below hb7
        replace hbw := Below.on hbw hb7
        clear hb7
        have Z7 : Hid (ZN v7 true p7 m7 N7 (iv (ng && decide (man ≠ 0)) man)) := (ZN.of (t := true) (docw_num hA7 hN7 V2.out.2.1) (fun _ => HEQ.out.2)).cast HEQ.out.1
        clear hA7 hN7
        go_wp2_with fail
        refine (makep Z7.out V2.out.2.2 (TB.out.below hbw)).mono ?_
        rintro e2 v8 ⟨hv, hb8⟩
        obtain ⟨v, rfl, hv2⟩ := hv.form (VV.out.fm) (V2.out.1)
        obtain ⟨s8, p8, m8, rfl, hd8⟩ := hv2.dn (VV.out.fm)
        clear hv hv2
        replace Xv : Hid _ := Xv.out.below hb8
        replace D6 : Hid _ := D6.out.below hb8
        replace Z7 : Hid _ := Z7.out.below hb8
        replace hbw := Below.on hbw hb8
        clear hb8
        have D8 : Hid (DN v8 s8 p8 m8 m8 (eo) (zo)) := hd8
        clear hd8
        go_wp2_with fail
        have HDvw : Hid (gv ≠ v8.heap.size) := Nat.ne_of_lt Xv.out.lt
        have Xw0 : Hid (B3q (v8.alloc (.cells #[.bool s8, .slice p8 m8 m8, .int .i64 (eo)] 36)) v8.heap.size (.bool s8) (.slice p8 m8 m8) (.int .i64 (eo))) := B3q.new v8 _ _ _ _
        have hbn : Below v8.heap.size v8 (v8.alloc (.cells #[.bool s8, .slice p8 m8 m8, .int .i64 (eo)] 36)) := below1 v8 _
        generalize v8.alloc (.cells #[.bool s8, .slice p8 m8 m8, .int .i64 (eo)] 36) = Ww at *
        have HGw : Hid (w.heap.size ≤ v8.heap.size) := hbw.size
        replace Xv : Hid _ := Xv.out.below hbn
        replace D6 : Hid _ := D6.out.below hbn
        replace Z7 : Hid _ := Z7.out.below hbn
        replace D8 : Hid _ := D8.out.below hbn
        replace hbw := Below.on hbw hbn
        clear hbn
        generalize v8.heap.size = gw at *
        have Xw := Xw0
        clear Xw0
        refine (HL.out.sg _).mono ?_
        rintro e v9 ⟨rfl, hb9⟩
        replace Xv : Hid _ := Xv.out.below hb9
        replace Xw : Hid _ := Xw.out.below hb9
        replace D6 : Hid _ := D6.out.below hb9
        replace Z7 : Hid _ := Z7.out.below hb9
        replace D8 : Hid _ := D8.out.below hb9
        replace hbw := Below.on hbw hb9
        clear hb9
        have hx1 := HL.out.xr b HF.out.1
        go_wp2_with fail
        clear hx1
        obtain ⟨vx, hx2, hx3⟩ := xs_neg HF.out.1 VV.out
        have VX : Hid (VF S H l (xsS S b) (-zo) eo ∧ xsS S b < 2 * S ∧ xsS S b % S < I) := ⟨vx, hx2, by rw [hx3]; exact HF.out.2⟩
        clear vx hx2 hx3
        refine (value_v HJM.out.pm VX.out.2.1 VX.out.2.2 VX.out.1 _ (TB.out.below hbw)).mono ?_
        rintro e2 v10 ⟨v, rfl, hv, hb10⟩
        obtain ⟨s10, p10, m10, rfl, hd10⟩ := hv.dn (VX.out.1.fm)
        clear hv
        replace Xv : Hid _ := Xv.out.below hb10
        replace Xw : Hid _ := Xw.out.below hb10
        replace D6 : Hid _ := D6.out.below hb10
        replace Z7 : Hid _ := Z7.out.below hb10
        replace D8 : Hid _ := D8.out.below hb10
        replace hbw := Below.on hbw hb10
        clear hb10
        have D10 : Hid (DN v10 s10 p10 m10 m10 (eo) (-zo)) := hd10
        clear hd10
        go_wp2_with fail
        have HDvu : Hid (gv ≠ v10.heap.size) := Nat.ne_of_lt Xv.out.lt
        have HDwu : Hid (gw ≠ v10.heap.size) := Nat.ne_of_lt Xw.out.lt
        have Xu0 : Hid (B3q (v10.alloc (.cells #[.bool s10, .slice p10 m10 m10, .int .i64 (eo)] 36)) v10.heap.size (.bool s10) (.slice p10 m10 m10) (.int .i64 (eo))) := B3q.new v10 _ _ _ _
        have hbn : Below v10.heap.size v10 (v10.alloc (.cells #[.bool s10, .slice p10 m10 m10, .int .i64 (eo)] 36)) := below1 v10 _
        generalize v10.alloc (.cells #[.bool s10, .slice p10 m10 m10, .int .i64 (eo)] 36) = Wu at *
        have HGu : Hid (w.heap.size ≤ v10.heap.size) := hbw.size
        replace Xv : Hid _ := Xv.out.below hbn
        replace Xw : Hid _ := Xw.out.below hbn
        replace D6 : Hid _ := D6.out.below hbn
        replace Z7 : Hid _ := Z7.out.below hbn
        replace D8 : Hid _ := D8.out.below hbn
        replace D10 : Hid _ := D10.out.below hbn
        replace hbw := Below.on hbw hbn
        clear hbn
        generalize v10.heap.size = gu at *
        have Xu := Xu0
        clear Xu0
        refine (dneg D10.out).mono ?_
        rintro e2 v11 ⟨v, rfl, hv, hf11, hb11⟩
        rw [Int.neg_neg] at hv hf11
        obtain ⟨s11, p11, m11, rfl, hd11⟩ := hv.dn hf11
        clear hv hf11
        replace Xv : Hid _ := Xv.out.below hb11
        replace Xw : Hid _ := Xw.out.below hb11
        replace Xu : Hid _ := Xu.out.below hb11
        replace D6 : Hid _ := D6.out.below hb11
        replace Z7 : Hid _ := Z7.out.below hb11
        replace D8 : Hid _ := D8.out.below hb11
        replace D10 : Hid _ := D10.out.below hb11
        replace hbw := Below.on hbw hb11
        clear hb11
        have D11 : Hid (DN v11 s11 p11 m11 m11 eo zo) := hd11
        clear hd11
        obtain ⟨cv0, cv1, cv2, fv0, fv1, fv2⟩ := Xv.out
        have hnev : gv < v11.heap.size := World.block_lt_of_cell? v11 _ cv0
        obtain ⟨cw0, cw1, cw2, fw0, fw1, fw2⟩ := Xw.out
        have hnew : gw < v11.heap.size := World.block_lt_of_cell? v11 _ cw0
        go_wp2_with fail
        clear cv0 cv1 cv2 fv0 fv1 fv2 hnev
        clear cw0 cw1 cw2 fw0 fw1 fw2 hnew
        have HDvm : Hid (gv ≠ v11.heap.size) := Nat.ne_of_lt Xv.out.lt
        have HDwm : Hid (gw ≠ v11.heap.size) := Nat.ne_of_lt Xw.out.lt
        have HDum : Hid (gu ≠ v11.heap.size) := Nat.ne_of_lt Xu.out.lt
        have Xm0 : Hid (B3q (v11.alloc (.cells #[.bool s11, .slice p11 m11 m11, .int .i64 (eo)] 36)) v11.heap.size (.bool s11) (.slice p11 m11 m11) (.int .i64 (eo))) := B3q.new v11 _ _ _ _
        have hbn : Below v11.heap.size v11 (v11.alloc (.cells #[.bool s11, .slice p11 m11 m11, .int .i64 (eo)] 36)) := below1 v11 _
        generalize v11.alloc (.cells #[.bool s11, .slice p11 m11 m11, .int .i64 (eo)] 36) = Wm at *
        have HGm : Hid (w.heap.size ≤ v11.heap.size) := hbw.size
        replace Xv : Hid _ := Xv.out.below hbn
        replace Xw : Hid _ := Xw.out.below hbn
        replace Xu : Hid _ := Xu.out.below hbn
        replace D6 : Hid _ := D6.out.below hbn
        replace Z7 : Hid _ := Z7.out.below hbn
        replace D8 : Hid _ := D8.out.below hbn
        replace D10 : Hid _ := D10.out.below hbn
        replace D11 : Hid _ := D11.out.below hbn
        replace hbw := Below.on hbw hbn
        clear hbn
        generalize v11.heap.size = gm at *
        have Xm := Xm0
        clear Xm0
        refine (same7 D6.out D8.out).mono ?_
        rintro e v12 ⟨rfl, hb12⟩
        replace Xv : Hid _ := Xv.out.below hb12
        replace Xw : Hid _ := Xw.out.below hb12
        replace Xu : Hid _ := Xu.out.below hb12
        replace Xm : Hid _ := Xm.out.below hb12
        replace D6 : Hid _ := D6.out.below hb12
        replace Z7 : Hid _ := Z7.out.below hb12
        replace D8 : Hid _ := D8.out.below hb12
        replace D10 : Hid _ := D10.out.below hb12
        replace D11 : Hid _ := D11.out.below hb12
        replace hbw := Below.on hbw hb12
        clear hb12
        obtain ⟨cv0, cv1, cv2, fv0, fv1, fv2⟩ := Xv.out
        have hnev : gv < v12.heap.size := World.block_lt_of_cell? v12 _ cv0
        obtain ⟨cm0, cm1, cm2, fm0, fm1, fm2⟩ := Xm.out
        have hnem : gm < v12.heap.size := World.block_lt_of_cell? v12 _ cm0
        go_wp2_with fail
        clear cv0 cv1 cv2 fv0 fv1 fv2 hnev
        clear cm0 cm1 cm2 fm0 fm1 fm2 hnem
        refine (same7 D6.out D11.out).mono ?_
        rintro e v13 ⟨rfl, hb13⟩
        replace Xv : Hid _ := Xv.out.below hb13
        replace Xw : Hid _ := Xw.out.below hb13
        replace Xu : Hid _ := Xu.out.below hb13
        replace Xm : Hid _ := Xm.out.below hb13
        replace D6 : Hid _ := D6.out.below hb13
        replace Z7 : Hid _ := Z7.out.below hb13
        replace D8 : Hid _ := D8.out.below hb13
        replace D10 : Hid _ := D10.out.below hb13
        replace D11 : Hid _ := D11.out.below hb13
        replace hbw := Below.on hbw hb13
        clear hb13
        go_wp2_with fail
        go_ret
        exact ⟨rfl, hbw⟩
    · have HEQ : Hid (iv false man = iv (ng && decide (man ≠ 0)) man ∧ True) := ⟨by rw [hg]; rfl, trivial⟩
      go_wp2_with fail
      have HG0 := hg
      clear hg HG0
      have Xv0 : Hid (B3q (v6.alloc (.cells #[.bool s6, .slice p6 m6 m6, .int .i64 (eo)] 36)) v6.heap.size (.bool s6) (.slice p6 m6 m6) (.int .i64 (eo))) := B3q.new v6 _ _ _ _
      have hbn : Below v6.heap.size v6 (v6.alloc (.cells #[.bool s6, .slice p6 m6 m6, .int .i64 (eo)] 36)) := below1 v6 _
      generalize v6.alloc (.cells #[.bool s6, .slice p6 m6 m6, .int .i64 (eo)] 36) = Wv at *
      have HGv : Hid (w.heap.size ≤ v6.heap.size) := hbw.size
      replace D6 : Hid _ := D6.out.below hbn
      replace hbw := Below.on hbw hbn
      clear hbn
      generalize v6.heap.size = gv at *
      have Xv := Xv0
      clear Xv0
      refine (docwordD man V2.out.2.1 _).mono ?_
      rintro e2 v7 ⟨p7, m7, N7, us7, rfl, hA7, hN7, hb7⟩
      replace Xv : Hid _ := Xv.out.below hb7
      replace D6 : Hid _ := D6.out.below hb7
      replace hbw := Below.on hbw hb7
      clear hb7
      have Z7 : Hid (ZN v7 false p7 m7 N7 (iv (ng && decide (man ≠ 0)) man)) := (ZN.of (t := false) (docw_num hA7 hN7 V2.out.2.1) (fun h => by cases h)).cast HEQ.out.1
      clear hA7 hN7
      go_wp2_with fail
      refine (makep Z7.out V2.out.2.2 (TB.out.below hbw)).mono ?_
      rintro e2 v8 ⟨hv, hb8⟩
      obtain ⟨v, rfl, hv2⟩ := hv.form (VV.out.fm) (V2.out.1)
      obtain ⟨s8, p8, m8, rfl, hd8⟩ := hv2.dn (VV.out.fm)
      clear hv hv2
      replace Xv : Hid _ := Xv.out.below hb8
      replace D6 : Hid _ := D6.out.below hb8
      replace Z7 : Hid _ := Z7.out.below hb8
      replace hbw := Below.on hbw hb8
      clear hb8
      have D8 : Hid (DN v8 s8 p8 m8 m8 (eo) (zo)) := hd8
      clear hd8
      go_wp2_with fail
      have HDvw : Hid (gv ≠ v8.heap.size) := Nat.ne_of_lt Xv.out.lt
      have Xw0 : Hid (B3q (v8.alloc (.cells #[.bool s8, .slice p8 m8 m8, .int .i64 (eo)] 36)) v8.heap.size (.bool s8) (.slice p8 m8 m8) (.int .i64 (eo))) := B3q.new v8 _ _ _ _
      have hbn : Below v8.heap.size v8 (v8.alloc (.cells #[.bool s8, .slice p8 m8 m8, .int .i64 (eo)] 36)) := below1 v8 _
      generalize v8.alloc (.cells #[.bool s8, .slice p8 m8 m8, .int .i64 (eo)] 36) = Ww at *
      have HGw : Hid (w.heap.size ≤ v8.heap.size) := hbw.size
      replace Xv : Hid _ := Xv.out.below hbn
      replace D6 : Hid _ := D6.out.below hbn
      replace Z7 : Hid _ := Z7.out.below hbn
      replace D8 : Hid _ := D8.out.below hbn
      replace hbw := Below.on hbw hbn
      clear hbn
      generalize v8.heap.size = gw at *
      have Xw := Xw0
      clear Xw0
      refine (HL.out.sg _).mono ?_
      rintro e v9 ⟨rfl, hb9⟩
      replace Xv : Hid _ := Xv.out.below hb9
      replace Xw : Hid _ := Xw.out.below hb9
      replace D6 : Hid _ := D6.out.below hb9
      replace Z7 : Hid _ := Z7.out.below hb9
      replace D8 : Hid _ := D8.out.below hb9
      replace hbw := Below.on hbw hb9
      clear hb9
      have hx1 := HL.out.xr b HF.out.1
      go_wp2_with fail
      clear hx1
      obtain ⟨vx, hx2, hx3⟩ := xs_neg HF.out.1 VV.out
      have VX : Hid (VF S H l (xsS S b) (-zo) eo ∧ xsS S b < 2 * S ∧ xsS S b % S < I) := ⟨vx, hx2, by rw [hx3]; exact HF.out.2⟩
      clear vx hx2 hx3
      refine (value_v HJM.out.pm VX.out.2.1 VX.out.2.2 VX.out.1 _ (TB.out.below hbw)).mono ?_
      rintro e2 v10 ⟨v, rfl, hv, hb10⟩
      obtain ⟨s10, p10, m10, rfl, hd10⟩ := hv.dn (VX.out.1.fm)
      clear hv
      replace Xv : Hid _ := Xv.out.below hb10
      replace Xw : Hid _ := Xw.out.below hb10
      replace D6 : Hid _ := D6.out.below hb10
      replace Z7 : Hid _ := Z7.out.below hb10
      replace D8 : Hid _ := D8.out.below hb10
      replace hbw := Below.on hbw hb10
      clear hb10
      have D10 : Hid (DN v10 s10 p10 m10 m10 (eo) (-zo)) := hd10
      clear hd10
      go_wp2_with fail
      have HDvu : Hid (gv ≠ v10.heap.size) := Nat.ne_of_lt Xv.out.lt
      have HDwu : Hid (gw ≠ v10.heap.size) := Nat.ne_of_lt Xw.out.lt
      have Xu0 : Hid (B3q (v10.alloc (.cells #[.bool s10, .slice p10 m10 m10, .int .i64 (eo)] 36)) v10.heap.size (.bool s10) (.slice p10 m10 m10) (.int .i64 (eo))) := B3q.new v10 _ _ _ _
      have hbn : Below v10.heap.size v10 (v10.alloc (.cells #[.bool s10, .slice p10 m10 m10, .int .i64 (eo)] 36)) := below1 v10 _
      generalize v10.alloc (.cells #[.bool s10, .slice p10 m10 m10, .int .i64 (eo)] 36) = Wu at *
      have HGu : Hid (w.heap.size ≤ v10.heap.size) := hbw.size
      replace Xv : Hid _ := Xv.out.below hbn
      replace Xw : Hid _ := Xw.out.below hbn
      replace D6 : Hid _ := D6.out.below hbn
      replace Z7 : Hid _ := Z7.out.below hbn
      replace D8 : Hid _ := D8.out.below hbn
      replace D10 : Hid _ := D10.out.below hbn
      replace hbw := Below.on hbw hbn
      clear hbn
      generalize v10.heap.size = gu at *
      have Xu := Xu0
      clear Xu0
      refine (dneg D10.out).mono ?_
      rintro e2 v11 ⟨v, rfl, hv, hf11, hb11⟩
      rw [Int.neg_neg] at hv hf11
      obtain ⟨s11, p11, m11, rfl, hd11⟩ := hv.dn hf11
      clear hv hf11
      replace Xv : Hid _ := Xv.out.below hb11
      replace Xw : Hid _ := Xw.out.below hb11
      replace Xu : Hid _ := Xu.out.below hb11
      replace D6 : Hid _ := D6.out.below hb11
      replace Z7 : Hid _ := Z7.out.below hb11
      replace D8 : Hid _ := D8.out.below hb11
      replace D10 : Hid _ := D10.out.below hb11
      replace hbw := Below.on hbw hb11
      clear hb11
      have D11 : Hid (DN v11 s11 p11 m11 m11 eo zo) := hd11
      clear hd11
      obtain ⟨cv0, cv1, cv2, fv0, fv1, fv2⟩ := Xv.out
      have hnev : gv < v11.heap.size := World.block_lt_of_cell? v11 _ cv0
      obtain ⟨cw0, cw1, cw2, fw0, fw1, fw2⟩ := Xw.out
      have hnew : gw < v11.heap.size := World.block_lt_of_cell? v11 _ cw0
      go_wp2_with fail
      clear cv0 cv1 cv2 fv0 fv1 fv2 hnev
      clear cw0 cw1 cw2 fw0 fw1 fw2 hnew
      have HDvm : Hid (gv ≠ v11.heap.size) := Nat.ne_of_lt Xv.out.lt
      have HDwm : Hid (gw ≠ v11.heap.size) := Nat.ne_of_lt Xw.out.lt
      have HDum : Hid (gu ≠ v11.heap.size) := Nat.ne_of_lt Xu.out.lt
      have Xm0 : Hid (B3q (v11.alloc (.cells #[.bool s11, .slice p11 m11 m11, .int .i64 (eo)] 36)) v11.heap.size (.bool s11) (.slice p11 m11 m11) (.int .i64 (eo))) := B3q.new v11 _ _ _ _
      have hbn : Below v11.heap.size v11 (v11.alloc (.cells #[.bool s11, .slice p11 m11 m11, .int .i64 (eo)] 36)) := below1 v11 _
      generalize v11.alloc (.cells #[.bool s11, .slice p11 m11 m11, .int .i64 (eo)] 36) = Wm at *
      have HGm : Hid (w.heap.size ≤ v11.heap.size) := hbw.size
      replace Xv : Hid _ := Xv.out.below hbn
      replace Xw : Hid _ := Xw.out.below hbn
      replace Xu : Hid _ := Xu.out.below hbn
      replace D6 : Hid _ := D6.out.below hbn
      replace Z7 : Hid _ := Z7.out.below hbn
      replace D8 : Hid _ := D8.out.below hbn
      replace D10 : Hid _ := D10.out.below hbn
      replace D11 : Hid _ := D11.out.below hbn
      replace hbw := Below.on hbw hbn
      clear hbn
      generalize v11.heap.size = gm at *
      have Xm := Xm0
      clear Xm0
      refine (same7 D6.out D8.out).mono ?_
      rintro e v12 ⟨rfl, hb12⟩
      replace Xv : Hid _ := Xv.out.below hb12
      replace Xw : Hid _ := Xw.out.below hb12
      replace Xu : Hid _ := Xu.out.below hb12
      replace Xm : Hid _ := Xm.out.below hb12
      replace D6 : Hid _ := D6.out.below hb12
      replace Z7 : Hid _ := Z7.out.below hb12
      replace D8 : Hid _ := D8.out.below hb12
      replace D10 : Hid _ := D10.out.below hb12
      replace D11 : Hid _ := D11.out.below hb12
      replace hbw := Below.on hbw hb12
      clear hb12
      obtain ⟨cv0, cv1, cv2, fv0, fv1, fv2⟩ := Xv.out
      have hnev : gv < v12.heap.size := World.block_lt_of_cell? v12 _ cv0
      obtain ⟨cm0, cm1, cm2, fm0, fm1, fm2⟩ := Xm.out
      have hnem : gm < v12.heap.size := World.block_lt_of_cell? v12 _ cm0
      go_wp2_with fail
      clear cv0 cv1 cv2 fv0 fv1 fv2 hnev
      clear cm0 cm1 cm2 fm0 fm1 fm2 hnem
      refine (same7 D6.out D11.out).mono ?_
      rintro e v13 ⟨rfl, hb13⟩
      replace Xv : Hid _ := Xv.out.below hb13
      replace Xw : Hid _ := Xw.out.below hb13
      replace Xu : Hid _ := Xu.out.below hb13
      replace Xm : Hid _ := Xm.out.below hb13
      replace D6 : Hid _ := D6.out.below hb13
      replace Z7 : Hid _ := Z7.out.below hb13
      replace D8 : Hid _ := D8.out.below hb13
      replace D10 : Hid _ := D10.out.below hb13
      replace D11 : Hid _ := D11.out.below hb13
      replace hbw := Below.on hbw hb13
      clear hb13
      go_wp2_with fail
      go_ret
      exact ⟨rfl, hbw⟩
  · obtain ⟨er, he, hB⟩ := fin_bad HJM.out.pm HB9.out hf
    have HB : Hid (∀ w, Calls Tryd.prog 36 #[.int .i64 f, U b] w fun e w' => e = .returned (.tuple #[PV 0 0 0 false 0, .int .i64 er]) ∧ Below w.heap.size w w') := hB
    have HE : Hid (er ≠ 0) := he
    rw [decide_eq_false hf]
    clear hf he hB
    go_wp2_with fail
    refine (split_e HB.out HE.out _).mono ?_
    rintro e v3 ⟨rfl, hb3⟩
    replace hbw := Below.on hbw hb3
    clear hb3
    go_wp2_with fail
    refine (value_e HB.out HE.out _).mono ?_
    rintro e v4 ⟨rfl, hb4⟩
    replace hbw := Below.on hbw hb4
    clear hb4
    have e1 : (er == 0) = false := by simp [HE.out]
    have e2 : (er != 0) = true := by simp [HE.out]
    have e3 : (er == er) = true := by simp
    go_wp2_with fail
    go_ret
    exact ⟨rfl, by first | exact hbw | exact Below.on hbw (below1 _ _)⟩
theorem binaryRejoins_w (f : Int) (b : Nat) (hb : b < B64) (w : World) (hT : Tab w) :
    Calls Tryd.prog 4 #[.int .i64 f, U b] w fun en w' => en = .returned (.bool true) ∧ Below w.heap.size w w' := by
  by_cases h1 : f = 32
  · subst h1; exact binaryRejoins_f jm_32 lf_32 b hb w hT
  by_cases h2 : f = 64
  · subst h2; exact binaryRejoins_f jm_64 lf_64 b hb w hT
  exact binaryRejoins_x f h1 h2 b w hT
end Go.Proofs.YtkbjehhabklnpaaDoor

namespace Go.Proofs.YtkbjehhabklnpaaDoor
open Go.RowKit Go.Shelf

theorem vs_next {H : Nat} (hH : 0 < H) (s : Nat) : vs H (s + 1) = vs H s + 2 ^ (s / H - 1) := by
  have h1 := Nat.div_add_mod s H
  have h2 := Nat.mod_lt s hH
  have h3 := Nat.div_add_mod (s + 1) H
  have h4 := Nat.mod_lt (s + 1) hH
  have h5 : s / H ≤ (s + 1) / H := Nat.div_le_div_right (by omega)
  have h6 : (s + 1) / H ≤ s / H + 1 := by
    have : (s + 1) / H ≤ (s + H) / H := Nat.div_le_div_right (by omega)
    rw [Nat.add_div_right _ hH] at this
    exact this
  unfold vs
  by_cases h7 : (s + 1) / H = s / H
  · rw [h7]
    have hq : (s / H - 1) * H ≤ s := by
      rw [Nat.sub_mul, Nat.mul_comm]; omega
    rw [show s + 1 - (s / H - 1) * H = s - (s / H - 1) * H + 1 from by omega, Nat.add_mul, Nat.one_mul]
  · have h8 : (s + 1) / H = s / H + 1 := by omega
    rw [h8, Nat.add_sub_cancel]
    rw [h8, Nat.mul_add, Nat.mul_one] at h3
    obtain ⟨k, hk⟩ : ∃ k, k = s / H := ⟨_, rfl⟩
    rw [← hk] at h1 h3 ⊢
    obtain ⟨y, hy⟩ : ∃ y, y = H * k := ⟨_, rfl⟩
    rw [← hy] at h1 h3
    rw [Nat.mul_comm k H, ← hy]
    by_cases h9 : k = 0
    · subst h9
      have : y = 0 := by rw [hy]; simp
      simp
      omega
    · obtain ⟨j, rfl⟩ : ∃ j, k = j + 1 := ⟨k - 1, by omega⟩
      rw [Nat.add_sub_cancel, Nat.pow_succ]
      have hj : j * H + H = y := by rw [hy, Nat.mul_comm H, Nat.add_mul, Nat.one_mul]
      have e1 : s + 1 - y = H := by omega
      have e2 : s - j * H = 2 * H - 1 := by omega
      rw [e1, e2, Nat.mul_comm (2 ^ j) 2, ← Nat.mul_assoc, Nat.sub_mul, Nat.one_mul, Nat.mul_comm H 2]
      have : 1 * 2 ^ j ≤ 2 * H * 2 ^ j := Nat.mul_le_mul_right _ (by omega)
      omega
set_option maxRecDepth 20000 in
set_option maxHeartbeats 8000000 in
theorem join_e {f p m l : Int} {S I H sd : Nat} {Be : Int} (J : Jm f p m l S I H sd Be) (neg : Bool) (z man q : Nat) (hz : z < I) (hq : q = z / H - 1) (hm : man = z - q * H) (ex : Int) (hex : ex = l + (q : Int) - 1) (mn : Nat) (hmn : mn = 2 * man + 1) (w : World) (hT : qTab w) :
    Calls Tryd.prog 15 #[.int .i64 f, .bool neg, U mn, .int .i64 ex] w fun en w' => en = .returned (.tuple #[.int .u64 0, .int .i64 5]) ∧ Below w.heap.size w w' := by
  have hbw : Below w.heap.size w w := Below.refl _ _
  have HJM : Hid (Jm f p m l S I H sd Be) := J
  have TB : Hid (qTab w) := hT
  have hp := J.pm.hp
  have h9 := J.pm.h9
  have hlo := J.pm.lo
  have hsl := J.sl
  have hbq := J.bq z hz
  have hst := J.pm.st z hz
  have hbu := J.bu
  rw [← hq] at hbq hst
  have h1 := Nat.div_add_mod z H
  have h2 := Nat.mod_lt z hp
  rw [Nat.mul_comm] at h1
  have hcase : (q = 0 ∧ man < 2 * H) ∨ (H ≤ man ∧ man < 2 * H) := by
    by_cases h3 : z / H ≤ 1
    · have hq0 : q = 0 := by omega
      rw [hq0, Nat.zero_mul] at hm
      refine .inl ⟨hq0, ?_⟩
      have h4 : z / H * H ≤ 1 * H := Nat.mul_le_mul_right _ h3
      omega
    · right
      have h5 : q + 1 = z / H := by omega
      have h6 : q * H + H = z / H * H := by rw [← h5, Nat.add_mul, Nat.one_mul]
      omega
  have hm9 : mn < B64 := by rw [B64_eq]; rcases hcase with ⟨_, a3⟩ | ⟨_, a3⟩ <;> omega
  have hmn0 : mn ≠ 0 := by omega
  obtain ⟨L, hL⟩ : ∃ L, L = bl_bitsN mn := ⟨_, rfl⟩
  have hB1 := bl_bitsN_lt mn
  have hB2 := bl_bitsN_le mn hmn0
  rw [← hL] at hB1 hB2
  have hLp : 1 ≤ L := by rw [hL]; unfold bl_bitsN; rw [if_neg hmn0]; omega
  have hLs : L ≤ 64 := by
    have : 2 ^ (L - 1) < 2 ^ 64 := by rw [B64_eq] at hm9; exact Nat.lt_of_le_of_lt hB2 hm9
    have := (Nat.pow_lt_pow_iff_right (by omega : 1 < 2)).1 this
    omega
  have hfull : q ≠ 0 → sd + 2 ≤ L := by
    intro hq0
    rcases hcase with ⟨a1, _⟩ | ⟨a1, _⟩
    · exact absurd a1 hq0
    · have : 2 ^ (sd + 1) < 2 ^ L := by rw [Nat.pow_succ, ← J.hs]; omega
      have := (Nat.pow_lt_pow_iff_right (by omega : 1 < 2)).1 this
      omega
  obtain ⟨s1, hs1⟩ : ∃ e : Int, e = ex + L := ⟨_, rfl⟩
  obtain ⟨top, htop⟩ : ∃ e : Int, e = s1 - 1 := ⟨_, rfl⟩
  obtain ⟨un, hun⟩ : ∃ e : Int, e = max (top - sd) l := ⟨_, rfl⟩
  have hlt : ex < un := by
    by_cases hq0 : q = 0
    · omega
    · have := hfull hq0; omega
  obtain ⟨lb, hlb⟩ : ∃ e : Int, e = l - 63 := ⟨_, rfl⟩
  have b1 : ((mn : Int) == 0) = false := by simp; omega
  have v1 : IntKind.i64.wrap (l - 63) = lb := by rw [hlb]; simp [IntKind.wrap, IntKind.signed, IntKind.bits]; omega
  have v2 : wrap64 (l - 63) = lb := by rw [hlb]; simp only [wrap64]; omega
  have a1 : (mn : Int) / 2 ^ 0 = (mn : Int) := by simp
  have a2 : IntKind.i64.wrap (ex + ((0 : Nat) : Int)) = ex := by simp [IntKind.wrap, IntKind.signed, IntKind.bits]; omega
  have a2b : IntKind.i64.wrap ex = ex := by simp [IntKind.wrap, IntKind.signed, IntKind.bits]; omega
  have a3 : IntKind.i64.wrap (ex + (L : Int)) = s1 := by rw [hs1]; simp [IntKind.wrap, IntKind.signed, IntKind.bits]; omega
  have a4 : IntKind.i64.wrap (s1 - 1) = top := by rw [htop]; simp [IntKind.wrap, IntKind.signed, IntKind.bits]; omega
  have w2 : wrap64 ex = ex := by simp only [wrap64]; omega
  have w3 : wrap64 (ex + (L : Int)) = s1 := by rw [hs1]; simp only [wrap64]; omega
  have w4 : wrap64 (s1 - 1) = top := by rw [htop]; simp only [wrap64]; omega
  have c1 : decide (ex < lb) = false := decide_eq_false (by omega)
  have c2 : decide (Be ≤ ex) = false := decide_eq_false (by omega)
  have c3 : decide (ex < un) = true := decide_eq_true hlt
  have HTP : Hid (-5000 ≤ top ∧ top ≤ 5000 ∧ max (top - sd) l = un) := ⟨by omega, by omega, hun.symm⟩
  have HMO : Hid (mn < B64 ∧ bl_bitsN mn = L ∧ mn ≠ 0 ∧ qTzIs mn 0) := ⟨hm9, hL.symm, hmn0, ⟨by rw [Nat.pow_zero, Nat.mod_one], by rw [Nat.pow_zero, Nat.div_one]; omega⟩⟩
  clear J hT hp h9 hlo hsl hbq hst hbu h1 h2 hcase hm9 hmn0 hL hB1 hB2 hLs hLp hfull hs1 htop hun hlb hlt hz hq hm hex hmn
  go_enter Tryd.func15, Tryd.ntmps15
  go_wp2_with fail
  refine (HJM.out.pm.fm.of _).mono ?_
  rintro e v1 ⟨rfl, hb1⟩
  replace hbw := Below.on hbw hb1
  clear hb1
  go_wp2_with fail
  have Xg0 : Hid (B3q (v1.alloc (.cells #[.int .i64 p, .int .i64 m, .int .i64 l] 56)) v1.heap.size (.int .i64 p) (.int .i64 m) (.int .i64 l)) := B3q.new v1 _ _ _ _
  have hbn : Below v1.heap.size v1 (v1.alloc (.cells #[.int .i64 p, .int .i64 m, .int .i64 l] 56)) := below1 v1 _
  generalize v1.alloc (.cells #[.int .i64 p, .int .i64 m, .int .i64 l] 56) = Wg at *
  have HGg : Hid (w.heap.size ≤ v1.heap.size) := hbw.size
  replace hbw := Below.on hbw hbn
  clear hbn
  generalize v1.heap.size = gg at *
  have Xg := Xg0
  clear Xg0
  refine (HJM.out.be _).mono ?_
  rintro e v2 ⟨rfl, hb2⟩
  replace Xg : Hid _ := Xg.out.below hb2
  replace hbw := Below.on hbw hb2
  clear hb2
  obtain ⟨cg0, cg1, cg2, fg0, fg1, fg2⟩ := Xg.out
  have hneg : gg < v2.heap.size := World.block_lt_of_cell? v2 _ cg0
  go_wp2_with fail
  clear cg0 cg1 cg2 fg0 fg1 fg2 hneg
  refine (qtz_any HMO.out.2.2.1 HMO.out.1 HMO.out.2.2.2 (TB.out.below hbw)).mono ?_
  rintro e2 v3 ⟨rfl, hw⟩
  obtain rfl := hw.symm
  clear hw
  obtain ⟨cg0, cg1, cg2, fg0, fg1, fg2⟩ := Xg.out
  have hneg : gg < v2.heap.size := World.block_lt_of_cell? v2 _ cg0
  go_wp2_with fail
  clear cg0 cg1 cg2 fg0 fg1 fg2 hneg
  refine (bl_len_any mn _ HMO.out.1).mono ?_
  rintro e2 v3 ⟨rfl, hw⟩
  obtain rfl := hw.symm
  clear hw
  rw [HMO.out.2.1]
  obtain ⟨cg0, cg1, cg2, fg0, fg1, fg2⟩ := Xg.out
  have hneg : gg < v2.heap.size := World.block_lt_of_cell? v2 _ cg0
  go_wp2_with fail
  clear cg0 cg1 cg2 fg0 fg1 fg2 hneg
  refine (HJM.out.un top _ HTP.out.1 HTP.out.2.1).mono ?_
  rintro e v4 ⟨rfl, hb4⟩
  rw [HTP.out.2.2]
  replace Xg : Hid _ := Xg.out.below hb4
  replace hbw := Below.on hbw hb4
  clear hb4
  obtain ⟨cg0, cg1, cg2, fg0, fg1, fg2⟩ := Xg.out
  have hneg : gg < v4.heap.size := World.block_lt_of_cell? v4 _ cg0
  go_wp2_with fail
  clear cg0 cg1 cg2 fg0 fg1 fg2 hneg
  go_ret2
  exact ⟨rfl, hbw⟩
set_option maxRecDepth 20000 in
set_option maxHeartbeats 8000000 in
theorem mid_ok {f p m l : Int} {S I H : Nat} (F : Pm f p m l S I H) (b mn : Nat) (ex : Int) (hb : b < 2 * S) (hr : b % S < I) (hmn : mn = 2 * (b % S - (b % S / H - 1) * H) + 1) (hex : ex = l + ((b % S / H - 1 : Nat) : Int) - 1) (w : World) (hT : Tab w) :
    Calls Tryd.prog 24 #[.int .i64 f, U b] w fun en w' => MakeP w.heap.size w' en (iv (decide (S ≤ b)) mn) ex ∧ Below w.heap.size w w' := by
  have HF : Hid (Pm f p m l S I H) := F
  have TB : Hid (Tab w) := hT
  have HR : Hid (b < 2 * S ∧ b % S < I) := ⟨hb, hr⟩
  have hst := F.st _ hr
  have hlo := F.lo
  have h9 := F.h9
  have hp := F.hp
  obtain ⟨q, hq⟩ : ∃ q, q = b % S / H - 1 := ⟨_, rfl⟩
  have hmn2 : b % S - q * H < 2 * H := by
    have h1 := Nat.div_add_mod (b % S) H
    have h2 := Nat.mod_lt (b % S) hp
    rw [Nat.mul_comm] at h1
    by_cases h3 : b % S / H = 0
    · rw [h3] at h1; omega
    · rw [hq, Nat.sub_mul]; omega
  obtain ⟨man, hman⟩ : ∃ man, man = b % S - q * H := ⟨_, rfl⟩
  obtain ⟨e0, he0⟩ : ∃ e0 : Int, e0 = l + (q : Int) := ⟨_, rfl⟩
  obtain ⟨s, hs⟩ : ∃ s, s = decide (S ≤ b) := ⟨_, rfl⟩
  rw [← hq, ← hman] at hmn
  rw [← hq, ← he0] at hex
  rw [← hman] at hmn2
  rw [← hs]
  have HX : Hid (b % S - (b % S / H - 1) * H = man ∧ (l + ((b % S / H - 1 : Nat) : Int)) = e0 ∧ decide (S ≤ b) = s) := ⟨by rw [← hq]; exact hman.symm, by rw [← hq]; exact he0.symm, hs.symm⟩
  have HM : Hid (mn < B64 ∧ (-3145728 ≤ ex ∧ ex ≤ 3145728) ∧ 0 < mn) := ⟨by rw [B64_eq]; omega, by omega, by omega⟩
  obtain ⟨dm, hdm⟩ : ∃ dm : Nat, dm = 2 * man := ⟨_, rfl⟩
  have k1 : IntKind.u64.wrap (2 * (man : Int)) = (dm : Int) := by rw [IntKind.wrap_u64]; omega
  have k2 : IntKind.u64.wrap ((dm : Int) + 1) = (mn : Int) := by rw [IntKind.wrap_u64]; omega
  have k3 : IntKind.i64.wrap (e0 - 1) = ex := by rw [hex]; simp [IntKind.wrap, IntKind.signed, IntKind.bits]; omega
  have k4 : wrap64 (e0 - 1) = ex := by rw [hex]; simp only [wrap64]; omega
  clear F hb hr hT hst hlo h9 hp hmn hmn2 hman he0 hs hq hex hdm
  go_enter Tryd.func24, Tryd.ntmps24
  go_wp2_with fail
  obtain ⟨W0, hW0⟩ : ∃ W0, W0 = (w.alloc (.cells #[.bool false, .slice none 0 0, .int .i64 0] 36)) := ⟨_, rfl⟩
  have Xr : Hid (B3q W0 (w.heap.size) (.bool false) (.slice none 0 0) (.int .i64 0)) := by rw [hW0]; exact ⟨by go_simp, by go_simp, by go_simp, by go_simp, by go_simp, by go_simp⟩
  have hb0 : Below w.heap.size w W0 := by rw [hW0]; exact below1 w _
  rw [← hW0]
  clear hW0
  have hbw : Below w.heap.size w w := Below.refl _ _
  obtain ⟨gr, hgr⟩ : ∃ g, g = w.heap.size := ⟨_, rfl⟩
  have HGr : Hid (w.heap.size ≤ gr) := by rw [hgr]; show _ ≤ _; omega
  rw [← hgr] at Xr
  try rw [← hgr]
  clear hgr
  replace hbw := Below.on hbw hb0
  clear hb0
  refine (split_ok HF.out b HR.out.1 HR.out.2 _).mono ?_
  rintro e v1 ⟨rfl, hb1⟩
  rw [HX.out.1, HX.out.2.1, HX.out.2.2]
  replace Xr : Hid _ := Xr.out.below hb1
  replace hbw := Below.on hbw hb1
  clear hb1
  go_wp2_with fail
  refine (word_any mn _ HM.out.1).mono ?_
  rintro e2 v2 ⟨p2, m2, z2, rfl, ho2, hn2, hm2, hb2⟩
  replace Xr : Hid _ := Xr.out.below hb2
  replace hbw := Below.on hbw hb2
  clear hb2
  have Z2 : Hid (ZN v2 s p2 m2 m2 (iv s mn)) := ZN.of (Num.of ho2 hn2 (by omega)) (fun _ => HM.out.2.2)
  clear ho2 hn2 hm2
  go_wp2_with fail
  have HRL : Hid (gr < v2.heap.size ∧ w.heap.size ≤ v2.heap.size) := ⟨Xr.out.lt, hbw.size⟩
  refine (makep Z2.out HM.out.2.1 (TB.out.below hbw)).mono ?_
  rintro e2 v6 ⟨hv, hb6⟩
  obtain ⟨s6, p6, m6, eo, er, rfl, hmp⟩ := hv.open
  clear hv
  replace Xr : Hid _ := Xr.out.below hb6
  replace Z2 : Hid _ := Z2.out.below hb6
  replace hbw := Below.on hbw hb6
  clear hb6
  have M6 : Hid (MP v2.heap.size v6 s6 p6 m6 eo er (iv s mn) (ex)) := hmp
  clear hmp
  obtain ⟨cr0, cr1, cr2, fr0, fr1, fr2⟩ := Xr.out
  have hner : gr < v6.heap.size := World.block_lt_of_cell? v6 _ cr0
  go_wp2_with fail
  refine bodyPost_ret (v := .tuple #[DV s6 p6 m6 m6 eo, .int .i64 er]) (by rw [results_cell_tmp rfl]; go_simp) rfl ⟨(M6.out.set HRL.out.1 HRL.out.2 _ _ _).close, ?_⟩
  exact bSet (bSet (bSet hbw _ _ _ HGr.out) _ _ _ HGr.out) _ _ _ HGr.out
end Go.Proofs.YtkbjehhabklnpaaDoor

namespace Go.Proofs.YtkbjehhabklnpaaDoor
open Go.RowKit Go.Shelf

theorem form_len {z e F g h : Int} (hv : dv z e = dv F g) (h1 : g ≤ h) (h2 : h ≤ e) (hg : -4194304 ≤ g) : (z * 2 ^ (e - h).toNat).natAbs ≤ F.natAbs := by
  rw [dv_shift (show g ≤ e by omega) hg] at hv
  unfold dv at hv
  have h3 := Int.eq_of_mul_eq_mul_right (pow_pos_int _) hv
  rw [← h3, pow_cast, Int.natAbs_mul, Int.natAbs_mul, Int.natAbs_natCast, Int.natAbs_natCast]
  exact Nat.mul_le_mul_left _ (Nat.pow_le_pow_right (by omega) (by omega))
theorem lim_two {P : Nat} (hP : P ≤ 524287) {n : Nat} (h : n ≤ 2 ^ P) : n < LIM := by
  have h1 : 2 ^ P < 2 ^ (P + 1) := Nat.pow_lt_pow_right (by omega) (by omega)
  exact lt_LIM (L := P + 1) (by omega) (by omega)
theorem gap_len {zl el zh eh F C g : Int} {P : Nat} (hl : dv zl el = dv F g) (hh : dv zh eh = dv C g) (hF : F.natAbs ≤ 2 ^ P) (hC : C.natAbs ≤ 2 ^ P) (h1 : g ≤ el) (h2 : g ≤ eh) (hg : -4194304 ≤ g) (hP : P ≤ 90000) :
    (zh * 2 ^ (eh - min eh el).toNat).natAbs < LIM ∧ (zl * 2 ^ (el - min eh el).toNat).natAbs < LIM ∧ (zh * 2 ^ (eh - min eh el).toNat - zl * 2 ^ (el - min eh el).toNat).natAbs < LIM := by
  have a1 := form_len hh (show g ≤ min eh el by omega) (by omega) hg
  have a2 := form_len hl (show g ≤ min eh el by omega) (by omega) hg
  generalize zh * 2 ^ (eh - min eh el).toNat = X at *
  generalize zl * 2 ^ (el - min eh el).toNat = Y at *
  have h3 : (2 : Nat) ^ (P + 1) = 2 * 2 ^ P := by rw [Nat.pow_succ]; omega
  exact ⟨lim_two (P := P) (by omega) (by omega), lim_two (P := P) (by omega) (by omega), lim_two (P := P + 1) (by omega) (by omega)⟩
end Go.Proofs.YtkbjehhabklnpaaDoor

namespace Go.Proofs.YtkbjehhabklnpaaDoor
open Go.RowKit Go.Shelf

structure MF (S I H : Nat) (l : Int) (a : Nat) (za ea zw ew : Int) (man mn : Nat) (ex sg : Int) : Prop where
  va : VF S H l a za ea
  vw : VF S H l (a + 1) zw ew
  hm : man = a % S - (a % S / H - 1) * H
  hn : mn = 2 * man + 1
  he : ex = l + ((a % S / H - 1 : Nat) : Int) - 1
  hl : mn < 18446744073709551616
  fm : DFm (iv (decide (S ≤ a)) mn) ex
  fs : DFm sg ex
  s0 : sg ≠ 0
  d1 : dv sg ex = dv (iv (decide (S ≤ a)) mn) ex - dv za ea
  d2 : dv sg ex = dv zw ew - dv (iv (decide (S ≤ a)) mn) ex
  l1 : iv (decide (S ≤ a)) mn ≠ 0 → za ≠ 0 → (iv (decide (S ≤ a)) mn * 2 ^ (ex - min ex ea).toNat).natAbs < LIM ∧ (za * 2 ^ (ea - min ex ea).toNat).natAbs < LIM ∧ (iv (decide (S ≤ a)) mn * 2 ^ (ex - min ex ea).toNat - za * 2 ^ (ea - min ex ea).toNat).natAbs < LIM
  l2 : zw ≠ 0 → iv (decide (S ≤ a)) mn ≠ 0 → (zw * 2 ^ (ew - min ew ex).toNat).natAbs < LIM ∧ (iv (decide (S ≤ a)) mn * 2 ^ (ex - min ew ex).toNat).natAbs < LIM ∧ (zw * 2 ^ (ew - min ew ex).toNat - iv (decide (S ≤ a)) mn * 2 ^ (ex - min ew ex).toNat).natAbs < LIM
  a2 : a + 1 < 2 * S
  am : (a + 1) % S < I
theorem odd_low {z e F g : Int} (hf : DFm z e) (h0 : z ≠ 0) (hg : -4194304 ≤ g) (hv : dv z e = dv F g) : g ≤ e := by
  rcases hf with ⟨h1, _⟩ | ⟨h1, h2, _⟩
  · exact absurd h1 h0
  · unfold dv at hv
    have := odd_ne h1 hv
    omega
theorem mf_ex {f p m l : Int} {S I H : Nat} (F : Pm f p m l S I H) {a : Nat} (ha : a < 2 * S) (hr : a % S + 1 < I) : ∃ za ea zw ew man mn ex sg, MF S I H l a za ea zw ew man mn ex sg := by
  have hlt := F.fm.lt
  have hp := F.hp
  have h9 := F.h9
  have hlo := F.lo
  have hst := F.st _ (show a % S < I by omega)
  have hd : (a + 1) % S = a % S + 1 := by
    have h1 := Nat.div_add_mod a S
    have : a + 1 = a % S + 1 + S * (a / S) := by omega
    rw [this, Nat.add_mul_mod_self_left, Nat.mod_eq_of_lt (by omega)]
  have ha1 : a + 1 < 2 * S := by
    by_cases h : S ≤ a
    · have := Nat.mod_eq_sub_mod h
      rw [Nat.mod_eq_of_lt (show a - S < S by omega)] at this
      omega
    · rw [Nat.mod_eq_of_lt (by omega)] at hr; omega
  have hsg : S ≤ a + 1 ↔ S ≤ a := by
    constructor
    · intro h
      by_cases h2 : S ≤ a
      · exact h2
      · rw [Nat.mod_eq_of_lt (by omega)] at hr; omega
    · intro h; omega
  obtain ⟨za, ea, v1, v2⟩ := vf_ex F (b := a) (show a % S < I by omega)
  obtain ⟨zw, ew, u1, _⟩ := vf_ex F (b := a + 1) (by rw [hd]; exact hr)
  obtain ⟨q, hq⟩ : ∃ q, q = a % S / H - 1 := ⟨_, rfl⟩
  obtain ⟨man, hman⟩ : ∃ man, man = a % S - q * H := ⟨_, rfl⟩
  obtain ⟨ex, hex⟩ : ∃ ex : Int, ex = l + (q : Int) - 1 := ⟨_, rfl⟩
  have hmn2 : man < 2 * H := by
    have h1 := Nat.div_add_mod (a % S) H
    have h2 := Nat.mod_lt (a % S) hp
    rw [Nat.mul_comm] at h1
    by_cases h3 : a % S / H = 0
    · rw [h3] at h1 hq; rw [hq] at hman; omega
    · rw [hman, hq, Nat.sub_mul]; omega
  have hvn := vs_next hp (a % S)
  have hvs : vs H (a % S) = man * 2 ^ q := by unfold vs; rw [← hq, ← hman]
  rw [hvs, ← hq] at hvn
  rw [← hq] at hst
  obtain ⟨sg, hsgd⟩ : ∃ sg : Int, sg = iv (decide (S ≤ a)) 1 := ⟨_, rfl⟩
  have t1 : dv za ea = dv (iv (decide (S ≤ a)) (2 * man)) ex := by
    rw [v1.v, svS_eq, hvs]
    have : ∀ x : Int, dv (x * 2) ex = dv x (ex + ((1 : Nat) : Int)) := fun x => by rw [dv_up 1 (by omega)]; rfl
    have e1 : iv (decide (S ≤ a)) (2 * man) = iv (decide (S ≤ a)) man * 2 := by cases decide (S ≤ a) <;> simp [iv] <;> omega
    rw [e1, this, show ex + ((1 : Nat) : Int) = l + (q : Int) from by omega, dv_up q (by omega)]
    congr 1
    by_cases h : S ≤ a
    · rw [if_pos h, decide_eq_true h, iv_t, Int.neg_mul, ← Int.natCast_mul]
    · rw [if_neg h, decide_eq_false h, iv_f, ← Int.natCast_mul]
  have t2 : dv zw ew = dv (iv (decide (S ≤ a)) (2 * man + 2)) ex := by
    rw [u1.v, svS_eq, hd, hvn]
    have : ∀ x : Int, dv (x * 2) ex = dv x (ex + ((1 : Nat) : Int)) := fun x => by rw [dv_up 1 (by omega)]; rfl
    have e1 : iv (decide (S ≤ a)) (2 * man + 2) = iv (decide (S ≤ a)) (man + 1) * 2 := by cases decide (S ≤ a) <;> simp [iv] <;> omega
    have e2 : man * 2 ^ q + 2 ^ q = (man + 1) * 2 ^ q := by rw [Nat.add_mul, Nat.one_mul]
    rw [e1, this, show ex + ((1 : Nat) : Int) = l + (q : Int) from by omega, dv_up q (by omega), e2]
    congr 1
    by_cases h : S ≤ a
    · rw [if_pos (hsg.2 h), decide_eq_true h, iv_t, Int.neg_mul, ← Int.natCast_mul]
    · rw [if_neg (fun h2 => h (hsg.1 h2)), decide_eq_false h, iv_f, ← Int.natCast_mul]
  have hodd : iv (decide (S ≤ a)) (2 * man + 1) % 2 = 1 := by cases decide (S ≤ a) <;> simp [iv] <;> omega
  have hP : ∀ n : Nat, n ≤ 2 * man + 2 → (iv (decide (S ≤ a)) n).natAbs ≤ 2 ^ 56 := by
    intro n hn
    have : (2 : Nat) ^ 56 = 72057594037927936 := by decide
    rw [iv_natAbs, this]
    omega
  have p1 : dv (iv (decide (S ≤ a)) (2 * man + 1)) ex = dv sg ex + dv (iv (decide (S ≤ a)) (2 * man)) ex := by
    rw [← dv_add, hsgd]; congr 1; cases decide (S ≤ a) <;> simp [iv] <;> omega
  have p2 : dv (iv (decide (S ≤ a)) (2 * man + 2)) ex = dv sg ex + dv (iv (decide (S ≤ a)) (2 * man + 1)) ex := by
    rw [← dv_add, hsgd]; congr 1; cases decide (S ≤ a) <;> simp [iv] <;> omega
  refine ⟨za, ea, zw, ew, man, 2 * man + 1, ex, sg, ⟨v1, u1, by rw [hman, hq], rfl, by rw [hex, hq], by omega, .inr ⟨hodd, by omega, by omega⟩, .inr ⟨by rw [hsgd]; cases decide (S ≤ a) <;> decide, by omega, by omega⟩, by rw [hsgd]; cases decide (S ≤ a) <;> decide, by rw [t1]; omega, by rw [t2]; omega, fun _ h2 => ?_, fun h2 _ => ?_, ha1, by rw [hd]; exact hr⟩⟩
  · exact gap_len (P := 56) t1 rfl (hP _ (by omega)) (hP _ (by omega)) (odd_low v1.fm h2 (by omega) t1) (Int.le_refl _) (by omega) (by omega)
  · exact gap_len (P := 56) rfl t2 (hP _ (by omega)) (hP _ (by omega)) (Int.le_refl _) (odd_low u1.fm h2 (by omega) t2) (by omega) (by omega)
end Go.Proofs.YtkbjehhabklnpaaDoor

