import Derived.Test.YtoalblaklcekeaaGreatDoorJ21
import Derived.Test.YtoalblaklcekeaaGreatDoorJ22
import Derived.Test.YtoalblaklcekeaaGreatDoorJ20
namespace Go.Proofs.YtoalblaklcekeaaGreatDoor
open Go.RowKit Go.Shelf

set_option maxRecDepth 20000 in
set_option maxHeartbeats 8000000 in
theorem rpow2t (w : World) (k : Nat) (hk : k ≤ 524288) :
    Calls Tryz.prog 110 #[.int .i64 k] w fun e w' => ∃ p' m' zs, e = .returned (.slice p' m' m') ∧ At32 w' p' m' m' zs ∧ Nf B32 zs (2 ^ k) ∧ m' ≤ 40000 ∧ Below w.heap.size w w' := by
  have HK : Hid (k ≤ 524288) := hk
  clear hk
  have hbw : Below w.heap.size w w := Below.refl _ _
  go_enter Tryz.func110, Tryz.ntmps110
  go_wp2_with fail
  refine (rword 1 (by rw [B64_eq]; decide) _).mono ?_
  rintro e v4 ⟨g4, z4, rfl, hl4, hA4, hN4, hb4⟩
  replace hbw := Below.on hbw hb4
  clear hb4
  have A4 : Hid (At32 v4 (some ⟨g4, 0, none⟩) z4.length z4.length z4) := hA4
  have N4 : Hid (Nf B32 z4 1 ∧ z4.length ≤ 2) := ⟨hN4, hl4⟩
  clear hA4 hN4 hl4
  go_wp2_with fail
  refine (rshl_all A4.out N4.out.1 (by have := N4.out; omega) k (.inl HK.out)).mono ?_
  rintro e v5 ⟨p5, m5, z5, rfl, hA5, hN5, hl5, hb5⟩
  replace A4 : Hid _ := A4.out.below hb5
  replace hbw := Below.on hbw hb5
  clear hb5
  have A5 : Hid (At32 v5 p5 m5 m5 z5) := hA5
  have N5 : Hid (Nf B32 z5 (2 ^ k) ∧ m5 ≤ 40000) := ⟨by rw [Nat.one_mul] at hN5; exact hN5, hl5⟩
  clear hA5 hN5 hl5
  go_wp2_with fail
  go_ret
  exact ⟨p5, m5, z5, rfl, A5.out, N5.out.1, N5.out.2, hbw⟩
set_option maxRecDepth 20000 in
set_option maxHeartbeats 4000000 in
theorem rfitst {p : Option Addr} {n c : Nat} {xs : List Nat} {w : World} (h : At32 w p n c xs) (hn : n ≤ 35184372088832) :
    Calls Tryz.prog 161 #[.slice p n c] w fun e w' => e = .returned (if valB B32 xs < B64 then .tuple #[U (valB B32 xs), .bool true] else .tuple #[.int .u64 0, .bool false]) ∧ Below w.heap.size w w' := by
  have H : Hid (At32 w p n c xs) := h
  clear h
  obtain ⟨rv, hrv⟩ : ∃ rv : Value, rv = (if valB B32 xs < B64 then .tuple #[U (valB B32 xs), .bool true] else .tuple #[.int .u64 0, .bool false]) := ⟨_, rfl⟩
  rw [← hrv]
  have HRV : Hid (rv = (if valB B32 xs < B64 then .tuple #[U (valB B32 xs), .bool true] else .tuple #[.int .u64 0, .bool false])) := hrv
  clear hrv
  go_enter Tryz.func161, Tryz.ntmps161
  go_wp2_with fail
  refine (rto_any H.out hn).mono ?_
  rintro e w1 ⟨g1, k1, N1, us, rfl, hg1, hA1, hn1, hb1⟩
  have hl := hA1.len
  match k1, us, hl with
  | 0, [], _ =>
    have HV : Hid (valB B32 xs = 0) := by show _ = _; rw [← hn1.val]; rfl
    clear hA1 hn1 hg1
    go_wp2_with fail
    go_ret2
    refine ⟨?_, hb1⟩
    rw [HRV.out, HV.out, if_pos (by rw [B64_eq]; decide)]
    rfl
  | 1, [u], _ =>
    have HV : Hid (valB B32 xs = u ∧ u < B64) := ⟨by rw [← hn1.val]; simp [valB], hA1.dig u (by simp)⟩
    have hc := hA1.cellAt 0 (by omega)
    have hc2 : w1.cell? ⟨g1, 0, none⟩ = some (U u) := hc
    have hlt := World.block_lt_of_cell? w1 _ hc2
    clear hA1 hn1 hg1 hc
    go_wp2_with fail
    go_ret2
    refine ⟨?_, hb1⟩
    rw [HRV.out, HV.out.1, if_pos HV.out.2]
    rfl
  | k + 2, us, hl =>
    have HV : Hid (¬ valB B32 xs < B64) := by
      intro hlt
      have := (hn1.len_le B64_one (k := 1)).2 (by rw [Nat.pow_one]; exact hlt)
      omega
    have h0 : (((k + 2 : Nat) : Int) == 0) = false := by simp; omega
    have h1 : (((k + 2 : Nat) : Int) == 1) = false := by simp; omega
    clear hA1 hn1 hg1
    go_wp2_with fail
    go_ret2
    refine ⟨?_, hb1⟩
    rw [HRV.out, if_neg HV.out]
    rfl
set_option maxRecDepth 20000 in
set_option maxHeartbeats 4000000 in
theorem rint04_pt {p : Option Addr} {m : Nat} {w : World} {z : Int}  (h : ZR w false p m z) (hm : m ≤ 50000) (ha : z.natAbs < 9223372036854775808) (ha2 : z = (z.natAbs : Int)) :
    Calls Tryz.prog 118 #[.agg #[.bool false, .slice p m m]] w fun e w' => e = .returned (.tuple #[.int .i64 z, .bool true]) ∧ Below w.heap.size w w' := by
  obtain ⟨xs, hA, hN⟩ := h.ex
  have HA : Hid (At32 w p m m xs) := hA
  have HM : Hid (m ≤ 50000) := hm
  obtain ⟨v, hv⟩ : ∃ v, v = valB B32 xs := ⟨_, rfl⟩
  have HV : Hid (v = valB B32 xs) := hv
  have hvz : v = z.natAbs := by rw [hv]; exact hN.val
  clear h hA hm hN hv
  have HVB : Hid (v < B64) := by show _ < _; rw [B64_eq]; omega
  have f2 : decide ((9223372036854775808 : Int) ≤ (v : Int)) = false := decide_eq_false (by omega)
  have f3 : decide (9223372036854775808 ≤ v) = false := decide_eq_false (by omega)
  have d4 : ¬ 9223372036854775808 ≤ v := by omega
  have f4 : wrap64 (v : Int) = (v : Int) := by simp only [wrap64]; omega
  have f6 : z = (v : Int) := by omega
  have F6 : Hid (z = (v : Int)) := f6
  clear ha ha2 hvz f6
  go_enter Tryz.func118, Tryz.ntmps118
  go_wp2_with fail
  obtain ⟨W0, hW0⟩ : ∃ W0, W0 = (w.alloc (.cells #[.bool false, .slice p m m] 110)) := ⟨_, rfl⟩
  have Xa : Hid (Box W0 (w.heap.size) (.bool false) (.slice p m m)) := by rw [hW0]; exact ⟨by go_simp, by go_simp, by go_simp, by go_simp⟩
  have hb0 : Below w.heap.size w W0 := by rw [hW0]; exact below1 w _
  rw [← hW0]
  clear hW0
  have hbw : Below w.heap.size w w := Below.refl _ _
  obtain ⟨ga, hga⟩ : ∃ g, g = w.heap.size := ⟨_, rfl⟩
  have HGa : Hid (w.heap.size ≤ ga) := by rw [hga]; show _ ≤ _; omega
  rw [← hga] at Xa
  try rw [← hga]
  clear hga
  replace HA : Hid _ := HA.out.below hb0
  replace hbw := Below.on hbw hb0
  clear hb0
  refine (rfitst HA.out (by have := HM.out; omega)).mono ?_
  rintro e v1 ⟨rfl, hb1⟩
  rw [← HV.out, if_pos HVB.out]
  replace Xa : Hid _ := Xa.out.below hb1
  replace HA : Hid _ := HA.out.below hb1
  replace hbw := Below.on hbw hb1
  clear hb1
  obtain ⟨ca0, ca1, fa0, fa1⟩ := Xa.out
  have hnea := Xa.out.lt
  go_wp2_with fail
  clear ca0 ca1 fa0 fa1 hnea
  go_ret2
  refine ⟨?_, hbw⟩
  rw [F6.out]
  rfl
theorem zr_len {w : World} {s : Bool} {p : Option Addr} {m : Nat} {z : Int} (h : ZR w s p m z) {L : Nat} (hL : z.natAbs < 2 ^ L) : m ≤ L := by
  obtain ⟨zs, hA, hN⟩ := h.ex
  have h1 := (hN.len_le B32_one (k := L)).2 (Nat.lt_of_lt_of_le hL (Nat.pow_le_pow_left (by decide) L))
  rw [hA.len] at h1
  exact h1
theorem number64 {b : Nat} (hr : b % 9223372036854775808 < 9218868437227405312) {z e : Int} (hv : VF 9223372036854775808 4503599627370496 (-1074) b z e) (w : World) : Calls Tryz.prog 107 #[.int .i64 64, U b] w fun en w' => ∃ s p m, en = .returned (.tuple #[.agg #[.bool s, .slice p m m], .int .i64 e]) ∧ ZR w' s p m z ∧ m ≤ 2 ∧ Below w.heap.size w w' := by
  by_cases h0 : b % 9223372036854775808 - (b % 9223372036854775808 / 4503599627370496 - 1) * 4503599627370496 = 0
  · exact number_z64 hr hv h0 w
  · exact number_n64 hr hv h0 w
theorem results_cct {fn : Func} {p q a : Tmp} {t1 t2 : TypeId} (h : fn.results = #[.cell p t1, .cell q t2, .tmp a]) (tmps : Array Value) (P : Program) (w : World) :
    (results fn tmps).run P w = ((asAddr (tmps.getD p undef)).run P w).andThen fun x w₁ => ((loadVar t1 x).run P w₁).andThen fun v w₂ => ((asAddr (tmps.getD q undef)).run P w₂).andThen fun y w₃ => ((loadVar t2 y).run P w₃).andThen fun u w₄ => .ok (.tuple #[v, u, tmps.getD a undef]) w₄ := by
  simp only [results, h]
  simp [Sem.run_bind, Result.andThen]
theorem split_e0 {z e : Int} {N : Nat} (he : 0 ≤ e) (hN : N = e.toNat + 1) : dv 0 0 = dv z e - 2 * (z * 2 ^ N) * UQ ∧ -UQ ≤ dv 0 0 ∧ dv 0 0 < UQ := by
  have hp := uq_pos
  have h1 : dv z e = 2 * (z * 2 ^ N) * UQ := by
    rw [dv_ge (by omega), show (e + 2).toNat = N + 1 from by omega, pow_cast, Nat.pow_succ, Int.natCast_mul, show ((2 : Nat) : Int) = 2 from rfl]
    congr 1
    rw [← Int.mul_assoc, Int.mul_comm]
  rw [h1, dv_zero]
  omega
theorem rFs_eq (x : Int) (k : Nat) : rFs x k = x / ((2 ^ k : Nat) : Int) := fl_eq x _ (Nat.two_pow_pos k)
theorem rFs_abs (x : Int) (k : Nat) : (rFs x k).natAbs ≤ x.natAbs := by
  rw [rFs_eq, ← rd_f]
  exact rd_abs x (Nat.two_pow_pos k)
theorem split_en {z e K : Int} {N : Nat} (he : e = -(N : Int)) (_h1 : 1 ≤ N) (h2 : N ≤ 1430) (hK : K = rFs (z * 2 ^ 2 + ((2 ^ N : Nat) : Int)) (N + 1)) : dv (z * 2 ^ 1 - K * ((2 ^ N : Nat) : Int)) (e - 1) = dv z e - 2 * K * UQ ∧ -UQ ≤ dv (z * 2 ^ 1 - K * ((2 ^ N : Nat) : Int)) (e - 1) ∧ dv (z * 2 ^ 1 - K * ((2 ^ N : Nat) : Int)) (e - 1) < UQ := by
  have hd0 : 0 < 2 ^ (N + 1) := Nat.two_pow_pos _
  have hr := rd_down (z * 2 ^ 2 + ((2 ^ N : Nat) : Int)) hd0
  rw [rd_f, ← rFs_eq, ← hK, Nat.pow_succ, Int.natCast_mul, show ((2 : Nat) : Int) = 2 from rfl] at hr
  obtain ⟨U1, hU1⟩ : ∃ U1, U1 = dv 1 (e - 2) := ⟨_, rfl⟩
  have hUp : 0 < U1 := by
    rw [hU1]
    rcases dv3 1 (e - 2) with ⟨h, _⟩ | ⟨h, _⟩ | ⟨_, h⟩
    · exact absurd h (by decide)
    · exact absurd h (by decide)
    · exact h
  have hm : ∀ y : Int, dv y (e - 2) = y * U1 := by intro y; rw [hU1]; unfold dv; rw [Int.one_mul]
  have a1 : UQ = ((2 ^ N : Nat) : Int) * U1 := by
    unfold UQ
    rw [dv_shift (z := 1) (e := -2) (f := e - 2) (by omega) (by omega), Int.one_mul, show (-2 - (e - 2)).toNat = N from by omega, hm]
  have a2 : dv z e = (z * 4) * U1 := by
    rw [dv_shift (f := e - 2) (by omega) (by omega), show (e - (e - 2)).toNat = 2 from by omega, hm]; rfl
  have a3 : dv (z * 2 ^ 1 - K * ((2 ^ N : Nat) : Int)) (e - 1) = ((z * 2 ^ 1 - K * ((2 ^ N : Nat) : Int)) * 2) * U1 := by
    rw [dv_shift (f := e - 2) (by omega) (by omega), show (e - 1 - (e - 2)).toNat = 1 from by omega, hm]; rfl
  rw [a3, a2, a1]
  rw [show (2 : Int) ^ 2 = 4 from rfl] at hr
  rw [show (2 : Int) ^ 1 = 2 from rfl]
  have e1 : K * (((2 ^ N : Nat) : Int) * 2) = 2 * (K * ((2 ^ N : Nat) : Int)) := by rw [← Int.mul_assoc, Int.mul_comm]
  have e2 : (K + 1) * (((2 ^ N : Nat) : Int) * 2) = 2 * (K * ((2 ^ N : Nat) : Int)) + 2 * ((2 ^ N : Nat) : Int) := by rw [Int.add_mul, e1, Int.one_mul, Int.mul_comm _ 2]
  rw [e1, e2] at hr
  have e3 : 2 * K * (((2 ^ N : Nat) : Int) * U1) = (2 * (K * ((2 ^ N : Nat) : Int))) * U1 := by rw [← Int.mul_assoc, Int.mul_assoc 2 K]
  rw [e3]
  generalize K * ((2 ^ N : Nat) : Int) = Y at *
  generalize ((2 ^ N : Nat) : Int) = T at *
  refine ⟨by rw [← Int.sub_mul]; congr 1; omega, ?_, ?_⟩
  · rw [← Int.neg_mul]; exact Int.mul_le_mul_of_nonneg_right (by omega) (Int.le_of_lt hUp)
  · exact Int.mul_lt_mul_of_pos_right (by omega) hUp
theorem split_bn {z e K : Int} {N L : Nat} (hL : 4000 ≤ L) (hb : DB z e 128 1430) (hN : N ≤ 1430) (hK : K.natAbs < 2 ^ (N + 132)) : K.natAbs < 2 ^ L ∧ (z * 2 ^ 1 - K * ((2 ^ N : Nat) : Int)).natAbs < 2 ^ L := by
  refine ⟨Nat.lt_of_lt_of_le hK (Nat.pow_le_pow_right (by omega) (by omega)), ?_⟩
  have h1 : (z * 2 ^ 1).natAbs < 2 ^ (N + 132 + N) := Nat.lt_of_lt_of_le (shl_bound hb.sz (Nat.le_refl 1)) (Nat.pow_le_pow_right (by omega) (by omega))
  have h2 : (-(K * ((2 ^ N : Nat) : Int))).natAbs < 2 ^ (N + 132 + N) := by
    rw [Int.natAbs_neg, ← pow_cast]
    exact shl_bound hK (Nat.le_refl N)
  have h3 := sum_bound h1 h2
  rw [← Int.sub_eq_add_neg] at h3
  exact Nat.lt_of_lt_of_le h3 (Nat.pow_le_pow_right (by omega) (by omega))
theorem sum_len {z e : Int} {N : Nat} (hb : DB z e 128 1430) (hN : N ≤ 1430) : (z * 2 ^ 2 + ((2 ^ N : Nat) : Int)).natAbs < 2 ^ (N + 132) := by
  have h1 := shl_bound hb.sz (Nat.le_refl 2)
  have h2 : (z * 2 ^ 2).natAbs < 2 ^ (N + 131) := Nat.lt_of_lt_of_le h1 (Nat.pow_le_pow_right (by omega) (by omega))
  have h3 : (((2 ^ N : Nat) : Int)).natAbs < 2 ^ (N + 131) := by rw [Int.natAbs_natCast]; exact (Nat.pow_lt_pow_iff_right (by decide)).2 (by omega)
  exact sum_bound h2 h3
theorem split_b0 {z e : Int} {N L : Nat} (hL : 4000 ≤ L) (hb : DB z e 128 1430) (hN : N ≤ 1431) : (z * 2 ^ N).natAbs < 2 ^ L ∧ (0 : Int).natAbs < 2 ^ L := by
  refine ⟨Nat.lt_of_lt_of_le (shl_bound hb.sz (Nat.le_refl N)) (Nat.pow_le_pow_right (by omega) (by omega)), Nat.two_pow_pos L⟩
set_option maxRecDepth 20000 in
set_option maxHeartbeats 8000000 in
theorem split_p {L : Nat} (hL : 4000 ≤ L) {b : Nat} (hr : b % 9223372036854775808 < 9218868437227405312) {z e : Int} (hv : VF 9223372036854775808 4503599627370496 (-1074) b z e) (he : 0 ≤ e) (w : World) :
    Calls Tryz.prog 60 #[U b] w fun en w' => ∃ K R E s1 g1 m1 s2 p2 m2, en = .returned (.tuple #[.agg #[.bool s1, .slice (some ⟨g1, 0, none⟩) m1 m1], .agg #[.bool s2, .slice p2 m2 m2], .int .i64 E]) ∧ ZR w' s1 (some ⟨g1, 0, none⟩) m1 K ∧ ZR w' s2 p2 m2 R ∧ (dv R E = dv z e - 2 * K * UQ ∧ -UQ ≤ dv R E ∧ dv R E < UQ) ∧ (K.natAbs < 2 ^ L ∧ R.natAbs < 2 ^ L) ∧ (-1431 ≤ E ∧ E ≤ 1431) ∧ Below w.heap.size w w' := by
  have HV : Hid (b % 9223372036854775808 < 9218868437227405312 ∧ VF 9223372036854775808 4503599627370496 (-1074) b z e ∧ DB z e 128 1430) := ⟨hr, hv, vf_dbt jn_64 hr hv⟩
  have HLL : Hid (4000 ≤ L) := hL
  clear hL
  obtain ⟨N, hN⟩ : ∃ N : Nat, N = e.toNat + 1 := ⟨_, rfl⟩
  have hhi := (vf_dbt jn_64 hr hv).hi
  have hge : decide (0 ≤ e) = true := decide_eq_true he
  have w1 : wrap64 (e + 1) = (N : Int) := by simp only [wrap64]; omega
  have w2 : IntKind.i64.wrap (e + 1) = (N : Int) := by simp [IntKind.wrap, IntKind.signed, IntKind.bits]; omega
  have HN : Hid (N = e.toNat + 1 ∧ 0 ≤ e ∧ N ≤ 1431) := ⟨hN, he, by omega⟩
  clear hr hv he hN hhi
  go_enter Tryz.func60, Tryz.ntmps60
  go_wp2_with fail
  obtain ⟨W0, hW0⟩ : ∃ W0, W0 = ((w.alloc (.cells #[.bool false, .slice none 0 0] 110)).alloc (.cells #[.bool false, .slice none 0 0] 110)) := ⟨_, rfl⟩
  have Xr : Hid (Box W0 (w.heap.size) (.bool false) (.slice none 0 0)) := by rw [hW0]; exact ⟨by go_simp, by go_simp, by go_simp, by go_simp⟩
  have Xq : Hid (Box W0 (w.heap.size + 1) (.bool false) (.slice none 0 0)) := by rw [hW0]; exact ⟨by go_simp, by go_simp, by go_simp, by go_simp⟩
  have hb0 : Below w.heap.size w W0 := by rw [hW0]; exact below2 w _ _
  rw [← hW0]
  clear hW0
  have hbw : Below w.heap.size w w := Below.refl _ _
  obtain ⟨gq, hgq⟩ : ∃ g, g = w.heap.size + 1 := ⟨_, rfl⟩
  have HGq : Hid (w.heap.size ≤ gq) := by rw [hgq]; show _ ≤ _; omega
  rw [← hgq] at Xq
  try rw [← hgq]
  obtain ⟨gr, hgr⟩ : ∃ g, g = w.heap.size := ⟨_, rfl⟩
  have HGr : Hid (w.heap.size ≤ gr) := by rw [hgr]; show _ ≤ _; omega
  rw [← hgr] at Xr
  try rw [← hgr]
  have HGD : Hid (gr ≠ gq ∧ gq ≠ gr) := by rw [hgr, hgq]; exact ⟨by omega, by omega⟩
  clear hgr hgq
  replace hbw := Below.on hbw hb0
  clear hb0
  refine (number64 HV.out.1 HV.out.2.1 _).mono ?_
  rintro e9 v1 ⟨s1, p1, m1, rfl, hz1, hl1, hb1⟩
  replace Xr : Hid _ := Xr.out.below hb1
  replace Xq : Hid _ := Xq.out.below hb1
  replace hbw := Below.on hbw hb1
  clear hb1
  have Z1 : Hid (ZR v1 s1 p1 m1 z) := hz1
  have HL1 : Hid (m1 ≤ 2) := hl1
  clear hz1 hl1
  go_wp2_with fail
  have Xm0 : Hid (Box (v1.alloc (.cells #[.bool s1, .slice p1 m1 m1] 110)) v1.heap.size (.bool s1) (.slice p1 m1 m1)) := Box.new v1 _ _ _
  have hbn : Below v1.heap.size v1 (v1.alloc (.cells #[.bool s1, .slice p1 m1 m1] 110)) := below1 v1 _
  generalize v1.alloc (.cells #[.bool s1, .slice p1 m1 m1] 110) = Wm at *
  have HGm : Hid (w.heap.size ≤ v1.heap.size) := hbw.size
  replace Xr : Hid _ := Xr.out.below hbn
  replace Xq : Hid _ := Xq.out.below hbn
  replace Z1 : Hid _ := Z1.out.below hbn
  replace hbw := Below.on hbw hbn
  clear hbn
  generalize v1.heap.size = gm at *
  have Xm := Xm0
  clear Xm0
  have HRB : Hid (gr < Wm.heap.size ∧ w.heap.size ≤ Wm.heap.size) := ⟨Xr.out.lt, hbw.size⟩
  have HQB : Hid (gq < Wm.heap.size) := Xq.out.lt
  refine (rshl04 s1 Z1.out (by have := HL1.out; omega) N (.inl (by have := HN.out; omega))).mono ?_
  rintro e v3 ⟨v, rfl, hv, hb3⟩
  obtain ⟨s3, g3, m3, rfl, hg3, hz3, hl3⟩ := hv
  have HN3 : Hid (Wm.heap.size ≤ g3) := hg3
  have HB3 : Hid (Wm.heap.size ≤ v3.heap.size) := hb3.size
  replace Xr : Hid _ := Xr.out.below hb3
  replace Xq : Hid _ := Xq.out.below hb3
  replace Xm : Hid _ := Xm.out.below hb3
  replace Z1 : Hid _ := Z1.out.below hb3
  replace hbw := Below.on hbw hb3
  clear hb3
  have Z3 : Hid (ZR v3 s3 (some ⟨g3, 0, none⟩) m3 (z * 2 ^ N)) := hz3
  have HL3 : Hid (m3 ≤ 40000) := hl3
  clear hz3 hl3 hg3
  obtain ⟨hgd0, hgd1⟩ := HGD.out
  obtain ⟨cr0, cr1, fr0, fr1⟩ := Xr.out
  have hner := Xr.out.lt
  obtain ⟨cq0, cq1, fq0, fq1⟩ := Xq.out
  have hneq := Xq.out.lt
  go_wp2_with fail
  refine bodyPost_ret (v := .tuple #[.agg #[.bool s3, .slice (some ⟨g3, 0, none⟩) m3 m3], .agg #[.bool false, .slice none 0 0], .int .i64 0]) (by rw [results_cct rfl]; go_simp) rfl ⟨z * 2 ^ N, 0, 0, s3, g3, m3, false, none, 0, rfl, ?_, ⟨⟨[], At32.empty _ _ 0 (by decide), Nf.nil _⟩, rfl⟩, ?_, ?_, by decide, ?_⟩
  · have h9 := HN3.out
    have h8 := HRB.out
    have h7 := HQB.out
    exact (((Z3.out.set _ _ _ (by omega)).set _ _ _ (by omega)).set _ _ _ (by omega)).set _ _ _ (by omega)
  · exact split_e0 HN.out.2.1 HN.out.1
  · exact split_b0 HLL.out HV.out.2.2 HN.out.2.2
  · exact bSet (bSet (bSet (bSet hbw _ _ _ HGr.out) _ _ _ HGr.out) _ _ _ HGq.out) _ _ _ HGq.out
set_option maxRecDepth 20000 in
set_option maxHeartbeats 8000000 in
theorem split_n {L : Nat} (hL : 4000 ≤ L) {b : Nat} (hr : b % 9223372036854775808 < 9218868437227405312) {z e : Int} (hv : VF 9223372036854775808 4503599627370496 (-1074) b z e) (he : e < 0) (w : World) :
    Calls Tryz.prog 60 #[U b] w fun en w' => ∃ K R E s1 g1 m1 s2 p2 m2, en = .returned (.tuple #[.agg #[.bool s1, .slice (some ⟨g1, 0, none⟩) m1 m1], .agg #[.bool s2, .slice p2 m2 m2], .int .i64 E]) ∧ ZR w' s1 (some ⟨g1, 0, none⟩) m1 K ∧ ZR w' s2 p2 m2 R ∧ (dv R E = dv z e - 2 * K * UQ ∧ -UQ ≤ dv R E ∧ dv R E < UQ) ∧ (K.natAbs < 2 ^ L ∧ R.natAbs < 2 ^ L) ∧ (-1431 ≤ E ∧ E ≤ 1431) ∧ Below w.heap.size w w' := by
  have HV : Hid (b % 9223372036854775808 < 9218868437227405312 ∧ VF 9223372036854775808 4503599627370496 (-1074) b z e ∧ DB z e 128 1430) := ⟨hr, hv, vf_dbt jn_64 hr hv⟩
  have HLL : Hid (4000 ≤ L) := hL
  clear hL
  obtain ⟨N, hN⟩ : ∃ N : Nat, N = (-e).toNat := ⟨_, rfl⟩
  have hlo := (vf_dbt jn_64 hr hv).lo
  have hge : decide (0 ≤ e) = false := decide_eq_false (by omega)
  have w1 : wrap64 (-e) = (N : Int) := by simp only [wrap64]; omega
  have w2 : IntKind.i64.wrap (-e) = (N : Int) := by simp [IntKind.wrap, IntKind.signed, IntKind.bits]; omega
  have w3 : wrap64 (1 - e) = ((N + 1 : Nat) : Int) := by simp only [wrap64]; omega
  have w4 : IntKind.i64.wrap (1 - e) = ((N + 1 : Nat) : Int) := by simp [IntKind.wrap, IntKind.signed, IntKind.bits]; omega
  have w5 : wrap64 (e - 1) = e - 1 := by simp only [wrap64]; omega
  have w6 : IntKind.i64.wrap (e - 1) = e - 1 := by simp [IntKind.wrap, IntKind.signed, IntKind.bits]; omega
  have HN : Hid (e = -(N : Int) ∧ 1 ≤ N ∧ N ≤ 1430) := ⟨by omega, by omega, by omega⟩
  clear hr hv he hN hlo
  go_enter Tryz.func60, Tryz.ntmps60
  go_wp2_with fail
  obtain ⟨W0, hW0⟩ : ∃ W0, W0 = ((w.alloc (.cells #[.bool false, .slice none 0 0] 110)).alloc (.cells #[.bool false, .slice none 0 0] 110)) := ⟨_, rfl⟩
  have Xr : Hid (Box W0 (w.heap.size) (.bool false) (.slice none 0 0)) := by rw [hW0]; exact ⟨by go_simp, by go_simp, by go_simp, by go_simp⟩
  have Xq : Hid (Box W0 (w.heap.size + 1) (.bool false) (.slice none 0 0)) := by rw [hW0]; exact ⟨by go_simp, by go_simp, by go_simp, by go_simp⟩
  have hb0 : Below w.heap.size w W0 := by rw [hW0]; exact below2 w _ _
  rw [← hW0]
  clear hW0
  have hbw : Below w.heap.size w w := Below.refl _ _
  obtain ⟨gq, hgq⟩ : ∃ g, g = w.heap.size + 1 := ⟨_, rfl⟩
  have HGq : Hid (w.heap.size ≤ gq) := by rw [hgq]; show _ ≤ _; omega
  rw [← hgq] at Xq
  try rw [← hgq]
  obtain ⟨gr, hgr⟩ : ∃ g, g = w.heap.size := ⟨_, rfl⟩
  have HGr : Hid (w.heap.size ≤ gr) := by rw [hgr]; show _ ≤ _; omega
  rw [← hgr] at Xr
  try rw [← hgr]
  have HGD : Hid (gr ≠ gq ∧ gq ≠ gr) := by rw [hgr, hgq]; exact ⟨by omega, by omega⟩
  clear hgr hgq
  replace hbw := Below.on hbw hb0
  clear hb0
  refine (number64 HV.out.1 HV.out.2.1 _).mono ?_
  rintro e9 v1 ⟨s1, p1, m1, rfl, hz1, hl1, hb1⟩
  replace Xr : Hid _ := Xr.out.below hb1
  replace Xq : Hid _ := Xq.out.below hb1
  replace hbw := Below.on hbw hb1
  clear hb1
  have Z1 : Hid (ZR v1 s1 p1 m1 z) := hz1
  have HL1 : Hid (m1 ≤ 2) := hl1
  clear hz1 hl1
  go_wp2_with fail
  have HDrm : Hid (gr ≠ v1.heap.size) := Nat.ne_of_lt Xr.out.lt
  have HDqm : Hid (gq ≠ v1.heap.size) := Nat.ne_of_lt Xq.out.lt
  have Xm0 : Hid (Box (v1.alloc (.cells #[.bool s1, .slice p1 m1 m1] 110)) v1.heap.size (.bool s1) (.slice p1 m1 m1)) := Box.new v1 _ _ _
  have hbn : Below v1.heap.size v1 (v1.alloc (.cells #[.bool s1, .slice p1 m1 m1] 110)) := below1 v1 _
  generalize v1.alloc (.cells #[.bool s1, .slice p1 m1 m1] 110) = Wm at *
  have HGm : Hid (w.heap.size ≤ v1.heap.size) := hbw.size
  replace Xr : Hid _ := Xr.out.below hbn
  replace Xq : Hid _ := Xq.out.below hbn
  replace Z1 : Hid _ := Z1.out.below hbn
  replace hbw := Below.on hbw hbn
  clear hbn
  generalize v1.heap.size = gm at *
  have Xm := Xm0
  clear Xm0
  refine (rpow2t _ N (by have := HN.out; omega)).mono ?_
  rintro e9 v2 ⟨p2, m2, z2, rfl, hA2, hN2, hl2, hb2⟩
  replace Xr : Hid _ := Xr.out.below hb2
  replace Xq : Hid _ := Xq.out.below hb2
  replace Xm : Hid _ := Xm.out.below hb2
  replace Z1 : Hid _ := Z1.out.below hb2
  replace hbw := Below.on hbw hb2
  clear hb2
  have A2 : Hid (At32 v2 p2 m2 m2 z2) := hA2
  have N2 : Hid (Nf B32 z2 (2 ^ N) ∧ m2 ≤ 40000) := ⟨hN2, hl2⟩
  clear hA2 hN2 hl2
  go_wp2_with fail
  refine (rmk_any false A2.out N2.out.1 (by have := N2.out; omega)).mono ?_
  rintro e v3 ⟨v, rfl, hv, hb3⟩
  obtain ⟨s3, g3, m3, rfl, hg3, hz3, hl3⟩ := hv
  have HN3 : Hid (v2.heap.size ≤ g3) := hg3
  have HB3 : Hid (v2.heap.size ≤ v3.heap.size) := hb3.size
  replace Xr : Hid _ := Xr.out.below hb3
  replace Xq : Hid _ := Xq.out.below hb3
  replace Xm : Hid _ := Xm.out.below hb3
  replace Z1 : Hid _ := Z1.out.below hb3
  replace A2 : Hid _ := A2.out.below hb3
  replace hbw := Below.on hbw hb3
  clear hb3
  have Z3 : Hid (ZR v3 s3 (some ⟨g3, 0, none⟩) m3 (iv false (2 ^ N))) := hz3
  have HL3 : Hid (m3 ≤ m2) := hl3
  clear hz3 hl3 hg3
  obtain ⟨cm0, cm1, fm0, fm1⟩ := Xm.out
  have hnem := Xm.out.lt
  go_wp2_with fail
  clear cm0 cm1 fm0 fm1 hnem
  have HDru : Hid (gr ≠ v3.heap.size) := Nat.ne_of_lt Xr.out.lt
  have HDqu : Hid (gq ≠ v3.heap.size) := Nat.ne_of_lt Xq.out.lt
  have Xu0 : Hid (Box (v3.alloc (.cells #[.bool s3, .slice (some ⟨g3, 0, none⟩) m3 m3] 110)) v3.heap.size (.bool s3) (.slice (some ⟨g3, 0, none⟩) m3 m3)) := Box.new v3 _ _ _
  have hbn : Below v3.heap.size v3 (v3.alloc (.cells #[.bool s3, .slice (some ⟨g3, 0, none⟩) m3 m3] 110)) := below1 v3 _
  generalize v3.alloc (.cells #[.bool s3, .slice (some ⟨g3, 0, none⟩) m3 m3] 110) = Wu at *
  have HGu : Hid (w.heap.size ≤ v3.heap.size) := hbw.size
  replace Xr : Hid _ := Xr.out.below hbn
  replace Xq : Hid _ := Xq.out.below hbn
  replace Xm : Hid _ := Xm.out.below hbn
  replace Z1 : Hid _ := Z1.out.below hbn
  replace A2 : Hid _ := A2.out.below hbn
  replace Z3 : Hid _ := Z3.out.below hbn
  replace hbw := Below.on hbw hbn
  clear hbn
  generalize v3.heap.size = gu at *
  have Xu := Xu0
  clear Xu0
  have Z3u : Hid (ZR Wu s3 (some ⟨g3, 0, none⟩) m3 ((2 ^ N : Nat) : Int)) := Z3.out
  have Z1u : Hid (ZR Wu s1 p1 m1 z) := Z1.out
  have HM1 : Hid (m1 ≤ 130 ∧ m3 ≤ 40000) := ⟨by have := HL1.out; omega, Nat.le_trans HL3.out N2.out.2⟩
  have HWU : Hid (w.heap.size ≤ Wu.heap.size) := hbw.size
  have hbu : Below Wu.heap.size Wu Wu := Below.refl _ _
  clear Z1
  clear Z3
  clear A2
  obtain ⟨Wr, hWr⟩ : ∃ W1, W1 = Wu.drew := ⟨_, rfl⟩
  have hbd : Below Wu.heap.size Wu Wr := by rw [hWr]; exact bDrew1 (Below.refl _ _)
  have hbu' := Below.on hbu hbd
  clear hbu
  have hbu := hbu'
  clear hbu'
  replace Xr : Hid _ := Xr.out.below hbd
  replace Xq : Hid _ := Xq.out.below hbd
  replace Xm : Hid _ := Xm.out.below hbd
  replace Xu : Hid _ := Xu.out.below hbd
  replace hbw := Below.on hbw hbd
  clear hbd
  have HJ : Hid ((fun W' : World => W'.cell? ⟨gm, 0, none⟩ = some (.bool s1) ∧ W'.cell? ⟨gm, 1, none⟩ = some (.slice p1 m1 m1) ∧ W'.cell? ⟨gu, 0, none⟩ = some (.bool s3) ∧ W'.cell? ⟨gu, 1, none⟩ = some (.slice (some ⟨g3, 0, none⟩) m3 m3)) Wr) := ⟨Xm.out.c0, Xm.out.c1, Xu.out.c0, Xu.out.c1⟩
  refine wp_region_J (fun W' => W'.cell? ⟨gm, 0, none⟩ = some (.bool s1) ∧ W'.cell? ⟨gm, 1, none⟩ = some (.slice p1 m1 m1) ∧ W'.cell? ⟨gu, 0, none⟩ = some (.bool s3) ∧ W'.cell? ⟨gu, 1, none⟩ = some (.slice (some ⟨g3, 0, none⟩) m3 m3)) (by kernel_rfl) ?_
  rw [← hWr]
  clear hWr
  refine wpJ_take (i := 0) (v := ?v1x0) rfl (by kernel_rfl) (by kernel_rfl) (by kernel_rfl) (fun _ _ _ h => h) (by kernel_rfl) ?hy1x0 HJ.out ?rest1x0
  case hy1x0 => (intro W' hJ; obtain ⟨j0, j1, j2, j3⟩ := hJ; go_simp; first | done | with_reducible rfl)
  refine wpJ_take (i := 2) (v := ?v2x2) rfl (by kernel_rfl) (by kernel_rfl) (by kernel_rfl) (fun _ _ _ h => h) (by kernel_rfl) ?hy2x2 HJ.out ?rest2x2
  case hy2x2 => (intro W' hJ; obtain ⟨j0, j1, j2, j3⟩ := hJ; go_simp; first | done | with_reducible rfl)
  refine wpJ_take (i := 4) (v := ?v3x4) rfl (by kernel_rfl) (by kernel_rfl) (by kernel_rfl) (fun _ _ _ h => h) (by kernel_rfl) ?hy3x4 HJ.out ?rest3x4
  case hy3x4 => (intro W' hJ; obtain ⟨j0, j1, j2, j3⟩ := hJ; go_simp; first | done | with_reducible rfl)
  refine wpJ_take (i := 5) (v := ?v4x5) rfl (by kernel_rfl) (by kernel_rfl) (by kernel_rfl) (fun _ _ _ h => h) (by kernel_rfl) ?hy4x5 HJ.out ?rest4x5
  case hy4x5 => (intro W' hJ; obtain ⟨j0, j1, j2, j3⟩ := hJ; go_simp; first | done | with_reducible rfl)
  obtain ⟨RQ, HRQ, HRP⟩ : ∃ RQ : Act → Act → World → Prop, Hid (∀ a1 a2 a3, (fun a0 a' W' => ∃ gk tA kA nA tB kB nB tF kF nF, a' = ((((a0.put (some 26) (.agg #[.bool tA, .slice (some ⟨kA, 0, none⟩) nA nA])).put (some 28) (.agg #[.bool tB, .slice (some ⟨kB, 0, none⟩) nB nB])).put (some 31) (.agg #[.bool tF, .slice (some ⟨kF, 0, none⟩) nF nF])).put (some 8) (.pointer (some ⟨gk, 0, none⟩))) ∧ Box W' gk (.bool tF) (.slice (some ⟨kF, 0, none⟩) nF nF) ∧ Box W' gr (.bool false) (.slice none 0 0) ∧ Box W' gq (.bool false) (.slice none 0 0) ∧ Box W' gm (.bool s1) (.slice p1 m1 m1) ∧ Box W' gu (.bool s3) (.slice (some ⟨g3, 0, none⟩) m3 m3) ∧ ZR W' tF (some ⟨kF, 0, none⟩) nF (rFs (z * 2 ^ 2 + ((2 ^ N : Nat) : Int)) (N + 1)) ∧ w.heap.size ≤ gk ∧ gr ≠ gk ∧ gq ≠ gk ∧ gm ≠ gk ∧ gu ≠ gk ∧ (gr < kF ∧ gq < kF) ∧ Below Wu.heap.size Wu W' ∧ Below w.heap.size w W') a1 a2 a3 → RQ a1 a2 a3) ∧ Hid (∀ a1 a2 a3, RQ a1 a2 a3 → (fun a0 a' W' => ∃ gk tA kA nA tB kB nB tF kF nF, a' = ((((a0.put (some 26) (.agg #[.bool tA, .slice (some ⟨kA, 0, none⟩) nA nA])).put (some 28) (.agg #[.bool tB, .slice (some ⟨kB, 0, none⟩) nB nB])).put (some 31) (.agg #[.bool tF, .slice (some ⟨kF, 0, none⟩) nF nF])).put (some 8) (.pointer (some ⟨gk, 0, none⟩))) ∧ Box W' gk (.bool tF) (.slice (some ⟨kF, 0, none⟩) nF nF) ∧ Box W' gr (.bool false) (.slice none 0 0) ∧ Box W' gq (.bool false) (.slice none 0 0) ∧ Box W' gm (.bool s1) (.slice p1 m1 m1) ∧ Box W' gu (.bool s3) (.slice (some ⟨g3, 0, none⟩) m3 m3) ∧ ZR W' tF (some ⟨kF, 0, none⟩) nF (rFs (z * 2 ^ 2 + ((2 ^ N : Nat) : Int)) (N + 1)) ∧ w.heap.size ≤ gk ∧ gr ≠ gk ∧ gq ≠ gk ∧ gm ≠ gk ∧ gu ≠ gk ∧ (gr < kF ∧ gq < kF) ∧ Below Wu.heap.size Wu W' ∧ Below w.heap.size w W') a1 a2 a3) := ⟨_, fun _ _ _ h => h, fun _ _ _ h => h⟩
  refine wpJ_cutA RQ ?_ ?_
  · intro a' Wc hrq
    obtain ⟨gk, tA, kA, nA, tB, kB, nB, tF, kF, nF, rfl, xb, xr, xq, xm, xu, rr, hg, hdr, hdq, hdm, hdu, hHKR, hbuc, hbc⟩ := HRP.out _ _ _ hrq
    clear hrq HRP HRQ
    clear hbw hbu HJ Xr Xq Xm Xu
    have hbw := hbc
    have hbu := hbuc
    have Xk : Hid (Box Wc gk (.bool tF) (.slice (some ⟨kF, 0, none⟩) nF nF)) := xb
    have Xr : Hid (Box Wc gr (.bool false) (.slice none 0 0)) := xr
    have Xq : Hid (Box Wc gq (.bool false) (.slice none 0 0)) := xq
    have Xm : Hid (Box Wc gm (.bool s1) (.slice p1 m1 m1)) := xm
    have Xu : Hid (Box Wc gu (.bool s3) (.slice (some ⟨g3, 0, none⟩) m3 m3)) := xu
    have RR : Hid (ZR Wc tF (some ⟨kF, 0, none⟩) nF (rFs (z * 2 ^ 2 + ((2 ^ N : Nat) : Int)) (N + 1))) := rr
    have HGk : Hid (w.heap.size ≤ gk) := hg
    have HDrk : Hid (gr ≠ gk) := hdr
    have HDqk : Hid (gq ≠ gk) := hdq
    have HDmk : Hid (gm ≠ gk) := hdm
    have HDuk : Hid (gu ≠ gk) := hdu
    have HKR : Hid (gr < kF ∧ gq < kF) := hHKR
    clear xb xr xq xm xu rr hg hdr hdq hdm hdu hHKR hbuc hbc
    have Z1 : Hid (ZR Wc s1 p1 m1 z) := Z1u.out.below hbu
    have Z3 : Hid (ZR Wc s3 (some ⟨g3, 0, none⟩) m3 ((2 ^ N : Nat) : Int)) := Z3u.out.below hbu
    clear hbu Z1u Z3u
    go_wp2_with fail
    obtain ⟨K, hK⟩ : ∃ K, K = rFs (z * 2 ^ 2 + ((2 ^ N : Nat) : Int)) (N + 1) := ⟨_, rfl⟩
    rw [← hK] at RR
    have HKK : Hid (K = rFs (z * 2 ^ 2 + ((2 ^ N : Nat) : Int)) (N + 1) ∧ K.natAbs < 2 ^ (N + 132)) := ⟨hK, by rw [hK]; exact Nat.lt_of_le_of_lt (rFs_abs _ _) (sum_len HV.out.2.2 HN.out.2.2)⟩
    clear hK
    obtain ⟨Wx, hWx⟩ : ∃ W1, W1 = Wc.drew := ⟨_, rfl⟩
    have hbd : Below Wc.heap.size Wc Wx := by rw [hWx]; exact bDrew1 (Below.refl _ _)
    replace Xk : Hid _ := Xk.out.below hbd
    replace Xr : Hid _ := Xr.out.below hbd
    replace Xq : Hid _ := Xq.out.below hbd
    replace Xm : Hid _ := Xm.out.below hbd
    replace Xu : Hid _ := Xu.out.below hbd
    replace RR : Hid _ := RR.out.below hbd
    replace Z1 : Hid _ := Z1.out.below hbd
    replace Z3 : Hid _ := Z3.out.below hbd
    replace hbw := Below.on hbw hbd
    clear hbd
    have HJ : Hid ((fun W' : World => W'.cell? ⟨gk, 0, none⟩ = some (.bool tF) ∧ W'.cell? ⟨gk, 1, none⟩ = some (.slice (some ⟨kF, 0, none⟩) nF nF) ∧ W'.cell? ⟨gm, 0, none⟩ = some (.bool s1) ∧ W'.cell? ⟨gm, 1, none⟩ = some (.slice p1 m1 m1) ∧ W'.cell? ⟨gu, 0, none⟩ = some (.bool s3) ∧ W'.cell? ⟨gu, 1, none⟩ = some (.slice (some ⟨g3, 0, none⟩) m3 m3)) Wx) := ⟨Xk.out.c0, Xk.out.c1, Xm.out.c0, Xm.out.c1, Xu.out.c0, Xu.out.c1⟩
    refine wp_region_J (fun W' => W'.cell? ⟨gk, 0, none⟩ = some (.bool tF) ∧ W'.cell? ⟨gk, 1, none⟩ = some (.slice (some ⟨kF, 0, none⟩) nF nF) ∧ W'.cell? ⟨gm, 0, none⟩ = some (.bool s1) ∧ W'.cell? ⟨gm, 1, none⟩ = some (.slice p1 m1 m1) ∧ W'.cell? ⟨gu, 0, none⟩ = some (.bool s3) ∧ W'.cell? ⟨gu, 1, none⟩ = some (.slice (some ⟨g3, 0, none⟩) m3 m3)) (by kernel_rfl) ?_
    rw [← hWx]
    clear hWx
    refine wpJ_take (i := 0) (v := ?v5x0) rfl (by kernel_rfl) (by kernel_rfl) (by kernel_rfl) (fun _ _ _ h => h) (by kernel_rfl) ?hy5x0 HJ.out ?rest5x0
    case hy5x0 => (intro W' hJ; obtain ⟨j0, j1, j2, j3, j4, j5⟩ := hJ; go_simp; first | done | with_reducible rfl)
    refine wpJ_take (i := 1) (v := ?v6x1) rfl (by kernel_rfl) (by kernel_rfl) (by kernel_rfl) (fun _ _ _ h => h) (by kernel_rfl) ?hy6x1 HJ.out ?rest6x1
    case hy6x1 => (intro W' hJ; obtain ⟨j0, j1, j2, j3, j4, j5⟩ := hJ; go_simp; first | done | with_reducible rfl)
    refine wpJ_take (i := 3) (v := ?v7x3) rfl (by kernel_rfl) (by kernel_rfl) (by kernel_rfl) (fun _ _ _ h => h) (by kernel_rfl) ?hy7x3 HJ.out ?rest7x3
    case hy7x3 => (intro W' hJ; obtain ⟨j0, j1, j2, j3, j4, j5⟩ := hJ; go_simp; first | done | with_reducible rfl)
    refine wpJ_take (i := 4) (v := ?v8x4) rfl (by kernel_rfl) (by kernel_rfl) (by kernel_rfl) (fun _ _ _ h => h) (by kernel_rfl) ?hy8x4 HJ.out ?rest8x4
    case hy8x4 => (intro W' hJ; obtain ⟨j0, j1, j2, j3, j4, j5⟩ := hJ; go_simp; first | done | with_reducible rfl)
    refine wpJ_take (i := 7) (v := ?v9x7) rfl (by kernel_rfl) (by kernel_rfl) (by kernel_rfl) (fun _ _ _ h => h) (by kernel_rfl) ?hy9x7 HJ.out ?rest9x7
    case hy9x7 => (intro W' hJ; obtain ⟨j0, j1, j2, j3, j4, j5⟩ := hJ; go_simp; first | done | with_reducible rfl)
    go_simp
    refine wpJ_take (i := 8) (v := ?v10x8) rfl (by kernel_rfl) (by kernel_rfl) (by kernel_rfl) (fun _ _ _ h => h) (by kernel_rfl) ?hy10x8 HJ.out ?rest10x8
    case hy10x8 => (intro W' hJ; obtain ⟨j0, j1, j2, j3, j4, j5⟩ := hJ; go_simp; first | done | with_reducible rfl)
    refine wpJ_one (i := 2) (by kernel_rfl) rfl (by kernel_rfl) (fun KJ hK => ?_)
    go_simp
    refine (rshl04 s1 Z1.out (by have := HM1.out; omega) 1 (.inl (by decide))).mono ?_
    rintro e9 uC ⟨v, rfl, hv, hbC⟩
    obtain ⟨tC, kC, nC, rfl, hgC, hzC, hlC⟩ := hv
    skip
    replace Xk : Hid _ := Xk.out.below hbC
    replace Xr : Hid _ := Xr.out.below hbC
    replace Xq : Hid _ := Xq.out.below hbC
    replace Xm : Hid _ := Xm.out.below hbC
    replace Xu : Hid _ := Xu.out.below hbC
    replace RR : Hid _ := RR.out.below hbC
    replace Z1 : Hid _ := Z1.out.below hbC
    replace Z3 : Hid _ := Z3.out.below hbC
    replace hbw := Below.on hbw hbC
    clear hbC
    have YC : Hid (ZR uC tC (some ⟨kC, 0, none⟩) nC (z * 2 ^ 1)) := hzC
    have HLC : Hid (nC ≤ 40000) := hlC
    clear hzC hlC hgC
    refine hK _ _ ⟨Xk.out.c0, Xk.out.c1, Xm.out.c0, Xm.out.c1, Xu.out.c0, Xu.out.c1⟩ ?_
    clear hK
    refine wpJ_one (i := 5) (by kernel_rfl) rfl (by kernel_rfl) (fun KJ hK => ?_)
    go_simp
    refine (rmul04 tF s3 RR.out Z3.out (Nat.le_trans (zr_len RR.out HKK.out.2) (by have := HN.out; omega)) (by have := HM1.out; omega)).mono ?_
    rintro e9 uD ⟨v, rfl, hv, hbD⟩
    obtain ⟨tD, kD, nD, rfl, hgD, hzD, hlD⟩ := hv
    skip
    replace Xk : Hid _ := Xk.out.below hbD
    replace Xr : Hid _ := Xr.out.below hbD
    replace Xq : Hid _ := Xq.out.below hbD
    replace Xm : Hid _ := Xm.out.below hbD
    replace Xu : Hid _ := Xu.out.below hbD
    replace RR : Hid _ := RR.out.below hbD
    replace Z1 : Hid _ := Z1.out.below hbD
    replace Z3 : Hid _ := Z3.out.below hbD
    replace YC : Hid _ := YC.out.below hbD
    replace hbw := Below.on hbw hbD
    clear hbD
    have YD : Hid (ZR uD tD (some ⟨kD, 0, none⟩) nD (K * ((2 ^ N : Nat) : Int))) := hzD
    have HLD : Hid (nD ≤ nF + m3) := hlD
    clear hzD hlD hgD
    refine hK _ _ ⟨Xk.out.c0, Xk.out.c1, Xm.out.c0, Xm.out.c1, Xu.out.c0, Xu.out.c1⟩ ?_
    clear hK
    have HRE : Hid (gr < uD.heap.size ∧ gq < uD.heap.size) := ⟨Xr.out.lt, Xq.out.lt⟩
    refine wpJ_one (i := 6) (by kernel_rfl) rfl (by kernel_rfl) (fun KJ hK => ?_)
    go_simp
    refine (rsub04 tC tD YC.out YD.out (by have := HLC.out; omega) (by have h1 := HLD.out; have h2 := zr_len RR.out HKK.out.2; have h3 := HM1.out; have h4 := HN.out; omega)).mono ?_
    rintro e9 uE ⟨v, rfl, hv, hbE⟩
    obtain ⟨tE, kE, nE, rfl, hgE, hzE, hlE⟩ := hv
    have HKE : Hid (gr < kE ∧ gq < kE) := ⟨Nat.lt_of_lt_of_le HRE.out.1 hgE, Nat.lt_of_lt_of_le HRE.out.2 hgE⟩
    replace Xk : Hid _ := Xk.out.below hbE
    replace Xr : Hid _ := Xr.out.below hbE
    replace Xq : Hid _ := Xq.out.below hbE
    replace Xm : Hid _ := Xm.out.below hbE
    replace Xu : Hid _ := Xu.out.below hbE
    replace RR : Hid _ := RR.out.below hbE
    replace Z1 : Hid _ := Z1.out.below hbE
    replace Z3 : Hid _ := Z3.out.below hbE
    replace YC : Hid _ := YC.out.below hbE
    replace YD : Hid _ := YD.out.below hbE
    replace hbw := Below.on hbw hbE
    clear hbE
    have YE : Hid (ZR uE tE (some ⟨kE, 0, none⟩) nE (z * 2 ^ 1 - K * ((2 ^ N : Nat) : Int))) := hzE
    clear hzE hgE hlE
    refine hK _ _ ⟨Xk.out.c0, Xk.out.c1, Xm.out.c0, Xm.out.c1, Xu.out.c0, Xu.out.c1⟩ ?_
    clear hK
    obtain ⟨cr0, cr1, fr0, fr1⟩ := Xr.out
    have hner := Xr.out.lt
    obtain ⟨cq0, cq1, fq0, fq1⟩ := Xq.out
    have hneq := Xq.out.lt
    obtain ⟨ck0, ck1, fk0, fk1⟩ := Xk.out
    have hnek := Xk.out.lt
    obtain ⟨cm0, cm1, fm0, fm1⟩ := Xm.out
    have hnem := Xm.out.lt
    obtain ⟨cu0, cu1, fu0, fu1⟩ := Xu.out
    have hneu := Xu.out.lt
    obtain ⟨hgd0, hgd1⟩ := HGD.out
    have qrm := HDrm.out
    have qmr : gm ≠ gr := fun h => qrm h.symm
    have qru := HDru.out
    have qur : gu ≠ gr := fun h => qru h.symm
    have qrk := HDrk.out
    have qkr : gk ≠ gr := fun h => qrk h.symm
    have qqm := HDqm.out
    have qmq : gm ≠ gq := fun h => qqm h.symm
    have qqu := HDqu.out
    have quq : gu ≠ gq := fun h => qqu h.symm
    have qqk := HDqk.out
    have qkq : gk ≠ gq := fun h => qqk h.symm
    refine wpJ_one (i := 9) (by kernel_rfl) rfl (by kernel_rfl) (fun KJ hK => ?_)
    go_simp
    have HJ2 : Hid ((fun W' : World => W'.cell? ⟨gk, 0, none⟩ = some (.bool tF) ∧ W'.cell? ⟨gk, 1, none⟩ = some (.slice (some ⟨kF, 0, none⟩) nF nF) ∧ W'.cell? ⟨gm, 0, none⟩ = some (.bool s1) ∧ W'.cell? ⟨gm, 1, none⟩ = some (.slice p1 m1 m1) ∧ W'.cell? ⟨gu, 0, none⟩ = some (.bool s3) ∧ W'.cell? ⟨gu, 1, none⟩ = some (.slice (some ⟨g3, 0, none⟩) m3 m3)) ((uE.setCell ⟨gr, 0, none⟩ (.bool tF)).setCell ⟨gr, 1, none⟩ (.slice (some ⟨kF, 0, none⟩) nF nF))) := ⟨by go_simp, by go_simp, by go_simp, by go_simp, by go_simp, by go_simp⟩
    refine hK _ _ HJ2.out ?_
    clear hK HJ
    have HJ := HJ2
    clear HJ2
    refine wpJ_one (i := 10) (by kernel_rfl) rfl (by kernel_rfl) (fun KJ hK => ?_)
    go_simp
    have HJ3 : Hid ((fun W' : World => W'.cell? ⟨gk, 0, none⟩ = some (.bool tF) ∧ W'.cell? ⟨gk, 1, none⟩ = some (.slice (some ⟨kF, 0, none⟩) nF nF) ∧ W'.cell? ⟨gm, 0, none⟩ = some (.bool s1) ∧ W'.cell? ⟨gm, 1, none⟩ = some (.slice p1 m1 m1) ∧ W'.cell? ⟨gu, 0, none⟩ = some (.bool s3) ∧ W'.cell? ⟨gu, 1, none⟩ = some (.slice (some ⟨g3, 0, none⟩) m3 m3)) ((((uE.setCell ⟨gr, 0, none⟩ (.bool tF)).setCell ⟨gr, 1, none⟩ (.slice (some ⟨kF, 0, none⟩) nF nF)).setCell ⟨gq, 0, none⟩ (.bool tE)).setCell ⟨gq, 1, none⟩ (.slice (some ⟨kE, 0, none⟩) nE nE))) := ⟨by go_simp, by go_simp, by go_simp, by go_simp, by go_simp, by go_simp⟩
    refine hK _ _ HJ3.out ?_
    clear hK HJ
    have HJ := HJ3
    clear HJ3
    refine wpJ_take (i := 11) (v := ?v11x11) rfl (by kernel_rfl) (by kernel_rfl) (by kernel_rfl) (fun _ _ _ h => h) (by kernel_rfl) ?hy11x11 HJ.out ?rest11x11
    case hy11x11 => (intro W' hJ; obtain ⟨j0, j1, j2, j3, j4, j5⟩ := hJ; go_simp; first | done | with_reducible rfl)
    refine wpJ_done (by kernel_rfl) ?_ _
    clear HJ
    go_wp2_with fail
    refine bodyPost_ret (v := .tuple #[.agg #[.bool tF, .slice (some ⟨kF, 0, none⟩) nF nF], .agg #[.bool tE, .slice (some ⟨kE, 0, none⟩) nE nE], .int .i64 (e - 1)]) (by rw [results_cct rfl]; go_simp) rfl ⟨K, z * 2 ^ 1 - K * ((2 ^ N : Nat) : Int), e - 1, tF, kF, nF, tE, _, nE, rfl, ?_, ?_, split_en HN.out.1 HN.out.2.1 HN.out.2.2 HKK.out.1, split_bn HLL.out HV.out.2.2 HN.out.2.2 HKK.out.2, ?_, ?_⟩
    · have h9 := HKR.out
      exact (((RR.out.set _ _ _ (by omega)).set _ _ _ (by omega)).set _ _ _ (by omega)).set _ _ _ (by omega)
    · have h9 := HKE.out
      exact (((YE.out.set _ _ _ (by omega)).set _ _ _ (by omega)).set _ _ _ (by omega)).set _ _ _ (by omega)
    · have h9 := HN.out; omega
    · exact bSet (bSet (bSet (bSet hbw _ _ _ HGr.out) _ _ _ HGr.out) _ _ _ HGq.out) _ _ _ HGq.out
  · skip
    refine wpJ_two (i := 1) (k := 7) (by kernel_rfl) rfl rfl (by kernel_rfl) (by kernel_rfl) (fun KJ hK => ?_) (fun KJ hK => ?_)
    · go_simp
      refine (rshl04 s1 (Z1u.out.below hbu) (by have := HM1.out; omega) 2 (.inl (by decide))).mono ?_
      rintro e9 uA ⟨v, rfl, hv, hbA⟩
      obtain ⟨tA, kA, nA, rfl, hgA, hzA, hlA⟩ := hv
      skip
      have hbu' := Below.on hbu hbA
      clear hbu
      have hbu := hbu'
      clear hbu'
      replace Xr : Hid _ := Xr.out.below hbA
      replace Xq : Hid _ := Xq.out.below hbA
      replace Xm : Hid _ := Xm.out.below hbA
      replace Xu : Hid _ := Xu.out.below hbA
      replace hbw := Below.on hbw hbA
      clear hbA
      have YA : Hid (ZR uA tA (some ⟨kA, 0, none⟩) nA (z * 2 ^ 2)) := hzA
      have HLA : Hid (nA ≤ 40000) := hlA
      clear hzA hlA hgA
      clear HJ
      have HJ : Hid ((fun W' : World => W'.cell? ⟨gm, 0, none⟩ = some (.bool s1) ∧ W'.cell? ⟨gm, 1, none⟩ = some (.slice p1 m1 m1) ∧ W'.cell? ⟨gu, 0, none⟩ = some (.bool s3) ∧ W'.cell? ⟨gu, 1, none⟩ = some (.slice (some ⟨g3, 0, none⟩) m3 m3)) uA) := ⟨Xm.out.c0, Xm.out.c1, Xu.out.c0, Xu.out.c1⟩
      refine hK _ _ HJ.out ?_
      clear hK
      refine wpJ_two (i := 3) (k := 7) (by kernel_rfl) rfl rfl (by kernel_rfl) (by kernel_rfl) (fun KJ hK => ?_) (fun KJ hK => ?_)
      · go_simp
        refine (radd04 tA s3 YA.out (Z3u.out.below hbu) (by have := HLA.out; omega) (by have := HM1.out; omega)).mono ?_
        rintro e9 uB ⟨v, rfl, hv, hbB⟩
        obtain ⟨tB, kB, nB, rfl, hgB, hzB, hlB⟩ := hv
        skip
        have hbu' := Below.on hbu hbB
        clear hbu
        have hbu := hbu'
        clear hbu'
        replace Xr : Hid _ := Xr.out.below hbB
        replace Xq : Hid _ := Xq.out.below hbB
        replace Xm : Hid _ := Xm.out.below hbB
        replace Xu : Hid _ := Xu.out.below hbB
        replace YA : Hid _ := YA.out.below hbB
        replace hbw := Below.on hbw hbB
        clear hbB
        have YB : Hid (ZR uB tB (some ⟨kB, 0, none⟩) nB (z * 2 ^ 2 + ((2 ^ N : Nat) : Int))) := hzB
        have HLB : Hid (nB ≤ max nA m3 + 1) := hlB
        clear hzB hlB hgB
        clear YA
        clear HJ
        have HJ : Hid ((fun W' : World => W'.cell? ⟨gm, 0, none⟩ = some (.bool s1) ∧ W'.cell? ⟨gm, 1, none⟩ = some (.slice p1 m1 m1) ∧ W'.cell? ⟨gu, 0, none⟩ = some (.bool s3) ∧ W'.cell? ⟨gu, 1, none⟩ = some (.slice (some ⟨g3, 0, none⟩) m3 m3)) uB) := ⟨Xm.out.c0, Xm.out.c1, Xu.out.c0, Xu.out.c1⟩
        refine hK _ _ HJ.out ?_
        clear hK
        refine wpJ_two (i := 6) (k := 7) (by kernel_rfl) rfl rfl (by kernel_rfl) (by kernel_rfl) (fun KJ hK => ?_) (fun KJ hK => ?_)
        · go_simp
          have HRB9 : Hid (gr < uB.heap.size ∧ gq < uB.heap.size) := ⟨Xr.out.lt, Xq.out.lt⟩
          refine (rfloorshr04 tB YB.out (Nat.le_trans (zr_len YB.out (sum_len HV.out.2.2 HN.out.2.2)) (by have := HN.out; omega)) (N + 1) (by have := HN.out; omega)).mono ?_
          rintro e9 uF ⟨v, rfl, hv, hbF⟩
          obtain ⟨tF, kF, nF, rfl, hgF, hzF, hlF⟩ := hv
          have HGB : Hid (uB.heap.size ≤ kF) := hgF
          have HKR : Hid (gr < kF ∧ gq < kF) := ⟨Nat.lt_of_lt_of_le HRB9.out.1 hgF, Nat.lt_of_lt_of_le HRB9.out.2 hgF⟩
          have hbu' := Below.on hbu hbF
          clear hbu
          have hbu := hbu'
          clear hbu'
          replace Xr : Hid _ := Xr.out.below hbF
          replace Xq : Hid _ := Xq.out.below hbF
          replace Xm : Hid _ := Xm.out.below hbF
          replace Xu : Hid _ := Xu.out.below hbF
          replace YB : Hid _ := YB.out.below hbF
          replace hbw := Below.on hbw hbF
          clear hbF
          have RR : Hid (ZR uF tF (some ⟨kF, 0, none⟩) nF (rFs (z * 2 ^ 2 + ((2 ^ N : Nat) : Int)) (N + 1))) := hzF
          have HLF : Hid (nF ≤ nB + 4) := hlF
          clear hzF hlF hgF
          clear YB
          refine hK _ _ ⟨Xm.out.c0, Xm.out.c1, Xu.out.c0, Xu.out.c1⟩ ?_
          clear hK
          refine wpJ_one (i := 7) (by kernel_rfl) rfl (by kernel_rfl) (fun KJ hK => ?_)
          go_simp
          have HDrk : Hid (gr ≠ uF.heap.size) := Nat.ne_of_lt Xr.out.lt
          have HDqk : Hid (gq ≠ uF.heap.size) := Nat.ne_of_lt Xq.out.lt
          have HDmk : Hid (gm ≠ uF.heap.size) := Nat.ne_of_lt Xm.out.lt
          have HDuk : Hid (gu ≠ uF.heap.size) := Nat.ne_of_lt Xu.out.lt
          have HLS : Hid (∀ v0 v1, ZR (((uF.alloc (.cells #[.bool false, .slice none 0 0] 110)).setCell ⟨uF.heap.size, 0, none⟩ v0).setCell ⟨uF.heap.size, 1, none⟩ v1) tF (some ⟨kF, 0, none⟩) nF (rFs (z * 2 ^ 2 + ((2 ^ N : Nat) : Int)) (N + 1))) := fun v0 v1 => RR.out.below (bSet (bSet (below1 _ _) _ _ _ (Nat.le_refl _)) _ _ _ (Nat.le_refl _))
          have HGU : Hid (Wu.heap.size ≤ uF.heap.size) := hbu.size
          have Xk0 : Hid (Box (uF.alloc (.cells #[.bool false, .slice none 0 0] 110)) uF.heap.size (.bool false) (.slice none 0 0)) := Box.new uF _ _ _
          have hbn : Below uF.heap.size uF (uF.alloc (.cells #[.bool false, .slice none 0 0] 110)) := below1 uF _
          generalize uF.alloc (.cells #[.bool false, .slice none 0 0] 110) = Wn at *
          have HGk : Hid (w.heap.size ≤ uF.heap.size) := hbw.size
          have hbu' := Below.on hbu hbn
          clear hbu
          have hbu := hbu'
          clear hbu'
          replace Xr : Hid _ := Xr.out.below hbn
          replace Xq : Hid _ := Xq.out.below hbn
          replace Xm : Hid _ := Xm.out.below hbn
          replace Xu : Hid _ := Xu.out.below hbn
          replace RR : Hid _ := RR.out.below hbn
          replace hbw := Below.on hbw hbn
          clear hbn
          generalize uF.heap.size = gk at *
          have Xk := Xk0
          clear Xk0
          refine hK _ _ ⟨Xm.out.c0, Xm.out.c1, Xu.out.c0, Xu.out.c1⟩ ?_
          clear hK
          obtain ⟨ck0, ck1, fk0, fk1⟩ := Xk.out
          have hnek := Xk.out.lt
          obtain ⟨cr0, cr1, fr0, fr1⟩ := Xr.out
          have hner := Xr.out.lt
          obtain ⟨cq0, cq1, fq0, fq1⟩ := Xq.out
          have hneq := Xq.out.lt
          obtain ⟨cm0, cm1, fm0, fm1⟩ := Xm.out
          have hnem := Xm.out.lt
          obtain ⟨cu0, cu1, fu0, fu1⟩ := Xu.out
          have hneu := Xu.out.lt
          have qar : gr ≠ gk := HDrk.out
          have qbr : gk ≠ gr := fun h => qar h.symm
          have qaq : gq ≠ gk := HDqk.out
          have qbq : gk ≠ gq := fun h => qaq h.symm
          have qam : gm ≠ gk := HDmk.out
          have qbm : gk ≠ gm := fun h => qam h.symm
          have qau : gu ≠ gk := HDuk.out
          have qbu : gk ≠ gu := fun h => qau h.symm
          refine wpJ_one (i := 8) (by kernel_rfl) rfl (by kernel_rfl) (fun KJ hK => ?_)
          go_simp
          have HJ2 : Hid ((fun W' : World => W'.cell? ⟨gm, 0, none⟩ = some (.bool s1) ∧ W'.cell? ⟨gm, 1, none⟩ = some (.slice p1 m1 m1) ∧ W'.cell? ⟨gu, 0, none⟩ = some (.bool s3) ∧ W'.cell? ⟨gu, 1, none⟩ = some (.slice (some ⟨g3, 0, none⟩) m3 m3)) ((Wn.setCell ⟨gk, 0, none⟩ (.bool tF)).setCell ⟨gk, 1, none⟩ (.slice (some ⟨kF, 0, none⟩) nF nF))) := ⟨by go_simp, by go_simp, by go_simp, by go_simp⟩
          have Xk2 : Hid (Box ((Wn.setCell ⟨gk, 0, none⟩ (.bool tF)).setCell ⟨gk, 1, none⟩ (.slice (some ⟨kF, 0, none⟩) nF nF)) gk (.bool tF) (.slice (some ⟨kF, 0, none⟩) nF nF)) := ⟨by go_simp, by go_simp, by go_simp, by go_simp⟩
          have Xr2 : Hid (Box ((Wn.setCell ⟨gk, 0, none⟩ (.bool tF)).setCell ⟨gk, 1, none⟩ (.slice (some ⟨kF, 0, none⟩) nF nF)) gr (.bool false) (.slice none 0 0)) := ⟨by go_simp, by go_simp, by go_simp, by go_simp⟩
          have Xq2 : Hid (Box ((Wn.setCell ⟨gk, 0, none⟩ (.bool tF)).setCell ⟨gk, 1, none⟩ (.slice (some ⟨kF, 0, none⟩) nF nF)) gq (.bool false) (.slice none 0 0)) := ⟨by go_simp, by go_simp, by go_simp, by go_simp⟩
          have Xm2 : Hid (Box ((Wn.setCell ⟨gk, 0, none⟩ (.bool tF)).setCell ⟨gk, 1, none⟩ (.slice (some ⟨kF, 0, none⟩) nF nF)) gm (.bool s1) (.slice p1 m1 m1)) := ⟨by go_simp, by go_simp, by go_simp, by go_simp⟩
          have Xu2 : Hid (Box ((Wn.setCell ⟨gk, 0, none⟩ (.bool tF)).setCell ⟨gk, 1, none⟩ (.slice (some ⟨kF, 0, none⟩) nF nF)) gu (.bool s3) (.slice (some ⟨g3, 0, none⟩) m3 m3)) := ⟨by go_simp, by go_simp, by go_simp, by go_simp⟩
          have RR2 : Hid (ZR ((Wn.setCell ⟨gk, 0, none⟩ (.bool tF)).setCell ⟨gk, 1, none⟩ (.slice (some ⟨kF, 0, none⟩) nF nF)) tF (some ⟨kF, 0, none⟩) nF (rFs (z * 2 ^ 2 + ((2 ^ N : Nat) : Int)) (N + 1))) := HLS.out _ _
          have hbu2 : Below Wu.heap.size Wu ((Wn.setCell ⟨gk, 0, none⟩ (.bool tF)).setCell ⟨gk, 1, none⟩ (.slice (some ⟨kF, 0, none⟩) nF nF)) := bSet (bSet hbu _ _ _ HGU.out) _ _ _ HGU.out
          have hbw2 : Below w.heap.size w ((Wn.setCell ⟨gk, 0, none⟩ (.bool tF)).setCell ⟨gk, 1, none⟩ (.slice (some ⟨kF, 0, none⟩) nF nF)) := bSet (bSet hbw _ _ _ HGk.out) _ _ _ HGk.out
          refine hK _ _ HJ2.out ?_
          clear hK HJ
          have HJ := HJ2
          clear HJ2
          refine wpJ_done (by kernel_rfl) ?_ _
          exact ⟨rfl, HRQ.out _ _ _ ⟨gk, tA, kA, nA, tB, kB, nB, tF, kF, nF, by kernel_rfl, Xk2.out, Xr2.out, Xq2.out, Xm2.out, Xu2.out, RR2.out, HGk.out, HDrk.out, HDqk.out, HDmk.out, HDuk.out, HKR.out, hbu2, hbw2⟩⟩
        · go_simp
          have HDrk : Hid (gr ≠ uB.heap.size) := Nat.ne_of_lt Xr.out.lt
          have HDqk : Hid (gq ≠ uB.heap.size) := Nat.ne_of_lt Xq.out.lt
          have HDmk : Hid (gm ≠ uB.heap.size) := Nat.ne_of_lt Xm.out.lt
          have HDuk : Hid (gu ≠ uB.heap.size) := Nat.ne_of_lt Xu.out.lt
          have HGU : Hid (Wu.heap.size ≤ uB.heap.size) := hbu.size
          have Xk0 : Hid (Box (uB.alloc (.cells #[.bool false, .slice none 0 0] 110)) uB.heap.size (.bool false) (.slice none 0 0)) := Box.new uB _ _ _
          have hbn : Below uB.heap.size uB (uB.alloc (.cells #[.bool false, .slice none 0 0] 110)) := below1 uB _
          generalize uB.alloc (.cells #[.bool false, .slice none 0 0] 110) = Wn at *
          have HGk : Hid (w.heap.size ≤ uB.heap.size) := hbw.size
          have hbu' := Below.on hbu hbn
          clear hbu
          have hbu := hbu'
          clear hbu'
          replace Xr : Hid _ := Xr.out.below hbn
          replace Xq : Hid _ := Xq.out.below hbn
          replace Xm : Hid _ := Xm.out.below hbn
          replace Xu : Hid _ := Xu.out.below hbn
          replace YB : Hid _ := YB.out.below hbn
          replace hbw := Below.on hbw hbn
          clear hbn
          generalize uB.heap.size = gk at *
          have Xk := Xk0
          clear Xk0
          refine hK _ _ ⟨Xm.out.c0, Xm.out.c1, Xu.out.c0, Xu.out.c1⟩ ?_
          clear hK
          refine wpJ_one (i := 6) (by kernel_rfl) rfl (by kernel_rfl) (fun KJ hK => ?_)
          go_simp
          have HLT : Hid (gk < Wn.heap.size) := Xk.out.lt
          have HRB9 : Hid (gr < Wn.heap.size ∧ gq < Wn.heap.size) := ⟨Xr.out.lt, Xq.out.lt⟩
          refine (rfloorshr04 tB YB.out (Nat.le_trans (zr_len YB.out (sum_len HV.out.2.2 HN.out.2.2)) (by have := HN.out; omega)) (N + 1) (by have := HN.out; omega)).mono ?_
          rintro e9 uF ⟨v, rfl, hv, hbF⟩
          obtain ⟨tF, kF, nF, rfl, hgF, hzF, hlF⟩ := hv
          have HGB : Hid (Wn.heap.size ≤ kF) := hgF
          have HKR : Hid (gr < kF ∧ gq < kF) := ⟨Nat.lt_of_lt_of_le HRB9.out.1 hgF, Nat.lt_of_lt_of_le HRB9.out.2 hgF⟩
          have hbu' := Below.on hbu hbF
          clear hbu
          have hbu := hbu'
          clear hbu'
          replace Xr : Hid _ := Xr.out.below hbF
          replace Xq : Hid _ := Xq.out.below hbF
          replace Xm : Hid _ := Xm.out.below hbF
          replace Xu : Hid _ := Xu.out.below hbF
          replace Xk : Hid _ := Xk.out.below hbF
          replace YB : Hid _ := YB.out.below hbF
          replace hbw := Below.on hbw hbF
          clear hbF
          have RR : Hid (ZR uF tF (some ⟨kF, 0, none⟩) nF (rFs (z * 2 ^ 2 + ((2 ^ N : Nat) : Int)) (N + 1))) := hzF
          have HLF : Hid (nF ≤ nB + 4) := hlF
          clear hzF hlF hgF
          clear YB
          have HNE : Hid (kF ≠ gk) := by have h1 := HLT.out; have h2 := HGB.out; show _ ≠ _; omega
          refine hK _ _ ⟨Xm.out.c0, Xm.out.c1, Xu.out.c0, Xu.out.c1⟩ ?_
          clear hK
          obtain ⟨ck0, ck1, fk0, fk1⟩ := Xk.out
          have hnek := Xk.out.lt
          obtain ⟨cr0, cr1, fr0, fr1⟩ := Xr.out
          have hner := Xr.out.lt
          obtain ⟨cq0, cq1, fq0, fq1⟩ := Xq.out
          have hneq := Xq.out.lt
          obtain ⟨cm0, cm1, fm0, fm1⟩ := Xm.out
          have hnem := Xm.out.lt
          obtain ⟨cu0, cu1, fu0, fu1⟩ := Xu.out
          have hneu := Xu.out.lt
          have qar : gr ≠ gk := HDrk.out
          have qbr : gk ≠ gr := fun h => qar h.symm
          have qaq : gq ≠ gk := HDqk.out
          have qbq : gk ≠ gq := fun h => qaq h.symm
          have qam : gm ≠ gk := HDmk.out
          have qbm : gk ≠ gm := fun h => qam h.symm
          have qau : gu ≠ gk := HDuk.out
          have qbu : gk ≠ gu := fun h => qau h.symm
          refine wpJ_one (i := 8) (by kernel_rfl) rfl (by kernel_rfl) (fun KJ hK => ?_)
          go_simp
          have HJ2 : Hid ((fun W' : World => W'.cell? ⟨gm, 0, none⟩ = some (.bool s1) ∧ W'.cell? ⟨gm, 1, none⟩ = some (.slice p1 m1 m1) ∧ W'.cell? ⟨gu, 0, none⟩ = some (.bool s3) ∧ W'.cell? ⟨gu, 1, none⟩ = some (.slice (some ⟨g3, 0, none⟩) m3 m3)) ((uF.setCell ⟨gk, 0, none⟩ (.bool tF)).setCell ⟨gk, 1, none⟩ (.slice (some ⟨kF, 0, none⟩) nF nF))) := ⟨by go_simp, by go_simp, by go_simp, by go_simp⟩
          have Xk2 : Hid (Box ((uF.setCell ⟨gk, 0, none⟩ (.bool tF)).setCell ⟨gk, 1, none⟩ (.slice (some ⟨kF, 0, none⟩) nF nF)) gk (.bool tF) (.slice (some ⟨kF, 0, none⟩) nF nF)) := ⟨by go_simp, by go_simp, by go_simp, by go_simp⟩
          have Xr2 : Hid (Box ((uF.setCell ⟨gk, 0, none⟩ (.bool tF)).setCell ⟨gk, 1, none⟩ (.slice (some ⟨kF, 0, none⟩) nF nF)) gr (.bool false) (.slice none 0 0)) := ⟨by go_simp, by go_simp, by go_simp, by go_simp⟩
          have Xq2 : Hid (Box ((uF.setCell ⟨gk, 0, none⟩ (.bool tF)).setCell ⟨gk, 1, none⟩ (.slice (some ⟨kF, 0, none⟩) nF nF)) gq (.bool false) (.slice none 0 0)) := ⟨by go_simp, by go_simp, by go_simp, by go_simp⟩
          have Xm2 : Hid (Box ((uF.setCell ⟨gk, 0, none⟩ (.bool tF)).setCell ⟨gk, 1, none⟩ (.slice (some ⟨kF, 0, none⟩) nF nF)) gm (.bool s1) (.slice p1 m1 m1)) := ⟨by go_simp, by go_simp, by go_simp, by go_simp⟩
          have Xu2 : Hid (Box ((uF.setCell ⟨gk, 0, none⟩ (.bool tF)).setCell ⟨gk, 1, none⟩ (.slice (some ⟨kF, 0, none⟩) nF nF)) gu (.bool s3) (.slice (some ⟨g3, 0, none⟩) m3 m3)) := ⟨by go_simp, by go_simp, by go_simp, by go_simp⟩
          have RR2 : Hid (ZR ((uF.setCell ⟨gk, 0, none⟩ (.bool tF)).setCell ⟨gk, 1, none⟩ (.slice (some ⟨kF, 0, none⟩) nF nF)) tF (some ⟨kF, 0, none⟩) nF (rFs (z * 2 ^ 2 + ((2 ^ N : Nat) : Int)) (N + 1))) := (RR.out.set _ _ _ HNE.out).set _ _ _ HNE.out
          have hbu2 : Below Wu.heap.size Wu ((uF.setCell ⟨gk, 0, none⟩ (.bool tF)).setCell ⟨gk, 1, none⟩ (.slice (some ⟨kF, 0, none⟩) nF nF)) := bSet (bSet hbu _ _ _ HGU.out) _ _ _ HGU.out
          have hbw2 : Below w.heap.size w ((uF.setCell ⟨gk, 0, none⟩ (.bool tF)).setCell ⟨gk, 1, none⟩ (.slice (some ⟨kF, 0, none⟩) nF nF)) := bSet (bSet hbw _ _ _ HGk.out) _ _ _ HGk.out
          refine hK _ _ HJ2.out ?_
          clear hK HJ
          have HJ := HJ2
          clear HJ2
          refine wpJ_done (by kernel_rfl) ?_ _
          exact ⟨rfl, HRQ.out _ _ _ ⟨gk, tA, kA, nA, tB, kB, nB, tF, kF, nF, by kernel_rfl, Xk2.out, Xr2.out, Xq2.out, Xm2.out, Xu2.out, RR2.out, HGk.out, HDrk.out, HDqk.out, HDmk.out, HDuk.out, HKR.out, hbu2, hbw2⟩⟩
      · go_simp
        have HDrk : Hid (gr ≠ uA.heap.size) := Nat.ne_of_lt Xr.out.lt
        have HDqk : Hid (gq ≠ uA.heap.size) := Nat.ne_of_lt Xq.out.lt
        have HDmk : Hid (gm ≠ uA.heap.size) := Nat.ne_of_lt Xm.out.lt
        have HDuk : Hid (gu ≠ uA.heap.size) := Nat.ne_of_lt Xu.out.lt
        have HGU : Hid (Wu.heap.size ≤ uA.heap.size) := hbu.size
        have Xk0 : Hid (Box (uA.alloc (.cells #[.bool false, .slice none 0 0] 110)) uA.heap.size (.bool false) (.slice none 0 0)) := Box.new uA _ _ _
        have hbn : Below uA.heap.size uA (uA.alloc (.cells #[.bool false, .slice none 0 0] 110)) := below1 uA _
        generalize uA.alloc (.cells #[.bool false, .slice none 0 0] 110) = Wn at *
        have HGk : Hid (w.heap.size ≤ uA.heap.size) := hbw.size
        have hbu' := Below.on hbu hbn
        clear hbu
        have hbu := hbu'
        clear hbu'
        replace Xr : Hid _ := Xr.out.below hbn
        replace Xq : Hid _ := Xq.out.below hbn
        replace Xm : Hid _ := Xm.out.below hbn
        replace Xu : Hid _ := Xu.out.below hbn
        replace YA : Hid _ := YA.out.below hbn
        replace hbw := Below.on hbw hbn
        clear hbn
        generalize uA.heap.size = gk at *
        have Xk := Xk0
        clear Xk0
        refine hK _ _ ⟨Xm.out.c0, Xm.out.c1, Xu.out.c0, Xu.out.c1⟩ ?_
        clear hK
        refine wpJ_one (i := 3) (by kernel_rfl) rfl (by kernel_rfl) (fun KJ hK => ?_)
        go_simp
        refine (radd04 tA s3 YA.out (Z3u.out.below hbu) (by have := HLA.out; omega) (by have := HM1.out; omega)).mono ?_
        rintro e9 uB ⟨v, rfl, hv, hbB⟩
        obtain ⟨tB, kB, nB, rfl, hgB, hzB, hlB⟩ := hv
        skip
        have hbu' := Below.on hbu hbB
        clear hbu
        have hbu := hbu'
        clear hbu'
        replace Xr : Hid _ := Xr.out.below hbB
        replace Xq : Hid _ := Xq.out.below hbB
        replace Xm : Hid _ := Xm.out.below hbB
        replace Xu : Hid _ := Xu.out.below hbB
        replace Xk : Hid _ := Xk.out.below hbB
        replace YA : Hid _ := YA.out.below hbB
        replace hbw := Below.on hbw hbB
        clear hbB
        have YB : Hid (ZR uB tB (some ⟨kB, 0, none⟩) nB (z * 2 ^ 2 + ((2 ^ N : Nat) : Int))) := hzB
        have HLB : Hid (nB ≤ max nA m3 + 1) := hlB
        clear hzB hlB hgB
        clear YA
        refine hK _ _ ⟨Xm.out.c0, Xm.out.c1, Xu.out.c0, Xu.out.c1⟩ ?_
        clear hK
        refine wpJ_one (i := 6) (by kernel_rfl) rfl (by kernel_rfl) (fun KJ hK => ?_)
        go_simp
        have HLT : Hid (gk < uB.heap.size) := Xk.out.lt
        have HRB9 : Hid (gr < uB.heap.size ∧ gq < uB.heap.size) := ⟨Xr.out.lt, Xq.out.lt⟩
        refine (rfloorshr04 tB YB.out (Nat.le_trans (zr_len YB.out (sum_len HV.out.2.2 HN.out.2.2)) (by have := HN.out; omega)) (N + 1) (by have := HN.out; omega)).mono ?_
        rintro e9 uF ⟨v, rfl, hv, hbF⟩
        obtain ⟨tF, kF, nF, rfl, hgF, hzF, hlF⟩ := hv
        have HGB : Hid (uB.heap.size ≤ kF) := hgF
        have HKR : Hid (gr < kF ∧ gq < kF) := ⟨Nat.lt_of_lt_of_le HRB9.out.1 hgF, Nat.lt_of_lt_of_le HRB9.out.2 hgF⟩
        have hbu' := Below.on hbu hbF
        clear hbu
        have hbu := hbu'
        clear hbu'
        replace Xr : Hid _ := Xr.out.below hbF
        replace Xq : Hid _ := Xq.out.below hbF
        replace Xm : Hid _ := Xm.out.below hbF
        replace Xu : Hid _ := Xu.out.below hbF
        replace Xk : Hid _ := Xk.out.below hbF
        replace YB : Hid _ := YB.out.below hbF
        replace hbw := Below.on hbw hbF
        clear hbF
        have RR : Hid (ZR uF tF (some ⟨kF, 0, none⟩) nF (rFs (z * 2 ^ 2 + ((2 ^ N : Nat) : Int)) (N + 1))) := hzF
        have HLF : Hid (nF ≤ nB + 4) := hlF
        clear hzF hlF hgF
        clear YB
        have HNE : Hid (kF ≠ gk) := by have h1 := HLT.out; have h2 := HGB.out; show _ ≠ _; omega
        refine hK _ _ ⟨Xm.out.c0, Xm.out.c1, Xu.out.c0, Xu.out.c1⟩ ?_
        clear hK
        obtain ⟨ck0, ck1, fk0, fk1⟩ := Xk.out
        have hnek := Xk.out.lt
        obtain ⟨cr0, cr1, fr0, fr1⟩ := Xr.out
        have hner := Xr.out.lt
        obtain ⟨cq0, cq1, fq0, fq1⟩ := Xq.out
        have hneq := Xq.out.lt
        obtain ⟨cm0, cm1, fm0, fm1⟩ := Xm.out
        have hnem := Xm.out.lt
        obtain ⟨cu0, cu1, fu0, fu1⟩ := Xu.out
        have hneu := Xu.out.lt
        have qar : gr ≠ gk := HDrk.out
        have qbr : gk ≠ gr := fun h => qar h.symm
        have qaq : gq ≠ gk := HDqk.out
        have qbq : gk ≠ gq := fun h => qaq h.symm
        have qam : gm ≠ gk := HDmk.out
        have qbm : gk ≠ gm := fun h => qam h.symm
        have qau : gu ≠ gk := HDuk.out
        have qbu : gk ≠ gu := fun h => qau h.symm
        refine wpJ_one (i := 8) (by kernel_rfl) rfl (by kernel_rfl) (fun KJ hK => ?_)
        go_simp
        have HJ2 : Hid ((fun W' : World => W'.cell? ⟨gm, 0, none⟩ = some (.bool s1) ∧ W'.cell? ⟨gm, 1, none⟩ = some (.slice p1 m1 m1) ∧ W'.cell? ⟨gu, 0, none⟩ = some (.bool s3) ∧ W'.cell? ⟨gu, 1, none⟩ = some (.slice (some ⟨g3, 0, none⟩) m3 m3)) ((uF.setCell ⟨gk, 0, none⟩ (.bool tF)).setCell ⟨gk, 1, none⟩ (.slice (some ⟨kF, 0, none⟩) nF nF))) := ⟨by go_simp, by go_simp, by go_simp, by go_simp⟩
        have Xk2 : Hid (Box ((uF.setCell ⟨gk, 0, none⟩ (.bool tF)).setCell ⟨gk, 1, none⟩ (.slice (some ⟨kF, 0, none⟩) nF nF)) gk (.bool tF) (.slice (some ⟨kF, 0, none⟩) nF nF)) := ⟨by go_simp, by go_simp, by go_simp, by go_simp⟩
        have Xr2 : Hid (Box ((uF.setCell ⟨gk, 0, none⟩ (.bool tF)).setCell ⟨gk, 1, none⟩ (.slice (some ⟨kF, 0, none⟩) nF nF)) gr (.bool false) (.slice none 0 0)) := ⟨by go_simp, by go_simp, by go_simp, by go_simp⟩
        have Xq2 : Hid (Box ((uF.setCell ⟨gk, 0, none⟩ (.bool tF)).setCell ⟨gk, 1, none⟩ (.slice (some ⟨kF, 0, none⟩) nF nF)) gq (.bool false) (.slice none 0 0)) := ⟨by go_simp, by go_simp, by go_simp, by go_simp⟩
        have Xm2 : Hid (Box ((uF.setCell ⟨gk, 0, none⟩ (.bool tF)).setCell ⟨gk, 1, none⟩ (.slice (some ⟨kF, 0, none⟩) nF nF)) gm (.bool s1) (.slice p1 m1 m1)) := ⟨by go_simp, by go_simp, by go_simp, by go_simp⟩
        have Xu2 : Hid (Box ((uF.setCell ⟨gk, 0, none⟩ (.bool tF)).setCell ⟨gk, 1, none⟩ (.slice (some ⟨kF, 0, none⟩) nF nF)) gu (.bool s3) (.slice (some ⟨g3, 0, none⟩) m3 m3)) := ⟨by go_simp, by go_simp, by go_simp, by go_simp⟩
        have RR2 : Hid (ZR ((uF.setCell ⟨gk, 0, none⟩ (.bool tF)).setCell ⟨gk, 1, none⟩ (.slice (some ⟨kF, 0, none⟩) nF nF)) tF (some ⟨kF, 0, none⟩) nF (rFs (z * 2 ^ 2 + ((2 ^ N : Nat) : Int)) (N + 1))) := (RR.out.set _ _ _ HNE.out).set _ _ _ HNE.out
        have hbu2 : Below Wu.heap.size Wu ((uF.setCell ⟨gk, 0, none⟩ (.bool tF)).setCell ⟨gk, 1, none⟩ (.slice (some ⟨kF, 0, none⟩) nF nF)) := bSet (bSet hbu _ _ _ HGU.out) _ _ _ HGU.out
        have hbw2 : Below w.heap.size w ((uF.setCell ⟨gk, 0, none⟩ (.bool tF)).setCell ⟨gk, 1, none⟩ (.slice (some ⟨kF, 0, none⟩) nF nF)) := bSet (bSet hbw _ _ _ HGk.out) _ _ _ HGk.out
        refine hK _ _ HJ2.out ?_
        clear hK HJ
        have HJ := HJ2
        clear HJ2
        refine wpJ_done (by kernel_rfl) ?_ _
        exact ⟨rfl, HRQ.out _ _ _ ⟨gk, tA, kA, nA, tB, kB, nB, tF, kF, nF, by kernel_rfl, Xk2.out, Xr2.out, Xq2.out, Xm2.out, Xu2.out, RR2.out, HGk.out, HDrk.out, HDqk.out, HDmk.out, HDuk.out, HKR.out, hbu2, hbw2⟩⟩
    · go_simp
      have HDrk : Hid (gr ≠ Wr.heap.size) := Nat.ne_of_lt Xr.out.lt
      have HDqk : Hid (gq ≠ Wr.heap.size) := Nat.ne_of_lt Xq.out.lt
      have HDmk : Hid (gm ≠ Wr.heap.size) := Nat.ne_of_lt Xm.out.lt
      have HDuk : Hid (gu ≠ Wr.heap.size) := Nat.ne_of_lt Xu.out.lt
      have HGU : Hid (Wu.heap.size ≤ Wr.heap.size) := hbu.size
      have Xk0 : Hid (Box (Wr.alloc (.cells #[.bool false, .slice none 0 0] 110)) Wr.heap.size (.bool false) (.slice none 0 0)) := Box.new Wr _ _ _
      have hbn : Below Wr.heap.size Wr (Wr.alloc (.cells #[.bool false, .slice none 0 0] 110)) := below1 Wr _
      generalize Wr.alloc (.cells #[.bool false, .slice none 0 0] 110) = Wn at *
      have HGk : Hid (w.heap.size ≤ Wr.heap.size) := hbw.size
      have hbu' := Below.on hbu hbn
      clear hbu
      have hbu := hbu'
      clear hbu'
      replace Xr : Hid _ := Xr.out.below hbn
      replace Xq : Hid _ := Xq.out.below hbn
      replace Xm : Hid _ := Xm.out.below hbn
      replace Xu : Hid _ := Xu.out.below hbn
      replace hbw := Below.on hbw hbn
      clear hbn
      generalize Wr.heap.size = gk at *
      have Xk := Xk0
      clear Xk0
      refine hK _ _ ⟨Xm.out.c0, Xm.out.c1, Xu.out.c0, Xu.out.c1⟩ ?_
      clear hK
      refine wpJ_one (i := 1) (by kernel_rfl) rfl (by kernel_rfl) (fun KJ hK => ?_)
      go_simp
      refine (rshl04 s1 (Z1u.out.below hbu) (by have := HM1.out; omega) 2 (.inl (by decide))).mono ?_
      rintro e9 uA ⟨v, rfl, hv, hbA⟩
      obtain ⟨tA, kA, nA, rfl, hgA, hzA, hlA⟩ := hv
      skip
      have hbu' := Below.on hbu hbA
      clear hbu
      have hbu := hbu'
      clear hbu'
      replace Xr : Hid _ := Xr.out.below hbA
      replace Xq : Hid _ := Xq.out.below hbA
      replace Xm : Hid _ := Xm.out.below hbA
      replace Xu : Hid _ := Xu.out.below hbA
      replace Xk : Hid _ := Xk.out.below hbA
      replace hbw := Below.on hbw hbA
      clear hbA
      have YA : Hid (ZR uA tA (some ⟨kA, 0, none⟩) nA (z * 2 ^ 2)) := hzA
      have HLA : Hid (nA ≤ 40000) := hlA
      clear hzA hlA hgA
      refine hK _ _ ⟨Xm.out.c0, Xm.out.c1, Xu.out.c0, Xu.out.c1⟩ ?_
      clear hK
      refine wpJ_one (i := 3) (by kernel_rfl) rfl (by kernel_rfl) (fun KJ hK => ?_)
      go_simp
      refine (radd04 tA s3 YA.out (Z3u.out.below hbu) (by have := HLA.out; omega) (by have := HM1.out; omega)).mono ?_
      rintro e9 uB ⟨v, rfl, hv, hbB⟩
      obtain ⟨tB, kB, nB, rfl, hgB, hzB, hlB⟩ := hv
      skip
      have hbu' := Below.on hbu hbB
      clear hbu
      have hbu := hbu'
      clear hbu'
      replace Xr : Hid _ := Xr.out.below hbB
      replace Xq : Hid _ := Xq.out.below hbB
      replace Xm : Hid _ := Xm.out.below hbB
      replace Xu : Hid _ := Xu.out.below hbB
      replace Xk : Hid _ := Xk.out.below hbB
      replace YA : Hid _ := YA.out.below hbB
      replace hbw := Below.on hbw hbB
      clear hbB
      have YB : Hid (ZR uB tB (some ⟨kB, 0, none⟩) nB (z * 2 ^ 2 + ((2 ^ N : Nat) : Int))) := hzB
      have HLB : Hid (nB ≤ max nA m3 + 1) := hlB
      clear hzB hlB hgB
      clear YA
      refine hK _ _ ⟨Xm.out.c0, Xm.out.c1, Xu.out.c0, Xu.out.c1⟩ ?_
      clear hK
      refine wpJ_one (i := 6) (by kernel_rfl) rfl (by kernel_rfl) (fun KJ hK => ?_)
      go_simp
      have HLT : Hid (gk < uB.heap.size) := Xk.out.lt
      have HRB9 : Hid (gr < uB.heap.size ∧ gq < uB.heap.size) := ⟨Xr.out.lt, Xq.out.lt⟩
      refine (rfloorshr04 tB YB.out (Nat.le_trans (zr_len YB.out (sum_len HV.out.2.2 HN.out.2.2)) (by have := HN.out; omega)) (N + 1) (by have := HN.out; omega)).mono ?_
      rintro e9 uF ⟨v, rfl, hv, hbF⟩
      obtain ⟨tF, kF, nF, rfl, hgF, hzF, hlF⟩ := hv
      have HGB : Hid (uB.heap.size ≤ kF) := hgF
      have HKR : Hid (gr < kF ∧ gq < kF) := ⟨Nat.lt_of_lt_of_le HRB9.out.1 hgF, Nat.lt_of_lt_of_le HRB9.out.2 hgF⟩
      have hbu' := Below.on hbu hbF
      clear hbu
      have hbu := hbu'
      clear hbu'
      replace Xr : Hid _ := Xr.out.below hbF
      replace Xq : Hid _ := Xq.out.below hbF
      replace Xm : Hid _ := Xm.out.below hbF
      replace Xu : Hid _ := Xu.out.below hbF
      replace Xk : Hid _ := Xk.out.below hbF
      replace YB : Hid _ := YB.out.below hbF
      replace hbw := Below.on hbw hbF
      clear hbF
      have RR : Hid (ZR uF tF (some ⟨kF, 0, none⟩) nF (rFs (z * 2 ^ 2 + ((2 ^ N : Nat) : Int)) (N + 1))) := hzF
      have HLF : Hid (nF ≤ nB + 4) := hlF
      clear hzF hlF hgF
      clear YB
      have HNE : Hid (kF ≠ gk) := by have h1 := HLT.out; have h2 := HGB.out; show _ ≠ _; omega
      refine hK _ _ ⟨Xm.out.c0, Xm.out.c1, Xu.out.c0, Xu.out.c1⟩ ?_
      clear hK
      obtain ⟨ck0, ck1, fk0, fk1⟩ := Xk.out
      have hnek := Xk.out.lt
      obtain ⟨cr0, cr1, fr0, fr1⟩ := Xr.out
      have hner := Xr.out.lt
      obtain ⟨cq0, cq1, fq0, fq1⟩ := Xq.out
      have hneq := Xq.out.lt
      obtain ⟨cm0, cm1, fm0, fm1⟩ := Xm.out
      have hnem := Xm.out.lt
      obtain ⟨cu0, cu1, fu0, fu1⟩ := Xu.out
      have hneu := Xu.out.lt
      have qar : gr ≠ gk := HDrk.out
      have qbr : gk ≠ gr := fun h => qar h.symm
      have qaq : gq ≠ gk := HDqk.out
      have qbq : gk ≠ gq := fun h => qaq h.symm
      have qam : gm ≠ gk := HDmk.out
      have qbm : gk ≠ gm := fun h => qam h.symm
      have qau : gu ≠ gk := HDuk.out
      have qbu : gk ≠ gu := fun h => qau h.symm
      refine wpJ_one (i := 8) (by kernel_rfl) rfl (by kernel_rfl) (fun KJ hK => ?_)
      go_simp
      have HJ2 : Hid ((fun W' : World => W'.cell? ⟨gm, 0, none⟩ = some (.bool s1) ∧ W'.cell? ⟨gm, 1, none⟩ = some (.slice p1 m1 m1) ∧ W'.cell? ⟨gu, 0, none⟩ = some (.bool s3) ∧ W'.cell? ⟨gu, 1, none⟩ = some (.slice (some ⟨g3, 0, none⟩) m3 m3)) ((uF.setCell ⟨gk, 0, none⟩ (.bool tF)).setCell ⟨gk, 1, none⟩ (.slice (some ⟨kF, 0, none⟩) nF nF))) := ⟨by go_simp, by go_simp, by go_simp, by go_simp⟩
      have Xk2 : Hid (Box ((uF.setCell ⟨gk, 0, none⟩ (.bool tF)).setCell ⟨gk, 1, none⟩ (.slice (some ⟨kF, 0, none⟩) nF nF)) gk (.bool tF) (.slice (some ⟨kF, 0, none⟩) nF nF)) := ⟨by go_simp, by go_simp, by go_simp, by go_simp⟩
      have Xr2 : Hid (Box ((uF.setCell ⟨gk, 0, none⟩ (.bool tF)).setCell ⟨gk, 1, none⟩ (.slice (some ⟨kF, 0, none⟩) nF nF)) gr (.bool false) (.slice none 0 0)) := ⟨by go_simp, by go_simp, by go_simp, by go_simp⟩
      have Xq2 : Hid (Box ((uF.setCell ⟨gk, 0, none⟩ (.bool tF)).setCell ⟨gk, 1, none⟩ (.slice (some ⟨kF, 0, none⟩) nF nF)) gq (.bool false) (.slice none 0 0)) := ⟨by go_simp, by go_simp, by go_simp, by go_simp⟩
      have Xm2 : Hid (Box ((uF.setCell ⟨gk, 0, none⟩ (.bool tF)).setCell ⟨gk, 1, none⟩ (.slice (some ⟨kF, 0, none⟩) nF nF)) gm (.bool s1) (.slice p1 m1 m1)) := ⟨by go_simp, by go_simp, by go_simp, by go_simp⟩
      have Xu2 : Hid (Box ((uF.setCell ⟨gk, 0, none⟩ (.bool tF)).setCell ⟨gk, 1, none⟩ (.slice (some ⟨kF, 0, none⟩) nF nF)) gu (.bool s3) (.slice (some ⟨g3, 0, none⟩) m3 m3)) := ⟨by go_simp, by go_simp, by go_simp, by go_simp⟩
      have RR2 : Hid (ZR ((uF.setCell ⟨gk, 0, none⟩ (.bool tF)).setCell ⟨gk, 1, none⟩ (.slice (some ⟨kF, 0, none⟩) nF nF)) tF (some ⟨kF, 0, none⟩) nF (rFs (z * 2 ^ 2 + ((2 ^ N : Nat) : Int)) (N + 1))) := (RR.out.set _ _ _ HNE.out).set _ _ _ HNE.out
      have hbu2 : Below Wu.heap.size Wu ((uF.setCell ⟨gk, 0, none⟩ (.bool tF)).setCell ⟨gk, 1, none⟩ (.slice (some ⟨kF, 0, none⟩) nF nF)) := bSet (bSet hbu _ _ _ HGU.out) _ _ _ HGU.out
      have hbw2 : Below w.heap.size w ((uF.setCell ⟨gk, 0, none⟩ (.bool tF)).setCell ⟨gk, 1, none⟩ (.slice (some ⟨kF, 0, none⟩) nF nF)) := bSet (bSet hbw _ _ _ HGk.out) _ _ _ HGk.out
      refine hK _ _ HJ2.out ?_
      clear hK HJ
      have HJ := HJ2
      clear HJ2
      refine wpJ_done (by kernel_rfl) ?_ _
      exact ⟨rfl, HRQ.out _ _ _ ⟨gk, tA, kA, nA, tB, kB, nB, tF, kF, nF, by kernel_rfl, Xk2.out, Xr2.out, Xq2.out, Xm2.out, Xu2.out, RR2.out, HGk.out, HDrk.out, HDqk.out, HDmk.out, HDuk.out, HKR.out, hbu2, hbw2⟩⟩
end Go.Proofs.YtoalblaklcekeaaGreatDoor

namespace Go.Proofs.YtoalblaklcekeaaGreatDoor
open Go.RowKit Go.Shelf

theorem rMo4 (x : Int) : rMo x 4 = x % 4 := mo4 x
set_option maxRecDepth 20000 in
set_option maxHeartbeats 8000000 in
theorem quarter_ok {p : Option Addr} {m : Nat} {w : World} {K : Int} {s : Bool} (h : ZR w s p m K) (hm : m ≤ 16384) :
    Calls Tryz.prog 62 #[.agg #[.bool s, .slice p m m]] w fun en w' => en = .returned (.int .i64 (K % 4)) ∧ Below w.heap.size w w' := by
  have A : Hid (ZR w s p m K ∧ m ≤ 16384 ∧ 0 ≤ K % 4 ∧ K % 4 < 4) := ⟨h, hm, by omega, by omega⟩
  obtain ⟨q, hq⟩ : ∃ q, q = K % 4 := ⟨_, rfl⟩
  rw [← hq]
  have HQ : Hid (q = K % 4) := hq
  clear h hm hq
  go_enter Tryz.func62, Tryz.ntmps62
  go_wp2_with fail
  obtain ⟨W0, hW0⟩ : ∃ W0, W0 = (w.alloc (.cells #[.bool s, .slice p m m] 110)) := ⟨_, rfl⟩
  have Xk : Hid (Box W0 (w.heap.size) (.bool s) (.slice p m m)) := by rw [hW0]; exact ⟨by go_simp, by go_simp, by go_simp, by go_simp⟩
  have hb0 : Below w.heap.size w W0 := by rw [hW0]; exact below1 w _
  rw [← hW0]
  clear hW0
  have hbw : Below w.heap.size w w := Below.refl _ _
  obtain ⟨gk, hgk⟩ : ∃ g, g = w.heap.size := ⟨_, rfl⟩
  have HGk : Hid (w.heap.size ≤ gk) := by rw [hgk]; show _ ≤ _; omega
  rw [← hgk] at Xk
  try rw [← hgk]
  clear hgk
  replace hbw := Below.on hbw hb0
  clear hb0
  obtain ⟨ck0, ck1, fk0, fk1⟩ := Xk.out
  have hnek := Xk.out.lt
  go_wp2_with fail
  clear ck0 ck1 fk0 fk1 hnek
  obtain ⟨W1, hW1⟩ : ∃ W1, W1 = W0.drew := ⟨_, rfl⟩
  have hbd : Below W0.heap.size W0 W1 := by rw [hW1]; exact bDrew1 (Below.refl _ _)
  replace Xk : Hid _ := Xk.out.below hbd
  replace hbw := Below.on hbw hbd
  clear hbd
  have HJ : Hid ((fun W' : World => W'.cell? ⟨gk, 0, none⟩ = some (.bool s) ∧ W'.cell? ⟨gk, 1, none⟩ = some (.slice p m m)) W1) := ⟨Xk.out.c0, Xk.out.c1⟩
  refine wp_region_J (fun W' => W'.cell? ⟨gk, 0, none⟩ = some (.bool s) ∧ W'.cell? ⟨gk, 1, none⟩ = some (.slice p m m)) (by kernel_rfl) ?_
  rw [← hW1]
  clear hW1
  refine wpJ_take (i := 0) (v := ?v1x0) rfl (by kernel_rfl) (by kernel_rfl) (by kernel_rfl) (fun _ _ _ h => h) (by kernel_rfl) ?hy1x0 HJ.out ?rest1x0
  case hy1x0 => (intro W' hJ; obtain ⟨j0, j1⟩ := hJ; go_simp; first | done | with_reducible rfl)
  refine wpJ_one (i := 1) (by kernel_rfl) rfl (by kernel_rfl) (fun KJ hK => ?_)
  go_simp
  refine (rof04 4 _ (by decide) (by decide)).mono ?_
  rintro e9 v1 ⟨s1, g1, m1, rfl, hz1, hl1, hb1⟩
  replace Xk : Hid _ := Xk.out.below hb1
  replace hbw := Below.on hbw hb1
  clear hb1
  have Z1 : Hid (ZR v1 s1 (some ⟨g1, 0, none⟩) m1 4) := hz1
  have HL1 : Hid (m1 ≤ 1) := by
    obtain ⟨zs, hA, hN⟩ := hz1.ex
    have h1 := (hN.len_le B32_one (k := 1)).2 (by decide)
    rw [hA.len] at h1
    exact h1
  clear hz1 hl1
  refine hK _ _ ⟨Xk.out.c0, Xk.out.c1⟩ ?_
  clear hK
  refine wpJ_one (i := 2) (by kernel_rfl) rfl (by kernel_rfl) (fun KJ hK => ?_)
  go_simp
  refine (rmod04 s s1 (A.out.1.below hbw) Z1.out A.out.2.1 (by have := HL1.out; omega) (by decide)).mono ?_
  rintro e9 v2 ⟨v, rfl, hv, hb2⟩
  obtain ⟨s2, g2, m2, rfl, hg2, hz2, hl2⟩ := hv
  rw [rMo4, ← HQ.out] at hz2
  obtain rfl : s2 = false := by rw [hz2.sg]; exact decide_eq_false (by have := A.out; have := HQ.out; omega)
  replace Xk : Hid _ := Xk.out.below hb2
  replace Z1 : Hid _ := Z1.out.below hb2
  replace hbw := Below.on hbw hb2
  clear hb2
  have Z2 : Hid (ZR v2 false (some ⟨g2, 0, none⟩) m2 q) := hz2
  have HL2 : Hid (m2 ≤ 50000) := hl2
  clear hz2 hl2 hg2
  refine hK _ _ ⟨Xk.out.c0, Xk.out.c1⟩ ?_
  clear hK
  refine wpJ_one (i := 3) (by kernel_rfl) rfl (by kernel_rfl) (fun KJ hK => ?_)
  go_simp
  refine (rint04_pt Z2.out HL2.out (by have := A.out; have := HQ.out; omega) (by have := A.out; have := HQ.out; omega)).mono ?_
  rintro e v3 ⟨rfl, hb3⟩
  replace Xk : Hid _ := Xk.out.below hb3
  replace Z1 : Hid _ := Z1.out.below hb3
  replace Z2 : Hid _ := Z2.out.below hb3
  replace hbw := Below.on hbw hb3
  clear hb3
  clear HJ
  have HJ : Hid ((fun W' : World => W'.cell? ⟨gk, 0, none⟩ = some (.bool s) ∧ W'.cell? ⟨gk, 1, none⟩ = some (.slice p m m)) v3) := ⟨Xk.out.c0, Xk.out.c1⟩
  refine hK _ _ HJ.out ?_
  clear hK
  refine wpJ_take (i := 4) (v := ?v2x4) rfl (by kernel_rfl) (by kernel_rfl) (by kernel_rfl) (fun _ _ _ h => h) (by kernel_rfl) ?hy2x4 HJ.out ?rest2x4
  case hy2x4 => (intro W' hJ; obtain ⟨j0, j1⟩ := hJ; go_simp; first | done | with_reducible rfl)
  refine wpJ_take (i := 5) (v := ?v3x5) rfl (by kernel_rfl) (by kernel_rfl) (by kernel_rfl) (fun _ _ _ h => h) (by kernel_rfl) ?hy3x5 HJ.out ?rest3x5
  case hy3x5 => (intro W' hJ; obtain ⟨j0, j1⟩ := hJ; go_simp; first | done | with_reducible rfl)
  refine wpJ_take (i := 6) (v := ?v4x6) rfl (by kernel_rfl) (by kernel_rfl) (by kernel_rfl) (fun _ _ _ h => h) (by kernel_rfl) ?hy4x6 HJ.out ?rest4x6
  case hy4x6 => (intro W' hJ; obtain ⟨j0, j1⟩ := hJ; go_simp; first | done | with_reducible rfl)
  refine wpJ_take (i := 7) (v := ?v5x7) rfl (by kernel_rfl) (by kernel_rfl) (by kernel_rfl) (fun _ _ _ h => h) (by kernel_rfl) ?hy5x7 HJ.out ?rest5x7
  case hy5x7 => (intro W' hJ; obtain ⟨j0, j1⟩ := hJ; go_simp; first | done | with_reducible rfl)
  refine wpJ_take (i := 8) (v := ?v6x8) rfl (by kernel_rfl) (by kernel_rfl) (by kernel_rfl) (fun _ _ _ h => h) (by kernel_rfl) ?hy6x8 HJ.out ?rest6x8
  case hy6x8 => (intro W' hJ; obtain ⟨j0, j1⟩ := hJ; go_simp; first | done | with_reducible rfl)
  refine wpJ_done (by kernel_rfl) ?_ _
  clear HJ
  go_wp2_with fail
  go_ret
  exact ⟨rfl, hbw⟩
set_option maxRecDepth 20000 in
set_option maxHeartbeats 8000000 in
theorem fin17r_t (b : Nat) (h : b % 9223372036854775808 < 9218868437227405312) (w : World) :
    Calls Tryz.prog 59 #[U b] w fun en w' => en = .returned (.bool true) ∧ Below w.heap.size w w' := by
  have hbw : Below w.heap.size w w := Below.refl _ _
  obtain ⟨v, hv⟩ : ∃ v, v = b % 9223372036854775808 := ⟨_, rfl⟩
  obtain ⟨h1, h2⟩ := tm_u hv.symm
  rw [show ((9223372036854775808 : Nat) : Int) = 9223372036854775808 from rfl] at h1 h2
  rw [← hv] at h
  have h3 : decide (v < 9218868437227405312) = true := decide_eq_true h
  have h4 : decide ((v : Int) < 9218868437227405312) = true := decide_eq_true (by omega)
  clear hv h
  go_enter Tryz.func59, Tryz.ntmps59
  go_wp2_with fail
  go_ret
  exact ⟨rfl, hbw⟩
set_option maxRecDepth 20000 in
set_option maxHeartbeats 8000000 in
theorem fin17r_f (b : Nat) (h : ¬ b % 9223372036854775808 < 9218868437227405312) (w : World) :
    Calls Tryz.prog 59 #[U b] w fun en w' => en = .returned (.bool false) ∧ Below w.heap.size w w' := by
  have hbw : Below w.heap.size w w := Below.refl _ _
  obtain ⟨v, hv⟩ : ∃ v, v = b % 9223372036854775808 := ⟨_, rfl⟩
  obtain ⟨h1, h2⟩ := tm_u hv.symm
  rw [show ((9223372036854775808 : Nat) : Int) = 9223372036854775808 from rfl] at h1 h2
  rw [← hv] at h
  have h3 : decide (v < 9218868437227405312) = false := decide_eq_false h
  have h4 : decide ((v : Int) < 9218868437227405312) = false := decide_eq_false (by omega)
  clear hv h
  go_enter Tryz.func59, Tryz.ntmps59
  go_wp2_with fail
  go_ret
  exact ⟨rfl, hbw⟩
theorem split_any {L : Nat} (hL : 4000 ≤ L) {b : Nat} (hr : b % 9223372036854775808 < 9218868437227405312) {z e : Int} (hv : VF 9223372036854775808 4503599627370496 (-1074) b z e) (w : World) : Calls Tryz.prog 60 #[U b] w fun en w' => ∃ K R E s1 g1 m1 s2 p2 m2, en = .returned (.tuple #[.agg #[.bool s1, .slice (some ⟨g1, 0, none⟩) m1 m1], .agg #[.bool s2, .slice p2 m2 m2], .int .i64 E]) ∧ ZR w' s1 (some ⟨g1, 0, none⟩) m1 K ∧ ZR w' s2 p2 m2 R ∧ (dv R E = dv z e - 2 * K * UQ ∧ -UQ ≤ dv R E ∧ dv R E < UQ) ∧ (K.natAbs < 2 ^ L ∧ R.natAbs < 2 ^ L) ∧ (-1431 ≤ E ∧ E ≤ 1431) ∧ Below w.heap.size w w' := by
  rcases Int.lt_or_le e 0 with h | h
  · exact split_n hL hr hv h w
  · exact split_p hL hr hv h w
theorem Rdc.same {z e K zr er K' zo eo : Int} (h : Rdc z e K zr er) (h' : Rdc z e K' zo eo) : K = K' ∧ zr = zo ∧ er = eo := by
  have hp := uq_pos
  have h1 : K = K' := by
    have a1 := h.v; have a2 := h.lo; have a3 := h.hi
    have b1 := h'.v; have b2 := h'.lo; have b3 := h'.hi
    rw [a1] at a2 a3
    rw [b1] at b2 b3
    have c1 : (K - K') * UQ < 1 * UQ := by
      rw [Int.sub_mul, Int.one_mul]
      have d1 : 2 * K * UQ = 2 * (K * UQ) := Int.mul_assoc _ _ _
      have d2 : 2 * K' * UQ = 2 * (K' * UQ) := Int.mul_assoc _ _ _
      omega
    have c2 : (K' - K) * UQ < 1 * UQ := by
      rw [Int.sub_mul, Int.one_mul]
      have d1 : 2 * K * UQ = 2 * (K * UQ) := Int.mul_assoc _ _ _
      have d2 : 2 * K' * UQ = 2 * (K' * UQ) := Int.mul_assoc _ _ _
      omega
    have e1 := Int.lt_of_mul_lt_mul_right c1 (Int.le_of_lt hp)
    have e2 := Int.lt_of_mul_lt_mul_right c2 (Int.le_of_lt hp)
    omega
  subst h1
  obtain ⟨x, y⟩ := dv_inj h.fm h'.fm (h.v.trans h'.v.symm)
  exact ⟨rfl, x, y⟩
set_option maxRecDepth 20000 in
set_option maxHeartbeats 8000000 in
theorem docred_c {b : Nat} (hr : ¬ b % 9223372036854775808 < 9218868437227405312) (w : World) :
    Calls Tryz.prog 26 #[U b] w fun en w' => en = .returned (.tuple #[.int .i64 0, DV false none 0 0 0, .int .i64 6]) ∧ Below w.heap.size w w' := by
  have HV : Hid (¬ b % 9223372036854775808 < 9218868437227405312) := hr
  clear hr
  go_enter Tryz.func26, Tryz.ntmps26
  go_wp2_with fail
  obtain ⟨W0, hW0⟩ : ∃ W0, W0 = (w.alloc (.cells #[.bool false, .slice none 0 0, .int .i64 0] 28)) := ⟨_, rfl⟩
  have Xr : Hid (B3q W0 (w.heap.size) (.bool false) (.slice none 0 0) (.int .i64 0)) := by rw [hW0]; exact ⟨by go_simp, by go_simp, by go_simp, by go_simp, by go_simp, by go_simp⟩
  have hb0 : Below w.heap.size w W0 := by rw [hW0]; exact below1 w _
  rw [← hW0]
  clear hW0
  have hbw : Below w.heap.size w w := Below.refl _ _
  obtain ⟨gr, hgr⟩ : ∃ g, g = w.heap.size := ⟨_, rfl⟩
  have HGr : Hid (w.heap.size ≤ gr) := by rw [hgr]; show _ ≤ _; omega
  rw [← hgr] at Xr
  try rw [← hgr]
  clear hgr
  replace hbw := Below.on hbw hb0
  clear hb0
  refine (fin17r_f b HV.out _).mono ?_
  rintro e v1 ⟨rfl, hb1⟩
  replace Xr : Hid _ := Xr.out.below hb1
  replace hbw := Below.on hbw hb1
  clear hb1
  obtain ⟨cr0, cr1, cr2, fr0, fr1, fr2⟩ := Xr.out
  have hner : gr < v1.heap.size := World.block_lt_of_cell? v1 _ cr0
  go_wp2_with fail
  refine bodyPost_ret (v := .tuple #[.int .i64 0, DV false none 0 0 0, .int .i64 6]) (by rw [results_tct rfl]; go_simp) rfl ⟨rfl, ?_⟩
  first | exact hbw | exact bSet (bSet (bSet hbw _ _ _ HGr.out) _ _ _ HGr.out) _ _ _ HGr.out
set_option maxRecDepth 20000 in
set_option maxHeartbeats 8000000 in
theorem docred_f {b : Nat} (hr : b % 9223372036854775808 < 9218868437227405312) {z e : Int} (hv : VF 9223372036854775808 4503599627370496 (-1074) b z e) (w : World) :
    Calls Tryz.prog 26 #[U b] w fun en w' => ∃ K s1 p1 m1 c1 zr er, en = .returned (.tuple #[.int .i64 (K % 4), DV s1 p1 m1 c1 er, .int .i64 0]) ∧ DN w' s1 p1 m1 c1 er zr ∧ Rdc z e K zr er ∧ Below w.heap.size w w' := by
  have HV : Hid (b % 9223372036854775808 < 9218868437227405312 ∧ VF 9223372036854775808 4503599627370496 (-1074) b z e) := ⟨hr, hv⟩
  obtain ⟨L, hL⟩ : ∃ L : Nat, L = 4000 := ⟨_, rfl⟩
  have HLL : Hid (L = 4000) := hL
  clear hr hv hL
  go_enter Tryz.func26, Tryz.ntmps26
  go_wp2_with fail
  obtain ⟨W0, hW0⟩ : ∃ W0, W0 = (w.alloc (.cells #[.bool false, .slice none 0 0, .int .i64 0] 28)) := ⟨_, rfl⟩
  have Xr : Hid (B3q W0 (w.heap.size) (.bool false) (.slice none 0 0) (.int .i64 0)) := by rw [hW0]; exact ⟨by go_simp, by go_simp, by go_simp, by go_simp, by go_simp, by go_simp⟩
  have hb0 : Below w.heap.size w W0 := by rw [hW0]; exact below1 w _
  rw [← hW0]
  clear hW0
  have hbw : Below w.heap.size w w := Below.refl _ _
  obtain ⟨gr, hgr⟩ : ∃ g, g = w.heap.size := ⟨_, rfl⟩
  have HGr : Hid (w.heap.size ≤ gr) := by rw [hgr]; show _ ≤ _; omega
  rw [← hgr] at Xr
  try rw [← hgr]
  clear hgr
  replace hbw := Below.on hbw hb0
  clear hb0
  refine (fin17r_t b HV.out.1 _).mono ?_
  rintro e v1 ⟨rfl, hb1⟩
  replace Xr : Hid _ := Xr.out.below hb1
  replace hbw := Below.on hbw hb1
  clear hb1
  go_wp2_with fail
  refine (split_any (L := L) (by have := HLL.out; omega) HV.out.1 HV.out.2 _).mono ?_
  rintro e9 v2 ⟨K, R, E, s2, g2, m2, s3, p3, m3, rfl, hz2, hz3, hq, hbd, hE, hb2⟩
  replace Xr : Hid _ := Xr.out.below hb2
  replace hbw := Below.on hbw hb2
  clear hb2
  have Z2 : Hid (ZR v2 s2 (some ⟨g2, 0, none⟩) m2 K) := hz2
  have Z3 : Hid (ZR v2 s3 p3 m3 R) := hz3
  have HQ : Hid ((dv R E = dv z e - 2 * K * UQ ∧ -UQ ≤ dv R E ∧ dv R E < UQ) ∧ (K.natAbs < 2 ^ L ∧ R.natAbs < 2 ^ L) ∧ (-1431 ≤ E ∧ E ≤ 1431)) := ⟨hq, hbd, hE⟩
  clear hz2 hz3 hq hbd hE
  go_wp2_with fail
  have HDrk : Hid (gr ≠ v2.heap.size) := Nat.ne_of_lt Xr.out.lt
  rw [show v2.heap.size + 1 = (v2.alloc (.cells #[.bool s2, .slice (some ⟨g2, 0, none⟩) m2 m2] 110)).heap.size from by simp]
  have Xk0 : Hid (Box (v2.alloc (.cells #[.bool s2, .slice (some ⟨g2, 0, none⟩) m2 m2] 110)) v2.heap.size (.bool s2) (.slice (some ⟨g2, 0, none⟩) m2 m2)) := Box.new v2 _ _ _
  have hbn : Below v2.heap.size v2 (v2.alloc (.cells #[.bool s2, .slice (some ⟨g2, 0, none⟩) m2 m2] 110)) := below1 v2 _
  generalize v2.alloc (.cells #[.bool s2, .slice (some ⟨g2, 0, none⟩) m2 m2] 110) = Wk at *
  have HGk : Hid (w.heap.size ≤ v2.heap.size) := hbw.size
  replace Xr : Hid _ := Xr.out.below hbn
  replace Z2 : Hid _ := Z2.out.below hbn
  replace Z3 : Hid _ := Z3.out.below hbn
  replace hbw := Below.on hbw hbn
  clear hbn
  generalize v2.heap.size = gk at *
  have Xk := Xk0
  clear Xk0
  have Xj0 : Hid (Box (Wk.alloc (.cells #[.bool s3, .slice p3 m3 m3] 110)) Wk.heap.size (.bool s3) (.slice p3 m3 m3)) := Box.new Wk _ _ _
  have hbn : Below Wk.heap.size Wk (Wk.alloc (.cells #[.bool s3, .slice p3 m3 m3] 110)) := below1 Wk _
  generalize Wk.alloc (.cells #[.bool s3, .slice p3 m3 m3] 110) = Wj at *
  have HGj : Hid (w.heap.size ≤ Wk.heap.size) := hbw.size
  replace Xr : Hid _ := Xr.out.below hbn
  replace Xk : Hid _ := Xk.out.below hbn
  replace Z2 : Hid _ := Z2.out.below hbn
  replace Z3 : Hid _ := Z3.out.below hbn
  replace hbw := Below.on hbw hbn
  clear hbn
  generalize Wk.heap.size = gj at *
  have Xj := Xj0
  clear Xj0
  have HRJ : Hid (gr < Wj.heap.size) := Xr.out.lt
  refine (told_any (L := L) s3 Z3.out (Nat.le_trans (zr_len Z3.out HQ.out.2.1.2) (by have := HLL.out; omega)) (by have := HLL.out; have := HQ.out.2.2; omega) HQ.out.2.1.2).mono ?_
  rintro e9 v4 ⟨s4, p4, m4, c4, zo, eo, rfl, hd4, hq4, hnw, hb4⟩
  replace Xr : Hid _ := Xr.out.below hb4
  replace Xk : Hid _ := Xk.out.below hb4
  replace Xj : Hid _ := Xj.out.below hb4
  replace Z2 : Hid _ := Z2.out.below hb4
  replace Z3 : Hid _ := Z3.out.below hb4
  replace hbw := Below.on hbw hb4
  clear hb4
  have D4 : Hid (DN v4 s4 p4 m4 c4 eo zo) := hd4
  have HC : Hid (Rdc z e K zo eo) := by
    have h9 := HQ.out.1
    rw [← hq4] at h9
    exact ⟨hd4.fm, h9.1, h9.2.1, h9.2.2⟩
  have HNW : Hid ((zo = 0 ∧ eo = 0 ∧ s4 = false ∧ p4 = none ∧ m4 = 0 ∧ c4 = 0) ∨ ∃ g, p4 = some ⟨g, 0, none⟩ ∧ gr < g) := by
    rcases hnw with h | ⟨g, h1, h2⟩
    · exact .inl h
    · exact .inr ⟨g, h1, Nat.lt_of_lt_of_le HRJ.out h2⟩
  clear hd4 hq4 hnw
  clear Z3
  obtain ⟨ck0, ck1, fk0, fk1⟩ := Xk.out
  have hnek := Xk.out.lt
  go_wp2_with fail
  clear ck0 ck1 fk0 fk1 hnek
  have HDrd : Hid (gr ≠ v4.heap.size) := Nat.ne_of_lt Xr.out.lt
  have Xd0 : Hid (B3q (v4.alloc (.cells #[.bool s4, .slice p4 m4 c4, .int .i64 eo] 28)) v4.heap.size (.bool s4) (.slice p4 m4 c4) (.int .i64 eo)) := B3q.new v4 _ _ _ _
  have hbn : Below v4.heap.size v4 (v4.alloc (.cells #[.bool s4, .slice p4 m4 c4, .int .i64 eo] 28)) := below1 v4 _
  generalize v4.alloc (.cells #[.bool s4, .slice p4 m4 c4, .int .i64 eo] 28) = Wd at *
  have HGd : Hid (w.heap.size ≤ v4.heap.size) := hbw.size
  replace Xr : Hid _ := Xr.out.below hbn
  replace Xk : Hid _ := Xk.out.below hbn
  replace Xj : Hid _ := Xj.out.below hbn
  replace Z2 : Hid _ := Z2.out.below hbn
  replace D4 : Hid _ := D4.out.below hbn
  replace hbw := Below.on hbw hbn
  clear hbn
  generalize v4.heap.size = gd at *
  have Xd := Xd0
  clear Xd0
  obtain ⟨Q4, hQ4⟩ : ∃ Q4, Q4 = K % 4 := ⟨_, rfl⟩
  have HQ4 : Hid (Q4 = K % 4) := hQ4
  obtain ⟨W1, hW1⟩ : ∃ W1, W1 = Wd.drew := ⟨_, rfl⟩
  have hbd : Below Wd.heap.size Wd W1 := by rw [hW1]; exact bDrew1 (Below.refl _ _)
  replace Xr : Hid _ := Xr.out.below hbd
  replace Xk : Hid _ := Xk.out.below hbd
  replace Xj : Hid _ := Xj.out.below hbd
  replace Xd : Hid _ := Xd.out.below hbd
  replace Z2 : Hid _ := Z2.out.below hbd
  replace D4 : Hid _ := D4.out.below hbd
  replace hbw := Below.on hbw hbd
  clear hbd
  have HJ : Hid ((fun W' : World => W'.cell? ⟨gk, 0, none⟩ = some (.bool s2) ∧ W'.cell? ⟨gk, 1, none⟩ = some (.slice (some ⟨g2, 0, none⟩) m2 m2) ∧ W'.cell? ⟨gd, 0, none⟩ = some (.bool s4) ∧ W'.cell? ⟨gd, 1, none⟩ = some (.slice p4 m4 c4) ∧ W'.cell? ⟨gd, 2, none⟩ = some (.int .i64 eo)) W1) := ⟨Xk.out.c0, Xk.out.c1, Xd.out.c0, Xd.out.c1, Xd.out.c2⟩
  refine wp_region_J (fun W' => W'.cell? ⟨gk, 0, none⟩ = some (.bool s2) ∧ W'.cell? ⟨gk, 1, none⟩ = some (.slice (some ⟨g2, 0, none⟩) m2 m2) ∧ W'.cell? ⟨gd, 0, none⟩ = some (.bool s4) ∧ W'.cell? ⟨gd, 1, none⟩ = some (.slice p4 m4 c4) ∧ W'.cell? ⟨gd, 2, none⟩ = some (.int .i64 eo)) (by kernel_rfl) ?_
  rw [← hW1]
  clear hW1
  refine wpJ_take (i := 0) (v := ?v7x0) rfl (by kernel_rfl) (by kernel_rfl) (by kernel_rfl) (fun _ _ _ h => h) (by kernel_rfl) ?hy7x0 HJ.out ?rest7x0
  case hy7x0 => (intro W' hJ; obtain ⟨j0, j1, j2, j3, j4⟩ := hJ; go_simp; first | done | with_reducible rfl)
  refine wpJ_take (i := 2) (v := ?v8x2) rfl (by kernel_rfl) (by kernel_rfl) (by kernel_rfl) (fun _ _ _ h => h) (by kernel_rfl) ?hy8x2 HJ.out ?rest8x2
  case hy8x2 => (intro W' hJ; obtain ⟨j0, j1, j2, j3, j4⟩ := hJ; go_simp; first | done | with_reducible rfl)
  refine wpJ_one (i := 1) (by kernel_rfl) rfl (by kernel_rfl) (fun KJ hK => ?_)
  go_simp
  refine (quarter_ok Z2.out (Nat.le_trans (zr_len Z2.out HQ.out.2.1.1) (by have := HLL.out; omega))).mono ?_
  rintro e v8 ⟨rfl, hb8⟩
  rw [← hQ4]
  clear hQ4
  replace Xr : Hid _ := Xr.out.below hb8
  replace Xk : Hid _ := Xk.out.below hb8
  replace Xj : Hid _ := Xj.out.below hb8
  replace Xd : Hid _ := Xd.out.below hb8
  replace Z2 : Hid _ := Z2.out.below hb8
  replace D4 : Hid _ := D4.out.below hb8
  replace hbw := Below.on hbw hb8
  clear hb8
  clear HJ
  have HJ : Hid ((fun W' : World => W'.cell? ⟨gk, 0, none⟩ = some (.bool s2) ∧ W'.cell? ⟨gk, 1, none⟩ = some (.slice (some ⟨g2, 0, none⟩) m2 m2) ∧ W'.cell? ⟨gd, 0, none⟩ = some (.bool s4) ∧ W'.cell? ⟨gd, 1, none⟩ = some (.slice p4 m4 c4) ∧ W'.cell? ⟨gd, 2, none⟩ = some (.int .i64 eo)) v8) := ⟨Xk.out.c0, Xk.out.c1, Xd.out.c0, Xd.out.c1, Xd.out.c2⟩
  refine hK _ _ HJ.out ?_
  clear hK
  refine wpJ_take (i := 3) (v := ?v9x3) rfl (by kernel_rfl) (by kernel_rfl) (by kernel_rfl) (fun _ _ _ h => h) (by kernel_rfl) ?hy9x3 HJ.out ?rest9x3
  case hy9x3 => (intro W' hJ; obtain ⟨j0, j1, j2, j3, j4⟩ := hJ; go_simp; first | done | with_reducible rfl)
  have HGD : Hid (gr ≠ gd ∧ gd ≠ gr) := ⟨HDrd.out, fun h => HDrd.out h.symm⟩
  have qrk := HDrk.out
  have qkr : gk ≠ gr := fun h => qrk h.symm
  obtain ⟨cr0, cr1, cr2, fr0, fr1, fr2⟩ := Xr.out
  have hner : gr < v8.heap.size := World.block_lt_of_cell? v8 _ cr0
  obtain ⟨ck0, ck1, fk0, fk1⟩ := Xk.out
  have hnek := Xk.out.lt
  obtain ⟨cd0, cd1, cd2, fd0, fd1, fd2⟩ := Xd.out
  have hned : gd < v8.heap.size := World.block_lt_of_cell? v8 _ cd0
  obtain ⟨hgd0, hgd1⟩ := HGD.out
  refine wpJ_one (i := 4) (by kernel_rfl) rfl (by kernel_rfl) (fun KJ hK => ?_)
  go_simp
  have HJ2 : Hid ((fun W' : World => W'.cell? ⟨gk, 0, none⟩ = some (.bool s2) ∧ W'.cell? ⟨gk, 1, none⟩ = some (.slice (some ⟨g2, 0, none⟩) m2 m2) ∧ W'.cell? ⟨gd, 0, none⟩ = some (.bool s4) ∧ W'.cell? ⟨gd, 1, none⟩ = some (.slice p4 m4 c4) ∧ W'.cell? ⟨gd, 2, none⟩ = some (.int .i64 eo)) (((v8.setCell ⟨gr, 0, none⟩ (.bool s4)).setCell ⟨gr, 1, none⟩ (.slice p4 m4 c4)).setCell ⟨gr, 2, none⟩ (.int .i64 eo))) := ⟨by go_simp, by go_simp, by go_simp, by go_simp, by go_simp⟩
  refine hK _ _ HJ2.out ?_
  clear hK HJ
  have HJ := HJ2
  clear HJ2
  refine wpJ_take (i := 5) (v := ?v10x5) rfl (by kernel_rfl) (by kernel_rfl) (by kernel_rfl) (fun _ _ _ h => h) (by kernel_rfl) ?hy10x5 HJ.out ?rest10x5
  case hy10x5 => (intro W' hJ; obtain ⟨j0, j1, j2, j3, j4⟩ := hJ; go_simp; first | done | with_reducible rfl)
  refine wpJ_done (by kernel_rfl) ?_ _
  clear HJ
  go_wp2_with fail
  refine bodyPost_ret (v := .tuple #[.int .i64 Q4, DV s4 p4 m4 c4 eo, .int .i64 0]) (by rw [results_tct rfl]; go_simp) rfl ⟨K, s4, p4, m4, c4, zo, eo, by rw [HQ4.out], ?_, HC.out, ?_⟩
  · rcases HNW.out with ⟨h1, h2, h3, h4, h5, h6⟩ | ⟨g, h1, h2⟩
    · rw [h1, h2, h3, h4, h5, h6]; exact (DO.zero 0 _).dn
    · have hD := D4.out
      rw [h1] at hD ⊢
      exact ((hD.set _ _ _ (by omega)).set _ _ _ (by omega)).set _ _ _ (by omega)
  · exact bSet (bSet (bSet hbw _ _ _ HGr.out) _ _ _ HGr.out) _ _ _ HGr.out
end Go.Proofs.YtoalblaklcekeaaGreatDoor

namespace Go.Proofs.YtoalblaklcekeaaGreatDoor
open Go.RowKit Go.Shelf

set_option maxRecDepth 20000 in
set_option maxHeartbeats 8000000 in
theorem turnReduces_w {p : Option Addr} {n c : Nat} {xs : List Nat} {w : World} (h : At w p n c xs) (hn : n ≤ 17592186044416) (hT : Tab w) :
    Calls Tryz.prog 6 #[.slice p n c] w fun en w' => en = .returned (.bool true) ∧ Below w.heap.size w w' := by
  have TB : Hid (Tab w) := hT
  have A : Hid (At w p n c xs ∧ n ≤ 17592186044416) := ⟨h, hn⟩
  have hbw : Below w.heap.size w w := Below.refl _ _
  clear h hn hT
  go_enter Tryz.func6, Tryz.ntmps6
  go_wp2_with fail
  refine (awake17 _ (TB.out.below hbw)).mono ?_
  rintro e v1 ⟨rfl, hb1⟩
  replace hbw := Below.on hbw hb1
  clear hb1
  go_wp2_with fail
  have HB0 : Hid (Below w.heap.size w v1) := hbw
  clear hbw
  go_loopg [15] n (fun gk iv wr => ∃ k : Nat, k + gk = n ∧ iv = .int .i64 k ∧ Below w.heap.size w wr)
  case atStart => exact ⟨0, by omega, rfl, HB0.out⟩
  case round =>
    obtain ⟨k, hkg, rfl, hbw⟩ := hrel
    cases gk with
    | zero =>
      obtain rfl : k = n := by omega
      have hnk : ¬ (k : Int) < (k : Int) := by omega
      go_wp2_with fail
      go_ret
      exact ⟨rfl, hbw⟩
    | succ gg =>
      have hkn : k < n := by omega
      have HR := A.out.1.below hbw
      have hxb : xs.getD k 0 < B64 := by
        have h9 := A.out.1.dig (xs.getD k 0)
        rw [List.getD_eq_getElem?_getD, List.getElem?_eq_getElem (by rw [A.out.1.len]; exact hkn)] at h9 ⊢
        exact h9 (List.getElem_mem _)
      obtain ⟨g, off, rfl, hc⟩ := HR.cells.resolve_left (by omega)
      have e0 := hc k hkn
      have hkk : (k : Int) < (n : Int) := by omega
      obtain ⟨b, hb⟩ : ∃ b, b = xs.getD k 0 := ⟨_, rfl⟩
      rw [← hb] at e0 hxb
      rw [B64_eq] at hxb
      have HBB : Hid (b < 2 * 9223372036854775808 ∧ k + (gg + 1) = n) := ⟨by show _ < _; omega, hkg⟩
      clear hc HR hb hxb hkn hkg
      by_cases hf : b % 9223372036854775808 < 9218868437227405312
      · obtain ⟨z, e, hv, _⟩ := vf_ex pm_64 hf
        have HV : Hid (b % 9223372036854775808 < 9218868437227405312 ∧ VF 9223372036854775808 4503599627370496 (-1074) b z e) := ⟨hf, hv⟩
        clear hv hf
        go_wp2_with fail
        clear e0 hkk
        refine (reduce_f HBB.out.1 HV.out.1 HV.out.2 _ (TB.out.below hbw)).mono ?_
        rintro e9 v2 ⟨K, s2, p2, m2, zr, er, rfl, ho2, hrd, _, hb2⟩
        replace hbw := Below.on hbw hb2
        clear hb2
        have D2 : Hid (DN v2 s2 p2 m2 m2 er zr) := ho2.dn
        have HC : Hid (Rdc z e K zr er) := hrd
        obtain ⟨q, hq⟩ : ∃ q, q = K % 4 := ⟨_, rfl⟩
        rw [← hq]
        have HQ : Hid (q = K % 4) := hq
        clear hq ho2 hrd
        go_wp2_with fail
        have Xr0 : Hid (B3q (v2.alloc (.cells #[.bool s2, .slice p2 m2 m2, .int .i64 er] 28)) v2.heap.size (.bool s2) (.slice p2 m2 m2) (.int .i64 er)) := B3q.new v2 _ _ _ _
        have hbn : Below v2.heap.size v2 (v2.alloc (.cells #[.bool s2, .slice p2 m2 m2, .int .i64 er] 28)) := below1 v2 _
        generalize v2.alloc (.cells #[.bool s2, .slice p2 m2 m2, .int .i64 er] 28) = Wr at *
        have HGr : Hid (w.heap.size ≤ v2.heap.size) := hbw.size
        replace D2 : Hid _ := D2.out.below hbn
        replace hbw := Below.on hbw hbn
        clear hbn
        generalize v2.heap.size = gr at *
        have Xr := Xr0
        clear Xr0
        refine (docred_f HV.out.1 HV.out.2 _).mono ?_
        rintro e9 v3 ⟨K', s3, p3, m3, c3, zo, eo, rfl, hd3, hr3, hb3⟩
        obtain ⟨hK, hz, he⟩ := HC.out.same hr3
        rw [← hK, ← HQ.out]
        replace Xr : Hid _ := Xr.out.below hb3
        replace D2 : Hid _ := D2.out.below hb3
        replace hbw := Below.on hbw hb3
        clear hb3
        have D3 : Hid (DN v3 s3 p3 m3 c3 eo zo) := hd3
        have HS : Hid (zr = zo ∧ er = eo) := ⟨hz, he⟩
        clear hd3 hr3 hK hz he
        obtain ⟨cr0, cr1, cr2, fr0, fr1, fr2⟩ := Xr.out
        have hner : gr < v3.heap.size := World.block_lt_of_cell? v3 _ cr0
        go_wp2_with fail
        clear cr0 cr1 cr2 fr0 fr1 fr2 hner
        have Xd0 : Hid (B3q (v3.alloc (.cells #[.bool s3, .slice p3 m3 c3, .int .i64 eo] 28)) v3.heap.size (.bool s3) (.slice p3 m3 c3) (.int .i64 eo)) := B3q.new v3 _ _ _ _
        have hbn : Below v3.heap.size v3 (v3.alloc (.cells #[.bool s3, .slice p3 m3 c3, .int .i64 eo] 28)) := below1 v3 _
        generalize v3.alloc (.cells #[.bool s3, .slice p3 m3 c3, .int .i64 eo] 28) = Wd at *
        have HGd : Hid (w.heap.size ≤ v3.heap.size) := hbw.size
        replace Xr : Hid _ := Xr.out.below hbn
        replace D2 : Hid _ := D2.out.below hbn
        replace D3 : Hid _ := D3.out.below hbn
        replace hbw := Below.on hbw hbn
        clear hbn
        generalize v3.heap.size = gd at *
        have Xd := Xd0
        clear Xd0
        refine (sameD D2.out D3.out).mono ?_
        rintro e v4 ⟨rfl, hb4⟩
        rw [show decide (zr = zo ∧ er = eo) = true from decide_eq_true HS.out]
        replace Xr : Hid _ := Xr.out.below hb4
        replace Xd : Hid _ := Xd.out.below hb4
        replace D2 : Hid _ := D2.out.below hb4
        replace D3 : Hid _ := D3.out.below hb4
        replace hbw := Below.on hbw hb4
        clear hb4
        go_wp2_with fail
        go_roundg gg
        case measure => omega
        case rel => exact ⟨k + 1, by have := HBB.out; omega, by rw [show wrap64 ((k : Int) + 1) = ((k + 1 : Nat) : Int) from by have h1 := A.out.2; have h2 := HBB.out.2; simp only [wrap64]; omega], hbw⟩
      · have HV : Hid (¬ b % 9223372036854775808 < 9218868437227405312 ∧ 9218868437227405312 ≤ b % 9223372036854775808) := ⟨hf, by omega⟩
        clear hf
        go_wp2_with fail
        clear e0 hkk
        refine (reduce_c HBB.out.1 HV.out.2 _).mono ?_
        rintro e v2 ⟨rfl, hb2⟩
        replace hbw := Below.on hbw hb2
        clear hb2
        go_wp2_with fail
        have Xr0 : Hid (B3q (v2.alloc (.cells #[.bool false, .slice none 0 0, .int .i64 0] 28)) v2.heap.size (.bool false) (.slice none 0 0) (.int .i64 0)) := B3q.new v2 _ _ _ _
        have hbn : Below v2.heap.size v2 (v2.alloc (.cells #[.bool false, .slice none 0 0, .int .i64 0] 28)) := below1 v2 _
        generalize v2.alloc (.cells #[.bool false, .slice none 0 0, .int .i64 0] 28) = Wr at *
        have HGr : Hid (w.heap.size ≤ v2.heap.size) := hbw.size
        replace hbw := Below.on hbw hbn
        clear hbn
        generalize v2.heap.size = gr at *
        have Xr := Xr0
        clear Xr0
        refine (docred_c HV.out.1 _).mono ?_
        rintro e v3 ⟨rfl, hb3⟩
        replace Xr : Hid _ := Xr.out.below hb3
        replace hbw := Below.on hbw hb3
        clear hb3
        obtain ⟨cr0, cr1, cr2, fr0, fr1, fr2⟩ := Xr.out
        have hner : gr < v3.heap.size := World.block_lt_of_cell? v3 _ cr0
        go_wp2_with fail
        clear cr0 cr1 cr2 fr0 fr1 fr2 hner
        have Xd0 : Hid (B3q (v3.alloc (.cells #[.bool false, .slice none 0 0, .int .i64 0] 28)) v3.heap.size (.bool false) (.slice none 0 0) (.int .i64 0)) := B3q.new v3 _ _ _ _
        have hbn : Below v3.heap.size v3 (v3.alloc (.cells #[.bool false, .slice none 0 0, .int .i64 0] 28)) := below1 v3 _
        generalize v3.alloc (.cells #[.bool false, .slice none 0 0, .int .i64 0] 28) = Wd at *
        have HGd : Hid (w.heap.size ≤ v3.heap.size) := hbw.size
        replace Xr : Hid _ := Xr.out.below hbn
        replace hbw := Below.on hbw hbn
        clear hbn
        generalize v3.heap.size = gd at *
        have Xd := Xd0
        clear Xd0
        refine (sameD (DO.zero 0 _).dn (DO.zero 0 _).dn).mono ?_
        rintro e v4 ⟨rfl, hb4⟩
        replace Xr : Hid _ := Xr.out.below hb4
        replace Xd : Hid _ := Xd.out.below hb4
        replace hbw := Below.on hbw hb4
        clear hb4
        go_wp2_with fail
        go_roundg gg
        case measure => omega
        case rel => exact ⟨k + 1, by have := HBB.out; omega, by rw [show wrap64 ((k : Int) + 1) = ((k + 1 : Nat) : Int) from by have h1 := A.out.2; have h2 := HBB.out.2; simp only [wrap64]; omega], hbw⟩
end Go.Proofs.YtoalblaklcekeaaGreatDoor

