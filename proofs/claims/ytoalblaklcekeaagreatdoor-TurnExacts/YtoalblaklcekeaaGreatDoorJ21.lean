import Derived.Test.YtoalblaklcekeaaGreatDoorJ20
import Derived.Test.YtoalblaklcekeaaGreatDoorJ11
import Derived.Test.YtoalblaklcekeaaGreatDoorJ13
import Derived.Test.YtoalblaklcekeaaGreatDoorJ17
import Derived.Test.YtoalblaklcekeaaGreatDoorJ10
import Derived.Test.YtoalblaklcekeaaGreatDoorJ12
namespace Go.Proofs.YtoalblaklcekeaaGreatDoor
open Go.RowKit Go.Shelf
set_option maxRecDepth 20000 in
set_option maxHeartbeats 2000000 in
theorem rdivsmall2 {p : Option Addr} {n c : Nat} {xs : List Nat} {w : World} (h : At32 w p n c xs) (hn : n ≤ 1099511627776) (d : Nat) (hd : 1 ≤ d) (hdb : d < B32) :
    Calls Tryz.prog 159 #[.slice p n c, .int .u32 d] w fun e w' => ∃ p' m' zs r, e = .returned (.tuple #[.slice p' m' m', .int .u32 r]) ∧ At32 w' p' m' m' zs ∧ Nf B32 zs (valB B32 xs / d) ∧ m' ≤ n ∧ r = ((valB B32 xs % d : Nat) : Int) ∧ Below w.heap.size w w' := by
  obtain ⟨i0, hi, hz0, hz1, hz2⟩ := info_parts Tryz.infoU32
  have HLX : Hid (xs.length = n) := h.len
  have hcap := h.cap; have hbig := h.big
  unfold maxLen at hbig
  have hd0 : ((d : Int) == 0) = false := by simp; omega
  have HDB : Hid (1 ≤ d ∧ d < B32) := ⟨hd, hdb⟩
  have hdw : IntKind.u64.wrap (d : Int) = (d : Int) := wrap_mod _ _ (by rw [B32_eq] at hdb; omega)
  clear hdb
  go_enter Tryz.func159, Tryz.ntmps159
  go_wp2_with (at_make; refine wpList_make_full _ rfl _ _ 108 rfl w.heap.size 203 i0 (.int .u32 0) 1 Tryz.underlying108 hi hz0 hz1 _ _ _ _ n rfl rfl (by omega) (by omega) (by rw [hz2]; omega) (by unfold maxLen; omega) (Nat.le_refl _) ?_; intro w1 hown hgrow; have hb := made_blk32 hown hgrow; clear hown hgrow)
  have HO : Hid (DSm w w.heap.size n d xs n 0 (List.replicate n 0) w1) := by
    have hr := hb.1.row (Dig.replicate B32 n B32_pos)
    rw [List.length_replicate] at hr
    refine ⟨hb.2, hr, by omega, ?_⟩
    rw [List.drop_of_length_le (by rw [List.length_replicate]; exact Nat.le_refl _), List.drop_of_length_le (by rw [HLX.out]; exact Nat.le_refl _)]
    simp [valB]
  clear hb
  go_loopg [7, 8] n (fun gk lv iv wr => ∃ (L : Nat) (z : Int) (qs : List Nat), lv = U L ∧ iv = .int .i64 z ∧ z = (gk : Int) - 1 ∧ gk ≤ n ∧ Hid (DSm w w.heap.size n d xs gk L qs wr))
  case atStart => exact ⟨0, (n : Int) - 1, _, rfl, rfl, rfl, Nat.le_refl _, HO⟩
  case round =>
    obtain ⟨L, z, qs, rfl, rfl, hz, hgn, HR⟩ := hrel
    cases gk with
    | zero =>
      obtain rfl : z = -1 := by omega
      have hR := HR.out
      have A32 : At32 wr (some ⟨w.heap.size, 0, none⟩) n n qs := hR.row.at_ (Nat.le_refl _) (by unfold maxLen; omega)
      have hv := hR.val
      rw [List.drop_zero, List.drop_zero] at hv
      have HV : Hid (valB B32 qs = valB B32 xs / d) := by
        show _ = _
        have h1 := hR.lt
        rw [← hv, Nat.mul_comm, Nat.mul_add_div (by omega), Nat.div_eq_of_lt h1, Nat.add_zero]
      have HRM : Hid (L = valB B32 xs % d) := by
        show _ = _
        have h1 := hR.lt
        rw [← hv, Nat.mul_comm, Nat.mul_add_mod, Nat.mod_eq_of_lt h1]
      have HNF : Hid (Nf B32 (trimL qs) (valB B32 xs / d)) := by
        have := Nf.trim hR.row.dig
        rw [HV.out] at this; exact this
      have hle := trimL_length_le qs
      have HLE : Hid ((trimL qs).length ≤ n) := by have := hR.row.len; show _ ≤ _; omega
      have hLw : IntKind.u32.wrap (L : Int) = (L : Int) := wrap32 L (by have := hR.lt; have := HDB.out.2; omega)
      have hbx := hR.bel
      clear hR hv hle hz HR
      go_wp2_with fail
      refine (rnorm_any A32 (by omega)).mono ?_
      rintro e w5 ⟨g5, rfl, hg5, hblk5, hb5⟩
      have hd5 := HNF.out.dig
      generalize trimL qs = us at *
      go_wp2_with fail
      go_ret2
      exact ⟨_, _, us, _, rfl, hblk5.at_ hd5 rfl (by have := HLE.out; unfold maxLen; omega), HNF.out, HLE.out, by rw [← HRM.out], Below.on hbx hb5⟩
    | succ j =>
      obtain rfl : z = (j : Int) := by omega
      obtain ⟨g, off, rfl, hc⟩ := h.cells.resolve_left (by omega)
      obtain ⟨x, hx⟩ : ∃ x, x = xs.getD j 0 := ⟨_, rfl⟩
      have hcx0 : w.cell? ⟨g, off + j, none⟩ = some (V x) := by rw [hx]; exact hc j (by omega)
      have hcx : wr.cell? ⟨g, off + j, none⟩ = some (V x) := (HR.out.bel.cell (p := ⟨g, off + j, none⟩) (World.block_lt_of_cell? w _ hcx0)).trans hcx0
      have hxb : x < B32 := by rw [hx]; exact h.dig.getD B32_pos j
      have hjn : j < n := by omega
      have hct : wr.cell? ⟨w.heap.size, j, none⟩ = some (V (qs.getD j 0)) := by
        have := HR.out.row.cell j hjn
        rw [Nat.zero_add] at this; exact this
      have hft : wr.frozen? ⟨w.heap.size, j, none⟩ = false := by
        have := HR.out.row.frozen j hjn
        rw [Nat.zero_add] at this; exact this
      have hL := HR.out.lt
      have hdB := HDB.out.2
      rw [B32_eq] at hdB hxb
      obtain ⟨T, hT⟩ : ∃ T, T = L * 4294967296 + x := ⟨_, rfl⟩
      obtain ⟨lh, hlh⟩ : ∃ lh, lh = L * 4294967296 := ⟨_, rfl⟩
      have f1 : IntKind.u64.wrap ((L : Int) * 4294967296) = (lh : Int) := wrap_mod _ _ (by omega)
      have f2 : IntKind.u64.wrap ((lh : Int) + (x : Int)) = (T : Int) := wrap_mod _ _ (by omega)
      have fx : IntKind.u64.wrap (x : Int) = (x : Int) := wrap_mod _ _ (by omega)
      obtain ⟨Q, hQ⟩ : ∃ Q, Q = T / d := ⟨_, rfl⟩
      obtain ⟨R, hRr⟩ : ∃ R, R = T % d := ⟨_, rfl⟩
      have q1 : (T : Int).tdiv (d : Int) = (Q : Int) := by rw [hQ, Int.tdiv_eq_ediv_of_nonneg (Int.natCast_nonneg T)]; norm_cast
      have q2 : (T : Int) / (d : Int) = (Q : Int) := by rw [hQ]; norm_cast
      have r1 : (T : Int).tmod (d : Int) = (R : Int) := by rw [hRr, Int.tmod_eq_emod_of_nonneg (Int.natCast_nonneg T)]; norm_cast
      have r2 : (T : Int) % (d : Int) = (R : Int) := by rw [hRr]; norm_cast
      have hRd : R < d := by rw [hRr]; exact Nat.mod_lt _ hd
      have hQB : Q < B32 := by
        rw [hQ, B32_eq]
        refine Nat.div_lt_of_lt_mul ?_
        have : L * 4294967296 + 4294967296 ≤ d * 4294967296 := by
          have := Nat.mul_le_mul_right 4294967296 (show L + 1 ≤ d by omega)
          rw [Nat.add_mul] at this; omega
        omega
      have fq : IntKind.u32.wrap (Q : Int) = (Q : Int) := wrap32 Q hQB
      have fq2 : IntKind.u64.wrap (Q : Int) = (Q : Int) := wrap_mod _ _ (by rw [B32_eq] at hQB; omega)
      have fq3 : (Q : Int) % 4294967296 = (Q : Int) := by rw [B32_eq] at hQB; omega
      have hQR : L * B32 + x = Q * d + R := by rw [B32_eq, ← hT, hQ, hRr, Nat.mul_comm]; exact (Nat.div_add_mod T d).symm
      have HS : Hid (DSm w w.heap.size n d xs j R (qs.set j Q) (wr.setCell ⟨w.heap.size, j, none⟩ (V Q))) := by
        have hR := HR.out
        have hs := hR.row.set j Q hjn hQB
        rw [Nat.zero_add] at hs
        refine ⟨bSet0 hR.bel _ _ _ (Nat.le_refl _), hs, hRd, ?_⟩
        rw [drop_set_self qs j Q (by rw [hR.row.len]; exact hjn), valB_cons, valB_drop B32 xs j (by rw [HLX.out]; exact hjn), ← hx]
        exact divsmall_abs hR.val hQR
      clear hz HR hc hx hcx0 hQ hRr hT hlh hQR hL hdB hxb hRd hQB
      go_wp2_with fail
      go_roundg j
      case measure => omega
      case rel => exact ⟨R, (j : Int) - 1, qs.set j Q, rfl, rfl, rfl, by omega, HS⟩
set_option maxRecDepth 20000 in
set_option maxHeartbeats 4000000 in
theorem rdivmod_lt {p q : Option Addr} {n m c d : Nat} {xs ys : List Nat} {a b : Nat} {w : World} (h : At32 w p n c xs) (k : At32 w q m d ys) (hx : Nf B32 xs a) (hy : Nf B32 ys b) (hn : n ≤ 16384) (_hm : m ≤ 40000) (hb : b ≠ 0) (hlt : a < b) :
    Calls Tryz.prog 217 #[.slice p n c, .slice q m d] w fun e w' => ∃ p1 m1 z1 p2 m2 z2, e = .returned (.tuple #[.slice p1 m1 m1, .slice p2 m2 m2]) ∧ At32 w' p1 m1 m1 z1 ∧ Nf B32 z1 (a / b) ∧ At32 w' p2 m2 m2 z2 ∧ Nf B32 z2 (a % b) ∧ m1 ≤ n ∧ m2 ≤ n ∧ Below w.heap.size w w' := by
  have HA : Hid (At32 w p n c xs) := h
  have HB : Hid (At32 w q m d ys) := k
  have HX : Hid (Nf B32 xs a) := hx
  have HY : Hid (Nf B32 ys b) := hy
  have hm0 : m ≠ 0 := fun e => hb ((hy.zero_iff B32_one).1 (List.eq_nil_of_length_eq_zero (by rw [k.len]; exact e)))
  have hmb : ((m : Int) == 0) = false := by simp; omega
  have hcap := k.cap; have hbig := k.big
  unfold maxLen at hbig
  have HLT : Hid (a < b) := hlt
  clear h k hx hy hb hlt
  go_enter Tryz.func217, Tryz.ntmps217
  go_wp2_with fail
  refine (rcmp_any HA.out HB.out HX.out HY.out).mono ?_
  rintro e w1 ⟨rfl, r, rfl⟩
  rw [cmpN_lt HLT.out]
  have A1 : Hid (At32 (w.drewN r) p n c xs) := HA.out.drewN r
  have hb1 : Below w.heap.size w (w.drewN r) := bDrewN (Below.refl _ _) r
  clear HA HB
  generalize w.drewN r = w1 at *
  go_wp2_with fail
  rw [show Value.int IntKind.u64 0 = U 0 from rfl]
  refine (rword 0 (by decide) w1).mono ?_
  rintro e w2 ⟨g2, z2, rfl, hl2, hA2, hN2, hb2⟩
  have A2 : Hid (At32 w2 (some ⟨g2, 0, none⟩) z2.length z2.length z2) := hA2
  have N2 : Hid (Nf B32 z2 0) := hN2
  have A12 : Hid (At32 w2 p n c xs) := A1.out.below hb2
  have hbw2 := Below.on hb1 hb2
  have hz2 : z2.length = 0 := by rw [(hN2.zero_iff B32_one).2 rfl]; rfl
  have HZ2 : Hid (z2.length = 0) := hz2
  clear hA2 hN2 hb2 hb1 A1 hl2 hz2
  go_wp2_with fail
  refine (rnorm_any A12.out (by omega)).mono ?_
  rw [trimL_of_Top HX.out.top]
  rintro e w3 ⟨g3, rfl, hg3, hblk3, hb3⟩
  have A3 : Hid (At32 w3 (some ⟨g3, 0, none⟩) xs.length xs.length xs) := hblk3.at_ HX.out.dig rfl (by rw [A12.out.len]; unfold maxLen; omega)
  have A23 : Hid (At32 w3 (some ⟨g2, 0, none⟩) z2.length z2.length z2) := A2.out.below hb3
  have hbw3 := Below.on hbw2 hb3
  have HLX : Hid (xs.length = n) := A12.out.len
  clear hblk3 hb3 hg3 A2 A12
  go_wp2_with fail
  go_ret2
  refine ⟨_, _, z2, _, _, xs, rfl, A23.out, by rw [Nat.div_eq_of_lt HLT.out]; exact N2.out, A3.out, by rw [Nat.mod_eq_of_lt HLT.out]; exact HX.out, by rw [HZ2.out]; omega, by rw [HLX.out]; exact Nat.le_refl _, hbw3⟩
set_option maxRecDepth 20000 in
set_option maxHeartbeats 4000000 in
theorem rdivmod_one {p q : Option Addr} {n m c d : Nat} {xs ys : List Nat} {a b : Nat} {w : World} (h : At32 w p n c xs) (k : At32 w q m d ys) (hx : Nf B32 xs a) (hy : Nf B32 ys b) (hn : n ≤ 16384) (hm : m ≤ 16384) (hb : b ≠ 0) (hge : b ≤ a) (hm1 : m = 1) :
    Calls Tryz.prog 217 #[.slice p n c, .slice q m d] w fun e w' => ∃ p1 m1 z1 p2 m2 z2, e = .returned (.tuple #[.slice p1 m1 m1, .slice p2 m2 m2]) ∧ At32 w' p1 m1 m1 z1 ∧ Nf B32 z1 (a / b) ∧ At32 w' p2 m2 m2 z2 ∧ Nf B32 z2 (a % b) ∧ m1 ≤ n ∧ m2 ≤ n ∧ Below w.heap.size w w' := by
  have HA : Hid (At32 w p n c xs) := h
  have HB : Hid (At32 w q m d ys) := k
  have HX : Hid (Nf B32 xs a) := hx
  have HY : Hid (Nf B32 ys b) := hy
  have hm0 : m ≠ 0 := fun e => hb ((hy.zero_iff B32_one).1 (List.eq_nil_of_length_eq_zero (by rw [k.len]; exact e)))
  have hmb : ((m : Int) == 0) = false := by simp; omega
  have hcap := k.cap; have hbig := k.big
  unfold maxLen at hbig
  have HGE : Hid (b ≤ a) := hge
  subst hm1
  obtain ⟨y, rfl⟩ := List.length_eq_one_iff.1 k.len
  have hyv : b = y := by have := hy.val; simp [valB] at this; omega
  subst hyv
  obtain ⟨gq, oq, rfl, hcq⟩ := k.cells.resolve_left (by omega)
  have hc0 : w.cell? ⟨gq, oq, none⟩ = some (V b) := by have := hcq 0 (by omega); rw [Nat.add_zero] at this; exact this
  have hbB : b < B32 := hy.dig.head
  have HBB : Hid (b < B32 ∧ 1 ≤ b) := ⟨hbB, by omega⟩
  clear h k hx hy hb hge hcq hbB
  go_enter Tryz.func217, Tryz.ntmps217
  go_wp2_with fail
  refine (rcmp_any HA.out HB.out HX.out HY.out).mono ?_
  rintro e w1 ⟨rfl, r, rfl⟩
  obtain ⟨cm, hcm⟩ : ∃ cm, cm = cmpN a b := ⟨_, rfl⟩
  rw [← hcm]
  have hcm0 : decide (cm < 0) = false := decide_eq_false (by rw [hcm, cmpN_neg]; have := HGE.out; omega)
  have A1 : Hid (At32 (w.drewN r) p n c xs) := HA.out.drewN r
  have hb1 : Below w.heap.size w (w.drewN r) := bDrewN (Below.refl _ _) r
  have hc1 : (w.drewN r).cell? ⟨gq, oq, none⟩ = some (V b) := hc0
  clear HA HB hcm hc0
  generalize w.drewN r = w1 at *
  go_wp2_with fail
  clear hcm0
  refine (rdivsmall2 A1.out (by omega) b HBB.out.2 HBB.out.1).mono ?_
  rintro e w2 ⟨p2, m2, z2, r2, rfl, hA2, hN2, hl2, hr2, hb2⟩
  rw [HX.out.val] at hN2 hr2
  have A2 : Hid (At32 w2 p2 m2 m2 z2) := hA2
  have N2 : Hid (Nf B32 z2 (a / b) ∧ m2 ≤ n) := ⟨hN2, hl2⟩
  have hbw2 := Below.on hb1 hb2
  obtain ⟨rr, hrr⟩ : ∃ rr, rr = a % b := ⟨_, rfl⟩
  rw [← hrr] at hr2
  subst hr2
  have hrB : rr < B32 := by rw [hrr]; exact Nat.lt_trans (Nat.mod_lt _ HBB.out.2) HBB.out.1
  have HRR : Hid (rr = a % b ∧ rr < B64) := ⟨hrr, by rw [B32_eq] at hrB; rw [B64_eq]; omega⟩
  have f1 : IntKind.u64.wrap (rr : Int) = (rr : Int) := wrap_mod _ _ (by rw [B32_eq] at hrB; omega)
  have HN1 : Hid (1 ≤ n) := by
    have h1 := HGE.out; have h2 := HBB.out.2
    rcases Nat.eq_zero_or_pos n with e | e
    · have := (HX.out.zero_iff B32_one).1 (List.eq_nil_of_length_eq_zero (by rw [A1.out.len]; exact e)); omega
    · exact e
  have HRL : Hid (rr < B32) := hrB
  clear hA2 hN2 hl2 hb2 hb1 A1 hrr hrB hc1
  go_wp2_with fail
  refine (rword rr HRR.out.2 w2).mono ?_
  rintro e w3 ⟨g3, z3, rfl, hl3, hA3, hN3, hb3⟩
  have A3 : Hid (At32 w3 (some ⟨g3, 0, none⟩) z3.length z3.length z3) := hA3
  have hl1 : z3.length ≤ 1 := (hN3.len_le B32_one).2 (by rw [Nat.pow_one]; exact HRL.out)
  have N3 : Hid (Nf B32 z3 rr ∧ z3.length ≤ 1) := ⟨hN3, hl1⟩
  have A23 : Hid (At32 w3 p2 m2 m2 z2) := A2.out.below hb3
  have hbw3 := Below.on hbw2 hb3
  clear hA3 hN3 hb3 hl3 hl1 A2 f1
  go_wp2_with fail
  go_ret2
  exact ⟨_, _, z2, _, _, z3, rfl, A23.out, N2.out.1, A3.out, by rw [← HRR.out.1]; exact N3.out.1, N2.out.2, Nat.le_trans N3.out.2 HN1.out, hbw3⟩
structure Op5 where
  k : Int
  pa : Option Addr
  na : Nat
  ca : Nat
  xa : List Nat
  pb : Option Addr
  nb : Nat
  cb : Nat
  xb : List Nat
  nn : Int
  wd : Nat
structure Scr (w : World) (P : Option Addr) (N C : Nat) (its : List Op5) : Prop where
  len : its.length = N
  cap : N ≤ C
  big : C ≤ maxLen
  ats : ∀ t ∈ its, At w t.pa t.na t.ca t.xa ∧ At w t.pb t.nb t.cb t.xb ∧ t.na ≤ 17592186044416 ∧ t.nb ≤ 17592186044416 ∧ t.wd < B64 ∧ -9223372036854775808 ≤ t.nn ∧ t.nn ≤ 9223372036854775807
  cells : N = 0 ∨ ∃ g off, P = some ⟨g, off, none⟩ ∧ ∀ i (h : i < its.length), w.cell? ⟨g, off + i * 5, none⟩ = some (.int .i64 its[i].k) ∧ w.cell? ⟨g, off + i * 5 + 1, none⟩ = some (.slice its[i].pa its[i].na its[i].ca) ∧
    w.cell? ⟨g, off + i * 5 + 2, none⟩ = some (.slice its[i].pb its[i].nb its[i].cb) ∧ w.cell? ⟨g, off + i * 5 + 3, none⟩ = some (.int .i64 its[i].nn) ∧ w.cell? ⟨g, off + i * 5 + 4, none⟩ = some (U its[i].wd)
theorem Scr.below {w w' : World} {P : Option Addr} {N C : Nat} {its : List Op5} (h : Scr w P N C its) (hb : Below w.heap.size w w') : Scr w' P N C its := by
  refine ⟨h.len, h.cap, h.big, fun t ht => ?_, ?_⟩
  · obtain ⟨h1, h2, h3⟩ := h.ats t ht
    exact ⟨h1.below hb, h2.below hb, h3⟩
  · rcases h.cells with h0 | ⟨g, off, hP, hc⟩
    · exact .inl h0
    · refine .inr ⟨g, off, hP, fun i hi => ?_⟩
      obtain ⟨h0, h1, h2, h3, h4⟩ := hc i hi
      have hl : g < w.heap.size := World.block_lt_of_cell? w _ h0
      exact ⟨(hb.cell (p := ⟨g, off + i * 5, none⟩) hl).trans h0, (hb.cell (p := ⟨g, off + i * 5 + 1, none⟩) hl).trans h1, (hb.cell (p := ⟨g, off + i * 5 + 2, none⟩) hl).trans h2,
        (hb.cell (p := ⟨g, off + i * 5 + 3, none⟩) hl).trans h3, (hb.cell (p := ⟨g, off + i * 5 + 4, none⟩) hl).trans h4⟩
def ShIs (r : Nat → Nat → Nat) (xs : List Nat) (t : Int) (us : List Nat) (f : Int) : Prop :=
  (t < 0 ∧ us = [] ∧ f = 1) ∨ (0 ≤ t ∧ formB xs = false ∧ us = [] ∧ f = 2) ∨ (0 ≤ t ∧ formB xs = true ∧ DocIs (r (valB B64 xs) t.toNat) us f)
theorem ShIs.inj {r : Nat → Nat → Nat} {xs : List Nat} {t : Int} {us us' : List Nat} {f f' : Int} (h : ShIs r xs t us f) (k : ShIs r xs t us' f') : us = us' ∧ f = f' := by
  rcases h with ⟨h1, rfl, rfl⟩ | ⟨h1, h2, rfl, rfl⟩ | ⟨h1, h2, h3⟩ <;> rcases k with ⟨k1, rfl, rfl⟩ | ⟨k1, k2, rfl, rfl⟩ | ⟨k1, k2, k3⟩
  · exact ⟨rfl, rfl⟩
  · omega
  · omega
  · omega
  · exact ⟨rfl, rfl⟩
  · rw [k2] at h2; simp at h2
  · omega
  · rw [k2] at h2; simp at h2
  · exact h3.inj k3
theorem ShIs.er {r : Nat → Nat → Nat} {xs us : List Nat} {t f : Int} (h : ShIs r xs t us f) : f = 0 ∨ f = 1 ∨ f = 2 ∨ f = 3 ∨ f = 4 ∨ f = 5 := by
  rcases h with ⟨_, _, rfl⟩ | ⟨_, _, _, rfl⟩ | ⟨_, _, ⟨_, _, rfl⟩ | ⟨_, _, rfl⟩⟩ <;> simp
theorem rdivmod04 {p q : Option Addr} {n m c d : Nat} {xs ys : List Nat} {a b : Nat} {w : World} (h : At32 w p n c xs) (k : At32 w q m d ys) (hx : Nf B32 xs a) (hy : Nf B32 ys b) (hn : n ≤ 16384) (hm : m ≤ 1) (hb : b ≠ 0) :
    Calls Tryz.prog 217 #[.slice p n c, .slice q m d] w fun e w' => ∃ p1 m1 z1 p2 m2 z2, e = .returned (.tuple #[.slice p1 m1 m1, .slice p2 m2 m2]) ∧ At32 w' p1 m1 m1 z1 ∧ Nf B32 z1 (a / b) ∧ At32 w' p2 m2 m2 z2 ∧ Nf B32 z2 (a % b) ∧ m1 ≤ n ∧ m2 ≤ n ∧ Below w.heap.size w w' := by
  rcases Nat.lt_or_ge a b with hlt | hge
  · exact rdivmod_lt h k hx hy hn (by omega) hb hlt
  · have hm0 : m ≠ 0 := fun e => hb ((hy.zero_iff B32_one).1 (List.eq_nil_of_length_eq_zero (by rw [k.len]; exact e)))
    exact rdivmod_one h k hx hy hn (by omega) hb hge (by omega)
theorem rof04 (z : Int) (w : World) (h0 : -9223372036854775808 ≤ z) (h1 : z ≤ 9223372036854775807) :
    Calls Tryz.prog 120 #[.int .i64 z] w fun e w' => ∃ s g m, e = .returned (.agg #[.bool s, .slice (some ⟨g, 0, none⟩) m m]) ∧ ZR w' s (some ⟨g, 0, none⟩) m z ∧ m ≤ 3 ∧ Below w.heap.size w w' :=
  (rof_any z w h0 h1).mono fun _ _ ⟨g, m, zs, he, hA, hN, hl, hb⟩ => ⟨_, g, m, he, ⟨⟨zs, hA, hN⟩, rfl⟩, hl, hb⟩
set_option maxRecDepth 20000 in
set_option maxHeartbeats 8000000 in
theorem rshl_nil {p : Option Addr} {c : Nat} {w : World} (hc : c ≤ maxLen) (k : Int) :
    Calls Tryz.prog 150 #[.slice p 0 c, .int .i64 k] w fun e w' => ∃ g, e = .returned (.slice (some ⟨g, 0, none⟩) 0 0) ∧ At32 w' (some ⟨g, 0, none⟩) 0 0 [] ∧ Below w.heap.size w w' := by
  have HC : Hid (c ≤ maxLen) := hc
  clear hc
  by_cases h0 : k ≤ 0
  · have h1 : ¬ 0 < k := by omega
    go_enter Tryz.func150, Tryz.ntmps150
    go_wp2_with fail
    refine (rnorm_any (At32.empty w p c HC.out) (by omega)).mono ?_
    rintro e w1 ⟨g, rfl, hg, hblk, hb⟩
    go_wp2_with fail
    go_ret
    exact ⟨g, rfl, At32.empty _ _ _ (by decide), hb⟩
  · have h1 : 0 < k := by omega
    go_enter Tryz.func150, Tryz.ntmps150
    go_wp2_with fail
    refine (rnorm_any (At32.empty w p c HC.out) (by omega)).mono ?_
    rintro e w1 ⟨g, rfl, hg, hblk, hb⟩
    go_wp2_with fail
    go_ret
    exact ⟨g, rfl, At32.empty _ _ _ (by decide), hb⟩
theorem rshl_all {p : Option Addr} {n : Nat} {xs : List Nat} {a : Nat} {w : World} (h : At32 w p n n xs) (hx : Nf B32 xs a) (hn : n ≤ 16384) (k : Nat) (hk : k ≤ 524288 ∨ a = 0) :
    Calls Tryz.prog 150 #[.slice p n n, .int .i64 k] w fun e w' => ∃ p' m' zs, e = .returned (.slice p' m' m') ∧ At32 w' p' m' m' zs ∧ Nf B32 zs (a * 2 ^ k) ∧ m' ≤ 40000 ∧ Below w.heap.size w w' := by
  rcases Nat.eq_zero_or_pos n with h0 | h0
  · subst h0
    have ha : a = 0 := (hx.zero_iff B32_one).1 (List.eq_nil_of_length_eq_zero h.len)
    refine (rshl_nil (by unfold maxLen; omega) (k : Int)).mono ?_
    rintro e w' ⟨g, he, hA, hb⟩
    exact ⟨_, 0, [], he, hA, by rw [ha, Nat.zero_mul]; exact Nf.nil _, by omega, hb⟩
  · refine rshl_any h hx h0 hn k (hk.resolve_right fun e => ?_)
    have := (hx.zero_iff B32_one).2 e
    rw [this] at h
    have := h.len
    simp at this
    omega
theorem iv_mul_nat (s : Bool) (a k : Nat) : iv s (a * k) = iv s a * (k : Int) := by cases s <;> simp [iv, Int.neg_mul]
set_option maxRecDepth 20000 in
set_option maxHeartbeats 8000000 in
theorem rshl04 {p : Option Addr} {m : Nat} {w : World} {x : Int} (s : Bool) (h : ZR w s p m x) (hm : m ≤ 16384) (k : Nat) (hk : k ≤ 524288 ∨ x = 0) :
    Calls Tryz.prog 108 #[.agg #[.bool s, .slice p m m], .int .i64 k] w fun e w' => ∃ v, e = .returned v ∧ GotR w.heap.size w' v (x * 2 ^ k) (40000) ∧ Below w.heap.size w w' := by
  have HA : Hid (ZR w s p m x) := h
  have HM : Hid (m ≤ 16384 ∧ (k ≤ 524288 ∨ x = 0)) := ⟨hm, hk⟩
  have HZV : Hid (iv s (x.natAbs * 2 ^ k) = x * 2 ^ k) := by show _ = _; rw [iv_mul_nat, h.iv]; rfl
  obtain ⟨xs, hAx, hNx⟩ := h.ex
  have HNX : Hid (Nf B32 xs x.natAbs) := hNx
  have AX : Hid (At32 w p m m xs) := hAx
  clear h hm hk hAx hNx
  go_enter Tryz.func108, Tryz.ntmps108
  go_wp2_with fail
  obtain ⟨W0, hW0⟩ : ∃ W0, W0 = ((w.alloc (.cells #[.bool s, .slice p m m] 110)).alloc (.cells #[.bool false, .slice none 0 0] 110)) := ⟨_, rfl⟩
  have Xa : Hid (Box W0 (w.heap.size) (.bool s) (.slice p m m)) := by rw [hW0]; exact ⟨by go_simp, by go_simp, by go_simp, by go_simp⟩
  have Xr : Hid (Box W0 (w.heap.size + 1) (.bool false) (.slice none 0 0)) := by rw [hW0]; exact ⟨by go_simp, by go_simp, by go_simp, by go_simp⟩
  have hb0 : Below w.heap.size w W0 := by rw [hW0]; exact below2 w _ _
  rw [← hW0]
  clear hW0
  have hbw : Below w.heap.size w w := Below.refl _ _
  obtain ⟨gr, hgr⟩ : ∃ g, g = w.heap.size + 1 := ⟨_, rfl⟩
  have HGr : Hid (w.heap.size ≤ gr) := by rw [hgr]; show _ ≤ _; omega
  rw [← hgr] at Xr
  try rw [← hgr]
  obtain ⟨ga, hga⟩ : ∃ g, g = w.heap.size := ⟨_, rfl⟩
  have HGa : Hid (w.heap.size ≤ ga) := by rw [hga]; show _ ≤ _; omega
  rw [← hga] at Xa
  try rw [← hga]
  have HGD : Hid (ga ≠ gr ∧ gr ≠ ga) := by rw [hga, hgr]; exact ⟨by omega, by omega⟩
  clear hga hgr
  replace AX : Hid _ := AX.out.below hb0
  replace hbw := Below.on hbw hb0
  clear hb0
  obtain ⟨W1, hW1⟩ : ∃ W1, W1 = W0.drew := ⟨_, rfl⟩
  have hbd : Below W0.heap.size W0 W1 := by rw [hW1]; exact bDrew1 (Below.refl _ _)
  replace Xa : Hid _ := Xa.out.below hbd
  replace Xr : Hid _ := Xr.out.below hbd
  replace AX : Hid _ := AX.out.below hbd
  replace hbw := Below.on hbw hbd
  clear hbd
  have HJ : Hid ((fun W' : World => W'.cell? ⟨ga, 0, none⟩ = some (.bool s) ∧ W'.cell? ⟨ga, 1, none⟩ = some (.slice p m m)) W1) := ⟨Xa.out.c0, Xa.out.c1⟩
  refine wp_region_J (fun W' => W'.cell? ⟨ga, 0, none⟩ = some (.bool s) ∧ W'.cell? ⟨ga, 1, none⟩ = some (.slice p m m)) (by kernel_rfl) ?_
  rw [← hW1]
  clear hW1
  refine wpJ_tk 0 (v := ?v1x0) rfl ?hy1x0 HJ.out ?_
  case hy1x0 => (intro W' hJ; obtain ⟨j0, j1⟩ := hJ; go_simp; first | done | with_reducible rfl)
  refine wpJ_tk 1 (v := ?v2x1) rfl ?hy2x1 HJ.out ?_
  case hy2x1 => (intro W' hJ; obtain ⟨j0, j1⟩ := hJ; go_simp; first | done | with_reducible rfl)
  refine wpJ_tk 2 (v := ?v3x2) rfl ?hy3x2 HJ.out ?_
  case hy3x2 => (intro W' hJ; obtain ⟨j0, j1⟩ := hJ; go_simp; first | done | with_reducible rfl)
  refine wpJ_tk 3 (v := ?v4x3) rfl ?hy4x3 HJ.out ?_
  case hy4x3 => (intro W' hJ; obtain ⟨j0, j1⟩ := hJ; go_simp; first | done | with_reducible rfl)
  refine wpJ_tk 4 (v := ?v5x4) rfl ?hy5x4 HJ.out ?_
  case hy5x4 => (intro W' hJ; obtain ⟨j0, j1⟩ := hJ; go_simp; first | done | with_reducible rfl)
  refine wpJ_one (i := 5) (by kernel_rfl) rfl (by kernel_rfl) (fun KJ hK => ?_)
  go_simp
  refine (rshl_all AX.out HNX.out HM.out.1 k (by have := HM.out.2; omega)).mono ?_
  rintro e v2 ⟨p2, m2, z2, rfl, hA2, hN2, hl2, hb2⟩
  replace Xa : Hid _ := Xa.out.below hb2
  replace Xr : Hid _ := Xr.out.below hb2
  replace AX : Hid _ := AX.out.below hb2
  replace hbw := Below.on hbw hb2
  clear hb2
  have A2 : Hid (At32 v2 p2 m2 m2 z2) := hA2
  have N2 : Hid (Nf B32 z2 (x.natAbs * 2 ^ k) ∧ m2 ≤ 40000) := ⟨hN2, hl2⟩
  clear hA2 hN2 hl2
  refine hK _ _ ⟨Xa.out.c0, Xa.out.c1⟩ ?_
  clear hK
  have HRB : Hid (gr < v2.heap.size ∧ w.heap.size ≤ v2.heap.size) := ⟨Xr.out.lt, hbw.size⟩
  refine wpJ_one (i := 6) (by kernel_rfl) rfl (by kernel_rfl) (fun KJ hK => ?_)
  go_simp
  refine (rmk_any s A2.out N2.out.1 (by have := N2.out.2; omega)).mono ?_
  rintro e v3 ⟨v, rfl, hv, hb3⟩
  rw [HZV.out] at hv
  obtain ⟨s9, g9, m9, rfl, hg9, hz9, hl9⟩ := hv
  have HN9 : Hid (v2.heap.size ≤ g9) := hg9
  replace Xa : Hid _ := Xa.out.below hb3
  replace Xr : Hid _ := Xr.out.below hb3
  replace AX : Hid _ := AX.out.below hb3
  replace A2 : Hid _ := A2.out.below hb3
  replace hbw := Below.on hbw hb3
  clear hb3
  have Z9 : Hid (ZR v3 s9 (some ⟨g9, 0, none⟩) m9 (x * 2 ^ k)) := hz9
  have HL9 : Hid (m9 ≤ 40000) := Nat.le_trans hl9 N2.out.2
  clear hg9 hz9 hl9
  refine hK _ _ ⟨Xa.out.c0, Xa.out.c1⟩ ?_
  clear hK
  obtain ⟨cr0, cr1, fr0, fr1⟩ := Xr.out
  have hner := Xr.out.lt
  obtain ⟨ca0, ca1, fa0, fa1⟩ := Xa.out
  have hnea := Xa.out.lt
  obtain ⟨hgd0, hgd1⟩ := HGD.out
  refine wpJ_one (i := 7) (by kernel_rfl) rfl (by kernel_rfl) (fun KJ hK => ?_)
  go_simp
  have HJ2 : Hid ((fun W' : World => W'.cell? ⟨ga, 0, none⟩ = some (.bool s) ∧ W'.cell? ⟨ga, 1, none⟩ = some (.slice p m m)) ((v3.setCell ⟨gr, 0, none⟩ (.bool s9)).setCell ⟨gr, 1, none⟩ (.slice (some ⟨g9, 0, none⟩) m9 m9))) := ⟨by go_simp, by go_simp⟩
  refine hK _ _ HJ2.out ?_
  clear hK HJ
  have HJ := HJ2
  clear HJ2
  refine wpJ_done (by kernel_rfl) ?_ _
  clear HJ
  go_wp2_with fail
  refine bodyPost_ret (v := .agg #[.bool s9, .slice (some ⟨g9, 0, none⟩) m9 m9]) (by rw [results_cell1 rfl]; go_simp) rfl ⟨_, rfl, ⟨s9, g9, m9, rfl, Nat.le_trans HRB.out.2 HN9.out, ?_, HL9.out⟩, ?_⟩
  · have := HN9.out; have := HRB.out.1
    exact (Z9.out.set _ _ _ (by omega)).set _ _ _ (by omega)
  · exact bSet (bSet hbw _ _ _ HGr.out) _ _ _ HGr.out
def rFd (x y : Int) : Int := fl (decide (x < 0) != decide (y < 0)) x.natAbs y.natAbs
def rMo (x y : Int) : Int := mo (decide (x < 0)) (decide (y < 0)) x.natAbs y.natAbs
theorem results_cell2 {fn : Func} {p u : Tmp} {ty ty2 : TypeId} (h : fn.results = #[.cell p ty, .cell u ty2]) (tmps : Array Value) (P : Program) (w : World) :
    (results fn tmps).run P w = ((asAddr (tmps.getD p undef)).run P w).andThen fun a w₁ => ((loadVar ty a).run P w₁).andThen fun v w₂ => ((asAddr (tmps.getD u undef)).run P w₂).andThen fun b w₃ => ((loadVar ty2 b).run P w₃).andThen fun v2 w₄ => .ok (.tuple #[v, v2]) w₄ := by
  simp only [results, h]
  simp [Sem.run_bind, Result.andThen]
set_option maxRecDepth 20000 in
set_option maxHeartbeats 8000000 in
theorem rfloor04_p {p q : Option Addr} {m n : Nat} {w : World} {x y : Int} (h : ZR w false p m x) (k : ZR w false q n y) (hm : m ≤ 16384) (hn : n ≤ 1) (hy : 0 < y) :
    Calls Tryz.prog 188 #[.agg #[.bool false, .slice p m m], .agg #[.bool false, .slice q n n]] w fun e w' => ∃ s1 g1 m1 s2 g2 m2, e = .returned (.tuple #[.agg #[.bool s1, .slice (some ⟨g1, 0, none⟩) m1 m1], .agg #[.bool s2, .slice (some ⟨g2, 0, none⟩) m2 m2]]) ∧ w.heap.size ≤ g1 ∧ w.heap.size ≤ g2 ∧ ZR w' s1 (some ⟨g1, 0, none⟩) m1 (rFd x y) ∧ ZR w' s2 (some ⟨g2, 0, none⟩) m2 (rMo x y) ∧ m1 ≤ 20000 ∧ m2 ≤ 40000 ∧ Below w.heap.size w w' := by
  have hyd : decide (y < 0) = false := decide_eq_false (by omega)
  have HQ : Hid (rFd x y = iv false (x.natAbs / y.natAbs)) := by show _ = _; unfold rFd fl; rw [← h.sg, hyd]; simp
  have HR : Hid (rMo x y = iv false (x.natAbs % y.natAbs)) := by show _ = _; unfold rMo mo; rw [← h.sg, hyd]; simp
  rw [HQ.out, HR.out]
  clear HQ HR hyd
  obtain ⟨xs, hAx, hNx⟩ := h.ex
  obtain ⟨ys, hAy, hNy⟩ := k.ex
  have HZ : Hid (ZR w false q n y) := k
  have AX : Hid (At32 w p m m xs ∧ At32 w q n n ys) := ⟨hAx, hAy⟩
  have NX : Hid (Nf B32 xs x.natAbs ∧ Nf B32 ys y.natAbs) := ⟨hNx, hNy⟩
  have HM : Hid (m ≤ 16384 ∧ n ≤ 1 ∧ 0 < y) := ⟨hm, hn, hy⟩
  clear h k hm hn hy hAx hAy hNx hNy
  go_enter Tryz.func188, Tryz.ntmps188
  go_wp2_with fail
  obtain ⟨W0, hW0⟩ : ∃ W0, W0 = ((((w.alloc (.cells #[.bool false, .slice p m m] 110)).alloc (.cells #[.bool false, .slice q n n] 110)).alloc (.cells #[.bool false, .slice none 0 0] 110)).alloc (.cells #[.bool false, .slice none 0 0] 110)) := ⟨_, rfl⟩
  have Xa : Hid (Box W0 (w.heap.size) (.bool false) (.slice p m m)) := by rw [hW0]; exact ⟨by go_simp, by go_simp, by go_simp, by go_simp⟩
  have Xb : Hid (Box W0 (w.heap.size + 1) (.bool false) (.slice q n n)) := by rw [hW0]; exact ⟨by go_simp, by go_simp, by go_simp, by go_simp⟩
  have Xr : Hid (Box W0 (w.heap.size + 1 + 1) (.bool false) (.slice none 0 0)) := by rw [hW0]; exact ⟨by go_simp, by go_simp, by go_simp, by go_simp⟩
  have Xu : Hid (Box W0 (w.heap.size + 1 + 1 + 1) (.bool false) (.slice none 0 0)) := by rw [hW0]; exact ⟨by go_simp, by go_simp, by go_simp, by go_simp⟩
  have hb0 : Below w.heap.size w W0 := by rw [hW0]; exact below4 w _ _ _ _
  rw [← hW0]
  clear hW0
  have hbw : Below w.heap.size w w := Below.refl _ _
  obtain ⟨gu, hgu⟩ : ∃ g, g = w.heap.size + 1 + 1 + 1 := ⟨_, rfl⟩
  have HGu : Hid (w.heap.size ≤ gu) := by rw [hgu]; show _ ≤ _; omega
  rw [← hgu] at Xu
  try rw [← hgu]
  obtain ⟨gr, hgr⟩ : ∃ g, g = w.heap.size + 1 + 1 := ⟨_, rfl⟩
  have HGr : Hid (w.heap.size ≤ gr) := by rw [hgr]; show _ ≤ _; omega
  rw [← hgr] at Xr
  try rw [← hgr]
  obtain ⟨gb, hgb⟩ : ∃ g, g = w.heap.size + 1 := ⟨_, rfl⟩
  have HGb : Hid (w.heap.size ≤ gb) := by rw [hgb]; show _ ≤ _; omega
  rw [← hgb] at Xb
  try rw [← hgb]
  obtain ⟨ga, hga⟩ : ∃ g, g = w.heap.size := ⟨_, rfl⟩
  have HGa : Hid (w.heap.size ≤ ga) := by rw [hga]; show _ ≤ _; omega
  rw [← hga] at Xa
  try rw [← hga]
  have HGD : Hid (ga ≠ gb ∧ ga ≠ gr ∧ ga ≠ gu ∧ gb ≠ ga ∧ gb ≠ gr ∧ gb ≠ gu ∧ gr ≠ ga ∧ gr ≠ gb ∧ gr ≠ gu ∧ gu ≠ ga ∧ gu ≠ gb ∧ gu ≠ gr) := by rw [hga, hgb, hgr, hgu]; exact ⟨by omega, by omega, by omega, by omega, by omega, by omega, by omega, by omega, by omega, by omega, by omega, by omega⟩
  clear hga hgb hgr hgu
  replace hbw := Below.on hbw hb0
  clear hb0
  refine (rsign04 false (HZ.out.below hbw)).mono ?_
  rintro e v1 ⟨rfl, hb1⟩
  rw [show sgnI y = 1 from by have := HM.out.2.2; unfold sgnI; rw [if_neg (by omega), if_neg (by omega)]]
  replace Xa : Hid _ := Xa.out.below hb1
  replace Xb : Hid _ := Xb.out.below hb1
  replace Xr : Hid _ := Xr.out.below hb1
  replace Xu : Hid _ := Xu.out.below hb1
  replace hbw := Below.on hbw hb1
  clear hb1
  obtain ⟨ca0, ca1, fa0, fa1⟩ := Xa.out
  have hnea := Xa.out.lt
  obtain ⟨cb0, cb1, fb0, fb1⟩ := Xb.out
  have hneb := Xb.out.lt
  go_wp2_with fail
  clear ca0 ca1 fa0 fa1 hnea
  clear cb0 cb1 fb0 fb1 hneb
  refine (rdivmod04 (AX.out.1.below hbw) (AX.out.2.below hbw) NX.out.1 NX.out.2 HM.out.1 HM.out.2.1 (by have := HM.out.2.2; omega)).mono ?_
  rintro e v2 ⟨p2, m2, z2, p3, m3, z3, rfl, hA2, hN2, hA3, hN3, hl2, hl3, hb2⟩
  replace Xa : Hid _ := Xa.out.below hb2
  replace Xb : Hid _ := Xb.out.below hb2
  replace Xr : Hid _ := Xr.out.below hb2
  replace Xu : Hid _ := Xu.out.below hb2
  replace hbw := Below.on hbw hb2
  clear hb2
  have A2 : Hid (At32 v2 p2 m2 m2 z2) := hA2
  have A3 : Hid (At32 v2 p3 m3 m3 z3) := hA3
  have N2 : Hid (Nf B32 z2 (x.natAbs / y.natAbs) ∧ Nf B32 z3 (x.natAbs % y.natAbs) ∧ m2 ≤ m ∧ m3 ≤ m) := ⟨hN2, hN3, hl2, hl3⟩
  clear hA2 hN2 hA3 hN3 hl2 hl3
  obtain ⟨ca0, ca1, fa0, fa1⟩ := Xa.out
  have hnea := Xa.out.lt
  go_wp2_with fail
  clear ca0 ca1 fa0 fa1 hnea
  have HRB : Hid (gr < v2.heap.size ∧ gu < v2.heap.size ∧ w.heap.size ≤ v2.heap.size) := ⟨Xr.out.lt, Xu.out.lt, hbw.size⟩
  refine (rmk_any false A2.out N2.out.1 (by have := N2.out; have := HM.out; omega)).mono ?_
  rintro e v5 ⟨v, rfl, hv, hb5⟩
  obtain ⟨s5, g5, m5, rfl, hg5, hz5, hl5⟩ := hv
  have HN5 : Hid (v2.heap.size ≤ g5) := hg5
  have HB5 : Hid (v2.heap.size ≤ v5.heap.size) := hb5.size
  replace Xa : Hid _ := Xa.out.below hb5
  replace Xb : Hid _ := Xb.out.below hb5
  replace Xr : Hid _ := Xr.out.below hb5
  replace Xu : Hid _ := Xu.out.below hb5
  replace A2 : Hid _ := A2.out.below hb5
  replace A3 : Hid _ := A3.out.below hb5
  replace hbw := Below.on hbw hb5
  clear hb5
  have Z5 : Hid (ZR v5 s5 (some ⟨g5, 0, none⟩) m5 (iv false (x.natAbs / y.natAbs))) := hz5
  have HL5 : Hid (m5 ≤ m2) := hl5
  clear hz5 hl5 hg5
  have HBV : Hid (v2.heap.size ≤ v5.heap.size) := HB5.out
  go_wp2_with fail
  refine (rmk_any false A3.out N2.out.2.1 (by have := N2.out; have := HM.out; omega)).mono ?_
  rintro e v6 ⟨v, rfl, hv, hb6⟩
  obtain ⟨s6, g6, m6, rfl, hg6, hz6, hl6⟩ := hv
  have HN6 : Hid (v5.heap.size ≤ g6) := hg6
  have HB6 : Hid (v5.heap.size ≤ v6.heap.size) := hb6.size
  replace Xa : Hid _ := Xa.out.below hb6
  replace Xb : Hid _ := Xb.out.below hb6
  replace Xr : Hid _ := Xr.out.below hb6
  replace Xu : Hid _ := Xu.out.below hb6
  replace A2 : Hid _ := A2.out.below hb6
  replace A3 : Hid _ := A3.out.below hb6
  replace Z5 : Hid _ := Z5.out.below hb6
  replace hbw := Below.on hbw hb6
  clear hb6
  have Z6 : Hid (ZR v6 s6 (some ⟨g6, 0, none⟩) m6 (iv false (x.natAbs % y.natAbs))) := hz6
  have HL6 : Hid (m6 ≤ m3) := hl6
  clear hz6 hl6 hg6
  obtain ⟨hgd0, hgd1, hgd2, hgd3, hgd4, hgd5, hgd6, hgd7, hgd8, hgd9, hgd10, hgd11⟩ := HGD.out
  obtain ⟨cr0, cr1, fr0, fr1⟩ := Xr.out
  have hner := Xr.out.lt
  obtain ⟨cu0, cu1, fu0, fu1⟩ := Xu.out
  have hneu := Xu.out.lt
  go_wp2_with fail
  refine bodyPost_ret (v := .tuple #[.agg #[.bool s5, .slice (some ⟨g5, 0, none⟩) m5 m5], .agg #[.bool s6, .slice (some ⟨g6, 0, none⟩) m6 m6]]) (by rw [results_cell2 rfl]; go_simp) rfl ⟨s5, g5, m5, s6, g6, m6, rfl, Nat.le_trans HRB.out.2.2 HN5.out, Nat.le_trans HRB.out.2.2 (Nat.le_trans HBV.out HN6.out), ?_, ?_, ?_, ?_, ?_⟩
  · clear hgd0 hgd1 hgd2 hgd3 hgd4 hgd5 hgd6 hgd7 hgd8 hgd9 hgd10 hgd11
    have := HN5.out; have := HRB.out
    exact (((Z5.out.set _ _ _ (by omega)).set _ _ _ (by omega)).set _ _ _ (by omega)).set _ _ _ (by omega)
  · clear hgd0 hgd1 hgd2 hgd3 hgd4 hgd5 hgd6 hgd7 hgd8 hgd9 hgd10 hgd11
    have := HN6.out; have := HBV.out; have := HRB.out
    exact (((Z6.out.set _ _ _ (by omega)).set _ _ _ (by omega)).set _ _ _ (by omega)).set _ _ _ (by omega)
  · clear hgd0 hgd1 hgd2 hgd3 hgd4 hgd5 hgd6 hgd7 hgd8 hgd9 hgd10 hgd11
    have := HL5.out; have := N2.out; have := HM.out; omega
  · clear hgd0 hgd1 hgd2 hgd3 hgd4 hgd5 hgd6 hgd7 hgd8 hgd9 hgd10 hgd11
    have := HL6.out; have := N2.out; have := HM.out; omega
  · exact bSet (bSet (bSet (bSet hbw _ _ _ HGr.out) _ _ _ HGr.out) _ _ _ HGu.out) _ _ _ HGu.out
set_option maxRecDepth 20000 in
set_option maxHeartbeats 8000000 in
theorem rfloor04_n0 {p q : Option Addr} {m n : Nat} {w : World} {x y : Int} (h : ZR w true p m x) (k : ZR w false q n y) (hm : m ≤ 16384) (hn : n ≤ 1) (hy : 0 < y) (hr : x.natAbs % y.natAbs = 0) :
    Calls Tryz.prog 188 #[.agg #[.bool true, .slice p m m], .agg #[.bool false, .slice q n n]] w fun e w' => ∃ s1 g1 m1 s2 g2 m2, e = .returned (.tuple #[.agg #[.bool s1, .slice (some ⟨g1, 0, none⟩) m1 m1], .agg #[.bool s2, .slice (some ⟨g2, 0, none⟩) m2 m2]]) ∧ w.heap.size ≤ g1 ∧ w.heap.size ≤ g2 ∧ ZR w' s1 (some ⟨g1, 0, none⟩) m1 (rFd x y) ∧ ZR w' s2 (some ⟨g2, 0, none⟩) m2 (rMo x y) ∧ m1 ≤ 20000 ∧ m2 ≤ 40000 ∧ Below w.heap.size w w' := by
  have hyd : decide (y < 0) = false := decide_eq_false (by omega)
  have HQ : Hid (rFd x y = iv true (x.natAbs / y.natAbs)) := by show _ = _; unfold rFd fl; rw [← h.sg, hyd, hr]; simp
  have HR : Hid (rMo x y = iv false (x.natAbs % y.natAbs)) := by show _ = _; unfold rMo mo; rw [← h.sg, hyd, hr]; simp
  rw [HQ.out, HR.out]
  clear HQ HR hyd
  obtain ⟨xs, hAx, hNx⟩ := h.ex
  obtain ⟨ys, hAy, hNy⟩ := k.ex
  have HZ : Hid (ZR w false q n y) := k
  have AX : Hid (At32 w p m m xs ∧ At32 w q n n ys) := ⟨hAx, hAy⟩
  have NX : Hid (Nf B32 xs x.natAbs ∧ Nf B32 ys y.natAbs) := ⟨hNx, hNy⟩
  have HM : Hid (m ≤ 16384 ∧ n ≤ 1 ∧ 0 < y) := ⟨hm, hn, hy⟩
  have HLO : Hid (x.natAbs % y.natAbs = 0) := hr
  clear h k hm hn hy hAx hAy hNx hNy hr
  go_enter Tryz.func188, Tryz.ntmps188
  go_wp2_with fail
  obtain ⟨W0, hW0⟩ : ∃ W0, W0 = ((((w.alloc (.cells #[.bool true, .slice p m m] 110)).alloc (.cells #[.bool false, .slice q n n] 110)).alloc (.cells #[.bool false, .slice none 0 0] 110)).alloc (.cells #[.bool false, .slice none 0 0] 110)) := ⟨_, rfl⟩
  have Xa : Hid (Box W0 (w.heap.size) (.bool true) (.slice p m m)) := by rw [hW0]; exact ⟨by go_simp, by go_simp, by go_simp, by go_simp⟩
  have Xb : Hid (Box W0 (w.heap.size + 1) (.bool false) (.slice q n n)) := by rw [hW0]; exact ⟨by go_simp, by go_simp, by go_simp, by go_simp⟩
  have Xr : Hid (Box W0 (w.heap.size + 1 + 1) (.bool false) (.slice none 0 0)) := by rw [hW0]; exact ⟨by go_simp, by go_simp, by go_simp, by go_simp⟩
  have Xu : Hid (Box W0 (w.heap.size + 1 + 1 + 1) (.bool false) (.slice none 0 0)) := by rw [hW0]; exact ⟨by go_simp, by go_simp, by go_simp, by go_simp⟩
  have hb0 : Below w.heap.size w W0 := by rw [hW0]; exact below4 w _ _ _ _
  rw [← hW0]
  clear hW0
  have hbw : Below w.heap.size w w := Below.refl _ _
  obtain ⟨gu, hgu⟩ : ∃ g, g = w.heap.size + 1 + 1 + 1 := ⟨_, rfl⟩
  have HGu : Hid (w.heap.size ≤ gu) := by rw [hgu]; show _ ≤ _; omega
  rw [← hgu] at Xu
  try rw [← hgu]
  obtain ⟨gr, hgr⟩ : ∃ g, g = w.heap.size + 1 + 1 := ⟨_, rfl⟩
  have HGr : Hid (w.heap.size ≤ gr) := by rw [hgr]; show _ ≤ _; omega
  rw [← hgr] at Xr
  try rw [← hgr]
  obtain ⟨gb, hgb⟩ : ∃ g, g = w.heap.size + 1 := ⟨_, rfl⟩
  have HGb : Hid (w.heap.size ≤ gb) := by rw [hgb]; show _ ≤ _; omega
  rw [← hgb] at Xb
  try rw [← hgb]
  obtain ⟨ga, hga⟩ : ∃ g, g = w.heap.size := ⟨_, rfl⟩
  have HGa : Hid (w.heap.size ≤ ga) := by rw [hga]; show _ ≤ _; omega
  rw [← hga] at Xa
  try rw [← hga]
  have HGD : Hid (ga ≠ gb ∧ ga ≠ gr ∧ ga ≠ gu ∧ gb ≠ ga ∧ gb ≠ gr ∧ gb ≠ gu ∧ gr ≠ ga ∧ gr ≠ gb ∧ gr ≠ gu ∧ gu ≠ ga ∧ gu ≠ gb ∧ gu ≠ gr) := by rw [hga, hgb, hgr, hgu]; exact ⟨by omega, by omega, by omega, by omega, by omega, by omega, by omega, by omega, by omega, by omega, by omega, by omega⟩
  clear hga hgb hgr hgu
  replace hbw := Below.on hbw hb0
  clear hb0
  refine (rsign04 false (HZ.out.below hbw)).mono ?_
  rintro e v1 ⟨rfl, hb1⟩
  rw [show sgnI y = 1 from by have := HM.out.2.2; unfold sgnI; rw [if_neg (by omega), if_neg (by omega)]]
  replace Xa : Hid _ := Xa.out.below hb1
  replace Xb : Hid _ := Xb.out.below hb1
  replace Xr : Hid _ := Xr.out.below hb1
  replace Xu : Hid _ := Xu.out.below hb1
  replace hbw := Below.on hbw hb1
  clear hb1
  obtain ⟨ca0, ca1, fa0, fa1⟩ := Xa.out
  have hnea := Xa.out.lt
  obtain ⟨cb0, cb1, fb0, fb1⟩ := Xb.out
  have hneb := Xb.out.lt
  go_wp2_with fail
  clear ca0 ca1 fa0 fa1 hnea
  clear cb0 cb1 fb0 fb1 hneb
  refine (rdivmod04 (AX.out.1.below hbw) (AX.out.2.below hbw) NX.out.1 NX.out.2 HM.out.1 HM.out.2.1 (by have := HM.out.2.2; omega)).mono ?_
  rintro e v2 ⟨p2, m2, z2, p3, m3, z3, rfl, hA2, hN2, hA3, hN3, hl2, hl3, hb2⟩
  replace Xa : Hid _ := Xa.out.below hb2
  replace Xb : Hid _ := Xb.out.below hb2
  replace Xr : Hid _ := Xr.out.below hb2
  replace Xu : Hid _ := Xu.out.below hb2
  replace hbw := Below.on hbw hb2
  clear hb2
  have A2 : Hid (At32 v2 p2 m2 m2 z2) := hA2
  have A3 : Hid (At32 v2 p3 m3 m3 z3) := hA3
  have N2 : Hid (Nf B32 z2 (x.natAbs / y.natAbs) ∧ Nf B32 z3 (x.natAbs % y.natAbs) ∧ m2 ≤ m ∧ m3 ≤ m) := ⟨hN2, hN3, hl2, hl3⟩
  obtain rfl : m3 = 0 := by rw [← hA3.len, (hN3.zero_iff B32_one).2 HLO.out]; rfl
  clear hA2 hN2 hA3 hN3 hl2 hl3
  obtain ⟨ca0, ca1, fa0, fa1⟩ := Xa.out
  have hnea := Xa.out.lt
  go_wp2_with fail
  clear ca0 ca1 fa0 fa1 hnea
  have HRB : Hid (gr < v2.heap.size ∧ gu < v2.heap.size ∧ w.heap.size ≤ v2.heap.size) := ⟨Xr.out.lt, Xu.out.lt, hbw.size⟩
  refine (rmk_any true A2.out N2.out.1 (by have := N2.out; have := HM.out; omega)).mono ?_
  rintro e v5 ⟨v, rfl, hv, hb5⟩
  obtain ⟨s5, g5, m5, rfl, hg5, hz5, hl5⟩ := hv
  have HN5 : Hid (v2.heap.size ≤ g5) := hg5
  have HB5 : Hid (v2.heap.size ≤ v5.heap.size) := hb5.size
  replace Xa : Hid _ := Xa.out.below hb5
  replace Xb : Hid _ := Xb.out.below hb5
  replace Xr : Hid _ := Xr.out.below hb5
  replace Xu : Hid _ := Xu.out.below hb5
  replace A2 : Hid _ := A2.out.below hb5
  replace A3 : Hid _ := A3.out.below hb5
  replace hbw := Below.on hbw hb5
  clear hb5
  have Z5 : Hid (ZR v5 s5 (some ⟨g5, 0, none⟩) m5 (iv true (x.natAbs / y.natAbs))) := hz5
  have HL5 : Hid (m5 ≤ m2) := hl5
  clear hz5 hl5 hg5
  have HBV : Hid (v2.heap.size ≤ v5.heap.size) := HB5.out
  go_wp2_with fail
  refine (rmk_any false A3.out N2.out.2.1 (by have := N2.out; have := HM.out; omega)).mono ?_
  rintro e v6 ⟨v, rfl, hv, hb6⟩
  obtain ⟨s6, g6, m6, rfl, hg6, hz6, hl6⟩ := hv
  have HN6 : Hid (v5.heap.size ≤ g6) := hg6
  have HB6 : Hid (v5.heap.size ≤ v6.heap.size) := hb6.size
  replace Xa : Hid _ := Xa.out.below hb6
  replace Xb : Hid _ := Xb.out.below hb6
  replace Xr : Hid _ := Xr.out.below hb6
  replace Xu : Hid _ := Xu.out.below hb6
  replace A2 : Hid _ := A2.out.below hb6
  replace A3 : Hid _ := A3.out.below hb6
  replace Z5 : Hid _ := Z5.out.below hb6
  replace hbw := Below.on hbw hb6
  clear hb6
  have Z6 : Hid (ZR v6 s6 (some ⟨g6, 0, none⟩) m6 (iv false (x.natAbs % y.natAbs))) := hz6
  have HL6 : Hid (m6 ≤ 0) := hl6
  clear hz6 hl6 hg6
  obtain ⟨hgd0, hgd1, hgd2, hgd3, hgd4, hgd5, hgd6, hgd7, hgd8, hgd9, hgd10, hgd11⟩ := HGD.out
  obtain ⟨cr0, cr1, fr0, fr1⟩ := Xr.out
  have hner := Xr.out.lt
  obtain ⟨cu0, cu1, fu0, fu1⟩ := Xu.out
  have hneu := Xu.out.lt
  go_wp2_with fail
  refine bodyPost_ret (v := .tuple #[.agg #[.bool s5, .slice (some ⟨g5, 0, none⟩) m5 m5], .agg #[.bool s6, .slice (some ⟨g6, 0, none⟩) m6 m6]]) (by rw [results_cell2 rfl]; go_simp) rfl ⟨s5, g5, m5, s6, g6, m6, rfl, Nat.le_trans HRB.out.2.2 HN5.out, Nat.le_trans HRB.out.2.2 (Nat.le_trans HBV.out HN6.out), ?_, ?_, ?_, ?_, ?_⟩
  · clear hgd0 hgd1 hgd2 hgd3 hgd4 hgd5 hgd6 hgd7 hgd8 hgd9 hgd10 hgd11
    have := HN5.out; have := HRB.out
    exact (((Z5.out.set _ _ _ (by omega)).set _ _ _ (by omega)).set _ _ _ (by omega)).set _ _ _ (by omega)
  · clear hgd0 hgd1 hgd2 hgd3 hgd4 hgd5 hgd6 hgd7 hgd8 hgd9 hgd10 hgd11
    have := HN6.out; have := HBV.out; have := HRB.out
    exact (((Z6.out.set _ _ _ (by omega)).set _ _ _ (by omega)).set _ _ _ (by omega)).set _ _ _ (by omega)
  · clear hgd0 hgd1 hgd2 hgd3 hgd4 hgd5 hgd6 hgd7 hgd8 hgd9 hgd10 hgd11
    have := HL5.out; have := N2.out; have := HM.out; omega
  · clear hgd0 hgd1 hgd2 hgd3 hgd4 hgd5 hgd6 hgd7 hgd8 hgd9 hgd10 hgd11
    have := HL6.out; have := N2.out; have := HM.out; omega
  · exact bSet (bSet (bSet (bSet hbw _ _ _ HGr.out) _ _ _ HGr.out) _ _ _ HGu.out) _ _ _ HGu.out
set_option maxRecDepth 20000 in
set_option maxHeartbeats 8000000 in
theorem rfloor04_n1 {p q : Option Addr} {m n : Nat} {w : World} {x y : Int} (h : ZR w true p m x) (k : ZR w false q n y) (hm : m ≤ 16384) (hn : n ≤ 1) (hy : 0 < y) (hr : x.natAbs % y.natAbs ≠ 0) :
    Calls Tryz.prog 188 #[.agg #[.bool true, .slice p m m], .agg #[.bool false, .slice q n n]] w fun e w' => ∃ s1 g1 m1 s2 g2 m2, e = .returned (.tuple #[.agg #[.bool s1, .slice (some ⟨g1, 0, none⟩) m1 m1], .agg #[.bool s2, .slice (some ⟨g2, 0, none⟩) m2 m2]]) ∧ w.heap.size ≤ g1 ∧ w.heap.size ≤ g2 ∧ ZR w' s1 (some ⟨g1, 0, none⟩) m1 (rFd x y) ∧ ZR w' s2 (some ⟨g2, 0, none⟩) m2 (rMo x y) ∧ m1 ≤ 20000 ∧ m2 ≤ 40000 ∧ Below w.heap.size w w' := by
  have hyd : decide (y < 0) = false := decide_eq_false (by omega)
  have HQ : Hid (rFd x y = iv true (x.natAbs / y.natAbs + 1)) := by show _ = _; unfold rFd fl; rw [← h.sg, hyd, decide_eq_true hr]; simp
  have HR : Hid (rMo x y = iv false (y.natAbs - x.natAbs % y.natAbs)) := by show _ = _; unfold rMo mo; rw [← h.sg, hyd, decide_eq_true hr]; simp
  rw [HQ.out, HR.out]
  clear HQ HR hyd
  obtain ⟨xs, hAx, hNx⟩ := h.ex
  obtain ⟨ys, hAy, hNy⟩ := k.ex
  have HZ : Hid (ZR w false q n y) := k
  have AX : Hid (At32 w p m m xs ∧ At32 w q n n ys) := ⟨hAx, hAy⟩
  have NX : Hid (Nf B32 xs x.natAbs ∧ Nf B32 ys y.natAbs) := ⟨hNx, hNy⟩
  have HM : Hid (m ≤ 16384 ∧ n ≤ 1 ∧ 0 < y) := ⟨hm, hn, hy⟩
  have HLO : Hid (x.natAbs % y.natAbs ≠ 0) := hr
  clear h k hm hn hy hAx hAy hNx hNy hr
  go_enter Tryz.func188, Tryz.ntmps188
  go_wp2_with fail
  obtain ⟨W0, hW0⟩ : ∃ W0, W0 = ((((w.alloc (.cells #[.bool true, .slice p m m] 110)).alloc (.cells #[.bool false, .slice q n n] 110)).alloc (.cells #[.bool false, .slice none 0 0] 110)).alloc (.cells #[.bool false, .slice none 0 0] 110)) := ⟨_, rfl⟩
  have Xa : Hid (Box W0 (w.heap.size) (.bool true) (.slice p m m)) := by rw [hW0]; exact ⟨by go_simp, by go_simp, by go_simp, by go_simp⟩
  have Xb : Hid (Box W0 (w.heap.size + 1) (.bool false) (.slice q n n)) := by rw [hW0]; exact ⟨by go_simp, by go_simp, by go_simp, by go_simp⟩
  have Xr : Hid (Box W0 (w.heap.size + 1 + 1) (.bool false) (.slice none 0 0)) := by rw [hW0]; exact ⟨by go_simp, by go_simp, by go_simp, by go_simp⟩
  have Xu : Hid (Box W0 (w.heap.size + 1 + 1 + 1) (.bool false) (.slice none 0 0)) := by rw [hW0]; exact ⟨by go_simp, by go_simp, by go_simp, by go_simp⟩
  have hb0 : Below w.heap.size w W0 := by rw [hW0]; exact below4 w _ _ _ _
  rw [← hW0]
  clear hW0
  have hbw : Below w.heap.size w w := Below.refl _ _
  obtain ⟨gu, hgu⟩ : ∃ g, g = w.heap.size + 1 + 1 + 1 := ⟨_, rfl⟩
  have HGu : Hid (w.heap.size ≤ gu) := by rw [hgu]; show _ ≤ _; omega
  rw [← hgu] at Xu
  try rw [← hgu]
  obtain ⟨gr, hgr⟩ : ∃ g, g = w.heap.size + 1 + 1 := ⟨_, rfl⟩
  have HGr : Hid (w.heap.size ≤ gr) := by rw [hgr]; show _ ≤ _; omega
  rw [← hgr] at Xr
  try rw [← hgr]
  obtain ⟨gb, hgb⟩ : ∃ g, g = w.heap.size + 1 := ⟨_, rfl⟩
  have HGb : Hid (w.heap.size ≤ gb) := by rw [hgb]; show _ ≤ _; omega
  rw [← hgb] at Xb
  try rw [← hgb]
  obtain ⟨ga, hga⟩ : ∃ g, g = w.heap.size := ⟨_, rfl⟩
  have HGa : Hid (w.heap.size ≤ ga) := by rw [hga]; show _ ≤ _; omega
  rw [← hga] at Xa
  try rw [← hga]
  have HGD : Hid (ga ≠ gb ∧ ga ≠ gr ∧ ga ≠ gu ∧ gb ≠ ga ∧ gb ≠ gr ∧ gb ≠ gu ∧ gr ≠ ga ∧ gr ≠ gb ∧ gr ≠ gu ∧ gu ≠ ga ∧ gu ≠ gb ∧ gu ≠ gr) := by rw [hga, hgb, hgr, hgu]; exact ⟨by omega, by omega, by omega, by omega, by omega, by omega, by omega, by omega, by omega, by omega, by omega, by omega⟩
  clear hga hgb hgr hgu
  replace hbw := Below.on hbw hb0
  clear hb0
  refine (rsign04 false (HZ.out.below hbw)).mono ?_
  rintro e v1 ⟨rfl, hb1⟩
  rw [show sgnI y = 1 from by have := HM.out.2.2; unfold sgnI; rw [if_neg (by omega), if_neg (by omega)]]
  replace Xa : Hid _ := Xa.out.below hb1
  replace Xb : Hid _ := Xb.out.below hb1
  replace Xr : Hid _ := Xr.out.below hb1
  replace Xu : Hid _ := Xu.out.below hb1
  replace hbw := Below.on hbw hb1
  clear hb1
  obtain ⟨ca0, ca1, fa0, fa1⟩ := Xa.out
  have hnea := Xa.out.lt
  obtain ⟨cb0, cb1, fb0, fb1⟩ := Xb.out
  have hneb := Xb.out.lt
  go_wp2_with fail
  clear ca0 ca1 fa0 fa1 hnea
  clear cb0 cb1 fb0 fb1 hneb
  refine (rdivmod04 (AX.out.1.below hbw) (AX.out.2.below hbw) NX.out.1 NX.out.2 HM.out.1 HM.out.2.1 (by have := HM.out.2.2; omega)).mono ?_
  rintro e v2 ⟨p2, m2, z2, p3, m3, z3, rfl, hA2, hN2, hA3, hN3, hl2, hl3, hb2⟩
  replace Xa : Hid _ := Xa.out.below hb2
  replace Xb : Hid _ := Xb.out.below hb2
  replace Xr : Hid _ := Xr.out.below hb2
  replace Xu : Hid _ := Xu.out.below hb2
  replace hbw := Below.on hbw hb2
  clear hb2
  have A2 : Hid (At32 v2 p2 m2 m2 z2) := hA2
  have A3 : Hid (At32 v2 p3 m3 m3 z3) := hA3
  have N2 : Hid (Nf B32 z2 (x.natAbs / y.natAbs) ∧ Nf B32 z3 (x.natAbs % y.natAbs) ∧ m2 ≤ m ∧ m3 ≤ m) := ⟨hN2, hN3, hl2, hl3⟩
  have hm3 : ¬ m3 = 0 := fun e => HLO.out ((hN3.zero_iff B32_one).1 (List.eq_nil_of_length_eq_zero (by rw [hA3.len]; exact e)))
  have hm3b : ((m3 : Int) == 0) = false := by simp; omega
  clear hA2 hN2 hA3 hN3 hl2 hl3
  obtain ⟨ca0, ca1, fa0, fa1⟩ := Xa.out
  have hnea := Xa.out.lt
  go_wp2_with fail
  clear ca0 ca1 fa0 fa1 hnea
  clear hm3 hm3b
  obtain ⟨W4, hW4⟩ : ∃ W1, W1 = v2.drew := ⟨_, rfl⟩
  have hbd : Below v2.heap.size v2 W4 := by rw [hW4]; exact bDrew1 (Below.refl _ _)
  replace Xa : Hid _ := Xa.out.below hbd
  replace Xb : Hid _ := Xb.out.below hbd
  replace Xr : Hid _ := Xr.out.below hbd
  replace Xu : Hid _ := Xu.out.below hbd
  replace A2 : Hid _ := A2.out.below hbd
  replace A3 : Hid _ := A3.out.below hbd
  replace hbw := Below.on hbw hbd
  clear hbd
  have HJ : Hid ((fun W' : World => W'.cell? ⟨gb, 1, none⟩ = some (.slice q n n)) W4) := Xb.out.c1
  refine wp_region_J (fun W' => W'.cell? ⟨gb, 1, none⟩ = some (.slice q n n)) (by kernel_rfl) ?_
  rw [← hW4]
  clear hW4
  refine wpJ_tk 0 (v := ?v1x0) rfl ?hy1x0 HJ.out ?_
  case hy1x0 => (intro W' hJ; have j0 := hJ; go_simp; first | done | with_reducible rfl)
  refine wpJ_tk 4 (v := ?v2x4) rfl ?hy2x4 HJ.out ?_
  case hy2x4 => (intro W' hJ; have j0 := hJ; go_simp; first | done | with_reducible rfl)
  refine wpJ_tk 5 (v := ?v3x5) rfl ?hy3x5 HJ.out ?_
  case hy3x5 => (intro W' hJ; have j0 := hJ; go_simp; first | done | with_reducible rfl)
  refine wpJ_tk 6 (v := ?v4x6) rfl ?hy4x6 HJ.out ?_
  case hy4x6 => (intro W' hJ; have j0 := hJ; go_simp; first | done | with_reducible rfl)
  refine wpJ_one (i := 1) (by kernel_rfl) rfl (by kernel_rfl) (fun KJ hK => ?_)
  go_simp
  refine (rword 1 (by rw [B64_eq]; decide) _).mono ?_
  rintro e v4 ⟨g4, z4, rfl, hl4, hA4, hN4, hb4⟩
  replace Xa : Hid _ := Xa.out.below hb4
  replace Xb : Hid _ := Xb.out.below hb4
  replace Xr : Hid _ := Xr.out.below hb4
  replace Xu : Hid _ := Xu.out.below hb4
  replace A2 : Hid _ := A2.out.below hb4
  replace A3 : Hid _ := A3.out.below hb4
  replace hbw := Below.on hbw hb4
  clear hb4
  have A4 : Hid (At32 v4 (some ⟨g4, 0, none⟩) z4.length z4.length z4) := hA4
  have N4 : Hid (Nf B32 z4 1 ∧ z4.length ≤ 2) := ⟨hN4, hl4⟩
  clear hA4 hN4 hl4
  refine hK _ _ Xb.out.c1 ?_
  clear hK
  refine wpJ_one (i := 2) (by kernel_rfl) rfl (by kernel_rfl) (fun KJ hK => ?_)
  go_simp
  refine (radd_any A2.out A4.out N2.out.1 N4.out.1 (by have := N2.out; have := HM.out; omega) (by have := N4.out; omega)).mono ?_
  rintro e v5 ⟨p5, m5, z5, rfl, hA5, hN5, hb5⟩
  have hl5 : m5 ≤ m2 + 1 := by
    have h1 := (N2.out.1.len_le B32_one (k := m2)).1 (by rw [A2.out.len]; exact Nat.le_refl _)
    have h2 := (hN5.len_le B32_one (k := m2 + 1)).2 (by rw [Nat.pow_succ]; have h3 : 1 < B32 := B32_one; have h4 : 0 < B32 ^ m2 := Nat.pow_pos (by omega); have h5 : B32 ^ m2 * 2 ≤ B32 ^ m2 * B32 := Nat.mul_le_mul_left _ h3; omega)
    rw [hA5.len] at h2
    exact h2
  replace Xa : Hid _ := Xa.out.below hb5
  replace Xb : Hid _ := Xb.out.below hb5
  replace Xr : Hid _ := Xr.out.below hb5
  replace Xu : Hid _ := Xu.out.below hb5
  replace A2 : Hid _ := A2.out.below hb5
  replace A3 : Hid _ := A3.out.below hb5
  replace A4 : Hid _ := A4.out.below hb5
  replace hbw := Below.on hbw hb5
  clear hb5
  have A5 : Hid (At32 v5 p5 m5 m5 z5) := hA5
  have N5 : Hid (Nf B32 z5 (x.natAbs / y.natAbs + 1) ∧ m5 ≤ m2 + 1) := ⟨hN5, hl5⟩
  clear hA5 hN5 hl5
  refine hK _ _ Xb.out.c1 ?_
  clear hK
  have HRB : Hid (gr < v5.heap.size ∧ gu < v5.heap.size ∧ w.heap.size ≤ v5.heap.size) := ⟨Xr.out.lt, Xu.out.lt, hbw.size⟩
  refine wpJ_one (i := 3) (by kernel_rfl) rfl (by kernel_rfl) (fun KJ hK => ?_)
  go_simp
  refine (rmk_any true A5.out N5.out.1 (by have := N5.out; have := N2.out; have := HM.out; omega)).mono ?_
  rintro e v6 ⟨v, rfl, hv, hb6⟩
  obtain ⟨s6, g6, m6, rfl, hg6, hz6, hl6⟩ := hv
  have HN6 : Hid (v5.heap.size ≤ g6) := hg6
  have HB6 : Hid (v5.heap.size ≤ v6.heap.size) := hb6.size
  replace Xa : Hid _ := Xa.out.below hb6
  replace Xb : Hid _ := Xb.out.below hb6
  replace Xr : Hid _ := Xr.out.below hb6
  replace Xu : Hid _ := Xu.out.below hb6
  replace A2 : Hid _ := A2.out.below hb6
  replace A3 : Hid _ := A3.out.below hb6
  replace A4 : Hid _ := A4.out.below hb6
  replace A5 : Hid _ := A5.out.below hb6
  replace hbw := Below.on hbw hb6
  clear hb6
  have Z6 : Hid (ZR v6 s6 (some ⟨g6, 0, none⟩) m6 (iv true (x.natAbs / y.natAbs + 1))) := hz6
  have HL6 : Hid (m6 ≤ m5) := hl6
  clear hz6 hl6 hg6
  refine hK _ _ Xb.out.c1 ?_
  clear hK
  refine wpJ_one (i := 7) (by kernel_rfl) rfl (by kernel_rfl) (fun KJ hK => ?_)
  go_simp
  refine (rsub_any (AX.out.2.below hbw) A3.out NX.out.2 N2.out.2.1 (by have := HM.out; omega) (Nat.le_of_lt (Nat.mod_lt _ (by have := HM.out.2.2; omega)))).mono ?_
  rintro e v7 ⟨p7, m7, z7, rfl, hA7, hN7, hl7, hb7⟩
  have HB7 : Hid (v6.heap.size ≤ v7.heap.size) := hb7.size
  replace Xa : Hid _ := Xa.out.below hb7
  replace Xb : Hid _ := Xb.out.below hb7
  replace Xr : Hid _ := Xr.out.below hb7
  replace Xu : Hid _ := Xu.out.below hb7
  replace A2 : Hid _ := A2.out.below hb7
  replace A3 : Hid _ := A3.out.below hb7
  replace A4 : Hid _ := A4.out.below hb7
  replace A5 : Hid _ := A5.out.below hb7
  replace Z6 : Hid _ := Z6.out.below hb7
  replace hbw := Below.on hbw hb7
  clear hb7
  have A7 : Hid (At32 v7 p7 m7 m7 z7) := hA7
  have N7 : Hid (Nf B32 z7 (y.natAbs - x.natAbs % y.natAbs) ∧ m7 ≤ n) := ⟨hN7, hl7⟩
  clear hA7 hN7 hl7
  refine hK _ _ Xb.out.c1 ?_
  clear hK
  have HBV : Hid (v5.heap.size ≤ v7.heap.size) := Nat.le_trans HB6.out HB7.out
  refine wpJ_one (i := 8) (by kernel_rfl) rfl (by kernel_rfl) (fun KJ hK => ?_)
  go_simp
  refine (rmk_any false A7.out N7.out.1 (by have := N7.out; have := HM.out; omega)).mono ?_
  rintro e v8 ⟨v, rfl, hv, hb8⟩
  obtain ⟨s8, g8, m8, rfl, hg8, hz8, hl8⟩ := hv
  have HN8 : Hid (v7.heap.size ≤ g8) := hg8
  have HB8 : Hid (v7.heap.size ≤ v8.heap.size) := hb8.size
  replace Xa : Hid _ := Xa.out.below hb8
  replace Xb : Hid _ := Xb.out.below hb8
  replace Xr : Hid _ := Xr.out.below hb8
  replace Xu : Hid _ := Xu.out.below hb8
  replace A2 : Hid _ := A2.out.below hb8
  replace A3 : Hid _ := A3.out.below hb8
  replace A4 : Hid _ := A4.out.below hb8
  replace A5 : Hid _ := A5.out.below hb8
  replace Z6 : Hid _ := Z6.out.below hb8
  replace A7 : Hid _ := A7.out.below hb8
  replace hbw := Below.on hbw hb8
  clear hb8
  have Z8 : Hid (ZR v8 s8 (some ⟨g8, 0, none⟩) m8 (iv false (y.natAbs - x.natAbs % y.natAbs))) := hz8
  have HL8 : Hid (m8 ≤ m7) := hl8
  clear hz8 hl8 hg8
  refine hK _ _ Xb.out.c1 ?_
  clear hK
  obtain ⟨cr0, cr1, fr0, fr1⟩ := Xr.out
  have hner := Xr.out.lt
  obtain ⟨cu0, cu1, fu0, fu1⟩ := Xu.out
  have hneu := Xu.out.lt
  obtain ⟨cb0, cb1, fb0, fb1⟩ := Xb.out
  have hneb := Xb.out.lt
  obtain ⟨hgd0, hgd1, hgd2, hgd3, hgd4, hgd5, hgd6, hgd7, hgd8, hgd9, hgd10, hgd11⟩ := HGD.out
  refine wpJ_one (i := 9) (by kernel_rfl) rfl (by kernel_rfl) (fun KJ hK => ?_)
  go_simp
  have HJ2 : Hid ((fun W' : World => W'.cell? ⟨gb, 1, none⟩ = some (.slice q n n)) ((v8.setCell ⟨gr, 0, none⟩ (.bool s6)).setCell ⟨gr, 1, none⟩ (.slice (some ⟨g6, 0, none⟩) m6 m6))) := by show World.cell? _ _ = _; go_simp
  refine hK _ _ HJ2.out ?_
  clear hK HJ
  have HJ := HJ2
  clear HJ2
  refine wpJ_one (i := 10) (by kernel_rfl) rfl (by kernel_rfl) (fun KJ hK => ?_)
  go_simp
  have HJ2 : Hid ((fun W' : World => W'.cell? ⟨gb, 1, none⟩ = some (.slice q n n)) ((((v8.setCell ⟨gr, 0, none⟩ (.bool s6)).setCell ⟨gr, 1, none⟩ (.slice (some ⟨g6, 0, none⟩) m6 m6)).setCell ⟨gu, 0, none⟩ (.bool s8)).setCell ⟨gu, 1, none⟩ (.slice (some ⟨g8, 0, none⟩) m8 m8))) := by show World.cell? _ _ = _; go_simp
  refine hK _ _ HJ2.out ?_
  clear hK HJ
  have HJ := HJ2
  clear HJ2
  refine wpJ_done (by kernel_rfl) ?_ _
  clear HJ
  go_wp2_with fail
  refine bodyPost_ret (v := .tuple #[.agg #[.bool s6, .slice (some ⟨g6, 0, none⟩) m6 m6], .agg #[.bool s8, .slice (some ⟨g8, 0, none⟩) m8 m8]]) (by rw [results_cell2 rfl]; go_simp) rfl ⟨s6, g6, m6, s8, g8, m8, rfl, Nat.le_trans HRB.out.2.2 HN6.out, Nat.le_trans HRB.out.2.2 (Nat.le_trans HBV.out HN8.out), ?_, ?_, ?_, ?_, ?_⟩
  · clear hgd0 hgd1 hgd2 hgd3 hgd4 hgd5 hgd6 hgd7 hgd8 hgd9 hgd10 hgd11
    have := HN6.out; have := HRB.out
    exact (((Z6.out.set _ _ _ (by omega)).set _ _ _ (by omega)).set _ _ _ (by omega)).set _ _ _ (by omega)
  · clear hgd0 hgd1 hgd2 hgd3 hgd4 hgd5 hgd6 hgd7 hgd8 hgd9 hgd10 hgd11
    have := HN8.out; have := HBV.out; have := HRB.out
    exact (((Z8.out.set _ _ _ (by omega)).set _ _ _ (by omega)).set _ _ _ (by omega)).set _ _ _ (by omega)
  · clear hgd0 hgd1 hgd2 hgd3 hgd4 hgd5 hgd6 hgd7 hgd8 hgd9 hgd10 hgd11
    have := HL6.out; have := N5.out; have := N2.out; have := HM.out; omega
  · clear hgd0 hgd1 hgd2 hgd3 hgd4 hgd5 hgd6 hgd7 hgd8 hgd9 hgd10 hgd11
    have := HL8.out; have := N7.out; have := HM.out; omega
  · exact bSet (bSet (bSet (bSet hbw _ _ _ HGr.out) _ _ _ HGr.out) _ _ _ HGu.out) _ _ _ HGu.out
theorem rfloor04 {p q : Option Addr} {m n : Nat} {w : World} {x y : Int} (s : Bool) (h : ZR w s p m x) (k : ZR w false q n y) (hm : m ≤ 16384) (hn : n ≤ 1) (hy : 0 < y) :
    Calls Tryz.prog 188 #[.agg #[.bool s, .slice p m m], .agg #[.bool false, .slice q n n]] w fun e w' => ∃ s1 g1 m1 s2 g2 m2, e = .returned (.tuple #[.agg #[.bool s1, .slice (some ⟨g1, 0, none⟩) m1 m1], .agg #[.bool s2, .slice (some ⟨g2, 0, none⟩) m2 m2]]) ∧ w.heap.size ≤ g1 ∧ w.heap.size ≤ g2 ∧ ZR w' s1 (some ⟨g1, 0, none⟩) m1 (rFd x y) ∧ ZR w' s2 (some ⟨g2, 0, none⟩) m2 (rMo x y) ∧ m1 ≤ 20000 ∧ m2 ≤ 40000 ∧ Below w.heap.size w w' := by
  cases s
  · exact rfloor04_p h k hm hn hy
  · by_cases hr : x.natAbs % y.natAbs = 0
    · exact rfloor04_n0 h k hm hn hy hr
    · exact rfloor04_n1 h k hm hn hy hr
theorem rMo_eq {x y : Int} (hy : y ≠ 0) : x - y * rFd x y = rMo x y := by
  have h := fl_mo (decide (x < 0)) (decide (y < 0)) x.natAbs y.natAbs (by omega)
  rw [iv_abs, iv_abs] at h
  unfold rFd rMo
  rw [Int.mul_comm]
  omega
set_option maxRecDepth 20000 in
set_option maxHeartbeats 8000000 in
theorem rfloordiv04_p {p q : Option Addr} {m n : Nat} {w : World} {x y : Int} (s : Bool) (h : ZR w s p m x) (k : ZR w false q n y) (hm : m ≤ 16384) (hn : n ≤ 1) (hy : 0 < y) :
    Calls Tryz.prog 162 #[.agg #[.bool s, .slice p m m], .agg #[.bool false, .slice q n n]] w fun e w' => ∃ v, e = .returned v ∧ GotR w.heap.size w' v (rFd x y) (20001) ∧ Below w.heap.size w w' := by
  have HA : Hid (ZR w s p m x ∧ ZR w false q n y) := ⟨h, k⟩
  have HM : Hid (m ≤ 16384 ∧ n ≤ 1 ∧ 0 < y) := ⟨hm, hn, hy⟩
  clear h k hm hn hy
  go_enter Tryz.func162, Tryz.ntmps162
  go_wp2_with fail
  obtain ⟨W0, hW0⟩ : ∃ W0, W0 = (((w.alloc (.cells #[.bool s, .slice p m m] 110)).alloc (.cells #[.bool false, .slice q n n] 110)).alloc (.cells #[.bool false, .slice none 0 0] 110)) := ⟨_, rfl⟩
  have Xa : Hid (Box W0 (w.heap.size) (.bool s) (.slice p m m)) := by rw [hW0]; exact ⟨by go_simp, by go_simp, by go_simp, by go_simp⟩
  have Xb : Hid (Box W0 (w.heap.size + 1) (.bool false) (.slice q n n)) := by rw [hW0]; exact ⟨by go_simp, by go_simp, by go_simp, by go_simp⟩
  have Xr : Hid (Box W0 (w.heap.size + 1 + 1) (.bool false) (.slice none 0 0)) := by rw [hW0]; exact ⟨by go_simp, by go_simp, by go_simp, by go_simp⟩
  have hb0 : Below w.heap.size w W0 := by rw [hW0]; exact below3 w _ _ _
  rw [← hW0]
  clear hW0
  have hbw : Below w.heap.size w w := Below.refl _ _
  obtain ⟨gr, hgr⟩ : ∃ g, g = w.heap.size + 1 + 1 := ⟨_, rfl⟩
  have HGr : Hid (w.heap.size ≤ gr) := by rw [hgr]; show _ ≤ _; omega
  rw [← hgr] at Xr
  try rw [← hgr]
  obtain ⟨gb, hgb⟩ : ∃ g, g = w.heap.size + 1 := ⟨_, rfl⟩
  have HGb : Hid (w.heap.size ≤ gb) := by rw [hgb]; show _ ≤ _; omega
  rw [← hgb] at Xb
  try rw [← hgb]
  obtain ⟨ga, hga⟩ : ∃ g, g = w.heap.size := ⟨_, rfl⟩
  have HGa : Hid (w.heap.size ≤ ga) := by rw [hga]; show _ ≤ _; omega
  rw [← hga] at Xa
  try rw [← hga]
  have HGD : Hid (ga ≠ gb ∧ ga ≠ gr ∧ gb ≠ ga ∧ gb ≠ gr ∧ gr ≠ ga ∧ gr ≠ gb) := by rw [hga, hgb, hgr]; exact ⟨by omega, by omega, by omega, by omega, by omega, by omega⟩
  clear hga hgb hgr
  replace hbw := Below.on hbw hb0
  clear hb0
  obtain ⟨ca0, ca1, fa0, fa1⟩ := Xa.out
  have hnea := Xa.out.lt
  obtain ⟨cb0, cb1, fb0, fb1⟩ := Xb.out
  have hneb := Xb.out.lt
  go_wp2_with fail
  clear ca0 ca1 fa0 fa1 hnea
  clear cb0 cb1 fb0 fb1 hneb
  refine (rfloor04 s (HA.out.1.below hbw) (HA.out.2.below hbw) HM.out.1 (Nat.le_trans HM.out.2.1 (by decide)) (by have := HM.out.2.2; omega)).mono ?_
  rintro e v1 ⟨s1, g1, m1, s2, g2, m2, rfl, hg1, hg2, hz1, hz2, hl1, hl2, hb1⟩
  have HR1 : Hid (gr < g1 ∧ w.heap.size ≤ g1) := ⟨Nat.lt_of_lt_of_le Xr.out.lt hg1, Nat.le_trans hbw.size hg1⟩
  replace Xa : Hid _ := Xa.out.below hb1
  replace Xb : Hid _ := Xb.out.below hb1
  replace Xr : Hid _ := Xr.out.below hb1
  replace hbw := Below.on hbw hb1
  clear hb1
  have Z1 : Hid (ZR v1 s1 (some ⟨g1, 0, none⟩) m1 (rFd (x) (y))) := hz1
  have HL1 : Hid (m1 ≤ 20001) := Nat.le_succ_of_le hl1
  clear hz1 hz2 hl1 hl2 hg1 hg2
  have HDR0 : Hid (gr ≠ v1.heap.size) := Nat.ne_of_lt Xr.out.lt
  have hq1 := HDR0.out
  have hq2 : v1.heap.size ≠ gr := fun h => hq1 h.symm
  obtain ⟨cr0, cr1, fr0, fr1⟩ := Xr.out
  have hner := Xr.out.lt
  go_wp2_with fail
  refine bodyPost_ret (v := .agg #[.bool s1, .slice (some ⟨g1, 0, none⟩) m1 m1]) (by rw [results_cell1 rfl]; go_simp) rfl ⟨_, rfl, ⟨s1, g1, m1, rfl, HR1.out.2, ?_, HL1.out⟩, ?_⟩
  · clear hq1 hq2
    have := HR1.out.1
    exact ((Z1.out.set _ _ _ (by omega)).set _ _ _ (by omega)).below (below2 _ _ _)
  · exact Below.on (bSet (bSet hbw _ _ _ HGr.out) _ _ _ HGr.out) (below2 _ _ _)
theorem rfloordiv04 {p q : Option Addr} {m n : Nat} {w : World} {x y : Int} (s t : Bool) (h : ZR w s p m x) (k : ZR w t q n y) (hm : m ≤ 16384) (hn : n ≤ 1) (hy : 0 < y) :
    Calls Tryz.prog 162 #[.agg #[.bool s, .slice p m m], .agg #[.bool t, .slice q n n]] w fun e w' => ∃ v, e = .returned v ∧ GotR w.heap.size w' v (rFd x y) (20001) ∧ Below w.heap.size w w' := by
  obtain rfl : t = false := by rw [k.sg]; exact decide_eq_false (by omega)
  exact rfloordiv04_p s h k hm hn hy
set_option maxRecDepth 20000 in
set_option maxHeartbeats 8000000 in
theorem rmod04 {p q : Option Addr} {m n : Nat} {w : World} {x y : Int} (s t : Bool) (h : ZR w s p m x) (k : ZR w t q n y) (hm : m ≤ 16384) (hn : n ≤ 1) (hy : 0 < y) :
    Calls Tryz.prog 119 #[.agg #[.bool s, .slice p m m], .agg #[.bool t, .slice q n n]] w fun e w' => ∃ v, e = .returned v ∧ GotR w.heap.size w' v (rMo x y) (50000) ∧ Below w.heap.size w w' := by
  rw [← rMo_eq (show y ≠ 0 by omega)]
  have HA : Hid (ZR w s p m x ∧ ZR w t q n y) := ⟨h, k⟩
  have HM : Hid (m ≤ 16384 ∧ n ≤ 1 ∧ 0 < y) := ⟨hm, hn, hy⟩
  clear h k hm hn hy
  go_enter Tryz.func119, Tryz.ntmps119
  go_wp2_with fail
  obtain ⟨W0, hW0⟩ : ∃ W0, W0 = (((w.alloc (.cells #[.bool s, .slice p m m] 110)).alloc (.cells #[.bool t, .slice q n n] 110)).alloc (.cells #[.bool false, .slice none 0 0] 110)) := ⟨_, rfl⟩
  have Xa : Hid (Box W0 (w.heap.size) (.bool s) (.slice p m m)) := by rw [hW0]; exact ⟨by go_simp, by go_simp, by go_simp, by go_simp⟩
  have Xb : Hid (Box W0 (w.heap.size + 1) (.bool t) (.slice q n n)) := by rw [hW0]; exact ⟨by go_simp, by go_simp, by go_simp, by go_simp⟩
  have Xr : Hid (Box W0 (w.heap.size + 1 + 1) (.bool false) (.slice none 0 0)) := by rw [hW0]; exact ⟨by go_simp, by go_simp, by go_simp, by go_simp⟩
  have hb0 : Below w.heap.size w W0 := by rw [hW0]; exact below3 w _ _ _
  rw [← hW0]
  clear hW0
  have hbw : Below w.heap.size w w := Below.refl _ _
  obtain ⟨gr, hgr⟩ : ∃ g, g = w.heap.size + 1 + 1 := ⟨_, rfl⟩
  have HGr : Hid (w.heap.size ≤ gr) := by rw [hgr]; show _ ≤ _; omega
  rw [← hgr] at Xr
  try rw [← hgr]
  obtain ⟨gb, hgb⟩ : ∃ g, g = w.heap.size + 1 := ⟨_, rfl⟩
  have HGb : Hid (w.heap.size ≤ gb) := by rw [hgb]; show _ ≤ _; omega
  rw [← hgb] at Xb
  try rw [← hgb]
  obtain ⟨ga, hga⟩ : ∃ g, g = w.heap.size := ⟨_, rfl⟩
  have HGa : Hid (w.heap.size ≤ ga) := by rw [hga]; show _ ≤ _; omega
  rw [← hga] at Xa
  try rw [← hga]
  have HGD : Hid (ga ≠ gb ∧ ga ≠ gr ∧ gb ≠ ga ∧ gb ≠ gr ∧ gr ≠ ga ∧ gr ≠ gb) := by rw [hga, hgb, hgr]; exact ⟨by omega, by omega, by omega, by omega, by omega, by omega⟩
  clear hga hgb hgr
  replace hbw := Below.on hbw hb0
  clear hb0
  obtain ⟨W1, hW1⟩ : ∃ W1, W1 = W0.drew := ⟨_, rfl⟩
  have hbd : Below W0.heap.size W0 W1 := by rw [hW1]; exact bDrew1 (Below.refl _ _)
  replace Xa : Hid _ := Xa.out.below hbd
  replace Xb : Hid _ := Xb.out.below hbd
  replace Xr : Hid _ := Xr.out.below hbd
  replace hbw := Below.on hbw hbd
  clear hbd
  have HJ : Hid ((fun W' : World => W'.cell? ⟨ga, 0, none⟩ = some (.bool s) ∧ W'.cell? ⟨ga, 1, none⟩ = some (.slice p m m) ∧ W'.cell? ⟨gb, 0, none⟩ = some (.bool t) ∧ W'.cell? ⟨gb, 1, none⟩ = some (.slice q n n)) W1) := ⟨Xa.out.c0, Xa.out.c1, Xb.out.c0, Xb.out.c1⟩
  refine wp_region_J (fun W' => W'.cell? ⟨ga, 0, none⟩ = some (.bool s) ∧ W'.cell? ⟨ga, 1, none⟩ = some (.slice p m m) ∧ W'.cell? ⟨gb, 0, none⟩ = some (.bool t) ∧ W'.cell? ⟨gb, 1, none⟩ = some (.slice q n n)) (by kernel_rfl) ?_
  rw [← hW1]
  clear hW1
  refine wpJ_tk 0 (v := ?v3x0) rfl ?hy3x0 HJ.out ?_
  case hy3x0 => (intro W' hJ; obtain ⟨j0, j1, j2, j3⟩ := hJ; go_simp; first | done | with_reducible rfl)
  refine wpJ_tk 1 (v := ?v4x1) rfl ?hy4x1 HJ.out ?_
  case hy4x1 => (intro W' hJ; obtain ⟨j0, j1, j2, j3⟩ := hJ; go_simp; first | done | with_reducible rfl)
  refine wpJ_tk 2 (v := ?v5x2) rfl ?hy5x2 HJ.out ?_
  case hy5x2 => (intro W' hJ; obtain ⟨j0, j1, j2, j3⟩ := hJ; go_simp; first | done | with_reducible rfl)
  refine wpJ_tk 3 (v := ?v6x3) rfl ?hy6x3 HJ.out ?_
  case hy6x3 => (intro W' hJ; obtain ⟨j0, j1, j2, j3⟩ := hJ; go_simp; first | done | with_reducible rfl)
  refine wpJ_one (i := 4) (by kernel_rfl) rfl (by kernel_rfl) (fun KJ hK => ?_)
  go_simp
  refine (rfloordiv04 s t (HA.out.1.below hbw) (HA.out.2.below hbw) HM.out.1 HM.out.2.1 HM.out.2.2).mono ?_
  rintro e v4 ⟨v, rfl, hv, hb4⟩
  obtain ⟨s4, g4, m4, rfl, hg4, hz4, hl4⟩ := hv
  have HN4 : Hid (W1.heap.size ≤ g4) := hg4
  have HB4 : Hid (W1.heap.size ≤ v4.heap.size) := hb4.size
  replace Xa : Hid _ := Xa.out.below hb4
  replace Xb : Hid _ := Xb.out.below hb4
  replace Xr : Hid _ := Xr.out.below hb4
  replace hbw := Below.on hbw hb4
  clear hb4
  have Z4 : Hid (ZR v4 s4 (some ⟨g4, 0, none⟩) m4 (rFd x y)) := hz4
  have HL4 : Hid (m4 ≤ 20001) := hl4
  clear hz4 hl4 hg4
  refine hK _ _ ⟨Xa.out.c0, Xa.out.c1, Xb.out.c0, Xb.out.c1⟩ ?_
  clear hK
  refine wpJ_one (i := 5) (by kernel_rfl) rfl (by kernel_rfl) (fun KJ hK => ?_)
  go_simp
  refine (rmul04 t s4 (HA.out.2.below hbw) Z4.out (by have := HM.out; omega) (by have := HL4.out; omega)).mono ?_
  rintro e v5 ⟨v, rfl, hv, hb5⟩
  obtain ⟨s5, g5, m5, rfl, hg5, hz5, hl5⟩ := hv
  have HN5 : Hid (v4.heap.size ≤ g5) := hg5
  have HB5 : Hid (v4.heap.size ≤ v5.heap.size) := hb5.size
  replace Xa : Hid _ := Xa.out.below hb5
  replace Xb : Hid _ := Xb.out.below hb5
  replace Xr : Hid _ := Xr.out.below hb5
  replace Z4 : Hid _ := Z4.out.below hb5
  replace hbw := Below.on hbw hb5
  clear hb5
  have Z5 : Hid (ZR v5 s5 (some ⟨g5, 0, none⟩) m5 (y * rFd x y)) := hz5
  have HL5 : Hid (m5 ≤ n + m4) := hl5
  clear hz5 hl5 hg5
  refine hK _ _ ⟨Xa.out.c0, Xa.out.c1, Xb.out.c0, Xb.out.c1⟩ ?_
  clear hK
  have HRB : Hid (gr < v5.heap.size ∧ w.heap.size ≤ v5.heap.size) := ⟨Xr.out.lt, hbw.size⟩
  refine wpJ_one (i := 6) (by kernel_rfl) rfl (by kernel_rfl) (fun KJ hK => ?_)
  go_simp
  refine (rsub04 s s5 (HA.out.1.below hbw) Z5.out (by have := HM.out; omega) (by have := HL5.out; have := HL4.out; have := HM.out; omega)).mono ?_
  rintro e v6 ⟨v, rfl, hv, hb6⟩
  obtain ⟨s6, g6, m6, rfl, hg6, hz6, hl6⟩ := hv
  have HN6 : Hid (v5.heap.size ≤ g6) := hg6
  have HB6 : Hid (v5.heap.size ≤ v6.heap.size) := hb6.size
  replace Xa : Hid _ := Xa.out.below hb6
  replace Xb : Hid _ := Xb.out.below hb6
  replace Xr : Hid _ := Xr.out.below hb6
  replace Z4 : Hid _ := Z4.out.below hb6
  replace Z5 : Hid _ := Z5.out.below hb6
  replace hbw := Below.on hbw hb6
  clear hb6
  have Z6 : Hid (ZR v6 s6 (some ⟨g6, 0, none⟩) m6 (x - y * rFd x y)) := hz6
  have HL6 : Hid (m6 ≤ max m m5 + 1) := hl6
  clear hz6 hl6 hg6
  refine hK _ _ ⟨Xa.out.c0, Xa.out.c1, Xb.out.c0, Xb.out.c1⟩ ?_
  clear hK
  obtain ⟨cr0, cr1, fr0, fr1⟩ := Xr.out
  have hner := Xr.out.lt
  obtain ⟨ca0, ca1, fa0, fa1⟩ := Xa.out
  have hnea := Xa.out.lt
  obtain ⟨cb0, cb1, fb0, fb1⟩ := Xb.out
  have hneb := Xb.out.lt
  obtain ⟨hgd0, hgd1, hgd2, hgd3, hgd4, hgd5⟩ := HGD.out
  refine wpJ_one (i := 7) (by kernel_rfl) rfl (by kernel_rfl) (fun KJ hK => ?_)
  go_simp
  have HJ2 : Hid ((fun W' : World => W'.cell? ⟨ga, 0, none⟩ = some (.bool s) ∧ W'.cell? ⟨ga, 1, none⟩ = some (.slice p m m) ∧ W'.cell? ⟨gb, 0, none⟩ = some (.bool t) ∧ W'.cell? ⟨gb, 1, none⟩ = some (.slice q n n)) ((v6.setCell ⟨gr, 0, none⟩ (.bool s6)).setCell ⟨gr, 1, none⟩ (.slice (some ⟨g6, 0, none⟩) m6 m6))) := ⟨by go_simp, by go_simp, by go_simp, by go_simp⟩
  refine hK _ _ HJ2.out ?_
  clear hK HJ
  have HJ := HJ2
  clear HJ2
  refine wpJ_done (by kernel_rfl) ?_ _
  clear HJ
  go_wp2_with fail
  refine bodyPost_ret (v := .agg #[.bool s6, .slice (some ⟨g6, 0, none⟩) m6 m6]) (by rw [results_cell1 rfl]; go_simp) rfl ⟨_, rfl, ⟨s6, g6, m6, rfl, Nat.le_trans HRB.out.2 HN6.out, ?_, ?_⟩, ?_⟩
  · clear hgd0 hgd1 hgd2 hgd3 hgd4 hgd5
    have := HN6.out; have := HRB.out.1
    exact (Z6.out.set _ _ _ (by omega)).set _ _ _ (by omega)
  · clear hgd0 hgd1 hgd2 hgd3 hgd4 hgd5
    have := HL6.out; have := HL5.out; have := HL4.out; have := HM.out; omega
  · exact bSet (bSet hbw _ _ _ HGr.out) _ _ _ HGr.out
set_option maxRecDepth 20000 in
set_option maxHeartbeats 4000000 in
theorem rfitst {p : Option Addr} {n c : Nat} {xs : List Nat} {w : World} (h : At32 w p n c xs) (hn : n ≤ 35184372088832) :
    Calls Tryz.prog 161 #[.slice p n c] w fun e w' => e = .returned (if valB B32 xs < B64 then .tuple #[U (valB B32 xs), .bool true] else .tuple #[.int .u64 0, .bool false]) ∧ Below w.heap.size w w' := by
  have H : Hid (At32 w p n c xs) := h
  clear h
  obtain ⟨rv, hrv⟩ : ∃ rv : Value, rv = (if valB B32 xs < B64 then .tuple #[U (valB B32 xs), .bool true] else .tuple #[.int .u64 0, .bool false]) := ⟨_, rfl⟩
  rw [← hrv]
  have HRV : Hid (rv = (if valB B32 xs < B64 then .tuple #[U (valB B32 xs), .bool true] else .tuple #[.int .u64 0, .bool false])) := hrv
  clear hrv
  go_enter Tryz.func161, Tryz.ntmps161
  go_wp2_with fail
  refine (rto_any H.out hn).mono ?_
  rintro e w1 ⟨g1, k1, N1, us, rfl, hg1, hA1, hn1, hb1⟩
  have hl := hA1.len
  match k1, us, hl with
  | 0, [], _ =>
    have HV : Hid (valB B32 xs = 0) := by show _ = _; rw [← hn1.val]; rfl
    clear hA1 hn1 hg1
    go_wp2_with fail
    go_ret2
    refine ⟨?_, hb1⟩
    rw [HRV.out, HV.out, if_pos (by rw [B64_eq]; decide)]
    rfl
  | 1, [u], _ =>
    have HV : Hid (valB B32 xs = u ∧ u < B64) := ⟨by rw [← hn1.val]; simp [valB], hA1.dig u (by simp)⟩
    have hc := hA1.cellAt 0 (by omega)
    have hc2 : w1.cell? ⟨g1, 0, none⟩ = some (U u) := hc
    have hlt := World.block_lt_of_cell? w1 _ hc2
    clear hA1 hn1 hg1 hc
    go_wp2_with fail
    go_ret2
    refine ⟨?_, hb1⟩
    rw [HRV.out, HV.out.1, if_pos HV.out.2]
    rfl
  | k + 2, us, hl =>
    have HV : Hid (¬ valB B32 xs < B64) := by
      intro hlt
      have := (hn1.len_le B64_one (k := 1)).2 (by rw [Nat.pow_one]; exact hlt)
      omega
    have h0 : (((k + 2 : Nat) : Int) == 0) = false := by simp; omega
    have h1 : (((k + 2 : Nat) : Int) == 1) = false := by simp; omega
    clear hA1 hn1 hg1
    go_wp2_with fail
    go_ret2
    refine ⟨?_, hb1⟩
    rw [HRV.out, if_neg HV.out]
    rfl
set_option maxRecDepth 20000 in
set_option maxHeartbeats 4000000 in
theorem rint04_pt {p : Option Addr} {m : Nat} {w : World} {z : Int}  (h : ZR w false p m z) (hm : m ≤ 50000) (ha : z.natAbs < 9223372036854775808) (ha2 : z = (z.natAbs : Int)) :
    Calls Tryz.prog 118 #[.agg #[.bool false, .slice p m m]] w fun e w' => e = .returned (.tuple #[.int .i64 z, .bool true]) ∧ Below w.heap.size w w' := by
  obtain ⟨xs, hA, hN⟩ := h.ex
  have HA : Hid (At32 w p m m xs) := hA
  have HM : Hid (m ≤ 50000) := hm
  obtain ⟨v, hv⟩ : ∃ v, v = valB B32 xs := ⟨_, rfl⟩
  have HV : Hid (v = valB B32 xs) := hv
  have hvz : v = z.natAbs := by rw [hv]; exact hN.val
  clear h hA hm hN hv
  have HVB : Hid (v < B64) := by show _ < _; rw [B64_eq]; omega
  have f2 : decide ((9223372036854775808 : Int) ≤ (v : Int)) = false := decide_eq_false (by omega)
  have f3 : decide (9223372036854775808 ≤ v) = false := decide_eq_false (by omega)
  have d4 : ¬ 9223372036854775808 ≤ v := by omega
  have f4 : wrap64 (v : Int) = (v : Int) := by simp only [wrap64]; omega
  have f6 : z = (v : Int) := by omega
  have F6 : Hid (z = (v : Int)) := f6
  clear ha ha2 hvz f6
  go_enter Tryz.func118, Tryz.ntmps118
  go_wp2_with fail
  obtain ⟨W0, hW0⟩ : ∃ W0, W0 = (w.alloc (.cells #[.bool false, .slice p m m] 110)) := ⟨_, rfl⟩
  have Xa : Hid (Box W0 (w.heap.size) (.bool false) (.slice p m m)) := by rw [hW0]; exact ⟨by go_simp, by go_simp, by go_simp, by go_simp⟩
  have hb0 : Below w.heap.size w W0 := by rw [hW0]; exact below1 w _
  rw [← hW0]
  clear hW0
  have hbw : Below w.heap.size w w := Below.refl _ _
  obtain ⟨ga, hga⟩ : ∃ g, g = w.heap.size := ⟨_, rfl⟩
  have HGa : Hid (w.heap.size ≤ ga) := by rw [hga]; show _ ≤ _; omega
  rw [← hga] at Xa
  try rw [← hga]
  clear hga
  replace HA : Hid _ := HA.out.below hb0
  replace hbw := Below.on hbw hb0
  clear hb0
  refine (rfitst HA.out (by have := HM.out; omega)).mono ?_
  rintro e v1 ⟨rfl, hb1⟩
  rw [← HV.out, if_pos HVB.out]
  replace Xa : Hid _ := Xa.out.below hb1
  replace HA : Hid _ := HA.out.below hb1
  replace hbw := Below.on hbw hb1
  clear hb1
  obtain ⟨ca0, ca1, fa0, fa1⟩ := Xa.out
  have hnea := Xa.out.lt
  go_wp2_with fail
  clear ca0 ca1 fa0 fa1 hnea
  go_ret2
  refine ⟨?_, hbw⟩
  rw [F6.out]
  rfl
theorem zr_len {w : World} {s : Bool} {p : Option Addr} {m : Nat} {z : Int} (h : ZR w s p m z) {L : Nat} (hL : z.natAbs < 2 ^ L) : m ≤ L := by
  obtain ⟨zs, hA, hN⟩ := h.ex
  have h1 := (hN.len_le B32_one (k := L)).2 (Nat.lt_of_lt_of_le hL (Nat.pow_le_pow_left (by decide) L))
  rw [hA.len] at h1
  exact h1
theorem Rdc.same {z e K zr er K' zo eo : Int} (h : Rdc z e K zr er) (h' : Rdc z e K' zo eo) : K = K' ∧ zr = zo ∧ er = eo := by
  have hp := uq_pos
  have h1 : K = K' := by
    have a1 := h.v; have a2 := h.lo; have a3 := h.hi
    have b1 := h'.v; have b2 := h'.lo; have b3 := h'.hi
    rw [a1] at a2 a3
    rw [b1] at b2 b3
    have c1 : (K - K') * UQ < 1 * UQ := by
      rw [Int.sub_mul, Int.one_mul]
      have d1 : 2 * K * UQ = 2 * (K * UQ) := Int.mul_assoc _ _ _
      have d2 : 2 * K' * UQ = 2 * (K' * UQ) := Int.mul_assoc _ _ _
      omega
    have c2 : (K' - K) * UQ < 1 * UQ := by
      rw [Int.sub_mul, Int.one_mul]
      have d1 : 2 * K * UQ = 2 * (K * UQ) := Int.mul_assoc _ _ _
      have d2 : 2 * K' * UQ = 2 * (K' * UQ) := Int.mul_assoc _ _ _
      omega
    have e1 := Int.lt_of_mul_lt_mul_right c1 (Int.le_of_lt hp)
    have e2 := Int.lt_of_mul_lt_mul_right c2 (Int.le_of_lt hp)
    omega
  subst h1
  obtain ⟨x, y⟩ := dv_inj h.fm h'.fm (h.v.trans h'.v.symm)
  exact ⟨rfl, x, y⟩
end Go.Proofs.YtoalblaklcekeaaGreatDoor
