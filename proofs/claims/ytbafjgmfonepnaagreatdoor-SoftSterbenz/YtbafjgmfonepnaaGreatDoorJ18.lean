import Derived.Test.YtbafjgmfonepnaaGreatDoorJ17
import Derived.Test.YtbafjgmfonepnaaGreatDoorJ8
import Derived.Test.YtbafjgmfonepnaaGreatDoorJ16
import Derived.Test.YtbafjgmfonepnaaGreatDoorJ12
namespace Go.Proofs.YtbafjgmfonepnaaGreatDoor
open Go.RowKit Go.Shelf
set_option maxRecDepth 20000
set_option maxHeartbeats 0
theorem pat_fin {f p m l : Int} {S I H sd : Nat} {Be : Int} {Q : Nat} (J : Jq f p m l S I H sd Be Q) {s : Bool} {pa : Option Addr} {na ca : Nat} {e x : Int} {w : World} (h : DN w s pa na ca e x) (hT : Tab w) :
    Calls Tryz.prog 186 #[.agg #[.bool s, .slice pa na ca, .int .i64 e], .int .i64 f] w fun en w' => en = .returned (U (rnp l sd Be S I x e)) ∧ Below w.heap.size w w' := by
  have HQJ : Hid (Jq f p m l S I H sd Be Q) := J
  have A : Hid (DN w s pa na ca e x) := h
  have TB : Hid (Tab w) := hT
  obtain ⟨r, hr⟩ : ∃ r, r = rnp l sd Be S I x e := ⟨_, rfl⟩
  have HR : Hid (rnp l sd Be S I x e = r) := hr.symm
  rw [← hr]
  clear J h hT hr
  go_enter Tryz.func186, Tryz.ntmps186
  go_wp2_with fail
  obtain ⟨W0, hW0⟩ : ∃ W0, W0 = (w.alloc (.cells #[.bool s, .slice pa na ca, .int .i64 e] 98)) := ⟨_, rfl⟩
  have Xx : Hid (B3q W0 (w.heap.size) (.bool s) (.slice pa na ca) (.int .i64 e)) := by rw [hW0]; exact ⟨by go_simp, by go_simp, by go_simp, by go_simp, by go_simp, by go_simp⟩
  have hb0 : Below w.heap.size w W0 := by rw [hW0]; exact below1 w _
  rw [← hW0]
  clear hW0
  have hbw : Below w.heap.size w w := Below.refl _ _
  obtain ⟨gx, hgx⟩ : ∃ g, g = w.heap.size := ⟨_, rfl⟩
  have HGx : Hid (w.heap.size ≤ gx) := by rw [hgx]; show _ ≤ _; omega
  rw [← hgx] at Xx
  try rw [← hgx]
  clear hgx
  replace hbw := Below.on hbw hb0
  clear hb0
  refine (rnearest HQJ.out.jn (A.out.below hbw) (TB.out.below hbw)).mono ?_
  rintro e v1 ⟨rfl, hb1⟩
  rw [HR.out]
  replace Xx : Hid _ := Xx.out.below hb1
  replace hbw := Below.on hbw hb1
  clear hb1
  go_wp2_with fail
  go_ret
  exact ⟨rfl, hbw⟩
theorem opp_fin {s : Bool} {pa : Option Addr} {na ca : Nat} {e : Int} (w : World) :
    Calls Tryz.prog 38 #[VFin s pa na ca e] w fun en w' => en = .returned (VFin (!s) pa na ca e) ∧ Below w.heap.size w w' := by
  have m1 := meth_below_fin
  have m2 := meth_signed_fin
  have m3 := nila_signed_fin
  go_enter Tryz.func38, Tryz.ntmps38
  go_wp2_with fail
  have hbw : Below w.heap.size w w := Below.refl _ _
  obtain ⟨W1, hW1⟩ : ∃ W1, W1 = w.drew := ⟨_, rfl⟩
  have hbd : Below w.heap.size w W1 := by rw [hW1]; exact bDrew1 (Below.refl _ _)
  replace hbw := Below.on hbw hbd
  clear hbd
  have HJ : Hid ((fun W' : World => True) W1) := trivial
  refine wp_region_J (fun W' => True) (by kernel_rfl) ?_
  rw [← hW1]
  clear hW1
  refine wpJ_tk 0 (v := ?v1x0) rfl ?hy1x0 HJ.out ?_
  case hy1x0 => (intro W' hJ; have j0 := hJ; go_simp; first | done | with_reducible rfl)
  refine wpJ_tk 1 (v := ?v2x1) rfl ?hy2x1 HJ.out ?_
  case hy2x1 => (intro W' hJ; have j0 := hJ; go_simp; first | done | with_reducible rfl)
  refine wpJ_tk 4 (v := ?v3x4) rfl ?hy3x4 HJ.out ?_
  case hy3x4 => (intro W' hJ; have j0 := hJ; go_simp; first | done | with_reducible rfl)
  refine wpJ_tk 5 (v := ?v4x5) rfl ?hy4x5 HJ.out ?_
  case hy4x5 => (intro W' hJ; have j0 := hJ; go_simp; first | done | with_reducible rfl)
  refine wpJ_tk 6 (v := ?v5x6) rfl ?hy5x6 HJ.out ?_
  case hy5x6 => (intro W' hJ; have j0 := hJ; go_simp; first | done | with_reducible rfl)
  refine wpJ_on 2 rfl fun KJ hK => ?_
  go_simp
  refine (below_fin _).mono ?_
  rintro e v2 ⟨rfl, hb2⟩
  replace hbw := Below.on hbw hb2
  clear hb2
  clear HJ
  have HJ : Hid ((fun W' : World => True) v2) := trivial
  refine hK _ _ HJ.out ?_
  clear hK
  refine wpJ_tk 3 (v := ?v6x3) rfl ?hy6x3 HJ.out ?_
  case hy6x3 => (intro W' hJ; have j0 := hJ; go_simp; first | done | with_reducible rfl)
  refine wpJ_on 7 rfl fun KJ hK => ?_
  go_simp
  refine (signed_fin _ _).mono ?_
  rintro e v7 ⟨rfl, hb7⟩
  replace hbw := Below.on hbw hb7
  clear hb7
  clear HJ
  have HJ : Hid ((fun W' : World => True) v7) := trivial
  refine hK _ _ HJ.out ?_
  clear hK
  refine wpJ_tk 8 (v := ?v7x8) rfl ?hy7x8 HJ.out ?_
  case hy7x8 => (intro W' hJ; have j0 := hJ; go_simp; first | done | with_reducible rfl)
  refine wpJ_done (by kernel_rfl) ?_ _
  clear HJ
  go_wp2_with fail
  go_ret
  exact ⟨rfl, hbw⟩
theorem opof_nan {f p m l : Int} {S I H sd : Nat} {Be : Int} {Q : Nat} (J : Jq f p m l S I H sd Be Q) (sgc : ∀ w, Calls Tryz.prog 74 #[WV p m l] w fun e w' => e = .returned (U S) ∧ Below w.heap.size w w') (han : ∀ b, b < 2 * S → bits BinOp.and IntKind.u64 (b : Int) (S : Int) = ((if S ≤ b then S else 0 : Nat) : Int)) (b : Nat) (hb : b < 2 * S) (hk : I < b % S) (w : World) (hT : Tab w) :
    Calls Tryz.prog 58 #[.int .i64 f, U b] w fun en w' => ∃ v o, en = .returned (.tuple #[v, .int .i64 0]) ∧ OpO w.heap.size w' v o ∧ OpB S I H l b o ∧ Below w.heap.size w w' := by
  have HSC : Hid (∀ w, Calls Tryz.prog 74 #[WV p m l] w fun e w' => e = .returned (U S) ∧ Below w.heap.size w w') := sgc
  clear sgc
  have HQJ : Hid (Jq f p m l S I H sd Be Q) := J
  have TB : Hid (Tab w) := hT
  have HB : Hid (b < 2 * S) := hb
  have h2 := J.jn.jm.pm.h2
  have hp := J.jn.jm.pm.hp
  obtain ⟨ng, hng⟩ : ∃ ng, ng = decide (S ≤ b) := ⟨_, rfl⟩
  have HNG : Hid (decide (S ≤ b) = ng) := hng.symm
  obtain ⟨ka, hka⟩ : ∃ ka, ka = (if S ≤ b then S else 0) := ⟨_, rfl⟩
  have a1 : bits BinOp.and IntKind.u64 (b : Int) (S : Int) = ((ka : Nat) : Int) := by rw [hka]; exact han b hb
  have hS0 : 0 < S := by have := J.jn.jm.pm.fm.lt; omega
  have a2 : ((ka : Int) == 0) = !ng := by
    rw [hka, hng]
    by_cases hx : S ≤ b
    · rw [if_pos hx, decide_eq_true hx]; simp; omega
    · rw [if_neg hx, decide_eq_false hx]; simp
  have a3 : ((ka : Int) != 0) = ng := by simp [bne, a2]
  have HCN : Hid (clsN H I (b % S) = 4) := by
    show clsN H I (b % S) = 4
    unfold clsN
    rw [if_neg (by omega), if_neg (by omega), if_neg (by omega), if_neg (by omega)]
  have HK : Hid (I < b % S) := hk
  clear J hT hb hk h2 hp hng hka hS0 han
  go_enter Tryz.func58, Tryz.ntmps58
  go_wp2_with fail
  have hbw : Below w.heap.size w w := Below.refl _ _
  refine (HQJ.out.jn.cl b _ HB.out).mono ?_
  rintro e v1 ⟨rfl, hb1⟩
  rw [HCN.out]
  replace hbw := Below.on hbw hb1
  clear hb1
  go_wp2_with fail
  refine (HQJ.out.jn.jm.pm.fm.of _).mono ?_
  rintro e v2 ⟨rfl, hb2⟩
  replace hbw := Below.on hbw hb2
  clear hb2
  go_wp2_with fail
  have Xg0 : Hid (B3q (v2.alloc (.cells #[.int .i64 p, .int .i64 m, .int .i64 l] 111)) v2.heap.size (.int .i64 p) (.int .i64 m) (.int .i64 l)) := B3q.new v2 _ _ _ _
  have hbn : Below v2.heap.size v2 (v2.alloc (.cells #[.int .i64 p, .int .i64 m, .int .i64 l] 111)) := below1 v2 _
  generalize v2.alloc (.cells #[.int .i64 p, .int .i64 m, .int .i64 l] 111) = Wg at *
  have HGg : Hid (w.heap.size ≤ v2.heap.size) := hbw.size
  replace hbw := Below.on hbw hbn
  clear hbn
  generalize v2.heap.size = gg at *
  have Xg := Xg0
  clear Xg0
  refine (HSC.out _).mono ?_
  rintro e v3 ⟨rfl, hb3⟩
  replace Xg : Hid _ := Xg.out.below hb3
  replace hbw := Below.on hbw hb3
  clear hb3
  obtain ⟨cg0, cg1, cg2, fg0, fg1, fg2⟩ := Xg.out
  have hneg : gg < v3.heap.size := World.block_lt_of_cell? v3 _ cg0
  go_wp2_with fail
  clear cg0 cg1 cg2 fg0 fg1 fg2 hneg
  go_ret2
  first | exact ⟨VNan, onan, rfl, .inl ⟨rfl, rfl⟩, .inl ⟨HK.out, rfl⟩, hbw⟩ | exact ⟨VNan, onan, rfl, .inl ⟨rfl, rfl⟩, .inl ⟨HK.out, rfl⟩, Below.on hbw (below1 _ _)⟩ | exact ⟨VNan, onan, rfl, .inl ⟨rfl, rfl⟩, .inl ⟨HK.out, rfl⟩, hbw⟩
theorem opof_inf {f p m l : Int} {S I H sd : Nat} {Be : Int} {Q : Nat} (J : Jq f p m l S I H sd Be Q) (sgc : ∀ w, Calls Tryz.prog 74 #[WV p m l] w fun e w' => e = .returned (U S) ∧ Below w.heap.size w w') (han : ∀ b, b < 2 * S → bits BinOp.and IntKind.u64 (b : Int) (S : Int) = ((if S ≤ b then S else 0 : Nat) : Int)) (b : Nat) (hb : b < 2 * S) (hk : b % S = I) (w : World) (hT : Tab w) :
    Calls Tryz.prog 58 #[.int .i64 f, U b] w fun en w' => ∃ v o, en = .returned (.tuple #[v, .int .i64 0]) ∧ OpO w.heap.size w' v o ∧ OpB S I H l b o ∧ Below w.heap.size w w' := by
  have HSC : Hid (∀ w, Calls Tryz.prog 74 #[WV p m l] w fun e w' => e = .returned (U S) ∧ Below w.heap.size w w') := sgc
  clear sgc
  have HQJ : Hid (Jq f p m l S I H sd Be Q) := J
  have TB : Hid (Tab w) := hT
  have HB : Hid (b < 2 * S) := hb
  have h2 := J.jn.jm.pm.h2
  have hp := J.jn.jm.pm.hp
  obtain ⟨ng, hng⟩ : ∃ ng, ng = decide (S ≤ b) := ⟨_, rfl⟩
  have HNG : Hid (decide (S ≤ b) = ng) := hng.symm
  obtain ⟨ka, hka⟩ : ∃ ka, ka = (if S ≤ b then S else 0) := ⟨_, rfl⟩
  have a1 : bits BinOp.and IntKind.u64 (b : Int) (S : Int) = ((ka : Nat) : Int) := by rw [hka]; exact han b hb
  have hS0 : 0 < S := by have := J.jn.jm.pm.fm.lt; omega
  have a2 : ((ka : Int) == 0) = !ng := by
    rw [hka, hng]
    by_cases hx : S ≤ b
    · rw [if_pos hx, decide_eq_true hx]; simp; omega
    · rw [if_neg hx, decide_eq_false hx]; simp
  have a3 : ((ka : Int) != 0) = ng := by simp [bne, a2]
  have HCN : Hid (clsN H I (b % S) = 3) := by
    show clsN H I (b % S) = 3
    unfold clsN
    rw [if_neg (by omega), if_neg (by omega), if_neg (by omega), if_pos hk]
  have HK : Hid (b % S = I) := hk
  clear J hT hb hk h2 hp hng hka hS0 han
  go_enter Tryz.func58, Tryz.ntmps58
  go_wp2_with fail
  have hbw : Below w.heap.size w w := Below.refl _ _
  refine (HQJ.out.jn.cl b _ HB.out).mono ?_
  rintro e v1 ⟨rfl, hb1⟩
  rw [HCN.out]
  replace hbw := Below.on hbw hb1
  clear hb1
  go_wp2_with fail
  refine (HQJ.out.jn.jm.pm.fm.of _).mono ?_
  rintro e v2 ⟨rfl, hb2⟩
  replace hbw := Below.on hbw hb2
  clear hb2
  go_wp2_with fail
  have Xg0 : Hid (B3q (v2.alloc (.cells #[.int .i64 p, .int .i64 m, .int .i64 l] 111)) v2.heap.size (.int .i64 p) (.int .i64 m) (.int .i64 l)) := B3q.new v2 _ _ _ _
  have hbn : Below v2.heap.size v2 (v2.alloc (.cells #[.int .i64 p, .int .i64 m, .int .i64 l] 111)) := below1 v2 _
  generalize v2.alloc (.cells #[.int .i64 p, .int .i64 m, .int .i64 l] 111) = Wg at *
  have HGg : Hid (w.heap.size ≤ v2.heap.size) := hbw.size
  replace hbw := Below.on hbw hbn
  clear hbn
  generalize v2.heap.size = gg at *
  have Xg := Xg0
  clear Xg0
  refine (HSC.out _).mono ?_
  rintro e v3 ⟨rfl, hb3⟩
  replace Xg : Hid _ := Xg.out.below hb3
  replace hbw := Below.on hbw hb3
  clear hb3
  obtain ⟨cg0, cg1, cg2, fg0, fg1, fg2⟩ := Xg.out
  have hneg : gg < v3.heap.size := World.block_lt_of_cell? v3 _ cg0
  go_wp2_with fail
  clear cg0 cg1 cg2 fg0 fg1 fg2 hneg
  go_ret2
  first | exact ⟨VInf ng, oinf ng, rfl, .inr (.inl ⟨ng, rfl, rfl⟩), .inr (.inl ⟨HK.out, by rw [HNG.out]⟩), hbw⟩ | exact ⟨VInf ng, oinf ng, rfl, .inr (.inl ⟨ng, rfl, rfl⟩), .inr (.inl ⟨HK.out, by rw [HNG.out]⟩), Below.on hbw (below1 _ _)⟩ | exact ⟨VInf ng, oinf ng, rfl, .inr (.inl ⟨ng, rfl, rfl⟩), .inr (.inl ⟨HK.out, by rw [HNG.out]⟩), hbw⟩
theorem opof_no {f p m l : Int} {S I H sd : Nat} {Be : Int} {Q : Nat} (J : Jq f p m l S I H sd Be Q) (sgc : ∀ w, Calls Tryz.prog 74 #[WV p m l] w fun e w' => e = .returned (U S) ∧ Below w.heap.size w w') (han : ∀ b, b < 2 * S → bits BinOp.and IntKind.u64 (b : Int) (S : Int) = ((if S ≤ b then S else 0 : Nat) : Int)) (b : Nat) (hb : b < 2 * S) (hk : b % S = 0) (w : World) (hT : Tab w) :
    Calls Tryz.prog 58 #[.int .i64 f, U b] w fun en w' => ∃ v o, en = .returned (.tuple #[v, .int .i64 0]) ∧ OpO w.heap.size w' v o ∧ OpB S I H l b o ∧ Below w.heap.size w w' := by
  have HSC : Hid (∀ w, Calls Tryz.prog 74 #[WV p m l] w fun e w' => e = .returned (U S) ∧ Below w.heap.size w w') := sgc
  clear sgc
  have HQJ : Hid (Jq f p m l S I H sd Be Q) := J
  have TB : Hid (Tab w) := hT
  have HB : Hid (b < 2 * S) := hb
  have h2 := J.jn.jm.pm.h2
  have hp := J.jn.jm.pm.hp
  obtain ⟨ng, hng⟩ : ∃ ng, ng = decide (S ≤ b) := ⟨_, rfl⟩
  have HNG : Hid (decide (S ≤ b) = ng) := hng.symm
  obtain ⟨ka, hka⟩ : ∃ ka, ka = (if S ≤ b then S else 0) := ⟨_, rfl⟩
  have a1 : bits BinOp.and IntKind.u64 (b : Int) (S : Int) = ((ka : Nat) : Int) := by rw [hka]; exact han b hb
  have hS0 : 0 < S := by have := J.jn.jm.pm.fm.lt; omega
  have a2 : ((ka : Int) == 0) = !ng := by
    rw [hka, hng]
    by_cases hx : S ≤ b
    · rw [if_pos hx, decide_eq_true hx]; simp; omega
    · rw [if_neg hx, decide_eq_false hx]; simp
  have a3 : ((ka : Int) != 0) = ng := by simp [bne, a2]
  have HCN : Hid (clsN H I (b % S) = 0) := by
    show clsN H I (b % S) = 0
    unfold clsN
    rw [if_pos hk]
  have HK : Hid (b % S = 0) := hk
  clear J hT hb hk h2 hp hng hka hS0 han
  go_enter Tryz.func58, Tryz.ntmps58
  go_wp2_with fail
  have hbw : Below w.heap.size w w := Below.refl _ _
  refine (HQJ.out.jn.cl b _ HB.out).mono ?_
  rintro e v1 ⟨rfl, hb1⟩
  rw [HCN.out]
  replace hbw := Below.on hbw hb1
  clear hb1
  go_wp2_with fail
  refine (HQJ.out.jn.jm.pm.fm.of _).mono ?_
  rintro e v2 ⟨rfl, hb2⟩
  replace hbw := Below.on hbw hb2
  clear hb2
  go_wp2_with fail
  have Xg0 : Hid (B3q (v2.alloc (.cells #[.int .i64 p, .int .i64 m, .int .i64 l] 111)) v2.heap.size (.int .i64 p) (.int .i64 m) (.int .i64 l)) := B3q.new v2 _ _ _ _
  have hbn : Below v2.heap.size v2 (v2.alloc (.cells #[.int .i64 p, .int .i64 m, .int .i64 l] 111)) := below1 v2 _
  generalize v2.alloc (.cells #[.int .i64 p, .int .i64 m, .int .i64 l] 111) = Wg at *
  have HGg : Hid (w.heap.size ≤ v2.heap.size) := hbw.size
  replace hbw := Below.on hbw hbn
  clear hbn
  generalize v2.heap.size = gg at *
  have Xg := Xg0
  clear Xg0
  refine (HSC.out _).mono ?_
  rintro e v3 ⟨rfl, hb3⟩
  replace Xg : Hid _ := Xg.out.below hb3
  replace hbw := Below.on hbw hb3
  clear hb3
  obtain ⟨cg0, cg1, cg2, fg0, fg1, fg2⟩ := Xg.out
  have hneg : gg < v3.heap.size := World.block_lt_of_cell? v3 _ cg0
  go_wp2_with fail
  clear cg0 cg1 cg2 fg0 fg1 fg2 hneg
  go_ret2
  first | exact ⟨VNo ng, ono ng, rfl, .inr (.inr (.inl ⟨ng, rfl, rfl⟩)), .inr (.inr (.inl ⟨HK.out, by rw [HNG.out]⟩)), hbw⟩ | exact ⟨VNo ng, ono ng, rfl, .inr (.inr (.inl ⟨ng, rfl, rfl⟩)), .inr (.inr (.inl ⟨HK.out, by rw [HNG.out]⟩)), Below.on hbw (below1 _ _)⟩ | exact ⟨VNo ng, ono ng, rfl, .inr (.inr (.inl ⟨ng, rfl, rfl⟩)), .inr (.inr (.inl ⟨HK.out, by rw [HNG.out]⟩)), hbw⟩
theorem opof_fin {f p m l : Int} {S I H sd : Nat} {Be : Int} {Q : Nat} (J : Jq f p m l S I H sd Be Q) (sgc : ∀ w, Calls Tryz.prog 74 #[WV p m l] w fun e w' => e = .returned (U S) ∧ Below w.heap.size w w') (han : ∀ b, b < 2 * S → bits BinOp.and IntKind.u64 (b : Int) (S : Int) = ((if S ≤ b then S else 0 : Nat) : Int)) (b : Nat) (hb : b < 2 * S) (hk : b % S ≠ 0 ∧ b % S < I) (w : World) (hT : Tab w) :
    Calls Tryz.prog 58 #[.int .i64 f, U b] w fun en w' => ∃ v o, en = .returned (.tuple #[v, .int .i64 0]) ∧ OpO w.heap.size w' v o ∧ OpB S I H l b o ∧ Below w.heap.size w w' := by
  have HSC : Hid (∀ w, Calls Tryz.prog 74 #[WV p m l] w fun e w' => e = .returned (U S) ∧ Below w.heap.size w w') := sgc
  clear sgc
  have HQJ : Hid (Jq f p m l S I H sd Be Q) := J
  have TB : Hid (Tab w) := hT
  have HB : Hid (b < 2 * S) := hb
  have h2 := J.jn.jm.pm.h2
  have hp := J.jn.jm.pm.hp
  obtain ⟨ng, hng⟩ : ∃ ng, ng = decide (S ≤ b) := ⟨_, rfl⟩
  have HNG : Hid (decide (S ≤ b) = ng) := hng.symm
  obtain ⟨ka, hka⟩ : ∃ ka, ka = (if S ≤ b then S else 0) := ⟨_, rfl⟩
  have a1 : bits BinOp.and IntKind.u64 (b : Int) (S : Int) = ((ka : Nat) : Int) := by rw [hka]; exact han b hb
  have hS0 : 0 < S := by have := J.jn.jm.pm.fm.lt; omega
  have a2 : ((ka : Int) == 0) = !ng := by
    rw [hka, hng]
    by_cases hx : S ≤ b
    · rw [if_pos hx, decide_eq_true hx]; simp; omega
    · rw [if_neg hx, decide_eq_false hx]; simp
  have a3 : ((ka : Int) != 0) = ng := by simp [bne, a2]
  obtain ⟨cn, hcn⟩ : ∃ cn, cn = clsN H I (b % S) := ⟨_, rfl⟩
  have HCN : Hid (clsN H I (b % S) = cn) := hcn.symm
  have hc : cn = 1 ∨ cn = 2 := by
    rw [hcn]; unfold clsN; rw [if_neg hk.1]
    by_cases a : b % S < H
    · rw [if_pos a]; exact .inl rfl
    · rw [if_neg a, if_pos hk.2]; exact .inr rfl
  have k0 : (cn == 0) = false := by rcases hc with h | h <;> rw [h] <;> rfl
  have k3 : (cn == 3) = false := by rcases hc with h | h <;> rw [h] <;> rfl
  have k4 : (cn == 4) = false := by rcases hc with h | h <;> rw [h] <;> rfl
  have HK : Hid (b % S ≠ 0 ∧ b % S < I) := hk
  obtain ⟨zr, er, hvr, _⟩ := vf_ex J.jn.jm.pm hk.2
  have HVF : Hid (VF S H l b zr er) := hvr
  have HZR : Hid (zr ≠ 0) := by
    intro h0
    have h1 := hvr.v
    rw [h0, dv_zero] at h1
    have h3 := dv_eq_zero h1.symm
    rw [svS_eq] at h3
    have h4 : vs H 0 < vs H (b % S) := vs_mono hp (by omega)
    rw [vs_zero] at h4
    split at h3 <;> omega
  clear J hT hb hk h2 hp hng hka hS0 hcn hc hvr han
  go_enter Tryz.func58, Tryz.ntmps58
  go_wp2_with fail
  have hbw : Below w.heap.size w w := Below.refl _ _
  refine (HQJ.out.jn.cl b _ HB.out).mono ?_
  rintro e v1 ⟨rfl, hb1⟩
  rw [HCN.out]
  replace hbw := Below.on hbw hb1
  clear hb1
  go_wp2_with fail
  refine (HQJ.out.jn.jm.pm.fm.of _).mono ?_
  rintro e v2 ⟨rfl, hb2⟩
  replace hbw := Below.on hbw hb2
  clear hb2
  go_wp2_with fail
  have Xg0 : Hid (B3q (v2.alloc (.cells #[.int .i64 p, .int .i64 m, .int .i64 l] 111)) v2.heap.size (.int .i64 p) (.int .i64 m) (.int .i64 l)) := B3q.new v2 _ _ _ _
  have hbn : Below v2.heap.size v2 (v2.alloc (.cells #[.int .i64 p, .int .i64 m, .int .i64 l] 111)) := below1 v2 _
  generalize v2.alloc (.cells #[.int .i64 p, .int .i64 m, .int .i64 l] 111) = Wg at *
  have HGg : Hid (w.heap.size ≤ v2.heap.size) := hbw.size
  replace hbw := Below.on hbw hbn
  clear hbn
  generalize v2.heap.size = gg at *
  have Xg := Xg0
  clear Xg0
  refine (HSC.out _).mono ?_
  rintro e v3 ⟨rfl, hb3⟩
  replace Xg : Hid _ := Xg.out.below hb3
  replace hbw := Below.on hbw hb3
  clear hb3
  obtain ⟨cg0, cg1, cg2, fg0, fg1, fg2⟩ := Xg.out
  have hneg : gg < v3.heap.size := World.block_lt_of_cell? v3 _ cg0
  go_wp2_with fail
  clear cg0 cg1 cg2 fg0 fg1 fg2 hneg
  refine (value_v HQJ.out.jn.jm.pm HB.out HK.out.2 HVF.out _ (TB.out.below hbw)).mono ?_
  rintro e9 v4 ⟨v, rfl, hv, hb4⟩
  obtain ⟨s4, p4, m4, rfl, hd4⟩ := DO.of hv HVF.out.fm
  have hd5 := hd4.mono hbw.size
  clear hv hd4
  replace Xg : Hid _ := Xg.out.below hb4
  replace hbw := Below.on hbw hb4
  clear hb4
  have D4 : Hid (DO w.heap.size v4 s4 p4 m4 er zr) := hd5
  clear hd5
  obtain ⟨cg0, cg1, cg2, fg0, fg1, fg2⟩ := Xg.out
  have hneg : gg < v4.heap.size := World.block_lt_of_cell? v4 _ cg0
  go_wp2_with fail
  clear cg0 cg1 cg2 fg0 fg1 fg2 hneg
  go_ret2
  first | exact ⟨VFin s4 p4 m4 m4 er, ofin zr er, rfl, .inr (.inr (.inr ⟨s4, p4, m4, er, zr, rfl, D4.out.below (below1 _ _), HZR.out, rfl⟩)), .inr (.inr (.inr ⟨HK.out.1, HK.out.2, zr, er, HVF.out, HZR.out, rfl⟩)), Below.on hbw (below1 _ _)⟩ | exact ⟨VFin s4 p4 m4 m4 er, ofin zr er, rfl, .inr (.inr (.inr ⟨s4, p4, m4, er, zr, rfl, D4.out.below (below1 _ _), HZR.out, rfl⟩)), .inr (.inr (.inr ⟨HK.out.1, HK.out.2, zr, er, HVF.out, HZR.out, rfl⟩)), Below.on hbw (below1 _ _)⟩ | exact ⟨VFin s4 p4 m4 m4 er, ofin zr er, rfl, .inr (.inr (.inr ⟨s4, p4, m4, er, zr, rfl, D4.out, HZR.out, rfl⟩)), .inr (.inr (.inr ⟨HK.out.1, HK.out.2, zr, er, HVF.out, HZR.out, rfl⟩)), hbw⟩
structure Jo (f p m l : Int) (S I H sd : Nat) (Be : Int) (Q : Nat) : Prop where
  jq : Jq f p m l S I H sd Be Q
  sg : ∀ w, Calls Tryz.prog 74 #[WV p m l] w fun e w' => e = .returned (U S) ∧ Below w.heap.size w w'
  an : ∀ b, b < 2 * S → bits BinOp.and IntKind.u64 (b : Int) (S : Int) = ((if S ≤ b then S else 0 : Nat) : Int)
theorem jo_32 : Jo 32 32 24 (-149) 2147483648 2139095040 8388608 23 128 2143289345 := ⟨jq_32, sign_32, fun b hb => sign_and b _ 31 (by decide) (by decide) hb⟩
theorem jo_64 : Jo 64 64 53 (-1074) 9223372036854775808 9218868437227405312 4503599627370496 52 1024 9221120237041090561 := ⟨jq_64, sign_64, fun b hb => sign_and b _ 63 (by decide) (by decide) hb⟩
theorem opof {f p m l : Int} {S I H sd : Nat} {Be : Int} {Q : Nat} (J : Jo f p m l S I H sd Be Q) (b : Nat) (hb : b < 2 * S) (w : World) (hT : Tab w) :
    Calls Tryz.prog 58 #[.int .i64 f, U b] w fun en w' => ∃ v o, en = .returned (.tuple #[v, .int .i64 0]) ∧ OpO w.heap.size w' v o ∧ OpB S I H l b o ∧ Below w.heap.size w w' := by
  rcases Nat.lt_trichotomy (b % S) I with h | h | h
  · by_cases h0 : b % S = 0
    · exact opof_no J.jq J.sg J.an b hb h0 w hT
    · exact opof_fin J.jq J.sg J.an b hb ⟨h0, h⟩ w hT
  · exact opof_inf J.jq J.sg J.an b hb h w hT
  · exact opof_nan J.jq J.sg J.an b hb h w hT
theorem OpO.mono {B B' : Nat} {w : World} {v : Value} {o : Opd} (h : OpO B w v o) (hB : B' ≤ B) : OpO B' w v o := by
  rcases h with h | h | h | ⟨s, p, m, e, x, h1, h2, h3, h4⟩
  · exact .inl h
  · exact .inr (.inl h)
  · exact .inr (.inr (.inl h))
  · exact .inr (.inr (.inr ⟨s, p, m, e, x, h1, h2.mono hB, h3, h4⟩))
theorem OpO.iface {B : Nat} {w : World} {v : Value} {o : Opd} (h : OpO B w v o) : ∃ t x, v = .iface t x := by
  rcases h with ⟨h, _⟩ | ⟨s, h, _⟩ | ⟨s, h, _⟩ | ⟨s, p, m, e, x, h, _⟩ <;> exact ⟨_, _, h⟩
def Ops2 (S I H : Nat) (l : Int) (w : World) (a b : Nat) (en : Ending) (w' : World) : Prop :=
  ∃ go va vb oa ob, en = .returned (.tuple #[.slice (some ⟨go, 0, none⟩) 2 2, .int .i64 0]) ∧ w.heap.size ≤ go ∧ Box w' go va vb ∧ OpV w' va oa ∧ OpV w' vb ob ∧ OpB S I H l a oa ∧ OpB S I H l b ob ∧ Below w.heap.size w w'
theorem operands2 {f p m l : Int} {S I H sd : Nat} {Be : Int} {Q : Nat} (J : Jo f p m l S I H sd Be Q) {g a b : Nat} (ha : a < 2 * S) (hb : b < 2 * S) {w : World} (hg : w.cell? ⟨g, 0, none⟩ = some (U a) ∧ w.cell? ⟨g, 1, none⟩ = some (U b)) (hT : Tab w) :
    Calls Tryz.prog 36 #[.int .i64 f, .slice (some ⟨g, 0, none⟩) 2 2] w fun en w' => Ops2 S I H l w a b en w' := by
  have HJO : Hid (Jo f p m l S I H sd Be Q) := J
  have HAB : Hid (a < 2 * S ∧ b < 2 * S) := ⟨ha, hb⟩
  have HCG : Hid (w.cell? ⟨g, 0, none⟩ = some (U a) ∧ w.cell? ⟨g, 1, none⟩ = some (U b) ∧ g < w.heap.size) := ⟨hg.1, hg.2, World.block_lt_of_cell? w _ hg.1⟩
  have TB : Hid (Tab w) := hT
  clear J ha hb hg hT
  go_enter Tryz.func36, Tryz.ntmps36
  go_wp2_with fail
  have mk : ∀ w : World, Sem.run Tryz.prog (Instr.makeSlice 58 (.int .i64 2) (.int .i64 2)) w = .ok (.slice (some ⟨w.heap.size, 0, none⟩) 2 2) (w.alloc (.cells #[.nilIface, .nilIface] 62)) := fun w => by kernel_rfl
  rw [mk]
  clear mk
  obtain ⟨W0, hW0⟩ : ∃ W0, W0 = w.alloc (.cells #[.nilIface, .nilIface] 62) := ⟨_, rfl⟩
  obtain ⟨go, hgo⟩ : ∃ go, go = w.heap.size := ⟨_, rfl⟩
  have HX : Hid (Box W0 go .nilIface .nilIface) := by rw [hW0, hgo]; exact ⟨by go_simp, by go_simp, by go_simp, by go_simp⟩
  have HB0 : Hid (Below w.heap.size w W0) := by rw [hW0]; exact below1 w _
  have HGO : Hid (w.heap.size ≤ go) := by rw [hgo]; exact Nat.le_refl _
  rw [← hW0, ← hgo]
  clear hW0 hgo
  go_wp2_with fail
  go_loopg [16] 2 (fun gk iv wr => ∃ k : Nat, k + gk = 2 ∧ iv = .int .i64 k ∧ ∃ v0 v1, Box wr go v0 v1 ∧ (0 < k → ∃ o, OpO (go + 1) wr v0 o ∧ OpB S I H l a o) ∧ (1 < k → ∃ o, OpO (go + 1) wr v1 o ∧ OpB S I H l b o) ∧ Below w.heap.size w wr)
  case atStart => exact ⟨0, by omega, rfl, _, _, HX.out, fun h => by omega, fun h => by omega, HB0.out⟩
  case round =>
    obtain ⟨k, hkg, rfl, v0, v1, hx, h0, h1, hbw⟩ := hrel
    cases gk with
    | zero =>
      obtain rfl : k = 2 := by omega
      obtain ⟨oa, q1, q2⟩ := h0 (by omega)
      obtain ⟨ob, q3, q4⟩ := h1 (by omega)
      have HQ : Hid (OpO (go + 1) wr v0 oa ∧ OpB S I H l a oa ∧ OpO (go + 1) wr v1 ob ∧ OpB S I H l b ob ∧ Box wr go v0 v1) := ⟨q1, q2, q3, q4, hx⟩
      clear h0 h1 q1 q2 q3 q4 hx
      go_wp2_with fail
      go_ret2
      exact ⟨go, v0, v1, oa, ob, rfl, HGO.out, HQ.out.2.2.2.2, HQ.out.1.v, HQ.out.2.2.1.v, HQ.out.2.1, HQ.out.2.2.2.1, hbw⟩
    | succ gg =>
      have HX1 : Hid (Box wr go v0 v1) := hx
      have HBW : Hid (Below w.heap.size w wr) := hbw
      have H0 : Hid (0 < k → ∃ o, OpO (go + 1) wr v0 o ∧ OpB S I H l a o) := h0
      rcases Nat.eq_zero_or_pos k with hk0 | hk0
      · subst hk0
        have e0 : wr.cell? ⟨g, 0, none⟩ = some (U a) := (hbw.cell (p := ⟨g, 0, none⟩) HCG.out.2.2).trans HCG.out.1
        clear h0 h1 hx hbw
        go_wp2_with fail
        refine (opof HJO.out a HAB.out.1 wr (TB.out.below HBW.out)).mono ?_
        rintro e9 v2 ⟨v, o, rfl, ho, hob, hb2⟩
        obtain ⟨vt, vx, rfl⟩ : ∃ t x, v = .iface t x := ho.iface
        have HO : Hid (OpO (go + 1) v2 (.iface vt vx) o ∧ OpB S I H l a o) := ⟨ho.mono HX1.out.lt, hob⟩
        have HX2 : Hid (Box v2 go v0 v1) := HX1.out.below hb2
        have HBV : Hid (Below w.heap.size w v2) := Below.on HBW.out hb2
        skip
        obtain ⟨c0, c1, f0, f1⟩ := HX2.out
        have hlt := HX2.out.lt
        clear ho hob hb2
        go_wp2_with fail
        go_roundg gg
        case measure => omega
        case rel =>
          refine ⟨1, by omega, by go_num, .iface vt vx, v1, ⟨by go_simp, by go_simp, by go_simp, by go_simp⟩, fun _ => ⟨o, HO.out.1.set _ _ _ (by omega), HO.out.2⟩, fun h => by omega, bSet HBV.out _ _ _ HGO.out⟩
          
      · obtain rfl : k = 1 := by omega
        have e0 : wr.cell? ⟨g, 1, none⟩ = some (U b) := (hbw.cell (p := ⟨g, 1, none⟩) HCG.out.2.2).trans HCG.out.2.1
        clear h0 h1 hx hbw
        go_wp2_with fail
        refine (opof HJO.out b HAB.out.2 wr (TB.out.below HBW.out)).mono ?_
        rintro e9 v2 ⟨v, o, rfl, ho, hob, hb2⟩
        obtain ⟨vt, vx, rfl⟩ : ∃ t x, v = .iface t x := ho.iface
        have HO : Hid (OpO (go + 1) v2 (.iface vt vx) o ∧ OpB S I H l b o) := ⟨ho.mono HX1.out.lt, hob⟩
        have HX2 : Hid (Box v2 go v0 v1) := HX1.out.below hb2
        have HBV : Hid (Below w.heap.size w v2) := Below.on HBW.out hb2
        have HP : Hid (∃ o, OpO (go + 1) v2 v0 o ∧ OpB S I H l a o) := by obtain ⟨o9, q1, q2⟩ := H0.out (by omega); exact ⟨o9, q1.below hb2, q2⟩
        obtain ⟨c0, c1, f0, f1⟩ := HX2.out
        have hlt := HX2.out.lt
        clear ho hob hb2
        go_wp2_with fail
        go_roundg gg
        case measure => omega
        case rel =>
          obtain ⟨o9, q1, q2⟩ := HP.out
          exact ⟨2, by omega, by go_num, v0, .iface vt vx, ⟨by go_simp, by go_simp, by go_simp, by go_simp⟩, fun _ => ⟨o9, q1.set _ _ _ (by omega), q2⟩, fun _ => ⟨o, HO.out.1.set _ _ _ (by omega), HO.out.2⟩, bSet HBV.out _ _ _ HGO.out⟩
theorem OpV.iface {w : World} {v : Value} {o : Opd} (h : OpV w v o) : ∃ t x, v = .iface t x := by
  rcases h with ⟨h, _⟩ | ⟨s, h, _⟩ | ⟨s, h, _⟩ | ⟨s, p, m, c, e, x, h, _⟩ <;> exact ⟨_, _, h⟩
theorem ta_nan_nan (v : Value) (w : World) : Sem.run Tryz.prog (Instr.typeAssert (.iface 90 v) 62 90 true) w = .ok (.tuple #[v, .bool true]) w := by kernel_rfl
theorem ta_nan_inf (v : Value) (w : World) : Sem.run Tryz.prog (Instr.typeAssert (.iface 90 v) 62 88 true) w = .ok (.tuple #[.agg #[.bool false], .bool false]) w := by kernel_rfl
theorem ta_nan_no (v : Value) (w : World) : Sem.run Tryz.prog (Instr.typeAssert (.iface 90 v) 62 91 true) w = .ok (.tuple #[.agg #[.bool false], .bool false]) w := by kernel_rfl
theorem ta_nan_fin (v : Value) (w : World) : Sem.run Tryz.prog (Instr.typeAssert (.iface 90 v) 62 98 true) w = .ok (.tuple #[.agg #[.bool false, .slice none 0 0, .int .i64 0], .bool false]) w := by kernel_rfl
theorem ta_inf_nan (v : Value) (w : World) : Sem.run Tryz.prog (Instr.typeAssert (.iface 88 v) 62 90 true) w = .ok (.tuple #[.agg #[], .bool false]) w := by kernel_rfl
theorem ta_inf_inf (v : Value) (w : World) : Sem.run Tryz.prog (Instr.typeAssert (.iface 88 v) 62 88 true) w = .ok (.tuple #[v, .bool true]) w := by kernel_rfl
theorem ta_inf_no (v : Value) (w : World) : Sem.run Tryz.prog (Instr.typeAssert (.iface 88 v) 62 91 true) w = .ok (.tuple #[.agg #[.bool false], .bool false]) w := by kernel_rfl
theorem ta_inf_fin (v : Value) (w : World) : Sem.run Tryz.prog (Instr.typeAssert (.iface 88 v) 62 98 true) w = .ok (.tuple #[.agg #[.bool false, .slice none 0 0, .int .i64 0], .bool false]) w := by kernel_rfl
theorem ta_no_nan (v : Value) (w : World) : Sem.run Tryz.prog (Instr.typeAssert (.iface 91 v) 62 90 true) w = .ok (.tuple #[.agg #[], .bool false]) w := by kernel_rfl
theorem ta_no_inf (v : Value) (w : World) : Sem.run Tryz.prog (Instr.typeAssert (.iface 91 v) 62 88 true) w = .ok (.tuple #[.agg #[.bool false], .bool false]) w := by kernel_rfl
theorem ta_no_no (v : Value) (w : World) : Sem.run Tryz.prog (Instr.typeAssert (.iface 91 v) 62 91 true) w = .ok (.tuple #[v, .bool true]) w := by kernel_rfl
theorem ta_no_fin (v : Value) (w : World) : Sem.run Tryz.prog (Instr.typeAssert (.iface 91 v) 62 98 true) w = .ok (.tuple #[.agg #[.bool false, .slice none 0 0, .int .i64 0], .bool false]) w := by kernel_rfl
theorem ta_fin_nan (v : Value) (w : World) : Sem.run Tryz.prog (Instr.typeAssert (.iface 98 v) 62 90 true) w = .ok (.tuple #[.agg #[], .bool false]) w := by kernel_rfl
theorem ta_fin_inf (v : Value) (w : World) : Sem.run Tryz.prog (Instr.typeAssert (.iface 98 v) 62 88 true) w = .ok (.tuple #[.agg #[.bool false], .bool false]) w := by kernel_rfl
theorem ta_fin_no (v : Value) (w : World) : Sem.run Tryz.prog (Instr.typeAssert (.iface 98 v) 62 91 true) w = .ok (.tuple #[.agg #[.bool false], .bool false]) w := by kernel_rfl
theorem ta_fin_fin (v : Value) (w : World) : Sem.run Tryz.prog (Instr.typeAssert (.iface 98 v) 62 98 true) w = .ok (.tuple #[v, .bool true]) w := by kernel_rfl
theorem sum_nan_nan  (w : World) :
    Calls Tryz.prog 37 #[VNan, VNan] w fun en w' => en = .returned VNan ∧ Below w.heap.size w w' := by
  have hanan := ta_nan_nan
  have hainf := ta_nan_inf
  have hano := ta_nan_no
  have hafin := ta_nan_fin
  go_enter Tryz.func37, Tryz.ntmps37
  go_wp2_with fail
  go_ret
  exact ⟨rfl, by first | exact Below.refl _ _ | exact below1 w _ | exact below2 w _ _ | exact below3 w _ _ _⟩
theorem sum_nan_inf (s2 : Bool) (w : World) :
    Calls Tryz.prog 37 #[VNan, VInf s2] w fun en w' => en = .returned VNan ∧ Below w.heap.size w w' := by
  have hanan := ta_nan_nan
  have hainf := ta_nan_inf
  have hano := ta_nan_no
  have hafin := ta_nan_fin
  have hbnan := ta_inf_nan
  have hbinf := ta_inf_inf
  have hbno := ta_inf_no
  have hbfin := ta_inf_fin
  go_enter Tryz.func37, Tryz.ntmps37
  go_wp2_with fail
  go_ret
  exact ⟨rfl, by first | exact Below.refl _ _ | exact below1 w _ | exact below2 w _ _ | exact below3 w _ _ _⟩
theorem sum_nan_no (s2 : Bool) (w : World) :
    Calls Tryz.prog 37 #[VNan, VNo s2] w fun en w' => en = .returned VNan ∧ Below w.heap.size w w' := by
  have hanan := ta_nan_nan
  have hainf := ta_nan_inf
  have hano := ta_nan_no
  have hafin := ta_nan_fin
  have hbnan := ta_no_nan
  have hbinf := ta_no_inf
  have hbno := ta_no_no
  have hbfin := ta_no_fin
  go_enter Tryz.func37, Tryz.ntmps37
  go_wp2_with fail
  go_ret
  exact ⟨rfl, by first | exact Below.refl _ _ | exact below1 w _ | exact below2 w _ _ | exact below3 w _ _ _⟩
theorem sum_nan_fin (s2 : Bool) (p2 : Option Addr) (m2 c2 : Nat) (e2 : Int) (w : World) :
    Calls Tryz.prog 37 #[VNan, VFin s2 p2 m2 c2 e2] w fun en w' => en = .returned VNan ∧ Below w.heap.size w w' := by
  have hanan := ta_nan_nan
  have hainf := ta_nan_inf
  have hano := ta_nan_no
  have hafin := ta_nan_fin
  have hbnan := ta_fin_nan
  have hbinf := ta_fin_inf
  have hbno := ta_fin_no
  have hbfin := ta_fin_fin
  go_enter Tryz.func37, Tryz.ntmps37
  go_wp2_with fail
  go_ret
  exact ⟨rfl, by first | exact Below.refl _ _ | exact below1 w _ | exact below2 w _ _ | exact below3 w _ _ _⟩
theorem sum_inf_nan (s1 : Bool) (w : World) :
    Calls Tryz.prog 37 #[VInf s1, VNan] w fun en w' => en = .returned VNan ∧ Below w.heap.size w w' := by
  have hanan := ta_inf_nan
  have hainf := ta_inf_inf
  have hano := ta_inf_no
  have hafin := ta_inf_fin
  have hbnan := ta_nan_nan
  have hbinf := ta_nan_inf
  have hbno := ta_nan_no
  have hbfin := ta_nan_fin
  go_enter Tryz.func37, Tryz.ntmps37
  go_wp2_with fail
  go_ret
  exact ⟨rfl, by first | exact Below.refl _ _ | exact below1 w _ | exact below2 w _ _ | exact below3 w _ _ _⟩
theorem sum_inf_inf (s1 : Bool) (s2 : Bool) (w : World) :
    Calls Tryz.prog 37 #[VInf s1, VInf s2] w fun en w' => en = .returned (if s1 = s2 then VInf s1 else VNan) ∧ Below w.heap.size w w' := by
  have hanan := ta_inf_nan
  have hainf := ta_inf_inf
  have hano := ta_inf_no
  have hafin := ta_inf_fin
  go_enter Tryz.func37, Tryz.ntmps37
  go_wp2_with fail
  all_goals first | (go_ret; refine ⟨?_, ?_⟩; (first | rfl | (cases s1 <;> cases s2 <;> first | rfl | simp_all)); first | exact Below.refl _ _ | exact below1 w _ | exact below2 w _ _ | exact below3 w _ _ _) | skip
theorem sum_inf_no (s1 : Bool) (s2 : Bool) (w : World) :
    Calls Tryz.prog 37 #[VInf s1, VNo s2] w fun en w' => en = .returned (VInf s1) ∧ Below w.heap.size w w' := by
  have hanan := ta_inf_nan
  have hainf := ta_inf_inf
  have hano := ta_inf_no
  have hafin := ta_inf_fin
  have hbnan := ta_no_nan
  have hbinf := ta_no_inf
  have hbno := ta_no_no
  have hbfin := ta_no_fin
  go_enter Tryz.func37, Tryz.ntmps37
  go_wp2_with fail
  go_ret
  exact ⟨rfl, by first | exact Below.refl _ _ | exact below1 w _ | exact below2 w _ _ | exact below3 w _ _ _⟩
theorem sum_inf_fin (s1 : Bool) (s2 : Bool) (p2 : Option Addr) (m2 c2 : Nat) (e2 : Int) (w : World) :
    Calls Tryz.prog 37 #[VInf s1, VFin s2 p2 m2 c2 e2] w fun en w' => en = .returned (VInf s1) ∧ Below w.heap.size w w' := by
  have hanan := ta_inf_nan
  have hainf := ta_inf_inf
  have hano := ta_inf_no
  have hafin := ta_inf_fin
  have hbnan := ta_fin_nan
  have hbinf := ta_fin_inf
  have hbno := ta_fin_no
  have hbfin := ta_fin_fin
  go_enter Tryz.func37, Tryz.ntmps37
  go_wp2_with fail
  go_ret
  exact ⟨rfl, by first | exact Below.refl _ _ | exact below1 w _ | exact below2 w _ _ | exact below3 w _ _ _⟩
theorem sum_no_nan (s1 : Bool) (w : World) :
    Calls Tryz.prog 37 #[VNo s1, VNan] w fun en w' => en = .returned VNan ∧ Below w.heap.size w w' := by
  have hanan := ta_no_nan
  have hainf := ta_no_inf
  have hano := ta_no_no
  have hafin := ta_no_fin
  have hbnan := ta_nan_nan
  have hbinf := ta_nan_inf
  have hbno := ta_nan_no
  have hbfin := ta_nan_fin
  go_enter Tryz.func37, Tryz.ntmps37
  go_wp2_with fail
  go_ret
  exact ⟨rfl, by first | exact Below.refl _ _ | exact below1 w _ | exact below2 w _ _ | exact below3 w _ _ _⟩
theorem sum_no_inf (s1 : Bool) (s2 : Bool) (w : World) :
    Calls Tryz.prog 37 #[VNo s1, VInf s2] w fun en w' => en = .returned (VInf s2) ∧ Below w.heap.size w w' := by
  have hanan := ta_no_nan
  have hainf := ta_no_inf
  have hano := ta_no_no
  have hafin := ta_no_fin
  have hbnan := ta_inf_nan
  have hbinf := ta_inf_inf
  have hbno := ta_inf_no
  have hbfin := ta_inf_fin
  go_enter Tryz.func37, Tryz.ntmps37
  go_wp2_with fail
  go_ret
  exact ⟨rfl, by first | exact Below.refl _ _ | exact below1 w _ | exact below2 w _ _ | exact below3 w _ _ _⟩
theorem sum_no_no_t (s2 : Bool) (w : World) :
    Calls Tryz.prog 37 #[VNo true, VNo s2] w fun en w' => en = .returned (VNo s2) ∧ Below w.heap.size w w' := by
  have hanan := ta_no_nan
  have hainf := ta_no_inf
  have hano := ta_no_no
  have hafin := ta_no_fin
  go_enter Tryz.func37, Tryz.ntmps37
  go_wp2_with fail
  go_ret
  exact ⟨rfl, by first | exact Below.refl _ _ | exact below1 w _ | exact below2 w _ _ | exact below3 w _ _ _⟩
theorem sum_no_no_f (s2 : Bool) (w : World) :
    Calls Tryz.prog 37 #[VNo false, VNo s2] w fun en w' => en = .returned (VNo false) ∧ Below w.heap.size w w' := by
  have hanan := ta_no_nan
  have hainf := ta_no_inf
  have hano := ta_no_no
  have hafin := ta_no_fin
  go_enter Tryz.func37, Tryz.ntmps37
  go_wp2_with fail
  go_ret
  exact ⟨rfl, by first | exact Below.refl _ _ | exact below1 w _ | exact below2 w _ _ | exact below3 w _ _ _⟩
theorem sum_no_no (s1 s2 : Bool) (w : World) :
    Calls Tryz.prog 37 #[VNo s1, VNo s2] w fun en w' => en = .returned (VNo (s1 && s2)) ∧ Below w.heap.size w w' := by
  cases s1
  · exact sum_no_no_f s2 w
  · exact sum_no_no_t s2 w
theorem sum_no_fin (s1 : Bool) (s2 : Bool) (p2 : Option Addr) (m2 c2 : Nat) (e2 : Int) (w : World) :
    Calls Tryz.prog 37 #[VNo s1, VFin s2 p2 m2 c2 e2] w fun en w' => en = .returned (VFin s2 p2 m2 c2 e2) ∧ Below w.heap.size w w' := by
  have hanan := ta_no_nan
  have hainf := ta_no_inf
  have hano := ta_no_no
  have hafin := ta_no_fin
  have hbnan := ta_fin_nan
  have hbinf := ta_fin_inf
  have hbno := ta_fin_no
  have hbfin := ta_fin_fin
  go_enter Tryz.func37, Tryz.ntmps37
  go_wp2_with fail
  go_ret
  exact ⟨rfl, by first | exact Below.refl _ _ | exact below1 w _ | exact below2 w _ _ | exact below3 w _ _ _⟩
theorem sum_fin_nan (s1 : Bool) (p1 : Option Addr) (m1 c1 : Nat) (e1 : Int) (w : World) :
    Calls Tryz.prog 37 #[VFin s1 p1 m1 c1 e1, VNan] w fun en w' => en = .returned VNan ∧ Below w.heap.size w w' := by
  have hanan := ta_fin_nan
  have hainf := ta_fin_inf
  have hano := ta_fin_no
  have hafin := ta_fin_fin
  have hbnan := ta_nan_nan
  have hbinf := ta_nan_inf
  have hbno := ta_nan_no
  have hbfin := ta_nan_fin
  go_enter Tryz.func37, Tryz.ntmps37
  go_wp2_with fail
  go_ret
  exact ⟨rfl, by first | exact Below.refl _ _ | exact below1 w _ | exact below2 w _ _ | exact below3 w _ _ _⟩
theorem sum_fin_inf (s1 : Bool) (s2 : Bool) (p1 : Option Addr) (m1 c1 : Nat) (e1 : Int) (w : World) :
    Calls Tryz.prog 37 #[VFin s1 p1 m1 c1 e1, VInf s2] w fun en w' => en = .returned (VInf s2) ∧ Below w.heap.size w w' := by
  have hanan := ta_fin_nan
  have hainf := ta_fin_inf
  have hano := ta_fin_no
  have hafin := ta_fin_fin
  have hbnan := ta_inf_nan
  have hbinf := ta_inf_inf
  have hbno := ta_inf_no
  have hbfin := ta_inf_fin
  go_enter Tryz.func37, Tryz.ntmps37
  go_wp2_with fail
  go_ret
  exact ⟨rfl, by first | exact Below.refl _ _ | exact below1 w _ | exact below2 w _ _ | exact below3 w _ _ _⟩
theorem sum_fin_no (s1 : Bool) (s2 : Bool) (p1 : Option Addr) (m1 c1 : Nat) (e1 : Int) (w : World) :
    Calls Tryz.prog 37 #[VFin s1 p1 m1 c1 e1, VNo s2] w fun en w' => en = .returned (VFin s1 p1 m1 c1 e1) ∧ Below w.heap.size w w' := by
  have hanan := ta_fin_nan
  have hainf := ta_fin_inf
  have hano := ta_fin_no
  have hafin := ta_fin_fin
  have hbnan := ta_no_nan
  have hbinf := ta_no_inf
  have hbno := ta_no_no
  have hbfin := ta_no_fin
  go_enter Tryz.func37, Tryz.ntmps37
  go_wp2_with fail
  go_ret
  exact ⟨rfl, by first | exact Below.refl _ _ | exact below1 w _ | exact below2 w _ _ | exact below3 w _ _ _⟩
theorem finsum {s t : Bool} {p q : Option Addr} {m c n d : Nat} {e f x y : Int} {w : World} (h : DN w s p m c e x) (k : DN w t q n d f y) {K E : Nat} (bx : DB x e K E) (by_ : DB y f K E) (hK : K + 2 * E + 1 ≤ 524288) (hx : x ≠ 0) (hy : y ≠ 0) (hT : Tab w) :
    Calls Tryz.prog 59 #[.agg #[.bool s, .slice p m c, .int .i64 e], .agg #[.bool t, .slice q n d, .int .i64 f]] w fun en w' => ∃ v o, en = .returned v ∧ OpV w' v o ∧ SumO (ofin x e) (ofin y f) o ∧ (o = ono false ∨ ∃ z g, o = ofin z g ∧ DB z g (K + 2 * E + 1) (K + 3 * E + 1)) ∧ Below w.heap.size w w' := by
  have A : Hid (DN w s p m c e x) := h
  have B : Hid (DN w t q n d f y) := k
  have BX : Hid (DB x e K E) := bx
  have BY : Hid (DB y f K E) := by_
  have HK : Hid (K + 2 * E + 1 ≤ 524288) := hK
  have HXY : Hid (x ≠ 0 ∧ y ≠ 0) := ⟨hx, hy⟩
  have TB : Hid (Tab w) := hT
  clear h k bx by_ hK hx hy hT
  go_enter Tryz.func59, Tryz.ntmps59
  go_wp2_with fail
  obtain ⟨W0, hW0⟩ : ∃ W0, W0 = ((w.alloc (.cells #[.bool s, .slice p m c, .int .i64 e] 98)).alloc (.cells #[.bool t, .slice q n d, .int .i64 f] 98)) := ⟨_, rfl⟩
  have Xx : Hid (B3q W0 (w.heap.size) (.bool s) (.slice p m c) (.int .i64 e)) := by rw [hW0]; exact ⟨by go_simp, by go_simp, by go_simp, by go_simp, by go_simp, by go_simp⟩
  have Xy : Hid (B3q W0 (w.heap.size + 1) (.bool t) (.slice q n d) (.int .i64 f)) := by rw [hW0]; exact ⟨by go_simp, by go_simp, by go_simp, by go_simp, by go_simp, by go_simp⟩
  have hb0 : Below w.heap.size w W0 := by rw [hW0]; exact below2 w _ _
  rw [← hW0]
  clear hW0
  have hbw : Below w.heap.size w w := Below.refl _ _
  obtain ⟨gy, hgy⟩ : ∃ g, g = w.heap.size + 1 := ⟨_, rfl⟩
  have HGy : Hid (w.heap.size ≤ gy) := by rw [hgy]; show _ ≤ _; omega
  rw [← hgy] at Xy
  try rw [← hgy]
  obtain ⟨gx, hgx⟩ : ∃ g, g = w.heap.size := ⟨_, rfl⟩
  have HGx : Hid (w.heap.size ≤ gx) := by rw [hgx]; show _ ≤ _; omega
  rw [← hgx] at Xx
  try rw [← hgx]
  have HGD : Hid (gx ≠ gy ∧ gy ≠ gx) := by rw [hgx, hgy]; exact ⟨by omega, by omega⟩
  clear hgx hgy
  replace hbw := Below.on hbw hb0
  clear hb0
  refine (dadd_b (A.out.below hbw) (B.out.below hbw) BX.out BY.out HK.out (TB.out.below hbw)).mono ?_
  rintro e9 v1 ⟨v, zo, eo, rfl, hv, hdb, hdv, hb1⟩
  obtain ⟨s1, p1, m1, rfl, hd1⟩ := hv.dn hdb.fm
  clear hv
  replace Xx : Hid _ := Xx.out.below hb1
  replace Xy : Hid _ := Xy.out.below hb1
  replace hbw := Below.on hbw hb1
  clear hb1
  have D1 : Hid (DN v1 s1 p1 m1 m1 eo zo) := hd1
  have HB1 : Hid (DB zo eo (K + 2 * E + 1) (K + 3 * E + 1) ∧ dv zo eo = dv x e + dv y f) := ⟨hdb, hdv⟩
  clear hd1 hdb hdv
  obtain ⟨cx0, cx1, cx2, fx0, fx1, fx2⟩ := Xx.out
  have hnex : gx < v1.heap.size := World.block_lt_of_cell? v1 _ cx0
  obtain ⟨cy0, cy1, cy2, fy0, fy1, fy2⟩ := Xy.out
  have hney : gy < v1.heap.size := World.block_lt_of_cell? v1 _ cy0
  go_wp2_with fail
  clear cx0 cx1 cx2 fx0 fx1 fx2 hnex
  clear cy0 cy1 cy2 fy0 fy1 fy2 hney
  have Xd0 : Hid (B3q (v1.alloc (.cells #[.bool s1, .slice p1 m1 m1, .int .i64 eo] 96)) v1.heap.size (.bool s1) (.slice p1 m1 m1) (.int .i64 eo)) := B3q.new v1 _ _ _ _
  have hbn : Below v1.heap.size v1 (v1.alloc (.cells #[.bool s1, .slice p1 m1 m1, .int .i64 eo] 96)) := below1 v1 _
  generalize v1.alloc (.cells #[.bool s1, .slice p1 m1 m1, .int .i64 eo] 96) = Wd at *
  have HGd : Hid (w.heap.size ≤ v1.heap.size) := hbw.size
  replace Xx : Hid _ := Xx.out.below hbn
  replace Xy : Hid _ := Xy.out.below hbn
  replace D1 : Hid _ := D1.out.below hbn
  replace hbw := Below.on hbw hbn
  clear hbn
  generalize v1.heap.size = gd at *
  have Xd := Xd0
  clear Xd0
  by_cases h0 : zo = 0
  · have HZ : Hid (zo = 0) := h0
    clear h0
    refine (zsign D1.out.zn).mono ?_
    rintro e v2 ⟨rfl, hb2⟩
    rw [show sgnI zo = 0 from by rw [HZ.out]; rfl]
    replace Xx : Hid _ := Xx.out.below hb2
    replace Xy : Hid _ := Xy.out.below hb2
    replace Xd : Hid _ := Xd.out.below hb2
    replace D1 : Hid _ := D1.out.below hb2
    replace hbw := Below.on hbw hb2
    clear hb2
    obtain ⟨cd0, cd1, cd2, fd0, fd1, fd2⟩ := Xd.out
    have hned : gd < v2.heap.size := World.block_lt_of_cell? v2 _ cd0
    go_wp2_with fail
    clear cd0 cd1 cd2 fd0 fd1 fd2 hned
    go_ret
    refine ⟨VNo false, ono false, rfl, .inr (.inr (.inl ⟨false, rfl, rfl⟩)), ?_, .inl rfl, by first | exact hbw | exact Below.on hbw (below1 _ _)⟩
    refine .inr (.inr (.inr (.inr (.inr (.inr ⟨⟨rfl, rfl⟩, .inl ⟨?_, rfl⟩⟩)))))
    show dv x e + dv y f = 0
    rw [← HB1.out.2, HZ.out, dv_zero]
  · have HZ : Hid (zo ≠ 0) := h0
    have hsg : (sgnI zo == 0) = false := by
      have : sgnI zo ≠ 0 := by rcases sgn3 zo with ⟨_, h2⟩ | ⟨h1, _⟩ | ⟨_, h2⟩ <;> omega
      simp [this]
    obtain ⟨sz, hsz⟩ : ∃ sz, sz = sgnI zo := ⟨_, rfl⟩
    rw [← hsz] at hsg
    have HSZ : Hid (sgnI zo = sz) := hsz.symm
    clear h0 hsz
    refine (zsign D1.out.zn).mono ?_
    rintro e v2 ⟨rfl, hb2⟩
    rw [HSZ.out]
    replace Xx : Hid _ := Xx.out.below hb2
    replace Xy : Hid _ := Xy.out.below hb2
    replace Xd : Hid _ := Xd.out.below hb2
    replace D1 : Hid _ := D1.out.below hb2
    replace hbw := Below.on hbw hb2
    clear hb2
    obtain ⟨cd0, cd1, cd2, fd0, fd1, fd2⟩ := Xd.out
    have hned : gd < v2.heap.size := World.block_lt_of_cell? v2 _ cd0
    go_wp2_with fail
    clear cd0 cd1 cd2 fd0 fd1 fd2 hned
    go_ret
    refine ⟨VFin s1 p1 m1 m1 eo, ofin zo eo, rfl, .inr (.inr (.inr ⟨s1, p1, m1, m1, eo, zo, rfl, by first | exact D1.out | exact D1.out.below (below1 _ _), HZ.out, rfl⟩)), ?_, .inr ⟨zo, eo, rfl, HB1.out.1⟩, by first | exact hbw | exact Below.on hbw (below1 _ _)⟩
    exact .inr (.inr (.inr (.inr (.inr (.inr ⟨⟨rfl, rfl⟩, .inr ⟨zo, eo, HB1.out.1.fm, HZ.out, HB1.out.2, rfl⟩⟩)))))
theorem sum_fin_fin {s t : Bool} {p q : Option Addr} {m c n d : Nat} {e f x y : Int} {w : World} (h : DN w s p m c e x) (k : DN w t q n d f y) {K E : Nat} (bx : DB x e K E) (by_ : DB y f K E) (hK : K + 2 * E + 1 ≤ 524288) (hx : x ≠ 0) (hy : y ≠ 0) (hT : Tab w) :
    Calls Tryz.prog 37 #[VFin s p m c e, VFin t q n d f] w fun en w' => ∃ v o, en = .returned v ∧ OpV w' v o ∧ SumO (ofin x e) (ofin y f) o ∧ (o = ono false ∨ ∃ z g, o = ofin z g ∧ DB z g (K + 2 * E + 1) (K + 3 * E + 1)) ∧ Below w.heap.size w w' := by
  have hanan := ta_fin_nan
  have hainf := ta_fin_inf
  have hano := ta_fin_no
  have hafin := ta_fin_fin
  have A : Hid (DN w s p m c e x) := h
  have B : Hid (DN w t q n d f y) := k
  have BX : Hid (DB x e K E) := bx
  have BY : Hid (DB y f K E) := by_
  have HK : Hid (K + 2 * E + 1 ≤ 524288) := hK
  have HXY : Hid (x ≠ 0 ∧ y ≠ 0) := ⟨hx, hy⟩
  have TB : Hid (Tab w) := hT
  clear h k bx by_ hK hx hy hT
  go_enter Tryz.func37, Tryz.ntmps37
  go_wp2_with fail
  have hb2 := below2 w (.cells #[.bool s, .slice p m c, .int .i64 e] 98) (.cells #[.bool t, .slice q n d, .int .i64 f] 98)
  refine (finsum (A.out.below hb2) (B.out.below hb2) BX.out BY.out HK.out HXY.out.1 HXY.out.2 (TB.out.below hb2)).mono ?_
  rintro e9 v3 ⟨v, o, rfl, ho, hs, hdb, hb3⟩
  obtain ⟨vt, vx, rfl⟩ := ho.iface
  have HF : Hid (OpV v3 (.iface vt vx) o ∧ SumO (ofin x e) (ofin y f) o ∧ (o = ono false ∨ ∃ z g, o = ofin z g ∧ DB z g (K + 2 * E + 1) (K + 3 * E + 1))) := ⟨ho, hs, hdb⟩
  have hbw := Below.on hb2 hb3
  clear ho hs hdb hb2 hb3
  go_wp2_with fail
  go_ret
  exact ⟨_, o, rfl, HF.out.1, HF.out.2.1, HF.out.2.2, hbw⟩
end Go.Proofs.YtbafjgmfonepnaaGreatDoor
