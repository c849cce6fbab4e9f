import Derived.Test.YtmlclpjimkjjeaaGreatDoorJ20
import Derived.Test.YtmlclpjimkjjeaaGreatDoorJ18
import Derived.Test.YtmlclpjimkjjeaaGreatDoorJ12
namespace Go.Proofs.YtmlclpjimkjjeaaGreatDoor
open Go.RowKit Go.Shelf
set_option maxRecDepth 20000
set_option maxHeartbeats 0
theorem answer5_15 {pa pb pm : Option Addr} {na ca nb cb nm cm : Nat} {xa xb xm : List Nat} {w : World} {ea eb nn : Int} (sa sb sm : Bool) (ha : At w pa na ca xa) (hb : At w pb nb cb xb) (hm : At w pm nm cm xm) (hn : na ≤ 17592186044416 ∧ nb ≤ 17592186044416 ∧ nm ≤ 17592186044416 ∧ -9223372036854775808 ≤ nn ∧ nn ≤ 9223372036854775807) (hT : Tab w) :
  Calls Tryz.prog 35 #[(.agg #[.int .i64 15, .bool sa, .slice pa na ca, .int .i64 ea, .bool sb, .slice pb nb cb, .int .i64 eb, .bool sm, .slice pm nm cm, .int .i64 nn])] w fun en w' => ∃ zo eo er, SaidD w.heap.size w' en zo eo er ∧ QuoA false sa xa ea sb xb eb nn zo eo er ∧ Below w.heap.size w w' := by
 have HA := hdQ ha;have HB := hdQ hb;have HM := hdQ hm;have HN : Hid (na ≤ 17592186044416 ∧ nb ≤ 17592186044416 ∧ nm ≤ 17592186044416 ∧ -9223372036854775808 ≤ nn ∧ nn ≤ 9223372036854775807) := hn;have TB : Hid (Tab w) := hT;clear ha hb hm hn hT
 go_enter Tryz.func35, Tryz.ntmps35
 go_wp2_with fail;obtain ⟨W0, hW0⟩ := exq ((w.alloc (.cells #[.int .i64 15, .bool sa, .slice pa na ca, .int .i64 ea, .bool sb, .slice pb nb cb, .int .i64 eb, .bool sm, .slice pm nm cm, .int .i64 nn] 45)).alloc (.cells #[.bool false, .slice none 0 0, .int .i64 0] 27))
 have Xo : Hid (B10q W0 (w.heap.size) (.int .i64 15) (.bool sa) (.slice pa na ca) (.int .i64 ea) (.bool sb) (.slice pb nb cb) (.int .i64 eb) (.bool sm) (.slice pm nm cm) (.int .i64 nn)) := by rw [hW0]; constructor <;> go_simp
 have Xr : Hid (B3q W0 (w.heap.size + 1) (.bool false) (.slice none 0 0) (.int .i64 0)) := by rw [hW0]; constructor <;> go_simp
 have hb0 := bq2 hW0;rw [← hW0];clear hW0;have hbw := brf w;obtain ⟨gr, hgr⟩ := exq (w.heap.size + 1);have HGr : Hid (w.heap.size ≤ gr) := hgl hgr;rw [← hgr] at Xr
 try rw [← hgr]
 obtain ⟨go, hgo⟩ := exq w.heap.size;have HGo : Hid (w.heap.size ≤ go) := hgl hgo;rw [← hgo] at Xo
 try rw [← hgo]
 have HGD : Hid (go ≠ gr ∧ gr ≠ go) := by rw [hgo, hgr]; show _ ∧ _; omega
 clear hgo hgr;replace HA := At.b HA hb0;replace HB := At.b HB hb0;replace HM := At.b HM hb0;replace hbw := bon hbw hb0;clear hb0;obtain ⟨co0, co1, co2, co3, co4, co5, co6, co7, co8, co9, fo0, fo1, fo2, fo3, fo4, fo5, fo6, fo7, fo8, fo9⟩ := Xo.out;have hneo : go < W0.heap.size := blt co0;go_wp2_with fail;clear co0 co1 co2 co3 co4 co5 co6 co7 co8 co9 fo0 fo1 fo2 fo3 fo4 fo5 fo6 fo7 fo8 fo9 hneo;have HRL : Hid (gr < W0.heap.size ∧ w.heap.size ≤ W0.heap.size) := ⟨Xr.out.lt, hbw.size⟩
 refine (dquodA sa sb HA.out HB.out (TB.out.below hbw)).mono ?_
 rintro e2 v6 ⟨zo, eo, er, ⟨s6, p6, m6, c6, rfl, hq6⟩, hr6, hb6⟩;replace Xo := B10q.b Xo hb6;replace Xr := B3q.b Xr hb6;replace HA := At.b HA hb6;replace HB := At.b HB hb6;replace HM := At.b HM hb6;replace hbw := bon hbw hb6;clear hb6;have Q6 := hdQ hq6;have R6 := hdQ hr6;clear hq6 hr6;obtain ⟨cr0, cr1, cr2, fr0, fr1, fr2⟩ := Xr.out;have hner : gr < v6.heap.size := blt cr0;go_wp2_with fail
 refine bodyPost_ret (v := .tuple #[DV s6 p6 m6 c6 eo, .int .i64 er]) (by rw [results_cell_tmp rfl]; go_simp) rfl ⟨zo, eo, er, ⟨s6, p6, m6, c6, rfl, Q6.out.set3 HRL.out.1 HRL.out.2 _ _ _⟩, R6.out, ?_⟩
 exact bSet (bSet (bSet hbw _ _ _ HGr.out) _ _ _ HGr.out) _ _ _ HGr.out
theorem doc5_15 {pa pb pm : Option Addr} {na ca nb cb nm cm : Nat} {xa xb xm : List Nat} {w : World} {ea eb nn : Int} (sa sb sm : Bool) (ha : At w pa na ca xa) (hb : At w pb nb cb xb) (hm : At w pm nm cm xm) (hn : na ≤ 17592186044416 ∧ nb ≤ 17592186044416 ∧ nm ≤ 17592186044416 ∧ -9223372036854775808 ≤ nn ∧ nn ≤ 9223372036854775807) (hT : Tab w) :
  Calls Tryz.prog 36 #[(.agg #[.int .i64 15, .bool sa, .slice pa na ca, .int .i64 ea, .bool sb, .slice pb nb cb, .int .i64 eb, .bool sm, .slice pm nm cm, .int .i64 nn])] w fun en w' => ∃ zo eo er, SaidD w.heap.size w' en zo eo er ∧ QuoA false sa xa ea sb xb eb nn zo eo er ∧ Below w.heap.size w w' := by
 have HA := hdQ ha;have HB := hdQ hb;have HM := hdQ hm;have HN : Hid (na ≤ 17592186044416 ∧ nb ≤ 17592186044416 ∧ nm ≤ 17592186044416 ∧ -9223372036854775808 ≤ nn ∧ nn ≤ 9223372036854775807) := hn;have TB : Hid (Tab w) := hT;clear ha hb hm hn hT
 go_enter Tryz.func36, Tryz.ntmps36
 go_wp2_with fail;obtain ⟨W0, hW0⟩ := exq ((w.alloc (.cells #[.int .i64 15, .bool sa, .slice pa na ca, .int .i64 ea, .bool sb, .slice pb nb cb, .int .i64 eb, .bool sm, .slice pm nm cm, .int .i64 nn] 45)).alloc (.cells #[.bool false, .slice none 0 0, .int .i64 0] 27))
 have Xo : Hid (B10q W0 (w.heap.size) (.int .i64 15) (.bool sa) (.slice pa na ca) (.int .i64 ea) (.bool sb) (.slice pb nb cb) (.int .i64 eb) (.bool sm) (.slice pm nm cm) (.int .i64 nn)) := by rw [hW0]; constructor <;> go_simp
 have Xr : Hid (B3q W0 (w.heap.size + 1) (.bool false) (.slice none 0 0) (.int .i64 0)) := by rw [hW0]; constructor <;> go_simp
 have hb0 := bq2 hW0;rw [← hW0];clear hW0;have hbw := brf w;obtain ⟨gr, hgr⟩ := exq (w.heap.size + 1);have HGr : Hid (w.heap.size ≤ gr) := hgl hgr;rw [← hgr] at Xr
 try rw [← hgr]
 obtain ⟨go, hgo⟩ := exq w.heap.size;have HGo : Hid (w.heap.size ≤ go) := hgl hgo;rw [← hgo] at Xo
 try rw [← hgo]
 have HGD : Hid (go ≠ gr ∧ gr ≠ go) := by rw [hgo, hgr]; show _ ∧ _; omega
 clear hgo hgr;replace HA := At.b HA hb0;replace HB := At.b HB hb0;replace HM := At.b HM hb0;replace hbw := bon hbw hb0;clear hb0;obtain ⟨co0, co1, co2, co3, co4, co5, co6, co7, co8, co9, fo0, fo1, fo2, fo3, fo4, fo5, fo6, fo7, fo8, fo9⟩ := Xo.out;have hneo : go < W0.heap.size := blt co0;go_wp2_with fail;clear co0 co1 co2 co3 co4 co5 co6 co7 co8 co9 fo0 fo1 fo2 fo3 fo4 fo5 fo6 fo7 fo8 fo9 hneo;have HRL : Hid (gr < W0.heap.size ∧ w.heap.size ≤ W0.heap.size) := ⟨Xr.out.lt, hbw.size⟩
 refine (docquo_d sa sb HA.out HB.out).mono ?_
 rintro e2 v6 ⟨zo, eo, er, ⟨s6, p6, m6, c6, rfl, hq6⟩, hr6, hb6⟩;replace Xo := B10q.b Xo hb6;replace Xr := B3q.b Xr hb6;replace HA := At.b HA hb6;replace HB := At.b HB hb6;replace HM := At.b HM hb6;replace hbw := bon hbw hb6;clear hb6;have Q6 := hdQ hq6;have R6 := hdQ hr6;clear hq6 hr6;obtain ⟨cr0, cr1, cr2, fr0, fr1, fr2⟩ := Xr.out;have hner : gr < v6.heap.size := blt cr0;go_wp2_with fail
 refine bodyPost_ret (v := .tuple #[DV s6 p6 m6 c6 eo, .int .i64 er]) (by rw [results_cell_tmp rfl]; go_simp) rfl ⟨zo, eo, er, ⟨s6, p6, m6, c6, rfl, Q6.out.set3 HRL.out.1 HRL.out.2 _ _ _⟩, R6.out, ?_⟩
 exact bSet (bSet (bSet hbw _ _ _ HGr.out) _ _ _ HGr.out) _ _ _ HGr.out
theorem plays5_15 {pa pb pm : Option Addr} {na ca nb cb nm cm : Nat} {xa xb xm : List Nat} {w : World} {ea eb nn : Int} (sa sb sm : Bool) (ha : At w pa na ca xa) (hb : At w pb nb cb xb) (hm : At w pm nm cm xm) (hn : na ≤ 17592186044416 ∧ nb ≤ 17592186044416 ∧ nm ≤ 17592186044416 ∧ -9223372036854775808 ≤ nn ∧ nn ≤ 9223372036854775807) (hT : Tab w) :
  Calls Tryz.prog 15 #[(.agg #[.int .i64 15, .bool sa, .slice pa na ca, .int .i64 ea, .bool sb, .slice pb nb cb, .int .i64 eb, .bool sm, .slice pm nm cm, .int .i64 nn])] w fun en w' => en = .returned (.bool true) ∧ Below w.heap.size w w' := by
 have HA := hdQ ha;have HB := hdQ hb;have HM := hdQ hm;have HN : Hid (na ≤ 17592186044416 ∧ nb ≤ 17592186044416 ∧ nm ≤ 17592186044416 ∧ -9223372036854775808 ≤ nn ∧ nn ≤ 9223372036854775807) := hn;have TB : Hid (Tab w) := hT;clear ha hb hm hn hT
 go_enter Tryz.func15, Tryz.ntmps15
 go_wp2_with fail;obtain ⟨W0, hW0⟩ := exq (w.alloc (.cells #[.int .i64 15, .bool sa, .slice pa na ca, .int .i64 ea, .bool sb, .slice pb nb cb, .int .i64 eb, .bool sm, .slice pm nm cm, .int .i64 nn] 45))
 have Xo : Hid (B10q W0 (w.heap.size) (.int .i64 15) (.bool sa) (.slice pa na ca) (.int .i64 ea) (.bool sb) (.slice pb nb cb) (.int .i64 eb) (.bool sm) (.slice pm nm cm) (.int .i64 nn)) := by rw [hW0]; constructor <;> go_simp
 have hb0 := bq1 hW0;rw [← hW0];clear hW0;have hbw := brf w;obtain ⟨go, hgo⟩ := exq w.heap.size;have HGo : Hid (w.heap.size ≤ go) := hgl hgo;rw [← hgo] at Xo
 try rw [← hgo]
 clear hgo;replace HA := At.b HA hb0;replace HB := At.b HB hb0;replace HM := At.b HM hb0;replace hbw := bon hbw hb0;clear hb0;obtain ⟨co0, co1, co2, co3, co4, co5, co6, co7, co8, co9, fo0, fo1, fo2, fo3, fo4, fo5, fo6, fo7, fo8, fo9⟩ := Xo.out;have hneo : go < W0.heap.size := blt co0;go_wp2_with fail;clear co0 co1 co2 co3 co4 co5 co6 co7 co8 co9 fo0 fo1 fo2 fo3 fo4 fo5 fo6 fo7 fo8 fo9 hneo
 refine (twinO sa sb sm HA.out HB.out HM.out ⟨HN.out.1, HN.out.2.1, HN.out.2.2.1⟩).mono ?_
 rintro e2 v1 ⟨qa, qb, qm, rfl, ha1, hb1, hm1, hbb1⟩;replace Xo := B10q.b Xo hbb1;replace HA := At.b HA hbb1;replace HB := At.b HB hbb1;replace HM := At.b HM hbb1;replace hbw := bon hbw hbb1;clear hbb1;have TA := hdQ ha1;have TC := hdQ hb1;have TM := hdQ hm1;clear ha1 hb1 hm1;obtain ⟨co0, co1, co2, co3, co4, co5, co6, co7, co8, co9, fo0, fo1, fo2, fo3, fo4, fo5, fo6, fo7, fo8, fo9⟩ := Xo.out;have hneo : go < v1.heap.size := blt co0;go_wp2_with fail;clear co0 co1 co2 co3 co4 co5 co6 co7 co8 co9 fo0 fo1 fo2 fo3 fo4 fo5 fo6 fo7 fo8 fo9 hneo;have Xt0 : Hid (B10q (v1.alloc (.cells #[.int .i64 15, .bool sa, .slice qa na na, .int .i64 ea, .bool sb, .slice qb nb nb, .int .i64 eb, .bool sm, .slice qm nm nm, .int .i64 nn] 45)) v1.heap.size (.int .i64 15) (.bool sa) (.slice qa na na) (.int .i64 ea) (.bool sb) (.slice qb nb nb) (.int .i64 eb) (.bool sm) (.slice qm nm nm) (.int .i64 nn)) := B10q.new v1 _ _ _ _ _ _ _ _ _ _ _
 have hbn : Below v1.heap.size v1 (v1.alloc (.cells #[.int .i64 15, .bool sa, .slice qa na na, .int .i64 ea, .bool sb, .slice qb nb nb, .int .i64 eb, .bool sm, .slice qm nm nm, .int .i64 nn] 45)) := below1 v1 _;generalize v1.alloc (.cells #[.int .i64 15, .bool sa, .slice qa na na, .int .i64 ea, .bool sb, .slice qb nb nb, .int .i64 eb, .bool sm, .slice qm nm nm, .int .i64 nn] 45) = Wt at *;have HGt : Hid (w.heap.size ≤ v1.heap.size) := hbw.size;replace Xo := B10q.b Xo hbn;replace HA := At.b HA hbn;replace HB := At.b HB hbn;replace HM := At.b HM hbn;replace TA := At.b TA hbn;replace TC := At.b TC hbn;replace TM := At.b TM hbn;replace hbw := bon hbw hbn;clear hbn;generalize v1.heap.size = gt at *;have Xt := Xt0;clear Xt0
 refine (answer5_15 sa sb sm TA.out TC.out TM.out HN.out (TB.out.below hbw)).mono ?_
 rintro e2 v2 ⟨z2, e2x, r2, ⟨s2, p2, m2, c2, rfl, hq2⟩, hr2, hb2⟩;replace Xo := B10q.b Xo hb2;replace Xt := B10q.b Xt hb2;replace HA := At.b HA hb2;replace HB := At.b HB hb2;replace HM := At.b HM hb2;replace TA := At.b TA hb2;replace TC := At.b TC hb2;replace TM := At.b TM hb2;replace hbw := bon hbw hb2;clear hb2;have D2 : Hid (DN v2 s2 p2 m2 c2 e2x z2) := hq2.dn;have R2 := hdQ hr2;clear hq2 hr2;obtain ⟨co0, co1, co2, co3, co4, co5, co6, co7, co8, co9, fo0, fo1, fo2, fo3, fo4, fo5, fo6, fo7, fo8, fo9⟩ := Xo.out;have hneo : go < v2.heap.size := blt co0;go_wp2_with fail;clear co0 co1 co2 co3 co4 co5 co6 co7 co8 co9 fo0 fo1 fo2 fo3 fo4 fo5 fo6 fo7 fo8 fo9 hneo;have Xa0 : Hid (B3q (v2.alloc (.cells #[.bool s2, .slice p2 m2 c2, .int .i64 e2x] 27)) v2.heap.size (.bool s2) (.slice p2 m2 c2) (.int .i64 e2x)) := B3q.new v2 _ _ _ _;have hbn : Below v2.heap.size v2 (v2.alloc (.cells #[.bool s2, .slice p2 m2 c2, .int .i64 e2x] 27)) := below1 v2 _
 generalize v2.alloc (.cells #[.bool s2, .slice p2 m2 c2, .int .i64 e2x] 27) = Wa at *;have HGa : Hid (w.heap.size ≤ v2.heap.size) := hbw.size;replace Xo := B10q.b Xo hbn;replace Xt := B10q.b Xt hbn;replace HA := At.b HA hbn;replace HB := At.b HB hbn;replace HM := At.b HM hbn;replace TA := At.b TA hbn;replace TC := At.b TC hbn;replace TM := At.b TM hbn;replace D2 := DN.b D2 hbn;replace hbw := bon hbw hbn;clear hbn;generalize v2.heap.size = ga at *;have Xa := Xa0;clear Xa0 TA TC TM Xt
 refine (doc5_15 sa sb sm HA.out HB.out HM.out HN.out (TB.out.below hbw)).mono ?_
 rintro e3 v3 ⟨z3, e3x, r3, ⟨s3, p3, m3, c3, rfl, hq3⟩, hr3, hb3⟩;replace Xo := B10q.b Xo hb3;replace Xa := B3q.b Xa hb3;replace HA := At.b HA hb3;replace HB := At.b HB hb3;replace HM := At.b HM hb3;replace D2 := DN.b D2 hb3;replace hbw := bon hbw hb3;clear hb3;have D3 : Hid (DN v3 s3 p3 m3 c3 e3x z3) := hq3.dn;obtain ⟨rfl, rfl, rfl⟩ := QuoA.uniq R2.out hr3;clear hq3 hr3 R2;obtain ⟨ca0, ca1, ca2, fa0, fa1, fa2⟩ := Xa.out;have hnea : ga < v3.heap.size := blt ca0;go_wp2_with fail;clear ca0 ca1 ca2 fa0 fa1 fa2 hnea;have Xb0 : Hid (B3q (v3.alloc (.cells #[.bool s3, .slice p3 m3 c3, .int .i64 e2x] 27)) v3.heap.size (.bool s3) (.slice p3 m3 c3) (.int .i64 e2x)) := B3q.new v3 _ _ _ _;have hbn : Below v3.heap.size v3 (v3.alloc (.cells #[.bool s3, .slice p3 m3 c3, .int .i64 e2x] 27)) := below1 v3 _;generalize v3.alloc (.cells #[.bool s3, .slice p3 m3 c3, .int .i64 e2x] 27) = Wb at *;have HGb : Hid (w.heap.size ≤ v3.heap.size) := hbw.size
 replace Xo := B10q.b Xo hbn;replace Xa := B3q.b Xa hbn;replace HA := At.b HA hbn;replace HB := At.b HB hbn;replace HM := At.b HM hbn;replace D2 := DN.b D2 hbn;replace D3 := DN.b D3 hbn;replace hbw := bon hbw hbn;clear hbn;generalize v3.heap.size = gb at *;have Xb := Xb0;clear Xb0 HA HB HM Xo
 refine (told5e r2 D2.out D3.out).mono ?_
 rintro e v9 ⟨rfl, hb9⟩;replace Xa := B3q.b Xa hb9;replace Xb := B3q.b Xb hb9;replace D2 := DN.b D2 hb9;replace D3 := DN.b D3 hb9;replace hbw := bon hbw hb9;clear hb9;go_wp2_with fail
 go_ret
 exact ⟨rfl, hbw⟩
theorem answer5_16 {pa pb pm : Option Addr} {na ca nb cb nm cm : Nat} {xa xb xm : List Nat} {w : World} {ea eb nn : Int} (sa sb sm : Bool) (ha : At w pa na ca xa) (hb : At w pb nb cb xb) (hm : At w pm nm cm xm) (hn : na ≤ 17592186044416 ∧ nb ≤ 17592186044416 ∧ nm ≤ 17592186044416 ∧ -9223372036854775808 ≤ nn ∧ nn ≤ 9223372036854775807) (hT : Tab w) :
  Calls Tryz.prog 35 #[(.agg #[.int .i64 16, .bool sa, .slice pa na ca, .int .i64 ea, .bool sb, .slice pb nb cb, .int .i64 eb, .bool sm, .slice pm nm cm, .int .i64 nn])] w fun en w' => ∃ zo eo er, SaidD w.heap.size w' en zo eo er ∧ QuoA true sa xa ea sb xb eb nn zo eo er ∧ Below w.heap.size w w' := by
 have HA := hdQ ha;have HB := hdQ hb;have HM := hdQ hm;have HN : Hid (na ≤ 17592186044416 ∧ nb ≤ 17592186044416 ∧ nm ≤ 17592186044416 ∧ -9223372036854775808 ≤ nn ∧ nn ≤ 9223372036854775807) := hn;have TB : Hid (Tab w) := hT;clear ha hb hm hn hT
 go_enter Tryz.func35, Tryz.ntmps35
 go_wp2_with fail;obtain ⟨W0, hW0⟩ := exq ((w.alloc (.cells #[.int .i64 16, .bool sa, .slice pa na ca, .int .i64 ea, .bool sb, .slice pb nb cb, .int .i64 eb, .bool sm, .slice pm nm cm, .int .i64 nn] 45)).alloc (.cells #[.bool false, .slice none 0 0, .int .i64 0] 27))
 have Xo : Hid (B10q W0 (w.heap.size) (.int .i64 16) (.bool sa) (.slice pa na ca) (.int .i64 ea) (.bool sb) (.slice pb nb cb) (.int .i64 eb) (.bool sm) (.slice pm nm cm) (.int .i64 nn)) := by rw [hW0]; constructor <;> go_simp
 have Xr : Hid (B3q W0 (w.heap.size + 1) (.bool false) (.slice none 0 0) (.int .i64 0)) := by rw [hW0]; constructor <;> go_simp
 have hb0 := bq2 hW0;rw [← hW0];clear hW0;have hbw := brf w;obtain ⟨gr, hgr⟩ := exq (w.heap.size + 1);have HGr : Hid (w.heap.size ≤ gr) := hgl hgr;rw [← hgr] at Xr
 try rw [← hgr]
 obtain ⟨go, hgo⟩ := exq w.heap.size;have HGo : Hid (w.heap.size ≤ go) := hgl hgo;rw [← hgo] at Xo
 try rw [← hgo]
 have HGD : Hid (go ≠ gr ∧ gr ≠ go) := by rw [hgo, hgr]; show _ ∧ _; omega
 clear hgo hgr;replace HA := At.b HA hb0;replace HB := At.b HB hb0;replace HM := At.b HM hb0;replace hbw := bon hbw hb0;clear hb0;obtain ⟨co0, co1, co2, co3, co4, co5, co6, co7, co8, co9, fo0, fo1, fo2, fo3, fo4, fo5, fo6, fo7, fo8, fo9⟩ := Xo.out;have hneo : go < W0.heap.size := blt co0;go_wp2_with fail;clear co0 co1 co2 co3 co4 co5 co6 co7 co8 co9 fo0 fo1 fo2 fo3 fo4 fo5 fo6 fo7 fo8 fo9 hneo;have HRL : Hid (gr < W0.heap.size ∧ w.heap.size ≤ W0.heap.size) := ⟨Xr.out.lt, hbw.size⟩
 refine (dquouA sa sb HA.out HB.out (TB.out.below hbw)).mono ?_
 rintro e2 v6 ⟨zo, eo, er, ⟨s6, p6, m6, c6, rfl, hq6⟩, hr6, hb6⟩;replace Xo := B10q.b Xo hb6;replace Xr := B3q.b Xr hb6;replace HA := At.b HA hb6;replace HB := At.b HB hb6;replace HM := At.b HM hb6;replace hbw := bon hbw hb6;clear hb6;have Q6 := hdQ hq6;have R6 := hdQ hr6;clear hq6 hr6;obtain ⟨cr0, cr1, cr2, fr0, fr1, fr2⟩ := Xr.out;have hner : gr < v6.heap.size := blt cr0;go_wp2_with fail
 refine bodyPost_ret (v := .tuple #[DV s6 p6 m6 c6 eo, .int .i64 er]) (by rw [results_cell_tmp rfl]; go_simp) rfl ⟨zo, eo, er, ⟨s6, p6, m6, c6, rfl, Q6.out.set3 HRL.out.1 HRL.out.2 _ _ _⟩, R6.out, ?_⟩
 exact bSet (bSet (bSet hbw _ _ _ HGr.out) _ _ _ HGr.out) _ _ _ HGr.out
theorem doc5_16 {pa pb pm : Option Addr} {na ca nb cb nm cm : Nat} {xa xb xm : List Nat} {w : World} {ea eb nn : Int} (sa sb sm : Bool) (ha : At w pa na ca xa) (hb : At w pb nb cb xb) (hm : At w pm nm cm xm) (hn : na ≤ 17592186044416 ∧ nb ≤ 17592186044416 ∧ nm ≤ 17592186044416 ∧ -9223372036854775808 ≤ nn ∧ nn ≤ 9223372036854775807) (hT : Tab w) :
  Calls Tryz.prog 36 #[(.agg #[.int .i64 16, .bool sa, .slice pa na ca, .int .i64 ea, .bool sb, .slice pb nb cb, .int .i64 eb, .bool sm, .slice pm nm cm, .int .i64 nn])] w fun en w' => ∃ zo eo er, SaidD w.heap.size w' en zo eo er ∧ QuoA true sa xa ea sb xb eb nn zo eo er ∧ Below w.heap.size w w' := by
 have HA := hdQ ha;have HB := hdQ hb;have HM := hdQ hm;have HN : Hid (na ≤ 17592186044416 ∧ nb ≤ 17592186044416 ∧ nm ≤ 17592186044416 ∧ -9223372036854775808 ≤ nn ∧ nn ≤ 9223372036854775807) := hn;have TB : Hid (Tab w) := hT;clear ha hb hm hn hT
 go_enter Tryz.func36, Tryz.ntmps36
 go_wp2_with fail;obtain ⟨W0, hW0⟩ := exq ((w.alloc (.cells #[.int .i64 16, .bool sa, .slice pa na ca, .int .i64 ea, .bool sb, .slice pb nb cb, .int .i64 eb, .bool sm, .slice pm nm cm, .int .i64 nn] 45)).alloc (.cells #[.bool false, .slice none 0 0, .int .i64 0] 27))
 have Xo : Hid (B10q W0 (w.heap.size) (.int .i64 16) (.bool sa) (.slice pa na ca) (.int .i64 ea) (.bool sb) (.slice pb nb cb) (.int .i64 eb) (.bool sm) (.slice pm nm cm) (.int .i64 nn)) := by rw [hW0]; constructor <;> go_simp
 have Xr : Hid (B3q W0 (w.heap.size + 1) (.bool false) (.slice none 0 0) (.int .i64 0)) := by rw [hW0]; constructor <;> go_simp
 have hb0 := bq2 hW0;rw [← hW0];clear hW0;have hbw := brf w;obtain ⟨gr, hgr⟩ := exq (w.heap.size + 1);have HGr : Hid (w.heap.size ≤ gr) := hgl hgr;rw [← hgr] at Xr
 try rw [← hgr]
 obtain ⟨go, hgo⟩ := exq w.heap.size;have HGo : Hid (w.heap.size ≤ go) := hgl hgo;rw [← hgo] at Xo
 try rw [← hgo]
 have HGD : Hid (go ≠ gr ∧ gr ≠ go) := by rw [hgo, hgr]; show _ ∧ _; omega
 clear hgo hgr;replace HA := At.b HA hb0;replace HB := At.b HB hb0;replace HM := At.b HM hb0;replace hbw := bon hbw hb0;clear hb0;obtain ⟨co0, co1, co2, co3, co4, co5, co6, co7, co8, co9, fo0, fo1, fo2, fo3, fo4, fo5, fo6, fo7, fo8, fo9⟩ := Xo.out;have hneo : go < W0.heap.size := blt co0;go_wp2_with fail;clear co0 co1 co2 co3 co4 co5 co6 co7 co8 co9 fo0 fo1 fo2 fo3 fo4 fo5 fo6 fo7 fo8 fo9 hneo;have HRL : Hid (gr < W0.heap.size ∧ w.heap.size ≤ W0.heap.size) := ⟨Xr.out.lt, hbw.size⟩
 refine (docquo_u sa sb HA.out HB.out).mono ?_
 rintro e2 v6 ⟨zo, eo, er, ⟨s6, p6, m6, c6, rfl, hq6⟩, hr6, hb6⟩;replace Xo := B10q.b Xo hb6;replace Xr := B3q.b Xr hb6;replace HA := At.b HA hb6;replace HB := At.b HB hb6;replace HM := At.b HM hb6;replace hbw := bon hbw hb6;clear hb6;have Q6 := hdQ hq6;have R6 := hdQ hr6;clear hq6 hr6;obtain ⟨cr0, cr1, cr2, fr0, fr1, fr2⟩ := Xr.out;have hner : gr < v6.heap.size := blt cr0;go_wp2_with fail
 refine bodyPost_ret (v := .tuple #[DV s6 p6 m6 c6 eo, .int .i64 er]) (by rw [results_cell_tmp rfl]; go_simp) rfl ⟨zo, eo, er, ⟨s6, p6, m6, c6, rfl, Q6.out.set3 HRL.out.1 HRL.out.2 _ _ _⟩, R6.out, ?_⟩
 exact bSet (bSet (bSet hbw _ _ _ HGr.out) _ _ _ HGr.out) _ _ _ HGr.out
theorem plays5_16 {pa pb pm : Option Addr} {na ca nb cb nm cm : Nat} {xa xb xm : List Nat} {w : World} {ea eb nn : Int} (sa sb sm : Bool) (ha : At w pa na ca xa) (hb : At w pb nb cb xb) (hm : At w pm nm cm xm) (hn : na ≤ 17592186044416 ∧ nb ≤ 17592186044416 ∧ nm ≤ 17592186044416 ∧ -9223372036854775808 ≤ nn ∧ nn ≤ 9223372036854775807) (hT : Tab w) :
  Calls Tryz.prog 15 #[(.agg #[.int .i64 16, .bool sa, .slice pa na ca, .int .i64 ea, .bool sb, .slice pb nb cb, .int .i64 eb, .bool sm, .slice pm nm cm, .int .i64 nn])] w fun en w' => en = .returned (.bool true) ∧ Below w.heap.size w w' := by
 have HA := hdQ ha;have HB := hdQ hb;have HM := hdQ hm;have HN : Hid (na ≤ 17592186044416 ∧ nb ≤ 17592186044416 ∧ nm ≤ 17592186044416 ∧ -9223372036854775808 ≤ nn ∧ nn ≤ 9223372036854775807) := hn;have TB : Hid (Tab w) := hT;clear ha hb hm hn hT
 go_enter Tryz.func15, Tryz.ntmps15
 go_wp2_with fail;obtain ⟨W0, hW0⟩ := exq (w.alloc (.cells #[.int .i64 16, .bool sa, .slice pa na ca, .int .i64 ea, .bool sb, .slice pb nb cb, .int .i64 eb, .bool sm, .slice pm nm cm, .int .i64 nn] 45))
 have Xo : Hid (B10q W0 (w.heap.size) (.int .i64 16) (.bool sa) (.slice pa na ca) (.int .i64 ea) (.bool sb) (.slice pb nb cb) (.int .i64 eb) (.bool sm) (.slice pm nm cm) (.int .i64 nn)) := by rw [hW0]; constructor <;> go_simp
 have hb0 := bq1 hW0;rw [← hW0];clear hW0;have hbw := brf w;obtain ⟨go, hgo⟩ := exq w.heap.size;have HGo : Hid (w.heap.size ≤ go) := hgl hgo;rw [← hgo] at Xo
 try rw [← hgo]
 clear hgo;replace HA := At.b HA hb0;replace HB := At.b HB hb0;replace HM := At.b HM hb0;replace hbw := bon hbw hb0;clear hb0;obtain ⟨co0, co1, co2, co3, co4, co5, co6, co7, co8, co9, fo0, fo1, fo2, fo3, fo4, fo5, fo6, fo7, fo8, fo9⟩ := Xo.out;have hneo : go < W0.heap.size := blt co0;go_wp2_with fail;clear co0 co1 co2 co3 co4 co5 co6 co7 co8 co9 fo0 fo1 fo2 fo3 fo4 fo5 fo6 fo7 fo8 fo9 hneo
 refine (twinO sa sb sm HA.out HB.out HM.out ⟨HN.out.1, HN.out.2.1, HN.out.2.2.1⟩).mono ?_
 rintro e2 v1 ⟨qa, qb, qm, rfl, ha1, hb1, hm1, hbb1⟩;replace Xo := B10q.b Xo hbb1;replace HA := At.b HA hbb1;replace HB := At.b HB hbb1;replace HM := At.b HM hbb1;replace hbw := bon hbw hbb1;clear hbb1;have TA := hdQ ha1;have TC := hdQ hb1;have TM := hdQ hm1;clear ha1 hb1 hm1;obtain ⟨co0, co1, co2, co3, co4, co5, co6, co7, co8, co9, fo0, fo1, fo2, fo3, fo4, fo5, fo6, fo7, fo8, fo9⟩ := Xo.out;have hneo : go < v1.heap.size := blt co0;go_wp2_with fail;clear co0 co1 co2 co3 co4 co5 co6 co7 co8 co9 fo0 fo1 fo2 fo3 fo4 fo5 fo6 fo7 fo8 fo9 hneo;have Xt0 : Hid (B10q (v1.alloc (.cells #[.int .i64 16, .bool sa, .slice qa na na, .int .i64 ea, .bool sb, .slice qb nb nb, .int .i64 eb, .bool sm, .slice qm nm nm, .int .i64 nn] 45)) v1.heap.size (.int .i64 16) (.bool sa) (.slice qa na na) (.int .i64 ea) (.bool sb) (.slice qb nb nb) (.int .i64 eb) (.bool sm) (.slice qm nm nm) (.int .i64 nn)) := B10q.new v1 _ _ _ _ _ _ _ _ _ _ _
 have hbn : Below v1.heap.size v1 (v1.alloc (.cells #[.int .i64 16, .bool sa, .slice qa na na, .int .i64 ea, .bool sb, .slice qb nb nb, .int .i64 eb, .bool sm, .slice qm nm nm, .int .i64 nn] 45)) := below1 v1 _;generalize v1.alloc (.cells #[.int .i64 16, .bool sa, .slice qa na na, .int .i64 ea, .bool sb, .slice qb nb nb, .int .i64 eb, .bool sm, .slice qm nm nm, .int .i64 nn] 45) = Wt at *;have HGt : Hid (w.heap.size ≤ v1.heap.size) := hbw.size;replace Xo := B10q.b Xo hbn;replace HA := At.b HA hbn;replace HB := At.b HB hbn;replace HM := At.b HM hbn;replace TA := At.b TA hbn;replace TC := At.b TC hbn;replace TM := At.b TM hbn;replace hbw := bon hbw hbn;clear hbn;generalize v1.heap.size = gt at *;have Xt := Xt0;clear Xt0
 refine (answer5_16 sa sb sm TA.out TC.out TM.out HN.out (TB.out.below hbw)).mono ?_
 rintro e2 v2 ⟨z2, e2x, r2, ⟨s2, p2, m2, c2, rfl, hq2⟩, hr2, hb2⟩;replace Xo := B10q.b Xo hb2;replace Xt := B10q.b Xt hb2;replace HA := At.b HA hb2;replace HB := At.b HB hb2;replace HM := At.b HM hb2;replace TA := At.b TA hb2;replace TC := At.b TC hb2;replace TM := At.b TM hb2;replace hbw := bon hbw hb2;clear hb2;have D2 : Hid (DN v2 s2 p2 m2 c2 e2x z2) := hq2.dn;have R2 := hdQ hr2;clear hq2 hr2;obtain ⟨co0, co1, co2, co3, co4, co5, co6, co7, co8, co9, fo0, fo1, fo2, fo3, fo4, fo5, fo6, fo7, fo8, fo9⟩ := Xo.out;have hneo : go < v2.heap.size := blt co0;go_wp2_with fail;clear co0 co1 co2 co3 co4 co5 co6 co7 co8 co9 fo0 fo1 fo2 fo3 fo4 fo5 fo6 fo7 fo8 fo9 hneo;have Xa0 : Hid (B3q (v2.alloc (.cells #[.bool s2, .slice p2 m2 c2, .int .i64 e2x] 27)) v2.heap.size (.bool s2) (.slice p2 m2 c2) (.int .i64 e2x)) := B3q.new v2 _ _ _ _;have hbn : Below v2.heap.size v2 (v2.alloc (.cells #[.bool s2, .slice p2 m2 c2, .int .i64 e2x] 27)) := below1 v2 _
 generalize v2.alloc (.cells #[.bool s2, .slice p2 m2 c2, .int .i64 e2x] 27) = Wa at *;have HGa : Hid (w.heap.size ≤ v2.heap.size) := hbw.size;replace Xo := B10q.b Xo hbn;replace Xt := B10q.b Xt hbn;replace HA := At.b HA hbn;replace HB := At.b HB hbn;replace HM := At.b HM hbn;replace TA := At.b TA hbn;replace TC := At.b TC hbn;replace TM := At.b TM hbn;replace D2 := DN.b D2 hbn;replace hbw := bon hbw hbn;clear hbn;generalize v2.heap.size = ga at *;have Xa := Xa0;clear Xa0 TA TC TM Xt
 refine (doc5_16 sa sb sm HA.out HB.out HM.out HN.out (TB.out.below hbw)).mono ?_
 rintro e3 v3 ⟨z3, e3x, r3, ⟨s3, p3, m3, c3, rfl, hq3⟩, hr3, hb3⟩;replace Xo := B10q.b Xo hb3;replace Xa := B3q.b Xa hb3;replace HA := At.b HA hb3;replace HB := At.b HB hb3;replace HM := At.b HM hb3;replace D2 := DN.b D2 hb3;replace hbw := bon hbw hb3;clear hb3;have D3 : Hid (DN v3 s3 p3 m3 c3 e3x z3) := hq3.dn;obtain ⟨rfl, rfl, rfl⟩ := QuoA.uniq R2.out hr3;clear hq3 hr3 R2;obtain ⟨ca0, ca1, ca2, fa0, fa1, fa2⟩ := Xa.out;have hnea : ga < v3.heap.size := blt ca0;go_wp2_with fail;clear ca0 ca1 ca2 fa0 fa1 fa2 hnea;have Xb0 : Hid (B3q (v3.alloc (.cells #[.bool s3, .slice p3 m3 c3, .int .i64 e2x] 27)) v3.heap.size (.bool s3) (.slice p3 m3 c3) (.int .i64 e2x)) := B3q.new v3 _ _ _ _;have hbn : Below v3.heap.size v3 (v3.alloc (.cells #[.bool s3, .slice p3 m3 c3, .int .i64 e2x] 27)) := below1 v3 _;generalize v3.alloc (.cells #[.bool s3, .slice p3 m3 c3, .int .i64 e2x] 27) = Wb at *;have HGb : Hid (w.heap.size ≤ v3.heap.size) := hbw.size
 replace Xo := B10q.b Xo hbn;replace Xa := B3q.b Xa hbn;replace HA := At.b HA hbn;replace HB := At.b HB hbn;replace HM := At.b HM hbn;replace D2 := DN.b D2 hbn;replace D3 := DN.b D3 hbn;replace hbw := bon hbw hbn;clear hbn;generalize v3.heap.size = gb at *;have Xb := Xb0;clear Xb0 HA HB HM Xo
 refine (told5e r2 D2.out D3.out).mono ?_
 rintro e v9 ⟨rfl, hb9⟩;replace Xa := B3q.b Xa hb9;replace Xb := B3q.b Xb hb9;replace D2 := DN.b D2 hb9;replace D3 := DN.b D3 hb9;replace hbw := bon hbw hb9;clear hb9;go_wp2_with fail
 go_ret
 exact ⟨rfl, hbw⟩
theorem docscale7 {p : Option Addr} {m c : Nat} {w : World} {z e n : Int} {s : Bool} (h : DN w s p m c e z) (hz : z % 2 = 1) (hm : m ≤ 4000) (hn : -1048576 ≤ e + n ∧ e + n ≤ 1048576) (he : -2000 ≤ e ∧ e ≤ 2000) :
  Calls Tryz.prog 11 #[DV s p m c e, .int .i64 n] w fun en w' => ∃ s' g m' c', en = .returned (.tuple #[DV s' (some ⟨g, 0, none⟩) m' c' (e + n), .int .i64 0]) ∧ w.heap.size ≤ g ∧ DN w' s' (some ⟨g, 0, none⟩) m' c' (e + n) z ∧ Below w.heap.size w w' := by
 have H := hdQ h;have HZ : Hid (z % 2 = 1 ∧ m ≤ 4000 ∧ -1048576 ≤ e + n ∧ e + n ≤ 1048576 ∧ -2000 ≤ e ∧ e ≤ 2000) := ⟨hz, hm, hn.1, hn.2, he.1, he.2⟩
 have g1 : ¬ 2097152 < n := by omega
 have g2 : ¬ n < -2097152 := by omega
 have g5 : wrap64 (e + n) = e + n := by simp only [wrap64]; omega
 have g6 : IntKind.i64.wrap (e + n) = e + n := by simp [IntKind.wrap, IntKind.signed, IntKind.bits]; omega
 clear h hz hm hn he
 go_enter Tryz.func11, Tryz.ntmps11
 go_wp2_with fail;obtain ⟨W0, hW0⟩ := exq ((w.alloc (.cells #[.bool s, .slice p m c, .int .i64 e] 27)).alloc (.cells #[.bool false, .slice none 0 0, .int .i64 0] 27))
 have Xd : Hid (B3q W0 (w.heap.size) (.bool s) (.slice p m c) (.int .i64 e)) := by rw [hW0]; constructor <;> go_simp
 have Xr : Hid (B3q W0 (w.heap.size + 1) (.bool false) (.slice none 0 0) (.int .i64 0)) := by rw [hW0]; constructor <;> go_simp
 have hb0 := bq2 hW0;rw [← hW0];clear hW0;have hbw := brf w;obtain ⟨gr, hgr⟩ := exq (w.heap.size + 1);have HGr : Hid (w.heap.size ≤ gr) := hgl hgr;rw [← hgr] at Xr
 try rw [← hgr]
 obtain ⟨gd, hgd⟩ := exq w.heap.size;have HGd : Hid (w.heap.size ≤ gd) := hgl hgd;rw [← hgd] at Xd
 try rw [← hgd]
 have HGD : Hid (gd ≠ gr ∧ gr ≠ gd) := by rw [hgd, hgr]; show _ ∧ _; omega
 clear hgd hgr;replace hbw := bon hbw hb0;clear hb0;obtain ⟨xs, hX⟩ := (H.out.zn.below hbw).ex;have HV : Hid (valB B64 xs = z.natAbs) := hX.nf.val
 have HMP : Hid (0 < m) := by
  rcases Nat.eq_zero_or_pos m with e0 | e0
  ·subst e0
   have h8 := hX.nf.val;rw [List.eq_nil_of_length_eq_zero hX.at_.len] at h8;have h9 := HZ.out.1;have : z.natAbs = 0 := h8.symm
   omega
  ·exact e0
 have AX : Hid (At W0 p m c xs) := hX.at_
 refine (docformd s hX.at_).mono ?_
 rintro e2 v1 ⟨rfl, hb1⟩
 rw [show formD s xs e = true from dn_formD (H.out.below hbw) hX]
 clear hX;replace Xd := B3q.b Xd hb1;replace Xr := B3q.b Xr hb1;replace AX := At.b AX hb1;replace hbw := bon hbw hb1;clear hb1;obtain ⟨cd0, cd1, cd2, fd0, fd1, fd2⟩ := Xd.out;have hned : gd < v1.heap.size := blt cd0;go_wp2_with fail;clear cd0 cd1 cd2 fd0 fd1 fd2 hned
 refine (nought5 HMP.out).mono ?_
 rintro e v2 ⟨rfl, hb2⟩;replace Xd := B3q.b Xd hb2;replace Xr := B3q.b Xr hb2;replace AX := At.b AX hb2;replace hbw := bon hbw hb2;clear hb2;obtain ⟨cd0, cd1, cd2, fd0, fd1, fd2⟩ := Xd.out;have hned : gd < v2.heap.size := blt cd0;go_wp2_with fail;clear cd0 cd1 cd2 fd0 fd1 fd2 hned;obtain ⟨W5, hW5⟩ := exq v2.drew
 have hbd : Below v2.heap.size v2 W5 := by rw [hW5]; exact bDrew1 (Below.refl _ _)
 replace Xd := B3q.b Xd hbd;replace Xr := B3q.b Xr hbd;replace AX := At.b AX hbd;replace hbw := bon hbw hbd;clear hbd
 have HJ : Hid ((fun W' : World => W'.cell? ⟨gd, 0, none⟩ = some (.bool s) ∧ W'.cell? ⟨gd, 1, none⟩ = some (.slice p m c) ∧ W'.cell? ⟨gd, 2, none⟩ = some (.int .i64 e)) W5) := ⟨Xd.out.c0, Xd.out.c1, Xd.out.c2⟩
 refine wp_region_J (fun W' => W'.cell? ⟨gd, 0, none⟩ = some (.bool s) ∧ W'.cell? ⟨gd, 1, none⟩ = some (.slice p m c) ∧ W'.cell? ⟨gd, 2, none⟩ = some (.int .i64 e)) (by kernel_rfl) ?_
 rw [← hW5];clear hW5
 refine wpJ_tq 0 rfl HJ.out ?_
 refine wpJ_tq 1 rfl HJ.out ?_
 refine wpJ_tq 3 rfl HJ.out ?_
 refine wpJ_tq 4 rfl HJ.out ?_
 refine wpJ_tq 5 rfl HJ.out ?_
 refine wpJ_tq 6 rfl HJ.out ?_
 refine wpJ_on 2 rfl fun KJ hK => ?_
 go_simp
 refine (rfrom5 s AX.out (by have := HZ.out; omega)).mono ?_
 rintro e2 v3 ⟨s3, p3, m3, rfl, hz3, hl3, hb3⟩;rw [HV.out, H.out.zn.iv] at hz3;replace Xd := B3q.b Xd hb3;replace Xr := B3q.b Xr hb3;replace AX := At.b AX hb3;replace hbw := bon hbw hb3;clear hb3;have Z3 := hdQ hz3
 have HL3 : Hid (m3 ≤ 8000) := by have := HZ.out; show m3 ≤ _; omega
 clear hz3 hl3
 refine hK _ _ ⟨Xd.out.c0, Xd.out.c1, Xd.out.c2⟩ ?_
 clear hK
 refine wpJ_on 7 rfl fun KJ hK => ?_
 go_simp
 refine (told5 s3 Z3.out HZ.out.1 HL3.out (by have := HZ.out; omega)).mono ?_
 rintro e2 v4 ⟨g4, m4, c4, rfl, hg4, hd4, hb4⟩;have HR4 : Hid (gr < g4 ∧ w.heap.size ≤ g4) := ⟨Nat.lt_of_lt_of_le Xr.out.lt hg4, Nat.le_trans hbw.size hg4⟩;replace Xd := B3q.b Xd hb4;replace Xr := B3q.b Xr hb4;replace AX := At.b AX hb4;replace Z3 := ZR.b Z3 hb4;replace hbw := bon hbw hb4;clear hb4;have D4 := hdQ hd4;clear hd4 hg4 HJ
 have HJ : Hid ((fun W' : World => W'.cell? ⟨gd, 0, none⟩ = some (.bool s) ∧ W'.cell? ⟨gd, 1, none⟩ = some (.slice p m c) ∧ W'.cell? ⟨gd, 2, none⟩ = some (.int .i64 e)) v4) := ⟨Xd.out.c0, Xd.out.c1, Xd.out.c2⟩
 refine hK _ _ HJ.out ?_
 clear hK
 refine wpJ_tq 8 rfl HJ.out ?_
 refine wpJ_tq 9 rfl HJ.out ?_
 obtain ⟨cr0, cr1, cr2, fr0, fr1, fr2⟩ := Xr.out;have hner : gr < v4.heap.size := blt cr0;obtain ⟨cd0, cd1, cd2, fd0, fd1, fd2⟩ := Xd.out;have hned : gd < v4.heap.size := blt cd0;obtain ⟨hgd0, hgd1⟩ := HGD.out
 refine wpJ_on 10 rfl fun KJ hK => ?_
 go_simp
 have HJ2 : Hid ((fun W' : World => W'.cell? ⟨gd, 0, none⟩ = some (.bool s) ∧ W'.cell? ⟨gd, 1, none⟩ = some (.slice p m c) ∧ W'.cell? ⟨gd, 2, none⟩ = some (.int .i64 e)) (((v4.setCell ⟨gr, 0, none⟩ (.bool s3)).setCell ⟨gr, 1, none⟩ (.slice (some ⟨g4, 0, none⟩) m4 c4)).setCell ⟨gr, 2, none⟩ (.int .i64 (e + n)))) := ⟨by go_simp, by go_simp, by go_simp⟩
 refine hK _ _ HJ2.out ?_
 clear hK HJ;have HJ := HJ2;clear HJ2
 refine wpJ_tq 11 rfl HJ.out ?_
 refine wpJ_done (by kernel_rfl) ?_ _
 clear HJ;go_wp2_with fail
 refine bodyPost_ret (v := .tuple #[DV s3 (some ⟨g4, 0, none⟩) m4 c4 (e + n), .int .i64 0]) (by rw [results_cell_tmp rfl]; go_simp) rfl ⟨s3, g4, m4, c4, rfl, HR4.out.2, ?_, ?_⟩
 ·have := HR4.out.1
  exact ((D4.out.set _ _ _ (by omega)).set _ _ _ (by omega)).set _ _ _ (by omega)
 ·exact bSet (bSet (bSet hbw _ _ _ HGr.out) _ _ _ HGr.out) _ _ _ HGr.out
theorem num7 {w : World} (z e : Int) (h0 : -1000 ≤ z ∧ z ≤ 1000) (hz : z % 2 = 1) (he : -1048576 ≤ e ∧ e ≤ 1048576) :
  Calls Tryz.prog 5 #[.int .i64 z, .int .i64 e] w fun en w' => ∃ s' g m' c', en = .returned (DV s' (some ⟨g, 0, none⟩) m' c' e) ∧ w.heap.size ≤ g ∧ DN w' s' (some ⟨g, 0, none⟩) m' c' e z ∧ Below w.heap.size w w' := by
 have HZ : Hid (-1000 ≤ z ∧ z ≤ 1000 ∧ z % 2 = 1 ∧ -1048576 ≤ e ∧ e ≤ 1048576) := ⟨h0.1, h0.2, hz, he.1, he.2⟩;clear h0 hz he
 go_enter Tryz.func5, Tryz.ntmps5
 go_wp2_with fail;obtain ⟨W0, hW0⟩ := exq (w.alloc (.cells #[.bool false, .slice none 0 0, .int .i64 0] 27))
 have Xr : Hid (B3q W0 (w.heap.size) (.bool false) (.slice none 0 0) (.int .i64 0)) := by rw [hW0]; constructor <;> go_simp
 have hb0 := bq1 hW0;rw [← hW0];clear hW0;have hbw := brf w;obtain ⟨gr, hgr⟩ := exq w.heap.size;have HGr : Hid (w.heap.size ≤ gr) := hgl hgr;rw [← hgr] at Xr
 try rw [← hgr]
 clear hgr;replace hbw := bon hbw hb0;clear hb0
 refine (docof5 z (by have := HZ.out; omega) (by have := HZ.out; omega) HZ.out.2.2.1).mono ?_
 rintro e2 v1 ⟨s1, g1, m1, c1, rfl, hg1, hd1, hb1⟩;replace Xr := B3q.b Xr hb1;replace hbw := bon hbw hb1;clear hb1;have D1 := hdQ hd1
 have hm1 : m1 ≤ 4000 := by
  obtain ⟨xs, hX⟩ := hd1.zn.ex
  have := (hX.nf.len_le B64_one (k := 1)).2 (by rw [Nat.pow_one, B64_eq]; have := HZ.out; omega)
  rw [hX.at_.len] at this
  omega
 have HM1 : Hid (m1 ≤ 4000) := hm1;clear hd1 hg1 hm1;go_wp2_with fail
 refine (docscale7 D1.out HZ.out.2.2.1 HM1.out (by have := HZ.out; omega) (by omega)).mono ?_
 rw [Int.zero_add];rintro e2 v2 ⟨s2, g2, m2, c2, rfl, hg2, hd2, hb2⟩;have HR2 : Hid (gr < g2 ∧ w.heap.size ≤ g2) := ⟨Nat.lt_of_lt_of_le Xr.out.lt hg2, Nat.le_trans hbw.size hg2⟩;replace Xr := B3q.b Xr hb2;replace D1 := DN.b D1 hb2;replace hbw := bon hbw hb2;clear hb2;have D2 := hdQ hd2;clear hd2 hg2;obtain ⟨cr0, cr1, cr2, fr0, fr1, fr2⟩ := Xr.out;have hner : gr < v2.heap.size := blt cr0;go_wp2_with fail
 refine bodyPost_ret (v := DV s2 (some ⟨g2, 0, none⟩) m2 c2 e) (by rw [results_cell1 rfl]; go_simp) rfl ⟨s2, g2, m2, c2, rfl, HR2.out.2, ?_, ?_⟩
 ·have := HR2.out.1
  exact (((D2.out.set _ _ _ (by omega)).set _ _ _ (by omega)).set _ _ _ (by omega)).below (below1 _ _)
 ·exact Below.on (bSet (bSet (bSet hbw _ _ _ HGr.out) _ _ _ HGr.out) _ _ _ HGr.out) (below1 _ _)
theorem quo_a : dv 5 (-4) = dv (rd false 10 (2 ^ 0)) (0 - 0 - 5 + ((0 : Nat) : Int)) := by
  rw [dv_shift (z := 5) (e := -4) (f := -5) (by decide) (by decide)]
  rfl
theorem quo_b : dv 11 (-5) = dv (rd true 11 (2 ^ 0)) (0 - 0 - 5 + ((0 : Nat) : Int)) := rfl
theorem wb_13 : WB 1 3 4 32 3 5 := ⟨by decide, by decide, by decide⟩
theorem dn_m1 {w : World} {s : Bool} {p : Option Addr} {m c : Nat} {e z : Int} (h : DN w s p m c e z) (hz : z.natAbs < 1000) : m ≤ 4096 := by
  obtain ⟨xs, hX⟩ := h.zn.ex
  have := (hX.nf.len_le B64_one (k := 1)).2 (by rw [Nat.pow_one, B64_eq]; omega)
  rw [hX.at_.len] at this
  omega
theorem dyadicQuos_walk {P : Option Addr} {N C : Nat} {its : List Op10} {w : World} (h : Scr5 w P N C its) (hT : Tab w) :
  Calls Tryz.prog 3 #[.slice P N C] w fun en w' => en = .returned (.bool true) ∧ Below w.heap.size w w' := by
 have H := hdQ h;have TB : Hid (Tab w) := hT;have hbw := brf w;clear h hT
 go_enter Tryz.func3, Tryz.ntmps3
 go_wp2_with fail
 refine (num7 (1) (0) (by decide) (by decide) (by decide)).mono ?_
 rintro e2 v1 ⟨s1, g1, m1, c1, rfl, _, hd1, hb1⟩;replace hbw := bon hbw hb1;clear hb1;have D1 := hdQ hd1;clear hd1;go_wp2_with fail
 refine (num7 (3) (0) (by decide) (by decide) (by decide)).mono ?_
 rintro e2 v2 ⟨s2, g2, m2, c2, rfl, _, hd2, hb2⟩;replace D1 := DN.b D1 hb2;replace hbw := bon hbw hb2;clear hb2;have D2 := hdQ hd2;clear hd2;go_wp2_with fail
 refine (qf_od D1.out D2.out (P := 4) (K9 := 0) (Z := 10) (by decide) (dn_m1 D1.out (by decide)) (dn_m1 D2.out (by decide)) (by decide) wb_13 (by decide) (by decide) (TB.out.below hbw)).mono ?_
 rintro e2 v3 ⟨hm, hb3⟩
 obtain ⟨v, rfl, hv⟩ := hm.form (zo := 5) (eo := -4) (.inr ⟨by decide, by decide, by decide⟩) quo_a
 obtain ⟨s3, p3, m3, rfl, hd3⟩ := hv.dn (.inr ⟨by decide, by decide, by decide⟩)
 clear hm hv;replace D1 := DN.b D1 hb3;replace D2 := DN.b D2 hb3;replace hbw := bon hbw hb3;clear hb3;have D3 := hdQ hd3;clear hd3 D1 D2;go_wp2_with fail;have Xa0 : Hid (B3q (v3.alloc (.cells #[.bool s3, .slice p3 m3 m3, .int .i64 (-4)] 27)) v3.heap.size (.bool s3) (.slice p3 m3 m3) (.int .i64 (-4))) := B3q.new v3 _ _ _ _;have hbn : Below v3.heap.size v3 (v3.alloc (.cells #[.bool s3, .slice p3 m3 m3, .int .i64 (-4)] 27)) := below1 v3 _;generalize v3.alloc (.cells #[.bool s3, .slice p3 m3 m3, .int .i64 (-4)] 27) = Wa at *;have HGa : Hid (w.heap.size ≤ v3.heap.size) := hbw.size;replace D3 := DN.b D3 hbn;replace hbw := bon hbw hbn;clear hbn;generalize v3.heap.size = ga at *;have Xa := Xa0;clear Xa0
 refine (num7 (1) (0) (by decide) (by decide) (by decide)).mono ?_
 rintro e2 v4 ⟨s4, g4, m4, c4, rfl, _, hd4, hb4⟩;replace Xa := B3q.b Xa hb4;replace D3 := DN.b D3 hb4;replace hbw := bon hbw hb4;clear hb4;have D4 := hdQ hd4;clear hd4;go_wp2_with fail
 refine (num7 (3) (0) (by decide) (by decide) (by decide)).mono ?_
 rintro e2 v10 ⟨s10, g10, m10, c10, rfl, _, hd10, hb10⟩;replace Xa := B3q.b Xa hb10;replace D3 := DN.b D3 hb10;replace D4 := DN.b D4 hb10;replace hbw := bon hbw hb10;clear hb10;have D10 := hdQ hd10;clear hd10;go_wp2_with fail
 refine (qf_ou D4.out D10.out (P := 4) (K9 := 0) (Z := 11) (by decide) (dn_m1 D4.out (by decide)) (dn_m1 D10.out (by decide)) (by decide) wb_13 (by decide) (by decide) (TB.out.below hbw)).mono ?_
 rintro e2 v5 ⟨hm, hb5⟩
 obtain ⟨v, rfl, hv⟩ := hm.form (zo := 11) (eo := -5) (.inr ⟨by decide, by decide, by decide⟩) quo_b
 obtain ⟨s5, p5, m5, rfl, hd5⟩ := hv.dn (.inr ⟨by decide, by decide, by decide⟩)
 clear hm hv;replace Xa := B3q.b Xa hb5;replace D3 := DN.b D3 hb5;replace D4 := DN.b D4 hb5;replace D10 := DN.b D10 hb5;replace hbw := bon hbw hb5;clear hb5;have D5 := hdQ hd5;clear hd5 D4 D10;go_wp2_with fail;have Xb0 : Hid (B3q (v5.alloc (.cells #[.bool s5, .slice p5 m5 m5, .int .i64 (-5)] 27)) v5.heap.size (.bool s5) (.slice p5 m5 m5) (.int .i64 (-5))) := B3q.new v5 _ _ _ _;have hbn : Below v5.heap.size v5 (v5.alloc (.cells #[.bool s5, .slice p5 m5 m5, .int .i64 (-5)] 27)) := below1 v5 _;generalize v5.alloc (.cells #[.bool s5, .slice p5 m5 m5, .int .i64 (-5)] 27) = Wb at *;have HGb : Hid (w.heap.size ≤ v5.heap.size) := hbw.size;replace Xa := B3q.b Xa hbn;replace D3 := DN.b D3 hbn;replace D5 := DN.b D5 hbn;replace hbw := bon hbw hbn;clear hbn;generalize v5.heap.size = gb at *;have Xb := Xb0;clear Xb0;obtain ⟨Wz, hWz⟩ := exq Wb.drew
 have hbd : Below Wb.heap.size Wb Wz := by rw [hWz]; exact bDrew1 (Below.refl _ _)
 replace Xa := B3q.b Xa hbd;replace Xb := B3q.b Xb hbd;replace D3 := DN.b D3 hbd;replace D5 := DN.b D5 hbd;replace hbw := bon hbw hbd;clear hbd
 have HJ : Hid ((fun W' : World => W'.cell? ⟨ga, 0, none⟩ = some (.bool s3) ∧ W'.cell? ⟨ga, 1, none⟩ = some (.slice p3 m3 m3) ∧ W'.cell? ⟨ga, 2, none⟩ = some (.int .i64 (-4)) ∧ W'.cell? ⟨gb, 0, none⟩ = some (.bool s5) ∧ W'.cell? ⟨gb, 1, none⟩ = some (.slice p5 m5 m5) ∧ W'.cell? ⟨gb, 2, none⟩ = some (.int .i64 (-5))) Wz) := ⟨Xa.out.c0, Xa.out.c1, Xa.out.c2, Xb.out.c0, Xb.out.c1, Xb.out.c2⟩
 refine wp_region_J (fun W' => W'.cell? ⟨ga, 0, none⟩ = some (.bool s3) ∧ W'.cell? ⟨ga, 1, none⟩ = some (.slice p3 m3 m3) ∧ W'.cell? ⟨ga, 2, none⟩ = some (.int .i64 (-4)) ∧ W'.cell? ⟨gb, 0, none⟩ = some (.bool s5) ∧ W'.cell? ⟨gb, 1, none⟩ = some (.slice p5 m5 m5) ∧ W'.cell? ⟨gb, 2, none⟩ = some (.int .i64 (-5))) (by kernel_rfl) ?_
 rw [← hWz];clear hWz
 refine wpJ_tq 0 rfl HJ.out ?_
 refine wpJ_tq 1 rfl HJ.out ?_
 refine wpJ_on 2 rfl fun KJ hK => ?_
 go_simp
 refine (num7 (5) (-4) (by decide) (by decide) (by decide)).mono ?_
 rintro e2 v6 ⟨s6, g6, m6, c6, rfl, _, hd6, hb6⟩;replace Xa := B3q.b Xa hb6;replace Xb := B3q.b Xb hb6;replace D3 := DN.b D3 hb6;replace D5 := DN.b D5 hb6;replace hbw := bon hbw hb6;clear hb6;have D6 := hdQ hd6;clear hd6
 refine hK _ _ ⟨Xa.out.c0, Xa.out.c1, Xa.out.c2, Xb.out.c0, Xb.out.c1, Xb.out.c2⟩ ?_
 clear hK
 refine wpJ_on 3 rfl fun KJ hK => ?_
 go_simp
 refine (told5e 0 D3.out D6.out).mono ?_
 rintro e v7 ⟨rfl, hb7⟩;replace Xa := B3q.b Xa hb7;replace Xb := B3q.b Xb hb7;replace D3 := DN.b D3 hb7;replace D5 := DN.b D5 hb7;replace D6 := DN.b D6 hb7;replace hbw := bon hbw hb7;clear hb7 HJ
 have HJ : Hid ((fun W' : World => W'.cell? ⟨ga, 0, none⟩ = some (.bool s3) ∧ W'.cell? ⟨ga, 1, none⟩ = some (.slice p3 m3 m3) ∧ W'.cell? ⟨ga, 2, none⟩ = some (.int .i64 (-4)) ∧ W'.cell? ⟨gb, 0, none⟩ = some (.bool s5) ∧ W'.cell? ⟨gb, 1, none⟩ = some (.slice p5 m5 m5) ∧ W'.cell? ⟨gb, 2, none⟩ = some (.int .i64 (-5))) v7) := ⟨Xa.out.c0, Xa.out.c1, Xa.out.c2, Xb.out.c0, Xb.out.c1, Xb.out.c2⟩
 refine hK _ _ HJ.out ?_
 clear hK
 refine wpJ_tq 4 rfl HJ.out ?_
 refine wpJ_tq 5 rfl HJ.out ?_
 refine wpJ_tq 6 rfl HJ.out ?_
 refine wpJ_on 7 rfl fun KJ hK => ?_
 go_simp
 refine (num7 (11) (-5) (by decide) (by decide) (by decide)).mono ?_
 rintro e2 v8 ⟨s8, g8, m8, c8, rfl, _, hd8, hb8⟩;replace Xa := B3q.b Xa hb8;replace Xb := B3q.b Xb hb8;replace D3 := DN.b D3 hb8;replace D5 := DN.b D5 hb8;replace D6 := DN.b D6 hb8;replace hbw := bon hbw hb8;clear hb8;have D8 := hdQ hd8;clear hd8
 refine hK _ _ ⟨Xa.out.c0, Xa.out.c1, Xa.out.c2, Xb.out.c0, Xb.out.c1, Xb.out.c2⟩ ?_
 clear hK
 refine wpJ_on 8 rfl fun KJ hK => ?_
 go_simp
 refine (told5e 0 D5.out D8.out).mono ?_
 rintro e v9 ⟨rfl, hb9⟩;replace Xa := B3q.b Xa hb9;replace Xb := B3q.b Xb hb9;replace D3 := DN.b D3 hb9;replace D5 := DN.b D5 hb9;replace D6 := DN.b D6 hb9;replace D8 := DN.b D8 hb9;replace hbw := bon hbw hb9;clear hb9 HJ
 have HJ : Hid ((fun W' : World => W'.cell? ⟨ga, 0, none⟩ = some (.bool s3) ∧ W'.cell? ⟨ga, 1, none⟩ = some (.slice p3 m3 m3) ∧ W'.cell? ⟨ga, 2, none⟩ = some (.int .i64 (-4)) ∧ W'.cell? ⟨gb, 0, none⟩ = some (.bool s5) ∧ W'.cell? ⟨gb, 1, none⟩ = some (.slice p5 m5 m5) ∧ W'.cell? ⟨gb, 2, none⟩ = some (.int .i64 (-5))) v9) := ⟨Xa.out.c0, Xa.out.c1, Xa.out.c2, Xb.out.c0, Xb.out.c1, Xb.out.c2⟩
 refine hK _ _ HJ.out ?_
 clear hK
 refine wpJ_tq 9 rfl HJ.out ?_
 refine wpJ_tq 10 rfl HJ.out ?_
 refine wpJ_tq 11 rfl HJ.out ?_
 refine wpJ_on 12 rfl fun KJ hK => ?_
 go_simp
 refine (all5 (H.out.below hbw) (TB.out.below hbw) ?_).mono ?_
 ·intro k h5 h9 pa pb pm na ca nb cb nm cm xa xb xm w ea eb nn sa sb sm ha hb hm hn hT
  rcases (by omega : k = 15 ∨ k = 16) with rfl | rfl
  ·exact plays5_15 sa sb sm ha hb hm hn hT
  ·exact plays5_16 sa sb sm ha hb hm hn hT
 rintro e w9 ⟨rfl, hb9⟩;replace Xa := B3q.b Xa hb9;replace Xb := B3q.b Xb hb9;replace D3 := DN.b D3 hb9;replace D5 := DN.b D5 hb9;replace D6 := DN.b D6 hb9;replace D8 := DN.b D8 hb9;replace hbw := bon hbw hb9;clear hb9 HJ
 have HJ : Hid ((fun W' : World => W'.cell? ⟨ga, 0, none⟩ = some (.bool s3) ∧ W'.cell? ⟨ga, 1, none⟩ = some (.slice p3 m3 m3) ∧ W'.cell? ⟨ga, 2, none⟩ = some (.int .i64 (-4)) ∧ W'.cell? ⟨gb, 0, none⟩ = some (.bool s5) ∧ W'.cell? ⟨gb, 1, none⟩ = some (.slice p5 m5 m5) ∧ W'.cell? ⟨gb, 2, none⟩ = some (.int .i64 (-5))) w9) := ⟨Xa.out.c0, Xa.out.c1, Xa.out.c2, Xb.out.c0, Xb.out.c1, Xb.out.c2⟩
 refine hK _ _ HJ.out ?_
 clear hK
 refine wpJ_tq 13 rfl HJ.out ?_
 refine wpJ_tq 14 rfl HJ.out ?_
 refine wpJ_done (by kernel_rfl) ?_ _
 clear HJ;go_wp2_with fail
 go_ret
 exact ⟨rfl, hbw⟩
end Go.Proofs.YtmlclpjimkjjeaaGreatDoor
