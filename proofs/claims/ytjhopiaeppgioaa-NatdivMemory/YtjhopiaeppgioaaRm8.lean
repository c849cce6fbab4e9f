import Derived.Test.YtjhopiaeppgioaaJ9
import Derived.Test.YtjhopiaeppgioaaJ10
import Derived.Test.YtjhopiaeppgioaaJ12
namespace Go.Proofs.Ytjhopiaeppgioaa
open Go.RowKit Go.Shelf
set_option maxRecDepth 20000
set_option maxHeartbeats 0
theorem rt_lt8 {a s t : Nat} (h2 : a ≤ s * s + 2 * s) (h3 : t * t ≤ a) : t ≤ s := by
  rcases Nat.lt_or_ge s t with h | h
  · exfalso
    have h5 : (s + 1) * (s + 1) ≤ t * t := Nat.mul_le_mul h h
    rw [Nat.add_mul, Nat.mul_add] at h5
    omega
  · exact h
theorem rt_uniq8 {a s t : Nat} (h1 : s * s ≤ a) (h2 : a ≤ s * s + 2 * s) (h3 : t * t ≤ a) (h4 : a ≤ t * t + 2 * t) : s = t := Nat.le_antisymm (rt_lt8 h4 h1) (rt_lt8 h2 h3)
theorem nf_z8 {xs : List Nat} (h : Nf B64 xs 0) : xs = [] := (h.zero_iff B64_one).2 rfl
theorem ap_ek {w : World} {B : Nat} {p1 p2 : Option Addr} {m1 m2 b1 b2 : Nat} {X1 X2 : List Nat} (h : Ap2 (.slice p1 m1 m1) (.slice p2 m2 m2)) (e1 : EK w B p1 m1 m1 b1 X1) (e2 : EK w B p2 m2 m2 b2 X2) : m1 ≠ 0 → m2 ≠ 0 → b1 ≠ b2 := by
  intro h1 h2 e
  exact h p1 m1 m1 p2 m2 m2 b1 rfl rfl h1 h2 (e1.addr.resolve_left h1) (by rw [e]; exact e2.addr.resolve_left h2)
theorem natdivMemory_w {p q : Option Addr} {m k c d : Nat} {xs ys : List Nat} {w : World} (h : At w p m c xs) (hz : p = none → m = 0 ∧ c = 0) (hn : m ≤ 17592186044416) (h2 : At w q k d ys) (hz2 : q = none → k = 0 ∧ d = 0) (hn2 : k ≤ 17592186044416) :
    Calls Try.prog 3 #[.slice p m c, .slice q k d] w fun en w' => en = .returned (.bool true) ∧ Below w.heap.size w w' := by
  have AT : Hid (At w p m c xs ∧ (p = none → m = 0 ∧ c = 0) ∧ m ≤ 17592186044416) := ⟨h, hz, hn⟩
  have AY : Hid (At w q k d ys ∧ (q = none → k = 0 ∧ d = 0) ∧ k ≤ 17592186044416) := ⟨h2, hz2, hn2⟩
  clear h hz hn h2 hz2 hn2
  go_enter Try.func3, Try.ntmps3
  go_wp2_with fail
  refine (awake3_any w).mono ?_
  rintro e v1 ⟨rfl, hbw⟩
  go_wp2_with fail
  refine (docform_any (AT.out.1.below hbw)).mono ?_
  rintro e w' ⟨rfl, hw⟩
  obtain rfl := hw.symm
  clear hw
  cases fx : formB xs
  · clear fx
    go_wp2_with fail
    go_ret
    exact ⟨rfl, hbw⟩
  go_wp2_with fail
  refine (docform_any (AY.out.1.below hbw)).mono ?_
  rintro e w' ⟨rfl, hw⟩
  obtain rfl := hw.symm
  clear hw
  cases fy : formB ys
  · clear fy
    go_wp2_with fail
    go_ret
    exact ⟨rfl, hbw⟩
  have NX := formB_nf fx AT.out.1.dig
  have NY := formB_nf fy AY.out.1.dig
  obtain ⟨A, eA⟩ : ∃ A, A = valB B64 xs := ⟨_, rfl⟩
  obtain ⟨D, eD⟩ : ∃ D, D = valB B64 ys := ⟨_, rfl⟩
  rw [← eA] at NX
  rw [← eD] at NY
  have HX : Hid (Nf B64 xs A ∧ m ≤ 8192) := ⟨NX.1, by rw [← AT.out.1.len]; exact NX.2⟩
  have HY : Hid (Nf B64 ys D ∧ k ≤ 8192) := ⟨NY.1, by rw [← AY.out.1.len]; exact NY.2⟩
  clear NX NY eA eD fx fy
  by_cases hk0 : k = 0
  · have hk1 : (k : Int) = 0 := by omega
    have hk2 : ((k : Int) == 0) = true := by simpa using hk1
    go_wp2_with fail
    go_ret
    exact ⟨rfl, hbw⟩
  have hk2 : ((k : Int) == 0) = false := by simp; omega
  have hk3 : ¬ (k : Int) = 0 := by omega
  have HD0 : Hid (D ≠ 0) := fun e => hk0 (by rw [← AY.out.1.len]; rw [e] at HY; exact congrArg List.length (nf_z8 HY.out.1))
  clear hk0
  go_wp2_with fail
  clear hk2 hk3
  refine (roomy3_ok (k := 90) (AT.out.1.below hbw) AT.out.2.1 AT.out.2.2 (by decide)).mono ?_
  rintro e v2 ⟨gX, rfl, hg1, hO, hb⟩
  have IX : Hid (v1.heap.size ≤ gX ∧ gX < v2.heap.size ∧ v1.heap.size ≤ v2.heap.size) := ⟨hg1, own_blt hO, hb.size⟩
  have EX : Hid (X7 v2 w.heap.size m gX 0 (rmy 90 xs)) := ⟨own_mono5 hO hbw.size, rmy_dig (by decide) AT.out.1.dig, fun k hk => absurd hk (Nat.not_lt_zero _)⟩
  clear hg1 hO
  replace hbw := Below.on hbw hb
  clear hb
  go_wp2_with fail
  refine (roomy3_ok (k := 91) (AY.out.1.below hbw) AY.out.2.1 AY.out.2.2 (by decide)).mono ?_
  rintro e v3 ⟨gY, rfl, hg1, hO, hb⟩
  have IY : Hid (v2.heap.size ≤ gY ∧ gY < v3.heap.size ∧ v2.heap.size ≤ v3.heap.size) := ⟨hg1, own_blt hO, hb.size⟩
  have EY : Hid (X7 v3 w.heap.size k gY 0 (rmy 91 ys)) := ⟨own_mono5 hO hbw.size, rmy_dig (by decide) AY.out.1.dig, fun k hk => absurd hk (Nat.not_lt_zero _)⟩
  clear hg1 hO
  replace EX : Hid (X7 v3 w.heap.size m gX 0 (rmy 90 xs)) := EX.out.below hb
  replace hbw := Below.on hbw hb
  clear hb
  go_wp2_with fail
  refine (quorem_any (by have h9 := own_at7 EX.out.own EX.out.dig AT.out.2.2; rw [show (rmy 90 xs).take m = xs from by rw [← AT.out.1.len]; exact rmy_take 90 xs] at h9; exact h9) (by have h9 := own_at7 EY.out.own EY.out.dig AY.out.2.2; rw [show (rmy 91 ys).take k = ys from by rw [← AY.out.1.len]; exact rmy_take 91 ys] at h9; exact h9) HX.out.1 HY.out.1 HX.out.2 HY.out.2 HD0.out).mono ?_
  rintro e v4 ⟨x1, x2, rfl, hD⟩
  obtain ⟨qa, la, za, rfl, o1, n1, g1⟩ := hD.quo
  obtain ⟨qb, lb, zb, rfl, o2, n2, g2⟩ := hD.rem
  have hb := hD.bel
  have hap := hD.ap
  have Na : Hid (Nf B64 za (A / D)) := n1
  have Nb : Hid (Nf B64 zb (A % D)) := n2
  clear hD n1 n2
  obtain ⟨ba, hEa, hIa⟩ := ek_own o1 (hbw.size : w.heap.size ≤ v3.heap.size) g1
  have Ia : Hid ((la ≠ 0 → v3.heap.size ≤ ba ∧ ba < v4.heap.size) ∧ v3.heap.size ≤ v4.heap.size ∧ la ≤ 8192) := ⟨hIa, hb.size, g1⟩
  have Oa : Hid (At v4 qa la la za) := o1.at_ g1
  obtain ⟨bb, hEb, hIb⟩ := ek_own o2 (hbw.size : w.heap.size ≤ v3.heap.size) g2
  have Ib : Hid ((lb ≠ 0 → v3.heap.size ≤ bb ∧ bb < v4.heap.size) ∧ v3.heap.size ≤ v4.heap.size ∧ lb ≤ 8192) := ⟨hIb, hb.size, g2⟩
  have Ob : Hid (At v4 qb lb lb zb) := o2.at_ g2
  have Pa : Hid (la ≠ 0 → lb ≠ 0 → ba ≠ bb) := ap_ek hap hEa hEb
  have Ea : Hid (EK v4 w.heap.size qa la la ba za) := hEa
  clear hEa hIa
  have Eb : Hid (EK v4 w.heap.size qb lb lb bb zb) := hEb
  clear hEb hIb
  clear o1 o2 g1 g2 hap
  replace EX : Hid (X7 v4 w.heap.size m gX 0 (rmy 90 xs)) := EX.out.below hb
  replace EY : Hid (X7 v4 w.heap.size k gY 0 (rmy 91 ys)) := EY.out.below hb
  replace hbw := Below.on hbw hb
  clear hb
  go_wp2_with fail
  refine (quorem_any (by have h9 := own_at7 EX.out.own EX.out.dig AT.out.2.2; rw [show (rmy 90 xs).take m = xs from by rw [← AT.out.1.len]; exact rmy_take 90 xs] at h9; exact h9) (by have h9 := own_at7 EY.out.own EY.out.dig AY.out.2.2; rw [show (rmy 91 ys).take k = ys from by rw [← AY.out.1.len]; exact rmy_take 91 ys] at h9; exact h9) HX.out.1 HY.out.1 HX.out.2 HY.out.2 HD0.out).mono ?_
  rintro e v5 ⟨x1, x2, rfl, hD⟩
  obtain ⟨qc, lc, zc, rfl, o1, n1, g1⟩ := hD.quo
  obtain ⟨qe, le, ze, rfl, o2, n2, g2⟩ := hD.rem
  have hb := hD.bel
  have hap := hD.ap
  have Nc : Hid (Nf B64 zc (A / D)) := n1
  have Ne : Hid (Nf B64 ze (A % D)) := n2
  clear hD n1 n2
  obtain ⟨bc, hEc, hIc⟩ := ek_own o1 (hbw.size : w.heap.size ≤ v4.heap.size) g1
  have Ic : Hid ((lc ≠ 0 → v4.heap.size ≤ bc ∧ bc < v5.heap.size) ∧ v4.heap.size ≤ v5.heap.size ∧ lc ≤ 8192) := ⟨hIc, hb.size, g1⟩
  have Oc : Hid (At v5 qc lc lc zc) := o1.at_ g1
  obtain ⟨be, hEe, hIe⟩ := ek_own o2 (hbw.size : w.heap.size ≤ v4.heap.size) g2
  have Ie : Hid ((le ≠ 0 → v4.heap.size ≤ be ∧ be < v5.heap.size) ∧ v4.heap.size ≤ v5.heap.size ∧ le ≤ 8192) := ⟨hIe, hb.size, g2⟩
  have Oe : Hid (At v5 qe le le ze) := o2.at_ g2
  have Pc : Hid (lc ≠ 0 → le ≠ 0 → bc ≠ be) := ap_ek hap hEc hEe
  have Ec : Hid (EK v5 w.heap.size qc lc lc bc zc) := hEc
  clear hEc hIc
  have Ee : Hid (EK v5 w.heap.size qe le le be ze) := hEe
  clear hEe hIe
  clear o1 o2 g1 g2 hap
  replace EX : Hid (X7 v5 w.heap.size m gX 0 (rmy 90 xs)) := EX.out.below hb
  replace EY : Hid (X7 v5 w.heap.size k gY 0 (rmy 91 ys)) := EY.out.below hb
  replace Ea : Hid (EK v5 w.heap.size qa la la ba za) := Ea.out.below hb
  replace Oa : Hid _ := Oa.out.below hb
  replace Eb : Hid (EK v5 w.heap.size qb lb lb bb zb) := Eb.out.below hb
  replace Ob : Hid _ := Ob.out.below hb
  replace hbw := Below.on hbw hb
  clear hb
  go_wp2_with fail
  refine (root_any (⟨(by have h9 := own_at7 EX.out.own EX.out.dig AT.out.2.2; rw [show (rmy 90 xs).take m = xs from by rw [← AT.out.1.len]; exact rmy_take 90 xs] at h9; exact h9), HX.out.1, HX.out.2⟩ : Num _ _ _ _ _ _)).mono ?_
  rintro e v6 ⟨x1, x2, rfl, hD⟩
  obtain ⟨rs, qs, ls, zs, qt, lt, zt, s1, s2, rfl, o1, n1, g1, rfl, o2, n2, g2⟩ := hD.val
  have hb := hD.bel
  have hap := hD.ap
  have Ns : Hid (rs * rs ≤ A ∧ A ≤ rs * rs + 2 * rs ∧ Nf B64 zs rs) := ⟨s1, s2, n1⟩
  have Nt : Hid (Nf B64 zt (A - rs * rs)) := n2
  clear hD n1 n2 s1 s2
  obtain ⟨bs, hEs, hIs⟩ := ek_own o1 (hbw.size : w.heap.size ≤ v5.heap.size) g1
  have Is : Hid ((ls ≠ 0 → v5.heap.size ≤ bs ∧ bs < v6.heap.size) ∧ v5.heap.size ≤ v6.heap.size ∧ ls ≤ 8192) := ⟨hIs, hb.size, g1⟩
  have Os : Hid (At v6 qs ls ls zs) := o1.at_ g1
  obtain ⟨bt, hEt, hIt⟩ := ek_own o2 (hbw.size : w.heap.size ≤ v5.heap.size) g2
  have It : Hid ((lt ≠ 0 → v5.heap.size ≤ bt ∧ bt < v6.heap.size) ∧ v5.heap.size ≤ v6.heap.size ∧ lt ≤ 8192) := ⟨hIt, hb.size, g2⟩
  have Ot : Hid (At v6 qt lt lt zt) := o2.at_ g2
  have Ps : Hid (ls ≠ 0 → lt ≠ 0 → bs ≠ bt) := ap_ek hap hEs hEt
  have Es : Hid (EK v6 w.heap.size qs ls ls bs zs) := hEs
  clear hEs hIs
  have Et : Hid (EK v6 w.heap.size qt lt lt bt zt) := hEt
  clear hEt hIt
  clear o1 o2 g1 g2 hap
  replace EX : Hid (X7 v6 w.heap.size m gX 0 (rmy 90 xs)) := EX.out.below hb
  replace EY : Hid (X7 v6 w.heap.size k gY 0 (rmy 91 ys)) := EY.out.below hb
  replace Ea : Hid (EK v6 w.heap.size qa la la ba za) := Ea.out.below hb
  replace Oa : Hid _ := Oa.out.below hb
  replace Eb : Hid (EK v6 w.heap.size qb lb lb bb zb) := Eb.out.below hb
  replace Ob : Hid _ := Ob.out.below hb
  replace Ec : Hid (EK v6 w.heap.size qc lc lc bc zc) := Ec.out.below hb
  replace Oc : Hid _ := Oc.out.below hb
  replace Ee : Hid (EK v6 w.heap.size qe le le be ze) := Ee.out.below hb
  replace Oe : Hid _ := Oe.out.below hb
  replace hbw := Below.on hbw hb
  clear hb
  go_wp2_with fail
  refine (root_any (⟨(by have h9 := own_at7 EX.out.own EX.out.dig AT.out.2.2; rw [show (rmy 90 xs).take m = xs from by rw [← AT.out.1.len]; exact rmy_take 90 xs] at h9; exact h9), HX.out.1, HX.out.2⟩ : Num _ _ _ _ _ _)).mono ?_
  rintro e v7 ⟨x1, x2, rfl, hD⟩
  obtain ⟨ru, qu, lu, zu, qv, lv, zv, s1, s2, rfl, o1, n1, g1, rfl, o2, n2, g2⟩ := hD.val
  have hb := hD.bel
  have hap := hD.ap
  have Nu : Hid (ru * ru ≤ A ∧ A ≤ ru * ru + 2 * ru ∧ Nf B64 zu ru) := ⟨s1, s2, n1⟩
  have Nv : Hid (Nf B64 zv (A - ru * ru)) := n2
  clear hD n1 n2 s1 s2
  obtain ⟨bu, hEu, hIu⟩ := ek_own o1 (hbw.size : w.heap.size ≤ v6.heap.size) g1
  have Iu : Hid ((lu ≠ 0 → v6.heap.size ≤ bu ∧ bu < v7.heap.size) ∧ v6.heap.size ≤ v7.heap.size ∧ lu ≤ 8192) := ⟨hIu, hb.size, g1⟩
  have Ou : Hid (At v7 qu lu lu zu) := o1.at_ g1
  obtain ⟨bv, hEv, hIv⟩ := ek_own o2 (hbw.size : w.heap.size ≤ v6.heap.size) g2
  have Iv : Hid ((lv ≠ 0 → v6.heap.size ≤ bv ∧ bv < v7.heap.size) ∧ v6.heap.size ≤ v7.heap.size ∧ lv ≤ 8192) := ⟨hIv, hb.size, g2⟩
  have Ov : Hid (At v7 qv lv lv zv) := o2.at_ g2
  have Pu : Hid (lu ≠ 0 → lv ≠ 0 → bu ≠ bv) := ap_ek hap hEu hEv
  have Eu : Hid (EK v7 w.heap.size qu lu lu bu zu) := hEu
  clear hEu hIu
  have Ev : Hid (EK v7 w.heap.size qv lv lv bv zv) := hEv
  clear hEv hIv
  clear o1 o2 g1 g2 hap
  replace EX : Hid (X7 v7 w.heap.size m gX 0 (rmy 90 xs)) := EX.out.below hb
  replace EY : Hid (X7 v7 w.heap.size k gY 0 (rmy 91 ys)) := EY.out.below hb
  replace Ea : Hid (EK v7 w.heap.size qa la la ba za) := Ea.out.below hb
  replace Oa : Hid _ := Oa.out.below hb
  replace Eb : Hid (EK v7 w.heap.size qb lb lb bb zb) := Eb.out.below hb
  replace Ob : Hid _ := Ob.out.below hb
  replace Ec : Hid (EK v7 w.heap.size qc lc lc bc zc) := Ec.out.below hb
  replace Oc : Hid _ := Oc.out.below hb
  replace Ee : Hid (EK v7 w.heap.size qe le le be ze) := Ee.out.below hb
  replace Oe : Hid _ := Oe.out.below hb
  replace Es : Hid (EK v7 w.heap.size qs ls ls bs zs) := Es.out.below hb
  replace Os : Hid _ := Os.out.below hb
  replace Et : Hid (EK v7 w.heap.size qt lt lt bt zt) := Et.out.below hb
  replace Ot : Hid _ := Ot.out.below hb
  replace hbw := Below.on hbw hb
  clear hb
  go_wp2_with fail
  refine (kept3_ok (k := 90) (AT.out.1.below hbw) (by have h9 := own_row3 EX.out.own EX.out.dig; exact h9.at_ (Nat.le_refl _) (by have := AT.out.2.2; unfold maxLen; omega)) (by have := AT.out.2.2; omega) (by decide)).mono ?_
  rintro e v8 ⟨rfl, hb⟩
  have Sv8 : Hid (v7.heap.size ≤ v8.heap.size) := hb.size
  replace EX : Hid (X7 v8 w.heap.size m gX 0 (rmy 90 xs)) := EX.out.below hb
  replace EY : Hid (X7 v8 w.heap.size k gY 0 (rmy 91 ys)) := EY.out.below hb
  replace Ea : Hid (EK v8 w.heap.size qa la la ba za) := Ea.out.below hb
  replace Oa : Hid _ := Oa.out.below hb
  replace Eb : Hid (EK v8 w.heap.size qb lb lb bb zb) := Eb.out.below hb
  replace Ob : Hid _ := Ob.out.below hb
  replace Ec : Hid (EK v8 w.heap.size qc lc lc bc zc) := Ec.out.below hb
  replace Oc : Hid _ := Oc.out.below hb
  replace Ee : Hid (EK v8 w.heap.size qe le le be ze) := Ee.out.below hb
  replace Oe : Hid _ := Oe.out.below hb
  replace Es : Hid (EK v8 w.heap.size qs ls ls bs zs) := Es.out.below hb
  replace Os : Hid _ := Os.out.below hb
  replace Et : Hid (EK v8 w.heap.size qt lt lt bt zt) := Et.out.below hb
  replace Ot : Hid _ := Ot.out.below hb
  replace Eu : Hid (EK v8 w.heap.size qu lu lu bu zu) := Eu.out.below hb
  replace Ou : Hid _ := Ou.out.below hb
  replace Ev : Hid (EK v8 w.heap.size qv lv lv bv zv) := Ev.out.below hb
  replace Ov : Hid _ := Ov.out.below hb
  replace hbw := Below.on hbw hb
  clear hb
  go_wp2_with fail
  refine (kept3_ok (k := 91) (AY.out.1.below hbw) (by have h9 := own_row3 EY.out.own EY.out.dig; exact h9.at_ (Nat.le_refl _) (by have := AY.out.2.2; unfold maxLen; omega)) (by have := AY.out.2.2; omega) (by decide)).mono ?_
  rintro e v9 ⟨rfl, hb⟩
  have Sv9 : Hid (v8.heap.size ≤ v9.heap.size) := hb.size
  replace EX : Hid (X7 v9 w.heap.size m gX 0 (rmy 90 xs)) := EX.out.below hb
  replace EY : Hid (X7 v9 w.heap.size k gY 0 (rmy 91 ys)) := EY.out.below hb
  replace Ea : Hid (EK v9 w.heap.size qa la la ba za) := Ea.out.below hb
  replace Oa : Hid _ := Oa.out.below hb
  replace Eb : Hid (EK v9 w.heap.size qb lb lb bb zb) := Eb.out.below hb
  replace Ob : Hid _ := Ob.out.below hb
  replace Ec : Hid (EK v9 w.heap.size qc lc lc bc zc) := Ec.out.below hb
  replace Oc : Hid _ := Oc.out.below hb
  replace Ee : Hid (EK v9 w.heap.size qe le le be ze) := Ee.out.below hb
  replace Oe : Hid _ := Oe.out.below hb
  replace Es : Hid (EK v9 w.heap.size qs ls ls bs zs) := Es.out.below hb
  replace Os : Hid _ := Os.out.below hb
  replace Et : Hid (EK v9 w.heap.size qt lt lt bt zt) := Et.out.below hb
  replace Ot : Hid _ := Ot.out.below hb
  replace Eu : Hid (EK v9 w.heap.size qu lu lu bu zu) := Eu.out.below hb
  replace Ou : Hid _ := Ou.out.below hb
  replace Ev : Hid (EK v9 w.heap.size qv lv lv bv zv) := Ev.out.below hb
  replace Ov : Hid _ := Ov.out.below hb
  replace hbw := Below.on hbw hb
  clear hb
  have ez : za = zc := Na.out.inj B64_one Nc.out
  subst ez
  have ez : zb = ze := Nb.out.inj B64_one Ne.out
  subst ez
  have ez : rs = ru := rt_uniq8 Ns.out.1 Ns.out.2.1 Nu.out.1 Nu.out.2.1
  subst ez
  have ez : zs = zu := Ns.out.2.2.inj B64_one Nu.out.2.2
  subst ez
  have ez : zt = zv := Nt.out.inj B64_one Nv.out
  subst ez
  clear Nc Ne Nu Nv
  go_wp2_with fail
  refine (twin3_any Oa.out (by have := Ia.out.2.2; omega)).mono ?_
  rintro e v10 ⟨hwa, rfl, hg1, hblk, hb⟩
  have Ta : Hid (At v10 (some ⟨hwa, 0, none⟩) la la za) := hblk.at_ Oa.out.dig Oa.out.len (by have := Ia.out.2.2; unfold maxLen; omega)
  have Ja : Hid (v9.heap.size ≤ hwa ∧ v9.heap.size ≤ v10.heap.size) := ⟨hg1, hb.size⟩
  clear hblk hg1
  replace EX : Hid (X7 v10 w.heap.size m gX 0 (rmy 90 xs)) := EX.out.below hb
  replace EY : Hid (X7 v10 w.heap.size k gY 0 (rmy 91 ys)) := EY.out.below hb
  replace Ea : Hid (EK v10 w.heap.size qa la la ba za) := Ea.out.below hb
  replace Oa : Hid _ := Oa.out.below hb
  replace Eb : Hid (EK v10 w.heap.size qb lb lb bb zb) := Eb.out.below hb
  replace Ob : Hid _ := Ob.out.below hb
  replace Ec : Hid (EK v10 w.heap.size qc lc lc bc za) := Ec.out.below hb
  replace Oc : Hid _ := Oc.out.below hb
  replace Ee : Hid (EK v10 w.heap.size qe le le be zb) := Ee.out.below hb
  replace Oe : Hid _ := Oe.out.below hb
  replace Es : Hid (EK v10 w.heap.size qs ls ls bs zs) := Es.out.below hb
  replace Os : Hid _ := Os.out.below hb
  replace Et : Hid (EK v10 w.heap.size qt lt lt bt zt) := Et.out.below hb
  replace Ot : Hid _ := Ot.out.below hb
  replace Eu : Hid (EK v10 w.heap.size qu lu lu bu zs) := Eu.out.below hb
  replace Ou : Hid _ := Ou.out.below hb
  replace Ev : Hid (EK v10 w.heap.size qv lv lv bv zt) := Ev.out.below hb
  replace Ov : Hid _ := Ov.out.below hb
  replace hbw := Below.on hbw hb
  clear hb
  go_wp2_with fail
  refine (twin3_any Ob.out (by have := Ib.out.2.2; omega)).mono ?_
  rintro e v11 ⟨hwb, rfl, hg1, hblk, hb⟩
  have Tb : Hid (At v11 (some ⟨hwb, 0, none⟩) lb lb zb) := hblk.at_ Ob.out.dig Ob.out.len (by have := Ib.out.2.2; unfold maxLen; omega)
  have Jb : Hid (v10.heap.size ≤ hwb ∧ v10.heap.size ≤ v11.heap.size) := ⟨hg1, hb.size⟩
  clear hblk hg1
  replace EX : Hid (X7 v11 w.heap.size m gX 0 (rmy 90 xs)) := EX.out.below hb
  replace EY : Hid (X7 v11 w.heap.size k gY 0 (rmy 91 ys)) := EY.out.below hb
  replace Ea : Hid (EK v11 w.heap.size qa la la ba za) := Ea.out.below hb
  replace Oa : Hid _ := Oa.out.below hb
  replace Eb : Hid (EK v11 w.heap.size qb lb lb bb zb) := Eb.out.below hb
  replace Ob : Hid _ := Ob.out.below hb
  replace Ec : Hid (EK v11 w.heap.size qc lc lc bc za) := Ec.out.below hb
  replace Oc : Hid _ := Oc.out.below hb
  replace Ee : Hid (EK v11 w.heap.size qe le le be zb) := Ee.out.below hb
  replace Oe : Hid _ := Oe.out.below hb
  replace Es : Hid (EK v11 w.heap.size qs ls ls bs zs) := Es.out.below hb
  replace Os : Hid _ := Os.out.below hb
  replace Et : Hid (EK v11 w.heap.size qt lt lt bt zt) := Et.out.below hb
  replace Ot : Hid _ := Ot.out.below hb
  replace Eu : Hid (EK v11 w.heap.size qu lu lu bu zs) := Eu.out.below hb
  replace Ou : Hid _ := Ou.out.below hb
  replace Ev : Hid (EK v11 w.heap.size qv lv lv bv zt) := Ev.out.below hb
  replace Ov : Hid _ := Ov.out.below hb
  replace Ta : Hid _ := Ta.out.below hb
  replace hbw := Below.on hbw hb
  clear hb
  go_wp2_with fail
  refine (twin3_any Os.out (by have := Is.out.2.2; omega)).mono ?_
  rintro e v12 ⟨hws, rfl, hg1, hblk, hb⟩
  have Ts : Hid (At v12 (some ⟨hws, 0, none⟩) ls ls zs) := hblk.at_ Os.out.dig Os.out.len (by have := Is.out.2.2; unfold maxLen; omega)
  have Js : Hid (v11.heap.size ≤ hws ∧ v11.heap.size ≤ v12.heap.size) := ⟨hg1, hb.size⟩
  clear hblk hg1
  replace EX : Hid (X7 v12 w.heap.size m gX 0 (rmy 90 xs)) := EX.out.below hb
  replace EY : Hid (X7 v12 w.heap.size k gY 0 (rmy 91 ys)) := EY.out.below hb
  replace Ea : Hid (EK v12 w.heap.size qa la la ba za) := Ea.out.below hb
  replace Oa : Hid _ := Oa.out.below hb
  replace Eb : Hid (EK v12 w.heap.size qb lb lb bb zb) := Eb.out.below hb
  replace Ob : Hid _ := Ob.out.below hb
  replace Ec : Hid (EK v12 w.heap.size qc lc lc bc za) := Ec.out.below hb
  replace Oc : Hid _ := Oc.out.below hb
  replace Ee : Hid (EK v12 w.heap.size qe le le be zb) := Ee.out.below hb
  replace Oe : Hid _ := Oe.out.below hb
  replace Es : Hid (EK v12 w.heap.size qs ls ls bs zs) := Es.out.below hb
  replace Os : Hid _ := Os.out.below hb
  replace Et : Hid (EK v12 w.heap.size qt lt lt bt zt) := Et.out.below hb
  replace Ot : Hid _ := Ot.out.below hb
  replace Eu : Hid (EK v12 w.heap.size qu lu lu bu zs) := Eu.out.below hb
  replace Ou : Hid _ := Ou.out.below hb
  replace Ev : Hid (EK v12 w.heap.size qv lv lv bv zt) := Ev.out.below hb
  replace Ov : Hid _ := Ov.out.below hb
  replace Ta : Hid _ := Ta.out.below hb
  replace Tb : Hid _ := Tb.out.below hb
  replace hbw := Below.on hbw hb
  clear hb
  go_wp2_with fail
  refine (twin3_any Ot.out (by have := It.out.2.2; omega)).mono ?_
  rintro e v13 ⟨hwt, rfl, hg1, hblk, hb⟩
  have Tt : Hid (At v13 (some ⟨hwt, 0, none⟩) lt lt zt) := hblk.at_ Ot.out.dig Ot.out.len (by have := It.out.2.2; unfold maxLen; omega)
  have Jt : Hid (v12.heap.size ≤ hwt ∧ v12.heap.size ≤ v13.heap.size) := ⟨hg1, hb.size⟩
  clear hblk hg1
  replace EX : Hid (X7 v13 w.heap.size m gX 0 (rmy 90 xs)) := EX.out.below hb
  replace EY : Hid (X7 v13 w.heap.size k gY 0 (rmy 91 ys)) := EY.out.below hb
  replace Ea : Hid (EK v13 w.heap.size qa la la ba za) := Ea.out.below hb
  replace Oa : Hid _ := Oa.out.below hb
  replace Eb : Hid (EK v13 w.heap.size qb lb lb bb zb) := Eb.out.below hb
  replace Ob : Hid _ := Ob.out.below hb
  replace Ec : Hid (EK v13 w.heap.size qc lc lc bc za) := Ec.out.below hb
  replace Oc : Hid _ := Oc.out.below hb
  replace Ee : Hid (EK v13 w.heap.size qe le le be zb) := Ee.out.below hb
  replace Oe : Hid _ := Oe.out.below hb
  replace Es : Hid (EK v13 w.heap.size qs ls ls bs zs) := Es.out.below hb
  replace Os : Hid _ := Os.out.below hb
  replace Et : Hid (EK v13 w.heap.size qt lt lt bt zt) := Et.out.below hb
  replace Ot : Hid _ := Ot.out.below hb
  replace Eu : Hid (EK v13 w.heap.size qu lu lu bu zs) := Eu.out.below hb
  replace Ou : Hid _ := Ou.out.below hb
  replace Ev : Hid (EK v13 w.heap.size qv lv lv bv zt) := Ev.out.below hb
  replace Ov : Hid _ := Ov.out.below hb
  replace Ta : Hid _ := Ta.out.below hb
  replace Tb : Hid _ := Tb.out.below hb
  replace Ts : Hid _ := Ts.out.below hb
  replace hbw := Below.on hbw hb
  clear hb
  go_wp2_with fail
  refine (same_t Oc.out Ta.out).mono ?_
  rintro e v14 ⟨rfl, hb⟩
  have Sv14 : Hid (v13.heap.size ≤ v14.heap.size) := hb.size
  replace EX : Hid (X7 v14 w.heap.size m gX 0 (rmy 90 xs)) := EX.out.below hb
  replace EY : Hid (X7 v14 w.heap.size k gY 0 (rmy 91 ys)) := EY.out.below hb
  replace Ea : Hid (EK v14 w.heap.size qa la la ba za) := Ea.out.below hb
  replace Oa : Hid _ := Oa.out.below hb
  replace Eb : Hid (EK v14 w.heap.size qb lb lb bb zb) := Eb.out.below hb
  replace Ob : Hid _ := Ob.out.below hb
  replace Ec : Hid (EK v14 w.heap.size qc lc lc bc za) := Ec.out.below hb
  replace Oc : Hid _ := Oc.out.below hb
  replace Ee : Hid (EK v14 w.heap.size qe le le be zb) := Ee.out.below hb
  replace Oe : Hid _ := Oe.out.below hb
  replace Es : Hid (EK v14 w.heap.size qs ls ls bs zs) := Es.out.below hb
  replace Os : Hid _ := Os.out.below hb
  replace Et : Hid (EK v14 w.heap.size qt lt lt bt zt) := Et.out.below hb
  replace Ot : Hid _ := Ot.out.below hb
  replace Eu : Hid (EK v14 w.heap.size qu lu lu bu zs) := Eu.out.below hb
  replace Ou : Hid _ := Ou.out.below hb
  replace Ev : Hid (EK v14 w.heap.size qv lv lv bv zt) := Ev.out.below hb
  replace Ov : Hid _ := Ov.out.below hb
  replace Ta : Hid _ := Ta.out.below hb
  replace Tb : Hid _ := Tb.out.below hb
  replace Ts : Hid _ := Ts.out.below hb
  replace Tt : Hid _ := Tt.out.below hb
  replace hbw := Below.on hbw hb
  clear hb
  go_wp2_with fail
  refine (same_t Oe.out Tb.out).mono ?_
  rintro e v15 ⟨rfl, hb⟩
  have Sv15 : Hid (v14.heap.size ≤ v15.heap.size) := hb.size
  replace EX : Hid (X7 v15 w.heap.size m gX 0 (rmy 90 xs)) := EX.out.below hb
  replace EY : Hid (X7 v15 w.heap.size k gY 0 (rmy 91 ys)) := EY.out.below hb
  replace Ea : Hid (EK v15 w.heap.size qa la la ba za) := Ea.out.below hb
  replace Oa : Hid _ := Oa.out.below hb
  replace Eb : Hid (EK v15 w.heap.size qb lb lb bb zb) := Eb.out.below hb
  replace Ob : Hid _ := Ob.out.below hb
  replace Ec : Hid (EK v15 w.heap.size qc lc lc bc za) := Ec.out.below hb
  replace Oc : Hid _ := Oc.out.below hb
  replace Ee : Hid (EK v15 w.heap.size qe le le be zb) := Ee.out.below hb
  replace Oe : Hid _ := Oe.out.below hb
  replace Es : Hid (EK v15 w.heap.size qs ls ls bs zs) := Es.out.below hb
  replace Os : Hid _ := Os.out.below hb
  replace Et : Hid (EK v15 w.heap.size qt lt lt bt zt) := Et.out.below hb
  replace Ot : Hid _ := Ot.out.below hb
  replace Eu : Hid (EK v15 w.heap.size qu lu lu bu zs) := Eu.out.below hb
  replace Ou : Hid _ := Ou.out.below hb
  replace Ev : Hid (EK v15 w.heap.size qv lv lv bv zt) := Ev.out.below hb
  replace Ov : Hid _ := Ov.out.below hb
  replace Ta : Hid _ := Ta.out.below hb
  replace Tb : Hid _ := Tb.out.below hb
  replace Ts : Hid _ := Ts.out.below hb
  replace Tt : Hid _ := Tt.out.below hb
  replace hbw := Below.on hbw hb
  clear hb
  go_wp2_with fail
  refine (same_t Ou.out Ts.out).mono ?_
  rintro e v16 ⟨rfl, hb⟩
  have Sv16 : Hid (v15.heap.size ≤ v16.heap.size) := hb.size
  replace EX : Hid (X7 v16 w.heap.size m gX 0 (rmy 90 xs)) := EX.out.below hb
  replace EY : Hid (X7 v16 w.heap.size k gY 0 (rmy 91 ys)) := EY.out.below hb
  replace Ea : Hid (EK v16 w.heap.size qa la la ba za) := Ea.out.below hb
  replace Oa : Hid _ := Oa.out.below hb
  replace Eb : Hid (EK v16 w.heap.size qb lb lb bb zb) := Eb.out.below hb
  replace Ob : Hid _ := Ob.out.below hb
  replace Ec : Hid (EK v16 w.heap.size qc lc lc bc za) := Ec.out.below hb
  replace Oc : Hid _ := Oc.out.below hb
  replace Ee : Hid (EK v16 w.heap.size qe le le be zb) := Ee.out.below hb
  replace Oe : Hid _ := Oe.out.below hb
  replace Es : Hid (EK v16 w.heap.size qs ls ls bs zs) := Es.out.below hb
  replace Os : Hid _ := Os.out.below hb
  replace Et : Hid (EK v16 w.heap.size qt lt lt bt zt) := Et.out.below hb
  replace Ot : Hid _ := Ot.out.below hb
  replace Eu : Hid (EK v16 w.heap.size qu lu lu bu zs) := Eu.out.below hb
  replace Ou : Hid _ := Ou.out.below hb
  replace Ev : Hid (EK v16 w.heap.size qv lv lv bv zt) := Ev.out.below hb
  replace Ov : Hid _ := Ov.out.below hb
  replace Ta : Hid _ := Ta.out.below hb
  replace Tb : Hid _ := Tb.out.below hb
  replace Ts : Hid _ := Ts.out.below hb
  replace Tt : Hid _ := Tt.out.below hb
  replace hbw := Below.on hbw hb
  clear hb
  go_wp2_with fail
  refine (same_t Ov.out Tt.out).mono ?_
  rintro e v17 ⟨rfl, hb⟩
  have Sv17 : Hid (v16.heap.size ≤ v17.heap.size) := hb.size
  replace EX : Hid (X7 v17 w.heap.size m gX 0 (rmy 90 xs)) := EX.out.below hb
  replace EY : Hid (X7 v17 w.heap.size k gY 0 (rmy 91 ys)) := EY.out.below hb
  replace Ea : Hid (EK v17 w.heap.size qa la la ba za) := Ea.out.below hb
  replace Oa : Hid _ := Oa.out.below hb
  replace Eb : Hid (EK v17 w.heap.size qb lb lb bb zb) := Eb.out.below hb
  replace Ob : Hid _ := Ob.out.below hb
  replace Ec : Hid (EK v17 w.heap.size qc lc lc bc za) := Ec.out.below hb
  replace Oc : Hid _ := Oc.out.below hb
  replace Ee : Hid (EK v17 w.heap.size qe le le be zb) := Ee.out.below hb
  replace Oe : Hid _ := Oe.out.below hb
  replace Es : Hid (EK v17 w.heap.size qs ls ls bs zs) := Es.out.below hb
  replace Os : Hid _ := Os.out.below hb
  replace Et : Hid (EK v17 w.heap.size qt lt lt bt zt) := Et.out.below hb
  replace Ot : Hid _ := Ot.out.below hb
  replace Eu : Hid (EK v17 w.heap.size qu lu lu bu zs) := Eu.out.below hb
  replace Ou : Hid _ := Ou.out.below hb
  replace Ev : Hid (EK v17 w.heap.size qv lv lv bv zt) := Ev.out.below hb
  replace Ov : Hid _ := Ov.out.below hb
  replace Ta : Hid _ := Ta.out.below hb
  replace Tb : Hid _ := Tb.out.below hb
  replace Ts : Hid _ := Ts.out.below hb
  replace Tt : Hid _ := Tt.out.below hb
  replace hbw := Below.on hbw hb
  clear hb
  go_wp2_with fail
  have HSZ : Hid (v2.heap.size ≤ v3.heap.size ∧ v3.heap.size ≤ v4.heap.size ∧ v4.heap.size ≤ v5.heap.size ∧ v5.heap.size ≤ v6.heap.size ∧ v6.heap.size ≤ v7.heap.size ∧ v7.heap.size ≤ v9.heap.size ∧ v9.heap.size ≤ v10.heap.size ∧ v10.heap.size ≤ v11.heap.size ∧ v11.heap.size ≤ v12.heap.size ∧ v12.heap.size ≤ v17.heap.size) := ⟨IY.out.2.2, Ia.out.2.1, Ic.out.2.1, Is.out.2.1, Iu.out.2.1, Nat.le_trans Sv8.out Sv9.out, Ja.out.2, Jb.out.2, Js.out.2, Nat.le_trans Jt.out.2 (Nat.le_trans Sv14.out (Nat.le_trans Sv15.out (Nat.le_trans Sv16.out Sv17.out)))⟩
  clear Sv8 Sv9 Sv14 Sv15 Sv16 Sv17
  clear Oa
  clear Ob
  clear Oc
  clear Oe
  clear Os
  clear Ot
  clear Ou
  clear Ov
  have h00 : v17.heap.size ≤ v17.heap.size := Nat.le_refl _
  go_loopg [25] m (fun gk jv wr => ∃ (j : Nat) (zs : List Nat), j + gk = m ∧ jv = .int .i64 j ∧ X7 wr w.heap.size m gX j zs ∧ Below w.heap.size w wr ∧ v17.heap.size ≤ wr.heap.size ∧ (∀ k, k < v17.heap.size → k ≠ gX → wr.heap[k]? = v17.heap[k]?))
  case atStart => exact ⟨0, _, by omega, rfl, EX.out, hbw, h00, fun _ _ _ => rfl⟩
  case round =>
    clear EX h00 hbw
    obtain ⟨j, zX, hjg, rfl, x1, hb9, x2, x3⟩ := hrel
    have EX : Hid (X7 wr w.heap.size m gX j zX) := x1
    have HKP : Hid (v17.heap.size ≤ wr.heap.size ∧ ∀ k, k < v17.heap.size → k ≠ gX → wr.heap[k]? = v17.heap[k]?) := ⟨x2, x3⟩
    clear x1 x2 x3
    cases gk with
    | succ gj =>
      have HJM : Hid (j < m ∧ j < 17592186044416) := ⟨by omega, by have := AT.out.2.2; omega⟩
      have hjl : (j : Int) < (m : Int) := by omega
      have hj0 : (0 : Int) ≤ (j : Int) ∧ (j : Int) < (m : Int) := by omega
      have wj := wj92 HJM.out.2
      have hrow := own_row3 EX.out.own EX.out.dig
      have hcl := hrow.cell j (by omega)
      have hfr := hrow.frozen j (by omega)
      rw [Nat.zero_add] at hcl hfr
      have HB9 : Hid (Below w.heap.size w wr) := hb9
      clear hrow hb9
      go_wp2_with fail
      refine (mark3_ok 92 j (by decide) (lt92 HJM.out.2)).mono ?_
      rintro e w' ⟨rfl, hw⟩
      obtain rfl := hw.symm
      clear hw
      have HX2 : Hid (X7 (wr.setCell ⟨gX, j, none⟩ (U (mkR 92 j))) w.heap.size m gX (j + 1) (zX.set j (mkR 92 j))) := EX.out.set HJM.out.1 AT.out.2.2
      have HB2 : Hid (Below w.heap.size w (wr.setCell ⟨gX, j, none⟩ (U (mkR 92 j)))) := bSet HB9.out gX j _ (ek_room EX.out.own EX.out.dig AT.out.2.2).ge
      have HK2 : Hid (v17.heap.size ≤ (wr.setCell ⟨gX, j, none⟩ (U (mkR 92 j))).heap.size ∧ ∀ k, k < v17.heap.size → k ≠ gX → (wr.setCell ⟨gX, j, none⟩ (U (mkR 92 j))).heap[k]? = v17.heap[k]?) := ⟨by rw [World.size_setCell]; exact HKP.out.1, fun k hk hne => (Below.heap_setCell wr _ _ k hne).trans (HKP.out.2 k hk hne)⟩
      go_wp2_with fail
      go_roundg gj
      case measure => omega
      case rel => exact ⟨j + 1, _, by omega, by go_num, HX2.out, HB2.out, HK2.out.1, HK2.out.2⟩
    | zero =>
      obtain rfl : m = j := by omega
      have hnk : ¬ ((m : Nat) : Int) < ((m : Nat) : Int) := by omega
      have Ea' : Hid (EK wr w.heap.size qa la la ba za) := Ea.out.keepB (fun hc => HKP.out.2 ba (Ea.out.lt hc) (by have := Ia.out.1 hc; have := IX.out; have := HSZ.out; omega))
      clear Ea
      have Ea := Ea'
      clear Ea'
      have Eb' : Hid (EK wr w.heap.size qb lb lb bb zb) := Eb.out.keepB (fun hc => HKP.out.2 bb (Eb.out.lt hc) (by have := Ib.out.1 hc; have := IX.out; have := HSZ.out; omega))
      clear Eb
      have Eb := Eb'
      clear Eb'
      have Ec' : Hid (EK wr w.heap.size qc lc lc bc za) := Ec.out.keepB (fun hc => HKP.out.2 bc (Ec.out.lt hc) (by have := Ic.out.1 hc; have := IX.out; have := HSZ.out; omega))
      clear Ec
      have Ec := Ec'
      clear Ec'
      have Ee' : Hid (EK wr w.heap.size qe le le be zb) := Ee.out.keepB (fun hc => HKP.out.2 be (Ee.out.lt hc) (by have := Ie.out.1 hc; have := IX.out; have := HSZ.out; omega))
      clear Ee
      have Ee := Ee'
      clear Ee'
      have Es' : Hid (EK wr w.heap.size qs ls ls bs zs) := Es.out.keepB (fun hc => HKP.out.2 bs (Es.out.lt hc) (by have := Is.out.1 hc; have := IX.out; have := HSZ.out; omega))
      clear Es
      have Es := Es'
      clear Es'
      have Et' : Hid (EK wr w.heap.size qt lt lt bt zt) := Et.out.keepB (fun hc => HKP.out.2 bt (Et.out.lt hc) (by have := It.out.1 hc; have := IX.out; have := HSZ.out; omega))
      clear Et
      have Et := Et'
      clear Et'
      have Eu' : Hid (EK wr w.heap.size qu lu lu bu zs) := Eu.out.keepB (fun hc => HKP.out.2 bu (Eu.out.lt hc) (by have := Iu.out.1 hc; have := IX.out; have := HSZ.out; omega))
      clear Eu
      have Eu := Eu'
      clear Eu'
      have Ev' : Hid (EK wr w.heap.size qv lv lv bv zt) := Ev.out.keepB (fun hc => HKP.out.2 bv (Ev.out.lt hc) (by have := Iv.out.1 hc; have := IX.out; have := HSZ.out; omega))
      clear Ev
      have Ev := Ev'
      clear Ev'
      have Ta' : Hid (At wr (some ⟨hwa, 0, none⟩) la la za) := at_keep8 Ta.out (fun hc => HKP.out.2 hwa (at_lt8 Ta.out hc) (by have := Ja.out.1; have := IX.out; have := HSZ.out; omega))
      clear Ta
      have Ta := Ta'
      clear Ta'
      have Tb' : Hid (At wr (some ⟨hwb, 0, none⟩) lb lb zb) := at_keep8 Tb.out (fun hc => HKP.out.2 hwb (at_lt8 Tb.out hc) (by have := Jb.out.1; have := IX.out; have := HSZ.out; omega))
      clear Tb
      have Tb := Tb'
      clear Tb'
      have Ts' : Hid (At wr (some ⟨hws, 0, none⟩) ls ls zs) := at_keep8 Ts.out (fun hc => HKP.out.2 hws (at_lt8 Ts.out hc) (by have := Js.out.1; have := IX.out; have := HSZ.out; omega))
      clear Ts
      have Ts := Ts'
      clear Ts'
      have Tt' : Hid (At wr (some ⟨hwt, 0, none⟩) lt lt zt) := at_keep8 Tt.out (fun hc => HKP.out.2 hwt (at_lt8 Tt.out hc) (by have := Jt.out.1; have := IX.out; have := HSZ.out; omega))
      clear Tt
      have Tt := Tt'
      clear Tt'
      have EY' : Hid (X7 wr w.heap.size k gY 0 (rmy 91 ys)) := EY.out.keep8 (HKP.out.2 gY (own_blt EY.out.own) (by have := IY.out; have := IX.out; omega))
      clear EY
      have EY := EY'
      clear EY'
      have HS2 : Hid (v17.heap.size ≤ wr.heap.size) := HKP.out.1
      have hbw := hb9
      clear hb9 HKP
      go_wp2_with fail
      clear hnk hjg
      refine (twin3_any (own_at7 EX.out.own EX.out.dig AT.out.2.2) (by have := AT.out.2.2; omega)).mono ?_
      rintro e v18 ⟨hwg, rfl, hg1, hblk, hb⟩
      have HDX : Hid (Dig B64 (zX.take m) ∧ (zX.take m).length = m) := ⟨fun x hx => EX.out.dig x (List.mem_of_mem_take hx), by rw [List.length_take, EX.out.len]; omega⟩
      have TG : Hid (At v18 (some ⟨hwg, 0, none⟩) m m (zX.take m)) := hblk.at_ HDX.out.1 HDX.out.2 (by have := AT.out.2.2; unfold maxLen; omega)
      have S18 : Hid (wr.heap.size ≤ v18.heap.size) := hb.size
      have nz := formB_nf (EX.out.top8 HX.out.2) HDX.out.1
      obtain ⟨A2, eA2⟩ : ∃ A2, A2 = valB B64 (zX.take m) := ⟨_, rfl⟩
      rw [← eA2] at nz
      have HZ : Hid (Nf B64 (zX.take m) A2 ∧ m ≤ 8192) := ⟨nz.1, HX.out.2⟩
      clear hblk hg1 nz eA2 HDX
      replace EX : Hid (X7 v18 w.heap.size m gX m zX) := EX.out.below hb
      replace EY : Hid (X7 v18 w.heap.size k gY 0 (rmy 91 ys)) := EY.out.below hb
      replace Ea : Hid (EK v18 w.heap.size qa la la ba za) := Ea.out.below hb
      replace Eb : Hid (EK v18 w.heap.size qb lb lb bb zb) := Eb.out.below hb
      replace Ec : Hid (EK v18 w.heap.size qc lc lc bc za) := Ec.out.below hb
      replace Ee : Hid (EK v18 w.heap.size qe le le be zb) := Ee.out.below hb
      replace Es : Hid (EK v18 w.heap.size qs ls ls bs zs) := Es.out.below hb
      replace Et : Hid (EK v18 w.heap.size qt lt lt bt zt) := Et.out.below hb
      replace Eu : Hid (EK v18 w.heap.size qu lu lu bu zs) := Eu.out.below hb
      replace Ev : Hid (EK v18 w.heap.size qv lv lv bv zt) := Ev.out.below hb
      replace Ta : Hid _ := Ta.out.below hb
      replace Tb : Hid _ := Tb.out.below hb
      replace Ts : Hid _ := Ts.out.below hb
      replace Tt : Hid _ := Tt.out.below hb
      replace hbw := Below.on hbw hb
      clear hb
      go_wp2_with fail
      refine (quorem_any (own_at7 EX.out.own EX.out.dig AT.out.2.2) (by have h9 := own_at7 EY.out.own EY.out.dig AY.out.2.2; rw [show (rmy 91 ys).take k = ys from by rw [← AY.out.1.len]; exact rmy_take 91 ys] at h9; exact h9) HZ.out.1 HY.out.1 HZ.out.2 HY.out.2 HD0.out).mono ?_
      rintro e v19 ⟨x1, x2, rfl, hD⟩
      obtain ⟨qf1, lf1, zf1, rfl, o1, n1, g1⟩ := hD.quo
      obtain ⟨qf2, lf2, zf2, rfl, o2, n2, g2⟩ := hD.rem
      have hb := hD.bel
      have hap := hD.ap
      have Nf1 : Hid (Nf B64 zf1 (A2 / D)) := n1
      have Nf2 : Hid (Nf B64 zf2 (A2 % D)) := n2
      clear hD n1 n2
      obtain ⟨bf1, hEf1, hIf1⟩ := ek_own o1 (hbw.size : w.heap.size ≤ v18.heap.size) g1
      have If1 : Hid ((lf1 ≠ 0 → v18.heap.size ≤ bf1 ∧ bf1 < v19.heap.size) ∧ v18.heap.size ≤ v19.heap.size ∧ lf1 ≤ 8192) := ⟨hIf1, hb.size, g1⟩
      have Of1 : Hid (At v19 qf1 lf1 lf1 zf1) := o1.at_ g1
      obtain ⟨bf2, hEf2, hIf2⟩ := ek_own o2 (hbw.size : w.heap.size ≤ v18.heap.size) g2
      have If2 : Hid ((lf2 ≠ 0 → v18.heap.size ≤ bf2 ∧ bf2 < v19.heap.size) ∧ v18.heap.size ≤ v19.heap.size ∧ lf2 ≤ 8192) := ⟨hIf2, hb.size, g2⟩
      have Of2 : Hid (At v19 qf2 lf2 lf2 zf2) := o2.at_ g2
      have Pf1 : Hid (lf1 ≠ 0 → lf2 ≠ 0 → bf1 ≠ bf2) := ap_ek hap hEf1 hEf2
      have Ef1 : Hid (EK v19 w.heap.size qf1 lf1 lf1 bf1 zf1) := hEf1
      clear hEf1 hIf1
      have Ef2 : Hid (EK v19 w.heap.size qf2 lf2 lf2 bf2 zf2) := hEf2
      clear hEf2 hIf2
      clear o1 o2 g1 g2 hap
      replace EX : Hid (X7 v19 w.heap.size m gX m zX) := EX.out.below hb
      replace EY : Hid (X7 v19 w.heap.size k gY 0 (rmy 91 ys)) := EY.out.below hb
      replace Ea : Hid (EK v19 w.heap.size qa la la ba za) := Ea.out.below hb
      replace Eb : Hid (EK v19 w.heap.size qb lb lb bb zb) := Eb.out.below hb
      replace Ec : Hid (EK v19 w.heap.size qc lc lc bc za) := Ec.out.below hb
      replace Ee : Hid (EK v19 w.heap.size qe le le be zb) := Ee.out.below hb
      replace Es : Hid (EK v19 w.heap.size qs ls ls bs zs) := Es.out.below hb
      replace Et : Hid (EK v19 w.heap.size qt lt lt bt zt) := Et.out.below hb
      replace Eu : Hid (EK v19 w.heap.size qu lu lu bu zs) := Eu.out.below hb
      replace Ev : Hid (EK v19 w.heap.size qv lv lv bv zt) := Ev.out.below hb
      replace Ta : Hid _ := Ta.out.below hb
      replace Tb : Hid _ := Tb.out.below hb
      replace Ts : Hid _ := Ts.out.below hb
      replace Tt : Hid _ := Tt.out.below hb
      replace TG : Hid _ := TG.out.below hb
      replace hbw := Below.on hbw hb
      clear hb
      go_wp2_with fail
      refine (root_any (⟨(own_at7 EX.out.own EX.out.dig AT.out.2.2), HZ.out.1, HZ.out.2⟩ : Num _ _ _ _ _ _)).mono ?_
      rintro e v20 ⟨x1, x2, rfl, hD⟩
      obtain ⟨rf3, qf3, lf3, zf3, qf4, lf4, zf4, s1, s2, rfl, o1, n1, g1, rfl, o2, n2, g2⟩ := hD.val
      have hb := hD.bel
      have hap := hD.ap
      have Nf3 : Hid (rf3 * rf3 ≤ A2 ∧ A2 ≤ rf3 * rf3 + 2 * rf3 ∧ Nf B64 zf3 rf3) := ⟨s1, s2, n1⟩
      have Nf4 : Hid (Nf B64 zf4 (A2 - rf3 * rf3)) := n2
      clear hD n1 n2 s1 s2
      obtain ⟨bf3, hEf3, hIf3⟩ := ek_own o1 (hbw.size : w.heap.size ≤ v19.heap.size) g1
      have If3 : Hid ((lf3 ≠ 0 → v19.heap.size ≤ bf3 ∧ bf3 < v20.heap.size) ∧ v19.heap.size ≤ v20.heap.size ∧ lf3 ≤ 8192) := ⟨hIf3, hb.size, g1⟩
      have Of3 : Hid (At v20 qf3 lf3 lf3 zf3) := o1.at_ g1
      obtain ⟨bf4, hEf4, hIf4⟩ := ek_own o2 (hbw.size : w.heap.size ≤ v19.heap.size) g2
      have If4 : Hid ((lf4 ≠ 0 → v19.heap.size ≤ bf4 ∧ bf4 < v20.heap.size) ∧ v19.heap.size ≤ v20.heap.size ∧ lf4 ≤ 8192) := ⟨hIf4, hb.size, g2⟩
      have Of4 : Hid (At v20 qf4 lf4 lf4 zf4) := o2.at_ g2
      have Pf3 : Hid (lf3 ≠ 0 → lf4 ≠ 0 → bf3 ≠ bf4) := ap_ek hap hEf3 hEf4
      have Ef3 : Hid (EK v20 w.heap.size qf3 lf3 lf3 bf3 zf3) := hEf3
      clear hEf3 hIf3
      have Ef4 : Hid (EK v20 w.heap.size qf4 lf4 lf4 bf4 zf4) := hEf4
      clear hEf4 hIf4
      clear o1 o2 g1 g2 hap
      replace EX : Hid (X7 v20 w.heap.size m gX m zX) := EX.out.below hb
      replace EY : Hid (X7 v20 w.heap.size k gY 0 (rmy 91 ys)) := EY.out.below hb
      replace Ea : Hid (EK v20 w.heap.size qa la la ba za) := Ea.out.below hb
      replace Eb : Hid (EK v20 w.heap.size qb lb lb bb zb) := Eb.out.below hb
      replace Ec : Hid (EK v20 w.heap.size qc lc lc bc za) := Ec.out.below hb
      replace Ee : Hid (EK v20 w.heap.size qe le le be zb) := Ee.out.below hb
      replace Es : Hid (EK v20 w.heap.size qs ls ls bs zs) := Es.out.below hb
      replace Et : Hid (EK v20 w.heap.size qt lt lt bt zt) := Et.out.below hb
      replace Eu : Hid (EK v20 w.heap.size qu lu lu bu zs) := Eu.out.below hb
      replace Ev : Hid (EK v20 w.heap.size qv lv lv bv zt) := Ev.out.below hb
      replace Ta : Hid _ := Ta.out.below hb
      replace Tb : Hid _ := Tb.out.below hb
      replace Ts : Hid _ := Ts.out.below hb
      replace Tt : Hid _ := Tt.out.below hb
      replace TG : Hid _ := TG.out.below hb
      replace Ef1 : Hid (EK v20 w.heap.size qf1 lf1 lf1 bf1 zf1) := Ef1.out.below hb
      replace Of1 : Hid _ := Of1.out.below hb
      replace Ef2 : Hid (EK v20 w.heap.size qf2 lf2 lf2 bf2 zf2) := Ef2.out.below hb
      replace Of2 : Hid _ := Of2.out.below hb
      replace hbw := Below.on hbw hb
      clear hb
      go_wp2_with fail
      refine (from8 Of3.out Nf3.out.2.2 If3.out.2.2).mono ?_
      rintro e v21 ⟨r21, t21, y21, rfl, hA, hN, hL, hb⟩
      have Fz : Hid (At32 v21 r21 t21 t21 y21) := hA
      have Fzn : Hid (Nf B32 y21 (rf3) ∧ t21 ≤ 16384) := ⟨hN, hL⟩
      clear hA hN hL
      replace EX : Hid (X7 v21 w.heap.size m gX m zX) := EX.out.below hb
      replace EY : Hid (X7 v21 w.heap.size k gY 0 (rmy 91 ys)) := EY.out.below hb
      replace Ea : Hid (EK v21 w.heap.size qa la la ba za) := Ea.out.below hb
      replace Eb : Hid (EK v21 w.heap.size qb lb lb bb zb) := Eb.out.below hb
      replace Ec : Hid (EK v21 w.heap.size qc lc lc bc za) := Ec.out.below hb
      replace Ee : Hid (EK v21 w.heap.size qe le le be zb) := Ee.out.below hb
      replace Es : Hid (EK v21 w.heap.size qs ls ls bs zs) := Es.out.below hb
      replace Et : Hid (EK v21 w.heap.size qt lt lt bt zt) := Et.out.below hb
      replace Eu : Hid (EK v21 w.heap.size qu lu lu bu zs) := Eu.out.below hb
      replace Ev : Hid (EK v21 w.heap.size qv lv lv bv zt) := Ev.out.below hb
      replace Ta : Hid _ := Ta.out.below hb
      replace Tb : Hid _ := Tb.out.below hb
      replace Ts : Hid _ := Ts.out.below hb
      replace Tt : Hid _ := Tt.out.below hb
      replace TG : Hid _ := TG.out.below hb
      replace Ef1 : Hid (EK v21 w.heap.size qf1 lf1 lf1 bf1 zf1) := Ef1.out.below hb
      replace Of1 : Hid _ := Of1.out.below hb
      replace Ef2 : Hid (EK v21 w.heap.size qf2 lf2 lf2 bf2 zf2) := Ef2.out.below hb
      replace Of2 : Hid _ := Of2.out.below hb
      replace Ef3 : Hid (EK v21 w.heap.size qf3 lf3 lf3 bf3 zf3) := Ef3.out.below hb
      replace Of3 : Hid _ := Of3.out.below hb
      replace Ef4 : Hid (EK v21 w.heap.size qf4 lf4 lf4 bf4 zf4) := Ef4.out.below hb
      replace Of4 : Hid _ := Of4.out.below hb
      replace hbw := Below.on hbw hb
      clear hb
      go_wp2_with fail
      refine (same_t (own_at7 EX.out.own EX.out.dig AT.out.2.2) TG.out).mono ?_
      rintro e v22 ⟨rfl, hb⟩
      replace EX : Hid (X7 v22 w.heap.size m gX m zX) := EX.out.below hb
      replace EY : Hid (X7 v22 w.heap.size k gY 0 (rmy 91 ys)) := EY.out.below hb
      replace Ea : Hid (EK v22 w.heap.size qa la la ba za) := Ea.out.below hb
      replace Eb : Hid (EK v22 w.heap.size qb lb lb bb zb) := Eb.out.below hb
      replace Ec : Hid (EK v22 w.heap.size qc lc lc bc za) := Ec.out.below hb
      replace Ee : Hid (EK v22 w.heap.size qe le le be zb) := Ee.out.below hb
      replace Es : Hid (EK v22 w.heap.size qs ls ls bs zs) := Es.out.below hb
      replace Et : Hid (EK v22 w.heap.size qt lt lt bt zt) := Et.out.below hb
      replace Eu : Hid (EK v22 w.heap.size qu lu lu bu zs) := Eu.out.below hb
      replace Ev : Hid (EK v22 w.heap.size qv lv lv bv zt) := Ev.out.below hb
      replace Ta : Hid _ := Ta.out.below hb
      replace Tb : Hid _ := Tb.out.below hb
      replace Ts : Hid _ := Ts.out.below hb
      replace Tt : Hid _ := Tt.out.below hb
      replace TG : Hid _ := TG.out.below hb
      replace Ef1 : Hid (EK v22 w.heap.size qf1 lf1 lf1 bf1 zf1) := Ef1.out.below hb
      replace Of1 : Hid _ := Of1.out.below hb
      replace Ef2 : Hid (EK v22 w.heap.size qf2 lf2 lf2 bf2 zf2) := Ef2.out.below hb
      replace Of2 : Hid _ := Of2.out.below hb
      replace Ef3 : Hid (EK v22 w.heap.size qf3 lf3 lf3 bf3 zf3) := Ef3.out.below hb
      replace Of3 : Hid _ := Of3.out.below hb
      replace Ef4 : Hid (EK v22 w.heap.size qf4 lf4 lf4 bf4 zf4) := Ef4.out.below hb
      replace Of4 : Hid _ := Of4.out.below hb
      replace Fz : Hid _ := Fz.out.below hb
      replace hbw := Below.on hbw hb
      clear hb
      go_wp2_with fail
      refine (from8 Of1.out Nf1.out If1.out.2.2).mono ?_
      rintro e v23 ⟨r23, t23, y23, rfl, hA, hN, hL, hb⟩
      have FQ : Hid (At32 v23 r23 t23 t23 y23) := hA
      have FQn : Hid (Nf B32 y23 (A2 / D) ∧ t23 ≤ 16384) := ⟨hN, hL⟩
      clear hA hN hL
      replace EX : Hid (X7 v23 w.heap.size m gX m zX) := EX.out.below hb
      replace EY : Hid (X7 v23 w.heap.size k gY 0 (rmy 91 ys)) := EY.out.below hb
      replace Ea : Hid (EK v23 w.heap.size qa la la ba za) := Ea.out.below hb
      replace Eb : Hid (EK v23 w.heap.size qb lb lb bb zb) := Eb.out.below hb
      replace Ec : Hid (EK v23 w.heap.size qc lc lc bc za) := Ec.out.below hb
      replace Ee : Hid (EK v23 w.heap.size qe le le be zb) := Ee.out.below hb
      replace Es : Hid (EK v23 w.heap.size qs ls ls bs zs) := Es.out.below hb
      replace Et : Hid (EK v23 w.heap.size qt lt lt bt zt) := Et.out.below hb
      replace Eu : Hid (EK v23 w.heap.size qu lu lu bu zs) := Eu.out.below hb
      replace Ev : Hid (EK v23 w.heap.size qv lv lv bv zt) := Ev.out.below hb
      replace Ta : Hid _ := Ta.out.below hb
      replace Tb : Hid _ := Tb.out.below hb
      replace Ts : Hid _ := Ts.out.below hb
      replace Tt : Hid _ := Tt.out.below hb
      replace TG : Hid _ := TG.out.below hb
      replace Ef1 : Hid (EK v23 w.heap.size qf1 lf1 lf1 bf1 zf1) := Ef1.out.below hb
      replace Of1 : Hid _ := Of1.out.below hb
      replace Ef2 : Hid (EK v23 w.heap.size qf2 lf2 lf2 bf2 zf2) := Ef2.out.below hb
      replace Of2 : Hid _ := Of2.out.below hb
      replace Ef3 : Hid (EK v23 w.heap.size qf3 lf3 lf3 bf3 zf3) := Ef3.out.below hb
      replace Of3 : Hid _ := Of3.out.below hb
      replace Ef4 : Hid (EK v23 w.heap.size qf4 lf4 lf4 bf4 zf4) := Ef4.out.below hb
      replace Of4 : Hid _ := Of4.out.below hb
      replace Fz : Hid _ := Fz.out.below hb
      replace hbw := Below.on hbw hb
      clear hb
      go_wp2_with fail
      refine (from8 (AY.out.1.below hbw) HY.out.1 HY.out.2).mono ?_
      rintro e v24 ⟨r24, t24, y24, rfl, hA, hN, hL, hb⟩
      have FB : Hid (At32 v24 r24 t24 t24 y24) := hA
      have FBn : Hid (Nf B32 y24 (D) ∧ t24 ≤ 16384) := ⟨hN, hL⟩
      clear hA hN hL
      replace EX : Hid (X7 v24 w.heap.size m gX m zX) := EX.out.below hb
      replace EY : Hid (X7 v24 w.heap.size k gY 0 (rmy 91 ys)) := EY.out.below hb
      replace Ea : Hid (EK v24 w.heap.size qa la la ba za) := Ea.out.below hb
      replace Eb : Hid (EK v24 w.heap.size qb lb lb bb zb) := Eb.out.below hb
      replace Ec : Hid (EK v24 w.heap.size qc lc lc bc za) := Ec.out.below hb
      replace Ee : Hid (EK v24 w.heap.size qe le le be zb) := Ee.out.below hb
      replace Es : Hid (EK v24 w.heap.size qs ls ls bs zs) := Es.out.below hb
      replace Et : Hid (EK v24 w.heap.size qt lt lt bt zt) := Et.out.below hb
      replace Eu : Hid (EK v24 w.heap.size qu lu lu bu zs) := Eu.out.below hb
      replace Ev : Hid (EK v24 w.heap.size qv lv lv bv zt) := Ev.out.below hb
      replace Ta : Hid _ := Ta.out.below hb
      replace Tb : Hid _ := Tb.out.below hb
      replace Ts : Hid _ := Ts.out.below hb
      replace Tt : Hid _ := Tt.out.below hb
      replace TG : Hid _ := TG.out.below hb
      replace Ef1 : Hid (EK v24 w.heap.size qf1 lf1 lf1 bf1 zf1) := Ef1.out.below hb
      replace Of1 : Hid _ := Of1.out.below hb
      replace Ef2 : Hid (EK v24 w.heap.size qf2 lf2 lf2 bf2 zf2) := Ef2.out.below hb
      replace Of2 : Hid _ := Of2.out.below hb
      replace Ef3 : Hid (EK v24 w.heap.size qf3 lf3 lf3 bf3 zf3) := Ef3.out.below hb
      replace Of3 : Hid _ := Of3.out.below hb
      replace Ef4 : Hid (EK v24 w.heap.size qf4 lf4 lf4 bf4 zf4) := Ef4.out.below hb
      replace Of4 : Hid _ := Of4.out.below hb
      replace Fz : Hid _ := Fz.out.below hb
      replace FQ : Hid _ := FQ.out.below hb
      replace hbw := Below.on hbw hb
      clear hb
      go_wp2_with fail
      refine (rmul_any FQ.out FB.out FQn.out.1 FBn.out.1 (by have := FQn.out.2; omega) (by have := FBn.out.2; omega)).mono ?_
      rintro e v25 ⟨r25, t25, y25, rfl, hA, hN, hL, hb⟩
      have MU : Hid (At32 v25 r25 t25 t25 y25) := hA
      have MUn : Hid (Nf B32 y25 (A2 / D * D) ∧ t25 ≤ 32768) := ⟨hN, by have := FQn.out.2; have := FBn.out.2; omega⟩
      clear hA hN hL
      replace EX : Hid (X7 v25 w.heap.size m gX m zX) := EX.out.below hb
      replace EY : Hid (X7 v25 w.heap.size k gY 0 (rmy 91 ys)) := EY.out.below hb
      replace Ea : Hid (EK v25 w.heap.size qa la la ba za) := Ea.out.below hb
      replace Eb : Hid (EK v25 w.heap.size qb lb lb bb zb) := Eb.out.below hb
      replace Ec : Hid (EK v25 w.heap.size qc lc lc bc za) := Ec.out.below hb
      replace Ee : Hid (EK v25 w.heap.size qe le le be zb) := Ee.out.below hb
      replace Es : Hid (EK v25 w.heap.size qs ls ls bs zs) := Es.out.below hb
      replace Et : Hid (EK v25 w.heap.size qt lt lt bt zt) := Et.out.below hb
      replace Eu : Hid (EK v25 w.heap.size qu lu lu bu zs) := Eu.out.below hb
      replace Ev : Hid (EK v25 w.heap.size qv lv lv bv zt) := Ev.out.below hb
      replace Ta : Hid _ := Ta.out.below hb
      replace Tb : Hid _ := Tb.out.below hb
      replace Ts : Hid _ := Ts.out.below hb
      replace Tt : Hid _ := Tt.out.below hb
      replace TG : Hid _ := TG.out.below hb
      replace Ef1 : Hid (EK v25 w.heap.size qf1 lf1 lf1 bf1 zf1) := Ef1.out.below hb
      replace Of1 : Hid _ := Of1.out.below hb
      replace Ef2 : Hid (EK v25 w.heap.size qf2 lf2 lf2 bf2 zf2) := Ef2.out.below hb
      replace Of2 : Hid _ := Of2.out.below hb
      replace Ef3 : Hid (EK v25 w.heap.size qf3 lf3 lf3 bf3 zf3) := Ef3.out.below hb
      replace Of3 : Hid _ := Of3.out.below hb
      replace Ef4 : Hid (EK v25 w.heap.size qf4 lf4 lf4 bf4 zf4) := Ef4.out.below hb
      replace Of4 : Hid _ := Of4.out.below hb
      replace Fz : Hid _ := Fz.out.below hb
      replace FQ : Hid _ := FQ.out.below hb
      replace FB : Hid _ := FB.out.below hb
      replace hbw := Below.on hbw hb
      clear hb
      clear FQ
      clear FB
      clear FQn FBn
      go_wp2_with fail
      refine (from8 Of2.out Nf2.out If2.out.2.2).mono ?_
      rintro e v26 ⟨r26, t26, y26, rfl, hA, hN, hL, hb⟩
      have FR : Hid (At32 v26 r26 t26 t26 y26) := hA
      have FRn : Hid (Nf B32 y26 (A2 % D) ∧ t26 ≤ 16384) := ⟨hN, hL⟩
      clear hA hN hL
      replace EX : Hid (X7 v26 w.heap.size m gX m zX) := EX.out.below hb
      replace EY : Hid (X7 v26 w.heap.size k gY 0 (rmy 91 ys)) := EY.out.below hb
      replace Ea : Hid (EK v26 w.heap.size qa la la ba za) := Ea.out.below hb
      replace Eb : Hid (EK v26 w.heap.size qb lb lb bb zb) := Eb.out.below hb
      replace Ec : Hid (EK v26 w.heap.size qc lc lc bc za) := Ec.out.below hb
      replace Ee : Hid (EK v26 w.heap.size qe le le be zb) := Ee.out.below hb
      replace Es : Hid (EK v26 w.heap.size qs ls ls bs zs) := Es.out.below hb
      replace Et : Hid (EK v26 w.heap.size qt lt lt bt zt) := Et.out.below hb
      replace Eu : Hid (EK v26 w.heap.size qu lu lu bu zs) := Eu.out.below hb
      replace Ev : Hid (EK v26 w.heap.size qv lv lv bv zt) := Ev.out.below hb
      replace Ta : Hid _ := Ta.out.below hb
      replace Tb : Hid _ := Tb.out.below hb
      replace Ts : Hid _ := Ts.out.below hb
      replace Tt : Hid _ := Tt.out.below hb
      replace TG : Hid _ := TG.out.below hb
      replace Ef1 : Hid (EK v26 w.heap.size qf1 lf1 lf1 bf1 zf1) := Ef1.out.below hb
      replace Of1 : Hid _ := Of1.out.below hb
      replace Ef2 : Hid (EK v26 w.heap.size qf2 lf2 lf2 bf2 zf2) := Ef2.out.below hb
      replace Of2 : Hid _ := Of2.out.below hb
      replace Ef3 : Hid (EK v26 w.heap.size qf3 lf3 lf3 bf3 zf3) := Ef3.out.below hb
      replace Of3 : Hid _ := Of3.out.below hb
      replace Ef4 : Hid (EK v26 w.heap.size qf4 lf4 lf4 bf4 zf4) := Ef4.out.below hb
      replace Of4 : Hid _ := Of4.out.below hb
      replace Fz : Hid _ := Fz.out.below hb
      replace MU : Hid _ := MU.out.below hb
      replace hbw := Below.on hbw hb
      clear hb
      go_wp2_with fail
      refine (radd_any MU.out FR.out MUn.out.1 FRn.out.1 (by have := MUn.out.2; omega) (by have := FRn.out.2; omega)).mono ?_
      rintro e v27 ⟨r27, t27, y27, rfl, hA, hN, hb⟩
      have SU : Hid (At32 v27 r27 t27 t27 y27) := hA
      have SUn : Hid (Nf B32 y27 (A2 / D * D + A2 % D)) := hN
      clear hA hN
      replace EX : Hid (X7 v27 w.heap.size m gX m zX) := EX.out.below hb
      replace EY : Hid (X7 v27 w.heap.size k gY 0 (rmy 91 ys)) := EY.out.below hb
      replace Ea : Hid (EK v27 w.heap.size qa la la ba za) := Ea.out.below hb
      replace Eb : Hid (EK v27 w.heap.size qb lb lb bb zb) := Eb.out.below hb
      replace Ec : Hid (EK v27 w.heap.size qc lc lc bc za) := Ec.out.below hb
      replace Ee : Hid (EK v27 w.heap.size qe le le be zb) := Ee.out.below hb
      replace Es : Hid (EK v27 w.heap.size qs ls ls bs zs) := Es.out.below hb
      replace Et : Hid (EK v27 w.heap.size qt lt lt bt zt) := Et.out.below hb
      replace Eu : Hid (EK v27 w.heap.size qu lu lu bu zs) := Eu.out.below hb
      replace Ev : Hid (EK v27 w.heap.size qv lv lv bv zt) := Ev.out.below hb
      replace Ta : Hid _ := Ta.out.below hb
      replace Tb : Hid _ := Tb.out.below hb
      replace Ts : Hid _ := Ts.out.below hb
      replace Tt : Hid _ := Tt.out.below hb
      replace TG : Hid _ := TG.out.below hb
      replace Ef1 : Hid (EK v27 w.heap.size qf1 lf1 lf1 bf1 zf1) := Ef1.out.below hb
      replace Of1 : Hid _ := Of1.out.below hb
      replace Ef2 : Hid (EK v27 w.heap.size qf2 lf2 lf2 bf2 zf2) := Ef2.out.below hb
      replace Of2 : Hid _ := Of2.out.below hb
      replace Ef3 : Hid (EK v27 w.heap.size qf3 lf3 lf3 bf3 zf3) := Ef3.out.below hb
      replace Of3 : Hid _ := Of3.out.below hb
      replace Ef4 : Hid (EK v27 w.heap.size qf4 lf4 lf4 bf4 zf4) := Ef4.out.below hb
      replace Of4 : Hid _ := Of4.out.below hb
      replace Fz : Hid _ := Fz.out.below hb
      replace MU : Hid _ := MU.out.below hb
      replace FR : Hid _ := FR.out.below hb
      replace hbw := Below.on hbw hb
      clear hb
      clear MU
      clear FR
      clear MUn FRn
      go_wp2_with fail
      refine (from8 TG.out HZ.out.1 HZ.out.2).mono ?_
      rintro e v28 ⟨r28, t28, y28, rfl, hA, hN, hL, hb⟩
      have FA : Hid (At32 v28 r28 t28 t28 y28) := hA
      have FAn : Hid (Nf B32 y28 (A2) ∧ t28 ≤ 16384) := ⟨hN, hL⟩
      clear hA hN hL
      replace EX : Hid (X7 v28 w.heap.size m gX m zX) := EX.out.below hb
      replace EY : Hid (X7 v28 w.heap.size k gY 0 (rmy 91 ys)) := EY.out.below hb
      replace Ea : Hid (EK v28 w.heap.size qa la la ba za) := Ea.out.below hb
      replace Eb : Hid (EK v28 w.heap.size qb lb lb bb zb) := Eb.out.below hb
      replace Ec : Hid (EK v28 w.heap.size qc lc lc bc za) := Ec.out.below hb
      replace Ee : Hid (EK v28 w.heap.size qe le le be zb) := Ee.out.below hb
      replace Es : Hid (EK v28 w.heap.size qs ls ls bs zs) := Es.out.below hb
      replace Et : Hid (EK v28 w.heap.size qt lt lt bt zt) := Et.out.below hb
      replace Eu : Hid (EK v28 w.heap.size qu lu lu bu zs) := Eu.out.below hb
      replace Ev : Hid (EK v28 w.heap.size qv lv lv bv zt) := Ev.out.below hb
      replace Ta : Hid _ := Ta.out.below hb
      replace Tb : Hid _ := Tb.out.below hb
      replace Ts : Hid _ := Ts.out.below hb
      replace Tt : Hid _ := Tt.out.below hb
      replace TG : Hid _ := TG.out.below hb
      replace Ef1 : Hid (EK v28 w.heap.size qf1 lf1 lf1 bf1 zf1) := Ef1.out.below hb
      replace Of1 : Hid _ := Of1.out.below hb
      replace Ef2 : Hid (EK v28 w.heap.size qf2 lf2 lf2 bf2 zf2) := Ef2.out.below hb
      replace Of2 : Hid _ := Of2.out.below hb
      replace Ef3 : Hid (EK v28 w.heap.size qf3 lf3 lf3 bf3 zf3) := Ef3.out.below hb
      replace Of3 : Hid _ := Of3.out.below hb
      replace Ef4 : Hid (EK v28 w.heap.size qf4 lf4 lf4 bf4 zf4) := Ef4.out.below hb
      replace Of4 : Hid _ := Of4.out.below hb
      replace Fz : Hid _ := Fz.out.below hb
      replace SU : Hid _ := SU.out.below hb
      replace hbw := Below.on hbw hb
      clear hb
      go_wp2_with fail
      refine (rcmp8 SU.out FA.out SUn.out FAn.out.1).mono ?_
      rintro e v29 ⟨rfl, hb⟩
      rw [cmpN_eq (dm8 A2 D)]
      clear SU
      clear FA
      clear SUn FAn
      replace EX : Hid (X7 v29 w.heap.size m gX m zX) := EX.out.below hb
      replace EY : Hid (X7 v29 w.heap.size k gY 0 (rmy 91 ys)) := EY.out.below hb
      replace Ea : Hid (EK v29 w.heap.size qa la la ba za) := Ea.out.below hb
      replace Eb : Hid (EK v29 w.heap.size qb lb lb bb zb) := Eb.out.below hb
      replace Ec : Hid (EK v29 w.heap.size qc lc lc bc za) := Ec.out.below hb
      replace Ee : Hid (EK v29 w.heap.size qe le le be zb) := Ee.out.below hb
      replace Es : Hid (EK v29 w.heap.size qs ls ls bs zs) := Es.out.below hb
      replace Et : Hid (EK v29 w.heap.size qt lt lt bt zt) := Et.out.below hb
      replace Eu : Hid (EK v29 w.heap.size qu lu lu bu zs) := Eu.out.below hb
      replace Ev : Hid (EK v29 w.heap.size qv lv lv bv zt) := Ev.out.below hb
      replace Ta : Hid _ := Ta.out.below hb
      replace Tb : Hid _ := Tb.out.below hb
      replace Ts : Hid _ := Ts.out.below hb
      replace Tt : Hid _ := Tt.out.below hb
      replace TG : Hid _ := TG.out.below hb
      replace Ef1 : Hid (EK v29 w.heap.size qf1 lf1 lf1 bf1 zf1) := Ef1.out.below hb
      replace Of1 : Hid _ := Of1.out.below hb
      replace Ef2 : Hid (EK v29 w.heap.size qf2 lf2 lf2 bf2 zf2) := Ef2.out.below hb
      replace Of2 : Hid _ := Of2.out.below hb
      replace Ef3 : Hid (EK v29 w.heap.size qf3 lf3 lf3 bf3 zf3) := Ef3.out.below hb
      replace Of3 : Hid _ := Of3.out.below hb
      replace Ef4 : Hid (EK v29 w.heap.size qf4 lf4 lf4 bf4 zf4) := Ef4.out.below hb
      replace Of4 : Hid _ := Of4.out.below hb
      replace Fz : Hid _ := Fz.out.below hb
      replace hbw := Below.on hbw hb
      clear hb
      go_wp2_with fail
      refine (rmul_any Fz.out Fz.out Fzn.out.1 Fzn.out.1 (by have := Fzn.out.2; omega) (by have := Fzn.out.2; omega)).mono ?_
      rintro e v30 ⟨r30, t30, y30, rfl, hA, hN, hL, hb⟩
      have MU : Hid (At32 v30 r30 t30 t30 y30) := hA
      have MUn : Hid (Nf B32 y30 (rf3 * rf3) ∧ t30 ≤ 32768) := ⟨hN, by have := Fzn.out.2; have := Fzn.out.2; omega⟩
      clear hA hN hL
      replace EX : Hid (X7 v30 w.heap.size m gX m zX) := EX.out.below hb
      replace EY : Hid (X7 v30 w.heap.size k gY 0 (rmy 91 ys)) := EY.out.below hb
      replace Ea : Hid (EK v30 w.heap.size qa la la ba za) := Ea.out.below hb
      replace Eb : Hid (EK v30 w.heap.size qb lb lb bb zb) := Eb.out.below hb
      replace Ec : Hid (EK v30 w.heap.size qc lc lc bc za) := Ec.out.below hb
      replace Ee : Hid (EK v30 w.heap.size qe le le be zb) := Ee.out.below hb
      replace Es : Hid (EK v30 w.heap.size qs ls ls bs zs) := Es.out.below hb
      replace Et : Hid (EK v30 w.heap.size qt lt lt bt zt) := Et.out.below hb
      replace Eu : Hid (EK v30 w.heap.size qu lu lu bu zs) := Eu.out.below hb
      replace Ev : Hid (EK v30 w.heap.size qv lv lv bv zt) := Ev.out.below hb
      replace Ta : Hid _ := Ta.out.below hb
      replace Tb : Hid _ := Tb.out.below hb
      replace Ts : Hid _ := Ts.out.below hb
      replace Tt : Hid _ := Tt.out.below hb
      replace TG : Hid _ := TG.out.below hb
      replace Ef1 : Hid (EK v30 w.heap.size qf1 lf1 lf1 bf1 zf1) := Ef1.out.below hb
      replace Of1 : Hid _ := Of1.out.below hb
      replace Ef2 : Hid (EK v30 w.heap.size qf2 lf2 lf2 bf2 zf2) := Ef2.out.below hb
      replace Of2 : Hid _ := Of2.out.below hb
      replace Ef3 : Hid (EK v30 w.heap.size qf3 lf3 lf3 bf3 zf3) := Ef3.out.below hb
      replace Of3 : Hid _ := Of3.out.below hb
      replace Ef4 : Hid (EK v30 w.heap.size qf4 lf4 lf4 bf4 zf4) := Ef4.out.below hb
      replace Of4 : Hid _ := Of4.out.below hb
      replace Fz : Hid _ := Fz.out.below hb
      replace hbw := Below.on hbw hb
      clear hb
      clear Fz
      clear Fzn
      go_wp2_with fail
      refine (from8 Of4.out Nf4.out If4.out.2.2).mono ?_
      rintro e v31 ⟨r31, t31, y31, rfl, hA, hN, hL, hb⟩
      have FR : Hid (At32 v31 r31 t31 t31 y31) := hA
      have FRn : Hid (Nf B32 y31 (A2 - rf3 * rf3) ∧ t31 ≤ 16384) := ⟨hN, hL⟩
      clear hA hN hL
      replace EX : Hid (X7 v31 w.heap.size m gX m zX) := EX.out.below hb
      replace EY : Hid (X7 v31 w.heap.size k gY 0 (rmy 91 ys)) := EY.out.below hb
      replace Ea : Hid (EK v31 w.heap.size qa la la ba za) := Ea.out.below hb
      replace Eb : Hid (EK v31 w.heap.size qb lb lb bb zb) := Eb.out.below hb
      replace Ec : Hid (EK v31 w.heap.size qc lc lc bc za) := Ec.out.below hb
      replace Ee : Hid (EK v31 w.heap.size qe le le be zb) := Ee.out.below hb
      replace Es : Hid (EK v31 w.heap.size qs ls ls bs zs) := Es.out.below hb
      replace Et : Hid (EK v31 w.heap.size qt lt lt bt zt) := Et.out.below hb
      replace Eu : Hid (EK v31 w.heap.size qu lu lu bu zs) := Eu.out.below hb
      replace Ev : Hid (EK v31 w.heap.size qv lv lv bv zt) := Ev.out.below hb
      replace Ta : Hid _ := Ta.out.below hb
      replace Tb : Hid _ := Tb.out.below hb
      replace Ts : Hid _ := Ts.out.below hb
      replace Tt : Hid _ := Tt.out.below hb
      replace TG : Hid _ := TG.out.below hb
      replace Ef1 : Hid (EK v31 w.heap.size qf1 lf1 lf1 bf1 zf1) := Ef1.out.below hb
      replace Of1 : Hid _ := Of1.out.below hb
      replace Ef2 : Hid (EK v31 w.heap.size qf2 lf2 lf2 bf2 zf2) := Ef2.out.below hb
      replace Of2 : Hid _ := Of2.out.below hb
      replace Ef3 : Hid (EK v31 w.heap.size qf3 lf3 lf3 bf3 zf3) := Ef3.out.below hb
      replace Of3 : Hid _ := Of3.out.below hb
      replace Ef4 : Hid (EK v31 w.heap.size qf4 lf4 lf4 bf4 zf4) := Ef4.out.below hb
      replace Of4 : Hid _ := Of4.out.below hb
      replace MU : Hid _ := MU.out.below hb
      replace hbw := Below.on hbw hb
      clear hb
      go_wp2_with fail
      refine (radd_any MU.out FR.out MUn.out.1 FRn.out.1 (by have := MUn.out.2; omega) (by have := FRn.out.2; omega)).mono ?_
      rintro e v32 ⟨r32, t32, y32, rfl, hA, hN, hb⟩
      have SU : Hid (At32 v32 r32 t32 t32 y32) := hA
      have SUn : Hid (Nf B32 y32 (rf3 * rf3 + (A2 - rf3 * rf3))) := hN
      clear hA hN
      replace EX : Hid (X7 v32 w.heap.size m gX m zX) := EX.out.below hb
      replace EY : Hid (X7 v32 w.heap.size k gY 0 (rmy 91 ys)) := EY.out.below hb
      replace Ea : Hid (EK v32 w.heap.size qa la la ba za) := Ea.out.below hb
      replace Eb : Hid (EK v32 w.heap.size qb lb lb bb zb) := Eb.out.below hb
      replace Ec : Hid (EK v32 w.heap.size qc lc lc bc za) := Ec.out.below hb
      replace Ee : Hid (EK v32 w.heap.size qe le le be zb) := Ee.out.below hb
      replace Es : Hid (EK v32 w.heap.size qs ls ls bs zs) := Es.out.below hb
      replace Et : Hid (EK v32 w.heap.size qt lt lt bt zt) := Et.out.below hb
      replace Eu : Hid (EK v32 w.heap.size qu lu lu bu zs) := Eu.out.below hb
      replace Ev : Hid (EK v32 w.heap.size qv lv lv bv zt) := Ev.out.below hb
      replace Ta : Hid _ := Ta.out.below hb
      replace Tb : Hid _ := Tb.out.below hb
      replace Ts : Hid _ := Ts.out.below hb
      replace Tt : Hid _ := Tt.out.below hb
      replace TG : Hid _ := TG.out.below hb
      replace Ef1 : Hid (EK v32 w.heap.size qf1 lf1 lf1 bf1 zf1) := Ef1.out.below hb
      replace Of1 : Hid _ := Of1.out.below hb
      replace Ef2 : Hid (EK v32 w.heap.size qf2 lf2 lf2 bf2 zf2) := Ef2.out.below hb
      replace Of2 : Hid _ := Of2.out.below hb
      replace Ef3 : Hid (EK v32 w.heap.size qf3 lf3 lf3 bf3 zf3) := Ef3.out.below hb
      replace Of3 : Hid _ := Of3.out.below hb
      replace Ef4 : Hid (EK v32 w.heap.size qf4 lf4 lf4 bf4 zf4) := Ef4.out.below hb
      replace Of4 : Hid _ := Of4.out.below hb
      replace MU : Hid _ := MU.out.below hb
      replace FR : Hid _ := FR.out.below hb
      replace hbw := Below.on hbw hb
      clear hb
      clear MU
      clear FR
      clear MUn FRn
      go_wp2_with fail
      refine (from8 TG.out HZ.out.1 HZ.out.2).mono ?_
      rintro e v33 ⟨r33, t33, y33, rfl, hA, hN, hL, hb⟩
      have FA : Hid (At32 v33 r33 t33 t33 y33) := hA
      have FAn : Hid (Nf B32 y33 (A2) ∧ t33 ≤ 16384) := ⟨hN, hL⟩
      clear hA hN hL
      replace EX : Hid (X7 v33 w.heap.size m gX m zX) := EX.out.below hb
      replace EY : Hid (X7 v33 w.heap.size k gY 0 (rmy 91 ys)) := EY.out.below hb
      replace Ea : Hid (EK v33 w.heap.size qa la la ba za) := Ea.out.below hb
      replace Eb : Hid (EK v33 w.heap.size qb lb lb bb zb) := Eb.out.below hb
      replace Ec : Hid (EK v33 w.heap.size qc lc lc bc za) := Ec.out.below hb
      replace Ee : Hid (EK v33 w.heap.size qe le le be zb) := Ee.out.below hb
      replace Es : Hid (EK v33 w.heap.size qs ls ls bs zs) := Es.out.below hb
      replace Et : Hid (EK v33 w.heap.size qt lt lt bt zt) := Et.out.below hb
      replace Eu : Hid (EK v33 w.heap.size qu lu lu bu zs) := Eu.out.below hb
      replace Ev : Hid (EK v33 w.heap.size qv lv lv bv zt) := Ev.out.below hb
      replace Ta : Hid _ := Ta.out.below hb
      replace Tb : Hid _ := Tb.out.below hb
      replace Ts : Hid _ := Ts.out.below hb
      replace Tt : Hid _ := Tt.out.below hb
      replace TG : Hid _ := TG.out.below hb
      replace Ef1 : Hid (EK v33 w.heap.size qf1 lf1 lf1 bf1 zf1) := Ef1.out.below hb
      replace Of1 : Hid _ := Of1.out.below hb
      replace Ef2 : Hid (EK v33 w.heap.size qf2 lf2 lf2 bf2 zf2) := Ef2.out.below hb
      replace Of2 : Hid _ := Of2.out.below hb
      replace Ef3 : Hid (EK v33 w.heap.size qf3 lf3 lf3 bf3 zf3) := Ef3.out.below hb
      replace Of3 : Hid _ := Of3.out.below hb
      replace Ef4 : Hid (EK v33 w.heap.size qf4 lf4 lf4 bf4 zf4) := Ef4.out.below hb
      replace Of4 : Hid _ := Of4.out.below hb
      replace SU : Hid _ := SU.out.below hb
      replace hbw := Below.on hbw hb
      clear hb
      go_wp2_with fail
      refine (rcmp8 SU.out FA.out SUn.out FAn.out.1).mono ?_
      rintro e v34 ⟨rfl, hb⟩
      rw [cmpN_eq (Nat.add_sub_of_le Nf3.out.1)]
      clear SU
      clear FA
      clear TG
      clear SUn FAn
      replace EX : Hid (X7 v34 w.heap.size m gX m zX) := EX.out.below hb
      replace EY : Hid (X7 v34 w.heap.size k gY 0 (rmy 91 ys)) := EY.out.below hb
      replace Ea : Hid (EK v34 w.heap.size qa la la ba za) := Ea.out.below hb
      replace Eb : Hid (EK v34 w.heap.size qb lb lb bb zb) := Eb.out.below hb
      replace Ec : Hid (EK v34 w.heap.size qc lc lc bc za) := Ec.out.below hb
      replace Ee : Hid (EK v34 w.heap.size qe le le be zb) := Ee.out.below hb
      replace Es : Hid (EK v34 w.heap.size qs ls ls bs zs) := Es.out.below hb
      replace Et : Hid (EK v34 w.heap.size qt lt lt bt zt) := Et.out.below hb
      replace Eu : Hid (EK v34 w.heap.size qu lu lu bu zs) := Eu.out.below hb
      replace Ev : Hid (EK v34 w.heap.size qv lv lv bv zt) := Ev.out.below hb
      replace Ta : Hid _ := Ta.out.below hb
      replace Tb : Hid _ := Tb.out.below hb
      replace Ts : Hid _ := Ts.out.below hb
      replace Tt : Hid _ := Tt.out.below hb
      replace Ef1 : Hid (EK v34 w.heap.size qf1 lf1 lf1 bf1 zf1) := Ef1.out.below hb
      replace Of1 : Hid _ := Of1.out.below hb
      replace Ef2 : Hid (EK v34 w.heap.size qf2 lf2 lf2 bf2 zf2) := Ef2.out.below hb
      replace Of2 : Hid _ := Of2.out.below hb
      replace Ef3 : Hid (EK v34 w.heap.size qf3 lf3 lf3 bf3 zf3) := Ef3.out.below hb
      replace Of3 : Hid _ := Of3.out.below hb
      replace Ef4 : Hid (EK v34 w.heap.size qf4 lf4 lf4 bf4 zf4) := Ef4.out.below hb
      replace Of4 : Hid _ := Of4.out.below hb
      replace hbw := Below.on hbw hb
      clear hb
      go_wp2_with fail
      clear Of1
      clear Of2
      clear Of3
      clear Of4
      refine (same_t (Ea.out.at8 Ia.out.2.2) Ta.out).mono ?_
      rintro e v35 ⟨rfl, hb⟩
      replace EX : Hid (X7 v35 w.heap.size m gX m zX) := EX.out.below hb
      replace EY : Hid (X7 v35 w.heap.size k gY 0 (rmy 91 ys)) := EY.out.below hb
      replace Ea : Hid (EK v35 w.heap.size qa la la ba za) := Ea.out.below hb
      replace Eb : Hid (EK v35 w.heap.size qb lb lb bb zb) := Eb.out.below hb
      replace Ec : Hid (EK v35 w.heap.size qc lc lc bc za) := Ec.out.below hb
      replace Ee : Hid (EK v35 w.heap.size qe le le be zb) := Ee.out.below hb
      replace Es : Hid (EK v35 w.heap.size qs ls ls bs zs) := Es.out.below hb
      replace Et : Hid (EK v35 w.heap.size qt lt lt bt zt) := Et.out.below hb
      replace Eu : Hid (EK v35 w.heap.size qu lu lu bu zs) := Eu.out.below hb
      replace Ev : Hid (EK v35 w.heap.size qv lv lv bv zt) := Ev.out.below hb
      replace Ta : Hid _ := Ta.out.below hb
      replace Tb : Hid _ := Tb.out.below hb
      replace Ts : Hid _ := Ts.out.below hb
      replace Tt : Hid _ := Tt.out.below hb
      replace Ef1 : Hid (EK v35 w.heap.size qf1 lf1 lf1 bf1 zf1) := Ef1.out.below hb
      replace Ef2 : Hid (EK v35 w.heap.size qf2 lf2 lf2 bf2 zf2) := Ef2.out.below hb
      replace Ef3 : Hid (EK v35 w.heap.size qf3 lf3 lf3 bf3 zf3) := Ef3.out.below hb
      replace Ef4 : Hid (EK v35 w.heap.size qf4 lf4 lf4 bf4 zf4) := Ef4.out.below hb
      replace hbw := Below.on hbw hb
      clear hb
      go_wp2_with fail
      refine (same_t (Eb.out.at8 Ib.out.2.2) Tb.out).mono ?_
      rintro e v36 ⟨rfl, hb⟩
      replace EX : Hid (X7 v36 w.heap.size m gX m zX) := EX.out.below hb
      replace EY : Hid (X7 v36 w.heap.size k gY 0 (rmy 91 ys)) := EY.out.below hb
      replace Ea : Hid (EK v36 w.heap.size qa la la ba za) := Ea.out.below hb
      replace Eb : Hid (EK v36 w.heap.size qb lb lb bb zb) := Eb.out.below hb
      replace Ec : Hid (EK v36 w.heap.size qc lc lc bc za) := Ec.out.below hb
      replace Ee : Hid (EK v36 w.heap.size qe le le be zb) := Ee.out.below hb
      replace Es : Hid (EK v36 w.heap.size qs ls ls bs zs) := Es.out.below hb
      replace Et : Hid (EK v36 w.heap.size qt lt lt bt zt) := Et.out.below hb
      replace Eu : Hid (EK v36 w.heap.size qu lu lu bu zs) := Eu.out.below hb
      replace Ev : Hid (EK v36 w.heap.size qv lv lv bv zt) := Ev.out.below hb
      replace Ta : Hid _ := Ta.out.below hb
      replace Tb : Hid _ := Tb.out.below hb
      replace Ts : Hid _ := Ts.out.below hb
      replace Tt : Hid _ := Tt.out.below hb
      replace Ef1 : Hid (EK v36 w.heap.size qf1 lf1 lf1 bf1 zf1) := Ef1.out.below hb
      replace Ef2 : Hid (EK v36 w.heap.size qf2 lf2 lf2 bf2 zf2) := Ef2.out.below hb
      replace Ef3 : Hid (EK v36 w.heap.size qf3 lf3 lf3 bf3 zf3) := Ef3.out.below hb
      replace Ef4 : Hid (EK v36 w.heap.size qf4 lf4 lf4 bf4 zf4) := Ef4.out.below hb
      replace hbw := Below.on hbw hb
      clear hb
      go_wp2_with fail
      refine (same_t (Es.out.at8 Is.out.2.2) Ts.out).mono ?_
      rintro e v37 ⟨rfl, hb⟩
      replace EX : Hid (X7 v37 w.heap.size m gX m zX) := EX.out.below hb
      replace EY : Hid (X7 v37 w.heap.size k gY 0 (rmy 91 ys)) := EY.out.below hb
      replace Ea : Hid (EK v37 w.heap.size qa la la ba za) := Ea.out.below hb
      replace Eb : Hid (EK v37 w.heap.size qb lb lb bb zb) := Eb.out.below hb
      replace Ec : Hid (EK v37 w.heap.size qc lc lc bc za) := Ec.out.below hb
      replace Ee : Hid (EK v37 w.heap.size qe le le be zb) := Ee.out.below hb
      replace Es : Hid (EK v37 w.heap.size qs ls ls bs zs) := Es.out.below hb
      replace Et : Hid (EK v37 w.heap.size qt lt lt bt zt) := Et.out.below hb
      replace Eu : Hid (EK v37 w.heap.size qu lu lu bu zs) := Eu.out.below hb
      replace Ev : Hid (EK v37 w.heap.size qv lv lv bv zt) := Ev.out.below hb
      replace Ta : Hid _ := Ta.out.below hb
      replace Tb : Hid _ := Tb.out.below hb
      replace Ts : Hid _ := Ts.out.below hb
      replace Tt : Hid _ := Tt.out.below hb
      replace Ef1 : Hid (EK v37 w.heap.size qf1 lf1 lf1 bf1 zf1) := Ef1.out.below hb
      replace Ef2 : Hid (EK v37 w.heap.size qf2 lf2 lf2 bf2 zf2) := Ef2.out.below hb
      replace Ef3 : Hid (EK v37 w.heap.size qf3 lf3 lf3 bf3 zf3) := Ef3.out.below hb
      replace Ef4 : Hid (EK v37 w.heap.size qf4 lf4 lf4 bf4 zf4) := Ef4.out.below hb
      replace hbw := Below.on hbw hb
      clear hb
      go_wp2_with fail
      refine (same_t (Et.out.at8 It.out.2.2) Tt.out).mono ?_
      rintro e v38 ⟨rfl, hb⟩
      replace EX : Hid (X7 v38 w.heap.size m gX m zX) := EX.out.below hb
      replace EY : Hid (X7 v38 w.heap.size k gY 0 (rmy 91 ys)) := EY.out.below hb
      replace Ea : Hid (EK v38 w.heap.size qa la la ba za) := Ea.out.below hb
      replace Eb : Hid (EK v38 w.heap.size qb lb lb bb zb) := Eb.out.below hb
      replace Ec : Hid (EK v38 w.heap.size qc lc lc bc za) := Ec.out.below hb
      replace Ee : Hid (EK v38 w.heap.size qe le le be zb) := Ee.out.below hb
      replace Es : Hid (EK v38 w.heap.size qs ls ls bs zs) := Es.out.below hb
      replace Et : Hid (EK v38 w.heap.size qt lt lt bt zt) := Et.out.below hb
      replace Eu : Hid (EK v38 w.heap.size qu lu lu bu zs) := Eu.out.below hb
      replace Ev : Hid (EK v38 w.heap.size qv lv lv bv zt) := Ev.out.below hb
      replace Ta : Hid _ := Ta.out.below hb
      replace Tb : Hid _ := Tb.out.below hb
      replace Ts : Hid _ := Ts.out.below hb
      replace Tt : Hid _ := Tt.out.below hb
      replace Ef1 : Hid (EK v38 w.heap.size qf1 lf1 lf1 bf1 zf1) := Ef1.out.below hb
      replace Ef2 : Hid (EK v38 w.heap.size qf2 lf2 lf2 bf2 zf2) := Ef2.out.below hb
      replace Ef3 : Hid (EK v38 w.heap.size qf3 lf3 lf3 bf3 zf3) := Ef3.out.below hb
      replace Ef4 : Hid (EK v38 w.heap.size qf4 lf4 lf4 bf4 zf4) := Ef4.out.below hb
      replace hbw := Below.on hbw hb
      clear hb
      go_wp2_with fail
      refine (same_t (Ec.out.at8 Ic.out.2.2) Ta.out).mono ?_
      rintro e v39 ⟨rfl, hb⟩
      replace EX : Hid (X7 v39 w.heap.size m gX m zX) := EX.out.below hb
      replace EY : Hid (X7 v39 w.heap.size k gY 0 (rmy 91 ys)) := EY.out.below hb
      replace Ea : Hid (EK v39 w.heap.size qa la la ba za) := Ea.out.below hb
      replace Eb : Hid (EK v39 w.heap.size qb lb lb bb zb) := Eb.out.below hb
      replace Ec : Hid (EK v39 w.heap.size qc lc lc bc za) := Ec.out.below hb
      replace Ee : Hid (EK v39 w.heap.size qe le le be zb) := Ee.out.below hb
      replace Es : Hid (EK v39 w.heap.size qs ls ls bs zs) := Es.out.below hb
      replace Et : Hid (EK v39 w.heap.size qt lt lt bt zt) := Et.out.below hb
      replace Eu : Hid (EK v39 w.heap.size qu lu lu bu zs) := Eu.out.below hb
      replace Ev : Hid (EK v39 w.heap.size qv lv lv bv zt) := Ev.out.below hb
      replace Ta : Hid _ := Ta.out.below hb
      replace Tb : Hid _ := Tb.out.below hb
      replace Ts : Hid _ := Ts.out.below hb
      replace Tt : Hid _ := Tt.out.below hb
      replace Ef1 : Hid (EK v39 w.heap.size qf1 lf1 lf1 bf1 zf1) := Ef1.out.below hb
      replace Ef2 : Hid (EK v39 w.heap.size qf2 lf2 lf2 bf2 zf2) := Ef2.out.below hb
      replace Ef3 : Hid (EK v39 w.heap.size qf3 lf3 lf3 bf3 zf3) := Ef3.out.below hb
      replace Ef4 : Hid (EK v39 w.heap.size qf4 lf4 lf4 bf4 zf4) := Ef4.out.below hb
      replace hbw := Below.on hbw hb
      clear hb
      go_wp2_with fail
      refine (same_t (Ee.out.at8 Ie.out.2.2) Tb.out).mono ?_
      rintro e v40 ⟨rfl, hb⟩
      replace EX : Hid (X7 v40 w.heap.size m gX m zX) := EX.out.below hb
      replace EY : Hid (X7 v40 w.heap.size k gY 0 (rmy 91 ys)) := EY.out.below hb
      replace Ea : Hid (EK v40 w.heap.size qa la la ba za) := Ea.out.below hb
      replace Eb : Hid (EK v40 w.heap.size qb lb lb bb zb) := Eb.out.below hb
      replace Ec : Hid (EK v40 w.heap.size qc lc lc bc za) := Ec.out.below hb
      replace Ee : Hid (EK v40 w.heap.size qe le le be zb) := Ee.out.below hb
      replace Es : Hid (EK v40 w.heap.size qs ls ls bs zs) := Es.out.below hb
      replace Et : Hid (EK v40 w.heap.size qt lt lt bt zt) := Et.out.below hb
      replace Eu : Hid (EK v40 w.heap.size qu lu lu bu zs) := Eu.out.below hb
      replace Ev : Hid (EK v40 w.heap.size qv lv lv bv zt) := Ev.out.below hb
      replace Ta : Hid _ := Ta.out.below hb
      replace Tb : Hid _ := Tb.out.below hb
      replace Ts : Hid _ := Ts.out.below hb
      replace Tt : Hid _ := Tt.out.below hb
      replace Ef1 : Hid (EK v40 w.heap.size qf1 lf1 lf1 bf1 zf1) := Ef1.out.below hb
      replace Ef2 : Hid (EK v40 w.heap.size qf2 lf2 lf2 bf2 zf2) := Ef2.out.below hb
      replace Ef3 : Hid (EK v40 w.heap.size qf3 lf3 lf3 bf3 zf3) := Ef3.out.below hb
      replace Ef4 : Hid (EK v40 w.heap.size qf4 lf4 lf4 bf4 zf4) := Ef4.out.below hb
      replace hbw := Below.on hbw hb
      clear hb
      go_wp2_with fail
      refine (same_t (Eu.out.at8 Iu.out.2.2) Ts.out).mono ?_
      rintro e v41 ⟨rfl, hb⟩
      replace EX : Hid (X7 v41 w.heap.size m gX m zX) := EX.out.below hb
      replace EY : Hid (X7 v41 w.heap.size k gY 0 (rmy 91 ys)) := EY.out.below hb
      replace Ea : Hid (EK v41 w.heap.size qa la la ba za) := Ea.out.below hb
      replace Eb : Hid (EK v41 w.heap.size qb lb lb bb zb) := Eb.out.below hb
      replace Ec : Hid (EK v41 w.heap.size qc lc lc bc za) := Ec.out.below hb
      replace Ee : Hid (EK v41 w.heap.size qe le le be zb) := Ee.out.below hb
      replace Es : Hid (EK v41 w.heap.size qs ls ls bs zs) := Es.out.below hb
      replace Et : Hid (EK v41 w.heap.size qt lt lt bt zt) := Et.out.below hb
      replace Eu : Hid (EK v41 w.heap.size qu lu lu bu zs) := Eu.out.below hb
      replace Ev : Hid (EK v41 w.heap.size qv lv lv bv zt) := Ev.out.below hb
      replace Ta : Hid _ := Ta.out.below hb
      replace Tb : Hid _ := Tb.out.below hb
      replace Ts : Hid _ := Ts.out.below hb
      replace Tt : Hid _ := Tt.out.below hb
      replace Ef1 : Hid (EK v41 w.heap.size qf1 lf1 lf1 bf1 zf1) := Ef1.out.below hb
      replace Ef2 : Hid (EK v41 w.heap.size qf2 lf2 lf2 bf2 zf2) := Ef2.out.below hb
      replace Ef3 : Hid (EK v41 w.heap.size qf3 lf3 lf3 bf3 zf3) := Ef3.out.below hb
      replace Ef4 : Hid (EK v41 w.heap.size qf4 lf4 lf4 bf4 zf4) := Ef4.out.below hb
      replace hbw := Below.on hbw hb
      clear hb
      go_wp2_with fail
      refine (same_t (Ev.out.at8 Iv.out.2.2) Tt.out).mono ?_
      rintro e v42 ⟨rfl, hb⟩
      replace EX : Hid (X7 v42 w.heap.size m gX m zX) := EX.out.below hb
      replace EY : Hid (X7 v42 w.heap.size k gY 0 (rmy 91 ys)) := EY.out.below hb
      replace Ea : Hid (EK v42 w.heap.size qa la la ba za) := Ea.out.below hb
      replace Eb : Hid (EK v42 w.heap.size qb lb lb bb zb) := Eb.out.below hb
      replace Ec : Hid (EK v42 w.heap.size qc lc lc bc za) := Ec.out.below hb
      replace Ee : Hid (EK v42 w.heap.size qe le le be zb) := Ee.out.below hb
      replace Es : Hid (EK v42 w.heap.size qs ls ls bs zs) := Es.out.below hb
      replace Et : Hid (EK v42 w.heap.size qt lt lt bt zt) := Et.out.below hb
      replace Eu : Hid (EK v42 w.heap.size qu lu lu bu zs) := Eu.out.below hb
      replace Ev : Hid (EK v42 w.heap.size qv lv lv bv zt) := Ev.out.below hb
      replace Ta : Hid _ := Ta.out.below hb
      replace Tb : Hid _ := Tb.out.below hb
      replace Ts : Hid _ := Ts.out.below hb
      replace Tt : Hid _ := Tt.out.below hb
      replace Ef1 : Hid (EK v42 w.heap.size qf1 lf1 lf1 bf1 zf1) := Ef1.out.below hb
      replace Ef2 : Hid (EK v42 w.heap.size qf2 lf2 lf2 bf2 zf2) := Ef2.out.below hb
      replace Ef3 : Hid (EK v42 w.heap.size qf3 lf3 lf3 bf3 zf3) := Ef3.out.below hb
      replace Ef4 : Hid (EK v42 w.heap.size qf4 lf4 lf4 bf4 zf4) := Ef4.out.below hb
      replace hbw := Below.on hbw hb
      clear hb
      go_wp2_with fail
      clear Ta
      clear Tb
      clear Ts
      clear Tt
      have hbl := below1 v42 (.cells #[.slice qa la la, .slice qb lb lb, .slice qc lc lc, .slice qe le le, .slice qs ls ls, .slice qt lt lt, .slice qu lu lu, .slice qv lv lv, .slice qf1 lf1 lf1, .slice qf2 lf2 lf2, .slice qf3 lf3 lf3, .slice qf4 lf4 lf4, .slice (some ⟨gX, 0, none⟩) m (m + 6), .slice (some ⟨gY, 0, none⟩) k (k + 6)] 22)
      have HPW : Hid (([⟨qa, la, la, ba, za⟩, ⟨qb, lb, lb, bb, zb⟩, ⟨qc, lc, lc, bc, za⟩, ⟨qe, le, le, be, zb⟩, ⟨qs, ls, ls, bs, zs⟩, ⟨qt, lt, lt, bt, zt⟩, ⟨qu, lu, lu, bu, zs⟩, ⟨qv, lv, lv, bv, zt⟩, ⟨qf1, lf1, lf1, bf1, zf1⟩, ⟨qf2, lf2, lf2, bf2, zf2⟩, ⟨qf3, lf3, lf3, bf3, zf3⟩, ⟨qf4, lf4, lf4, bf4, zf4⟩, ⟨some ⟨gX, 0, none⟩, m, m + 6, gX, zX.take m⟩, ⟨some ⟨gY, 0, none⟩, k, k + 6, gY, (rmy 91 ys).take k⟩] : List EN).Pairwise (fun a b => a.c ≠ 0 → b.c ≠ 0 → a.b ≠ b.b)) := pw14 (t1 := v1.heap.size) (t2 := v2.heap.size) (t3 := v3.heap.size) (t4 := v4.heap.size) (t5 := v5.heap.size) (t6 := v6.heap.size) (t7 := v7.heap.size) (t8 := v18.heap.size) (t9 := v19.heap.size) (t10 := v20.heap.size) (c2 := IY.out.2.2) (c3 := Ia.out.2.1) (c4 := Ic.out.2.1) (c5 := Is.out.2.1) (c6 := Iu.out.2.1) (c7 := by have := HSZ.out; have := HS2.out; have := S18.out; omega) (c8 := If1.out.2.1) (Ha := Ia.out.1) (Hb := Ib.out.1) (Hc := Ic.out.1) (He := Ie.out.1) (Hs := Is.out.1) (Ht := It.out.1) (Hu := Iu.out.1) (Hv := Iv.out.1) (Hf1 := If1.out.1) (Hf2 := If2.out.1) (Hf3 := If3.out.1) (Hf4 := If4.out.1) (HX := ⟨IX.out.1, IX.out.2.1⟩) (HY := ⟨IY.out.1, IY.out.2.1⟩) (Pa := Pa.out) (Pc := Pc.out) (Pf1 := Pf1.out) (Pf3 := Pf3.out) (Ps := Ps.out) (Pu := Pu.out)
      have HLC := lc_list (w := v42.alloc (.cells #[.slice qa la la, .slice qb lb lb, .slice qc lc lc, .slice qe le le, .slice qs ls ls, .slice qt lt lt, .slice qu lu lu, .slice qv lv lv, .slice qf1 lf1 lf1, .slice qf2 lf2 lf2, .slice qf3 lf3 lf3, .slice qf4 lf4 lf4, .slice (some ⟨gX, 0, none⟩) m (m + 6), .slice (some ⟨gY, 0, none⟩) k (k + 6)] 22)) (B := w.heap.size) (go := v42.heap.size) ([⟨qa, la, la, ba, za⟩, ⟨qb, lb, lb, bb, zb⟩, ⟨qc, lc, lc, bc, za⟩, ⟨qe, le, le, be, zb⟩, ⟨qs, ls, ls, bs, zs⟩, ⟨qt, lt, lt, bt, zt⟩, ⟨qu, lu, lu, bu, zs⟩, ⟨qv, lv, lv, bv, zt⟩, ⟨qf1, lf1, lf1, bf1, zf1⟩, ⟨qf2, lf2, lf2, bf2, zf2⟩, ⟨qf3, lf3, lf3, bf3, zf3⟩, ⟨qf4, lf4, lf4, bf4, zf4⟩, ⟨some ⟨gX, 0, none⟩, m, m + 6, gX, zX.take m⟩, ⟨some ⟨gY, 0, none⟩, k, k + 6, gY, (rmy 91 ys).take k⟩] : List EN) (List.forall_mem_cons.2 ⟨(Ea.out.below hbl), (List.forall_mem_cons.2 ⟨(Eb.out.below hbl), (List.forall_mem_cons.2 ⟨(Ec.out.below hbl), (List.forall_mem_cons.2 ⟨(Ee.out.below hbl), (List.forall_mem_cons.2 ⟨(Es.out.below hbl), (List.forall_mem_cons.2 ⟨(Et.out.below hbl), (List.forall_mem_cons.2 ⟨(Eu.out.below hbl), (List.forall_mem_cons.2 ⟨(Ev.out.below hbl), (List.forall_mem_cons.2 ⟨(Ef1.out.below hbl), (List.forall_mem_cons.2 ⟨(Ef2.out.below hbl), (List.forall_mem_cons.2 ⟨(Ef3.out.below hbl), (List.forall_mem_cons.2 ⟨(Ef4.out.below hbl), (List.forall_mem_cons.2 ⟨((ek_room EX.out.own EX.out.dig AT.out.2.2).below hbl), (List.forall_mem_cons.2 ⟨((ek_room EY.out.own EY.out.dig AY.out.2.2).below hbl), (fun _ h => absurd h (List.not_mem_nil))⟩)⟩)⟩)⟩)⟩)⟩)⟩)⟩)⟩)⟩)⟩)⟩)⟩)⟩) (by intro i hi; have hi : i < 14 := hi; have h14 : i = 0 ∨ i = 1 ∨ i = 2 ∨ i = 3 ∨ i = 4 ∨ i = 5 ∨ i = 6 ∨ i = 7 ∨ i = 8 ∨ i = 9 ∨ i = 10 ∨ i = 11 ∨ i = 12 ∨ i = 13 := (by omega); clear hi; rcases h14 with rfl | rfl | rfl | rfl | rfl | rfl | rfl | rfl | rfl | rfl | rfl | rfl | rfl | rfl <;> go_simp) (List.forall_mem_cons.2 ⟨(fun hc => Nat.ne_of_lt (Ea.out.lt hc)), (List.forall_mem_cons.2 ⟨(fun hc => Nat.ne_of_lt (Eb.out.lt hc)), (List.forall_mem_cons.2 ⟨(fun hc => Nat.ne_of_lt (Ec.out.lt hc)), (List.forall_mem_cons.2 ⟨(fun hc => Nat.ne_of_lt (Ee.out.lt hc)), (List.forall_mem_cons.2 ⟨(fun hc => Nat.ne_of_lt (Es.out.lt hc)), (List.forall_mem_cons.2 ⟨(fun hc => Nat.ne_of_lt (Et.out.lt hc)), (List.forall_mem_cons.2 ⟨(fun hc => Nat.ne_of_lt (Eu.out.lt hc)), (List.forall_mem_cons.2 ⟨(fun hc => Nat.ne_of_lt (Ev.out.lt hc)), (List.forall_mem_cons.2 ⟨(fun hc => Nat.ne_of_lt (Ef1.out.lt hc)), (List.forall_mem_cons.2 ⟨(fun hc => Nat.ne_of_lt (Ef2.out.lt hc)), (List.forall_mem_cons.2 ⟨(fun hc => Nat.ne_of_lt (Ef3.out.lt hc)), (List.forall_mem_cons.2 ⟨(fun hc => Nat.ne_of_lt (Ef4.out.lt hc)), (List.forall_mem_cons.2 ⟨(fun _ => Nat.ne_of_lt (own_blt EX.out.own)), (List.forall_mem_cons.2 ⟨(fun _ => Nat.ne_of_lt (own_blt EY.out.own)), (fun _ h => absurd h (List.not_mem_nil))⟩)⟩)⟩)⟩)⟩)⟩)⟩)⟩)⟩)⟩)⟩)⟩)⟩)⟩) HPW.out
      refine (apart3_ok (N := 14) (C := 14) HLC (by decide) (by decide) (by decide) (by decide) (Nat.le_trans hbw.size hbl.size)).mono ?_
      rintro e v50 ⟨rfl, hb50⟩
      have hbz := (Below.on hbw hbl).trans hb50
      clear HLC hbl hb50 HPW
      go_wp2_with fail
      go_ret
      exact ⟨rfl, hbz⟩
end Go.Proofs.Ytjhopiaeppgioaa
