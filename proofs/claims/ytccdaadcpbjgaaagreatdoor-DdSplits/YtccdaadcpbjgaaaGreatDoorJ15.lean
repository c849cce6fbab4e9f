import Derived.Test.YtccdaadcpbjgaaaGreatDoorJ10
import Derived.Test.YtccdaadcpbjgaaaGreatDoorJ14
import Derived.Test.YtccdaadcpbjgaaaGreatDoorJ9
import Derived.Test.YtccdaadcpbjgaaaGreatDoorJ8
import Derived.Test.YtccdaadcpbjgaaaGreatDoorJ11
import Derived.Laws.EntriesVeiled
import Derived.Test.YtccdaadcpbjgaaaGreatDoorJ13
namespace Go.Proofs.YtccdaadcpbjgaaaGreatDoor
open Go.RowKit Go.Shelf
set_option maxRecDepth 20000
set_option maxHeartbeats 0
structure FmQ (f p m l : Int) (S I : Nat) : Prop where
  of : ∀ w, Calls Tryz.prog 111 #[.int .i64 f] w fun e w' => e = .returned (.tuple #[WV p m l, .int .i64 0]) ∧ Below w.heap.size w w'
  inf : ∀ w, Calls Tryz.prog 110 #[WV p m l] w fun e w' => e = .returned (U I) ∧ Below w.heap.size w w'
  pat : ∀ (b : Nat) w, b < 2 * S → Calls Tryz.prog 109 #[.int .i64 f, U b] w fun e w' => e = .returned (.tuple #[PV p m l (decide (S ≤ b)) (b % S), .int .i64 0]) ∧ Below w.heap.size w w'
  big : ∀ (b : Nat) w, b < B64 → 2 * S ≤ b → Calls Tryz.prog 109 #[.int .i64 f, U b] w fun e w' => e = .returned (.tuple #[PV 0 0 0 false 0, .int .i64 2]) ∧ Below w.heap.size w w'
  cls : ∀ (neg : Bool) (s : Nat) w, Calls Tryz.prog 102 #[PV p m l neg s] w fun e w' => ∃ c : Int, e = .returned (.int .i64 c) ∧ (c == 4) = decide (I < s) ∧ (c == 3) = decide (s = I) ∧ Below w.heap.size w w'
  lt : I < S
  pos : 2 < I
  le : S ≤ 9223372036854775808
theorem rankedQ {f p m l : Int} {S I : Nat} (F : FmQ f p m l S I) (b : Nat) (hb : b < 2 * S) (hr : b % S ≤ I) (w : World) : Calls Tryz.prog 101 #[.int .i64 f, U b] w fun e w' => e = .returned (.tuple #[PV p m l (decide (S ≤ b)) (b % S), .int .i64 0]) ∧ Below w.heap.size w w' := by
  have HP := fun w => F.pat b w hb
  obtain ⟨z, hz⟩ : ∃ z, z = b % S := ⟨_, rfl⟩
  obtain ⟨s, hs⟩ : ∃ s, s = decide (S ≤ b) := ⟨_, rfl⟩
  simp only [← hz, ← hs] at HP hr ⊢
  have HPH : Hid (∀ w : World, Calls Tryz.prog 109 #[.int .i64 f, U b] w fun e w' => e = .returned (.tuple #[PV p m l s z, .int .i64 0]) ∧ Below w.heap.size w w') := HP
  have HF : Hid (FmQ f p m l S I) := F
  have HR : Hid (decide (I < z) = false) := decide_eq_false (by omega)
  clear hz hs HP hr hb F
  go_enter Tryz.func101, Tryz.ntmps101
  go_wp2_with fail
  have X := B5q.new (w) 128 (.int .i64 0) (.int .i64 0) (.int .i64 0) (.bool false) (.int .u64 0)
  have hb0 := bwAlloc (w) (.cells #[.int .i64 0, .int .i64 0, .int .i64 0, .bool false, .int .u64 0] 128)
  generalize (w).alloc (.cells #[.int .i64 0, .int .i64 0, .int .i64 0, .bool false, .int .u64 0] 128) = W at *
  obtain ⟨g, hg⟩ : ∃ g, g = (w).heap.size := ⟨_, rfl⟩
  have HGg : Hid ((w).heap.size ≤ g) := by show _ ≤ _; omega
  rw [← hg] at X ⊢
  clear hg
  refine (HPH.out _).mono ?_
  rintro e w1 ⟨rfl, hb1⟩
  have X1 := X.below hb1
  have HB1 : Hid (Below w.heap.size w w1) := bwOn hb0 hb1
  have XX : Hid (B5q w1 g (.int .i64 0) (.int .i64 0) (.int .i64 0) (.bool false) (.int .u64 0)) := X1
  clear X hb0 hb1
  obtain ⟨x0, x1, x2, x3, x4, x5, x6, x7, x8, x9⟩ := X1
  go_wp2_with fail
  clear x0 x1 x2 x3 x4 x5 x6 x7 x8 x9
  have Y := B5q.new (w1) 128 (.int .i64 p) (.int .i64 m) (.int .i64 l) (.bool s) (U z)
  have hb2 := bwAlloc (w1) (.cells #[.int .i64 p, .int .i64 m, .int .i64 l, .bool s, U z] 128)
  generalize (w1).alloc (.cells #[.int .i64 p, .int .i64 m, .int .i64 l, .bool s, U z] 128) = W2 at *
  obtain ⟨h, hh⟩ : ∃ h, h = (w1).heap.size := ⟨_, rfl⟩
  have HGh : Hid ((w1).heap.size ≤ h) := by show _ ≤ _; omega
  rw [← hh] at Y ⊢
  clear hh
  refine (HF.out.cls s z _).mono ?_
  rintro e w3 ⟨c, rfl, hc4, hc3, hb3⟩
  rw [HR.out] at hc4
  have hbb := bwOn hb2 hb3
  have HB3 : Hid (Below w.heap.size w w3) := bwOn HB1.out hbb
  have hgl := (XX.out.below hbb).lt
  have hhl := (Y.below hb3).lt
  obtain ⟨x0, x1, x2, x3, x4, x5, x6, x7, x8, x9⟩ := XX.out.below hbb
  obtain ⟨y0, y1, y2, y3, y4, y5, y6, y7, y8, y9⟩ := Y.below hb3
  clear Y hb2 hb3 hbb hc3 XX
  go_wp2_with fail
  refine bodyPost_ret (v := .tuple #[PV p m l s z, .int .i64 0]) (by rw [results_ct rfl]; go_simp) rfl ⟨rfl, ?_⟩
  exact bwSet (bwSet (bwSet (bwSet (bwSet HB3.out _ _ _ HGg.out) _ _ _ HGg.out) _ _ _ HGg.out) _ _ _ HGg.out) _ _ _ HGg.out
theorem fmQ : FmQ 64 64 53 (-1074) 9223372036854775808 9218868437227405312 :=
  { of := of_64, inf := infinity_64v rfl, pat := fun b w hb => patternOf_64 b hb w, big := fun b w hb hg => absurd hg (by rw [B64_eq] at hb; omega),
    cls := fun neg s w => (class_64 rfl neg s w).mono (fun e w' h => ⟨_, h.1, by
      by_cases hn : 9218868437227405312 < s
      · rw [cls_nan (by decide) hn, decide_eq_true hn]; decide
      · rw [decide_eq_false hn]; simp [cls_ne (Nat.le_of_not_lt hn)], cls_inf (by decide) (by decide), h.2⟩),
    lt := by decide, pos := by decide, le := by decide }
structure PmQ (f p m l : Int) (S I H : Nat) : Prop where
  fm : FmQ f p m l S I
  pt : ∀ (s : Nat) w, s < S → Calls Tryz.prog 89 #[WV p m l, U s] w fun e w' => e = .returned (.tuple #[U (s - (s / H - 1) * H), .int .i64 (l + ((s / H - 1 : Nat) : Int))]) ∧ Below w.heap.size w w'
  hp : 0 < H
  h2 : 2 * H ≤ I
  h9 : 2 * H ≤ 9007199254740992
  lo : -1074 ≤ l ∧ l ≤ -149
  st : ∀ s, s < I → s / H - 1 ≤ 2045
theorem pmQ : PmQ 64 64 53 (-1074) 9223372036854775808 9218868437227405312 4503599627370496 :=
  ⟨fmQ, fun s w hs => parts_64 s _ _ rfl rfl hs w, by decide, by decide, by decide, by decide, fun s hs => by omega⟩
theorem results_t4q {fn : Func} {a b c d : Tmp} (h : fn.results = #[.tmp a, .tmp b, .tmp c, .tmp d]) (tmps : Array Value) (P : Program) (w : World) :
    (results fn tmps).run P w = .ok (.tuple #[tmps.getD a undef, tmps.getD b undef, tmps.getD c undef, tmps.getD d undef]) w := by
  simp only [results, h]
  simp
theorem finiteQ {f p m l : Int} {S I H : Nat} (F : PmQ f p m l S I H) (b : Nat) (hb : b < 2 * S) (hr : b % S < I) (w : World) :
    Calls Tryz.prog 88 #[.int .i64 f, U b] w fun en w' => en = .returned (.tuple #[PV p m l (decide (S ≤ b)) (b % S), .int .i64 0]) ∧ Below w.heap.size w w' := by
  have HF : Hid (PmQ f p m l S I H) := F
  have HR : Hid (b < 2 * S ∧ b % S ≤ I ∧ decide (b % S = I) = false) := ⟨hb, by omega, decide_eq_false (by omega)⟩
  obtain ⟨z, hz⟩ : ∃ z, z = b % S := ⟨_, rfl⟩
  obtain ⟨s, hs⟩ : ∃ s, s = decide (S ≤ b) := ⟨_, rfl⟩
  rw [← hz, ← hs]
  have HZ : Hid (b % S = z ∧ decide (S ≤ b) = s) := ⟨hz.symm, hs.symm⟩
  clear F hb hr hz hs
  go_enter Tryz.func88, Tryz.ntmps88
  go_wp2_with fail
  obtain ⟨W0, hW0⟩ : ∃ W0, W0 = (w.alloc (.cells #[.int .i64 0, .int .i64 0, .int .i64 0, .bool false, .int .u64 0] 128)) := ⟨_, rfl⟩
  have Xr : Hid (B5q W0 (w.heap.size) (.int .i64 0) (.int .i64 0) (.int .i64 0) (.bool false) (.int .u64 0)) := by rw [hW0]; exact ⟨by go_simp, by go_simp, by go_simp, by go_simp, by go_simp, by go_simp, by go_simp, by go_simp, by go_simp, by go_simp⟩
  have hb0 : Below w.heap.size w W0 := by rw [hW0]; exact below1 w _
  rw [← hW0]
  clear hW0
  have hbw : Below w.heap.size w w := Below.refl _ _
  obtain ⟨gr, hgr⟩ : ∃ g, g = w.heap.size := ⟨_, rfl⟩
  have HGr : Hid (w.heap.size ≤ gr) := by rw [hgr]; show _ ≤ _; omega
  rw [← hgr] at Xr
  try rw [← hgr]
  clear hgr
  replace hbw := Below.on hbw hb0
  clear hb0
  refine (rankedQ HF.out.fm b HR.out.1 HR.out.2.1 _).mono ?_
  rintro e v1 ⟨rfl, hb1⟩
  rw [HZ.out.1, HZ.out.2]
  replace Xr : Hid _ := Xr.out.below hb1
  replace hbw := Below.on hbw hb1
  clear hb1
  go_wp2_with fail
  have Xp0 : Hid (B5q (v1.alloc (.cells #[.int .i64 p, .int .i64 m, .int .i64 l, .bool s, U z] 128)) v1.heap.size (.int .i64 p) (.int .i64 m) (.int .i64 l) (.bool s) (U z)) := B5q.new v1 _ _ _ _ _ _
  have hbn : Below v1.heap.size v1 (v1.alloc (.cells #[.int .i64 p, .int .i64 m, .int .i64 l, .bool s, U z] 128)) := below1 v1 _
  generalize v1.alloc (.cells #[.int .i64 p, .int .i64 m, .int .i64 l, .bool s, U z] 128) = Wp at *
  have HGp : Hid (w.heap.size ≤ v1.heap.size) := hbw.size
  replace Xr : Hid _ := Xr.out.below hbn
  replace hbw := Below.on hbw hbn
  clear hbn
  generalize v1.heap.size = gp at *
  have Xp := Xp0
  clear Xp0
  refine (HF.out.fm.cls s z _).mono ?_
  rintro e2 v2 ⟨c, rfl, hc4, hc3, hb2⟩
  have hc0 : (c == 3) = false := by rw [hc3, ← HZ.out.1]; exact HR.out.2.2
  clear hc4 hc3
  replace Xr : Hid _ := Xr.out.below hb2
  replace Xp : Hid _ := Xp.out.below hb2
  replace hbw := Below.on hbw hb2
  clear hb2
  obtain ⟨cp0, cp1, cp2, cp3, cp4, fp0, fp1, fp2, fp3, fp4⟩ := Xp.out
  have hnep : gp < v2.heap.size := World.block_lt_of_cell? v2 _ cp0
  obtain ⟨cr0, cr1, cr2, cr3, cr4, fr0, fr1, fr2, fr3, fr4⟩ := Xr.out
  have hner : gr < v2.heap.size := World.block_lt_of_cell? v2 _ cr0
  go_wp2_with fail
  refine bodyPost_ret (v := .tuple #[PV p m l s z, .int .i64 0]) (by rw [results_cell_tmp rfl]; go_simp) rfl ⟨rfl, ?_⟩
  exact bSet (bSet (bSet (bSet (bSet hbw _ _ _ HGr.out) _ _ _ HGr.out) _ _ _ HGr.out) _ _ _ HGr.out) _ _ _ HGr.out
theorem splitQ {f p m l : Int} {S I H : Nat} (F : PmQ f p m l S I H) (b : Nat) (hb : b < 2 * S) (hr : b % S < I) (w : World) :
    Calls Tryz.prog 64 #[.int .i64 f, U b] w fun en w' => en = .returned (.tuple #[.bool (decide (S ≤ b)), U (b % S - (b % S / H - 1) * H), .int .i64 (l + ((b % S / H - 1 : Nat) : Int)), .int .i64 0]) ∧ Below w.heap.size w w' := by
  have HF : Hid (PmQ f p m l S I H) := F
  have hS : b % S < S := Nat.mod_lt _ (by have := F.fm.lt; omega)
  have HR : Hid (b < 2 * S ∧ b % S < I ∧ b % S < S) := ⟨hb, hr, hS⟩
  obtain ⟨z, hz⟩ : ∃ z, z = b % S := ⟨_, rfl⟩
  obtain ⟨s, hs⟩ : ∃ s, s = decide (S ≤ b) := ⟨_, rfl⟩
  rw [← hz, ← hs]
  have HZ : Hid (b % S = z ∧ decide (S ≤ b) = s) := ⟨hz.symm, hs.symm⟩
  clear F hb hr hz hs hS
  go_enter Tryz.func64, Tryz.ntmps64
  go_wp2_with fail
  have hbw : Below w.heap.size w w := Below.refl _ _
  refine (finiteQ HF.out b HR.out.1 HR.out.2.1 _).mono ?_
  rintro e v1 ⟨rfl, hb1⟩
  rw [HZ.out.1, HZ.out.2]
  replace hbw := Below.on hbw hb1
  clear hb1
  go_wp2_with fail
  have Xp0 : Hid (B5q (v1.alloc (.cells #[.int .i64 p, .int .i64 m, .int .i64 l, .bool s, U z] 128)) v1.heap.size (.int .i64 p) (.int .i64 m) (.int .i64 l) (.bool s) (U z)) := B5q.new v1 _ _ _ _ _ _
  have hbn : Below v1.heap.size v1 (v1.alloc (.cells #[.int .i64 p, .int .i64 m, .int .i64 l, .bool s, U z] 128)) := below1 v1 _
  generalize v1.alloc (.cells #[.int .i64 p, .int .i64 m, .int .i64 l, .bool s, U z] 128) = Wp at *
  have HGp : Hid (w.heap.size ≤ v1.heap.size) := hbw.size
  replace hbw := Below.on hbw hbn
  clear hbn
  generalize v1.heap.size = gp at *
  have Xp := Xp0
  clear Xp0
  refine (HF.out.pt z _ (by have := HR.out.2.2; rw [HZ.out.1] at this; exact this)).mono ?_
  rintro e v2 ⟨rfl, hb2⟩
  replace Xp : Hid _ := Xp.out.below hb2
  replace hbw := Below.on hbw hb2
  clear hb2
  obtain ⟨cp0, cp1, cp2, cp3, cp4, fp0, fp1, fp2, fp3, fp4⟩ := Xp.out
  have hnep : gp < v2.heap.size := World.block_lt_of_cell? v2 _ cp0
  go_wp2_with fail
  clear cp0 cp1 cp2 cp3 cp4 fp0 fp1 fp2 fp3 fp4 hnep
  refine bodyPost_ret (v := .tuple #[.bool s, U (z - (z / H - 1) * H), .int .i64 (l + ((z / H - 1 : Nat) : Int)), .int .i64 0]) (by rw [results_t4q rfl]; go_simp) rfl ⟨rfl, hbw⟩
theorem valueQ {f p m l : Int} {S I H : Nat} (F : PmQ f p m l S I H) (b : Nat) (hb : b < 2 * S) (hr : b % S < I) (w : World) (hT : Tab w) :
    Calls Tryz.prog 43 #[.int .i64 f, U b] w fun en w' => MakeP w.heap.size w' en (if S ≤ b then -(((b % S - (b % S / H - 1) * H) : Nat) : Int) else (((b % S - (b % S / H - 1) * H) : Nat) : Int)) (l + ((b % S / H - 1 : Nat) : Int)) ∧ Below w.heap.size w w' := by
  have HF : Hid (PmQ f p m l S I H) := F
  have TB : Hid (Tab w) := hT
  have HR : Hid (b < 2 * S ∧ b % S < I) := ⟨hb, hr⟩
  have hst := F.st _ hr
  have hlo := F.lo
  have h9 := F.h9
  have hp := F.hp
  obtain ⟨q, hq⟩ : ∃ q, q = b % S / H - 1 := ⟨_, rfl⟩
  have hmn : b % S - q * H < 2 * H := by
    have h1 := Nat.div_add_mod (b % S) H
    have h2 := Nat.mod_lt (b % S) hp
    rw [Nat.mul_comm] at h1
    by_cases h3 : b % S / H = 0
    · rw [h3] at h1; omega
    · rw [hq, Nat.sub_mul]; omega
  obtain ⟨mn, hmn2⟩ : ∃ mn, mn = b % S - q * H := ⟨_, rfl⟩
  obtain ⟨ex, hex⟩ : ∃ ex : Int, ex = l + (q : Int) := ⟨_, rfl⟩
  obtain ⟨s, hs⟩ : ∃ s, s = decide (S ≤ b) := ⟨_, rfl⟩
  have hsv : (if S ≤ b then -((mn : Nat) : Int) else ((mn : Nat) : Int)) = iv (s && decide (mn ≠ 0)) mn := by
    rw [hs]
    by_cases h1 : S ≤ b
    · rw [if_pos h1, decide_eq_true h1, Bool.true_and]
      by_cases h2 : mn = 0
      · rw [h2]; rfl
      · rw [decide_eq_true h2]; rfl
    · rw [if_neg h1, decide_eq_false h1, Bool.false_and]; rfl
  rw [← hq, ← hmn2, ← hex, hsv]
  obtain ⟨zv, hzv⟩ : ∃ zv, zv = iv (s && decide (mn ≠ 0)) mn := ⟨_, rfl⟩
  rw [← hzv]
  have HZV : Hid (zv = iv (s && decide (mn ≠ 0)) mn) := hzv
  rw [← hmn2] at hmn
  have HX : Hid (b % S - (b % S / H - 1) * H = mn ∧ (l + ((b % S / H - 1 : Nat) : Int)) = ex ∧ decide (S ≤ b) = s) := ⟨by rw [← hq]; exact hmn2.symm, by rw [← hq]; exact hex.symm, hs.symm⟩
  have HM : Hid (mn < B64 ∧ -3145728 ≤ ex ∧ ex ≤ 3145728) := ⟨by rw [B64_eq]; omega, by omega, by omega⟩
  clear F hb hr hT hst hlo h9 hp hmn hmn2 hex hs hsv hq hzv
  go_enter Tryz.func43, Tryz.ntmps43
  go_wp2_with fail
  obtain ⟨W0, hW0⟩ : ∃ W0, W0 = (w.alloc (.cells #[.bool false, .slice none 0 0, .int .i64 0] 36)) := ⟨_, rfl⟩
  have Xr : Hid (B3q W0 (w.heap.size) (.bool false) (.slice none 0 0) (.int .i64 0)) := by rw [hW0]; exact ⟨by go_simp, by go_simp, by go_simp, by go_simp, by go_simp, by go_simp⟩
  have hb0 : Below w.heap.size w W0 := by rw [hW0]; exact below1 w _
  rw [← hW0]
  clear hW0
  have hbw : Below w.heap.size w w := Below.refl _ _
  obtain ⟨gr, hgr⟩ : ∃ g, g = w.heap.size := ⟨_, rfl⟩
  have HGr : Hid (w.heap.size ≤ gr) := by rw [hgr]; show _ ≤ _; omega
  rw [← hgr] at Xr
  try rw [← hgr]
  clear hgr
  replace hbw := Below.on hbw hb0
  clear hb0
  refine (splitQ HF.out b HR.out.1 HR.out.2 _).mono ?_
  rintro e v1 ⟨rfl, hb1⟩
  rw [HX.out.1, HX.out.2.1, HX.out.2.2]
  replace Xr : Hid _ := Xr.out.below hb1
  replace hbw := Below.on hbw hb1
  clear hb1
  cases s
  · have HEQ : Hid (iv false mn = zv ∧ True) := ⟨HZV.out.symm, trivial⟩
    clear HZV
    go_wp2_with fail
    refine (word_any mn _ HM.out.1).mono ?_
    rintro e2 v2 ⟨p2, m2, z2, rfl, ho2, hn2, hm2, hb2⟩
    replace Xr : Hid _ := Xr.out.below hb2
    replace hbw := Below.on hbw hb2
    clear hb2
    have Z2 : Hid (ZN v2 false p2 m2 m2 zv) := (ZN.of (t := false) (Num.of ho2 hn2 (by omega)) (fun h => by cases h)).cast HEQ.out.1
    clear ho2 hn2 hm2
    go_wp2_with fail
    have HRL : Hid (gr < v2.heap.size ∧ w.heap.size ≤ v2.heap.size) := ⟨Xr.out.lt, hbw.size⟩
    refine (makep Z2.out HM.out.2 (TB.out.below hbw)).mono ?_
    rintro e2 v6 ⟨hv, hb6⟩
    obtain ⟨s6, p6, m6, eo, er, rfl, hmp⟩ := hv.open
    clear hv
    replace Xr : Hid _ := Xr.out.below hb6
    replace Z2 : Hid _ := Z2.out.below hb6
    replace hbw := Below.on hbw hb6
    clear hb6
    have M6 : Hid (MP v2.heap.size v6 s6 p6 m6 eo er (zv) (ex)) := hmp
    clear hmp
    obtain ⟨cr0, cr1, cr2, fr0, fr1, fr2⟩ := Xr.out
    have hner : gr < v6.heap.size := World.block_lt_of_cell? v6 _ cr0
    go_wp2_with fail
    refine bodyPost_ret (v := .tuple #[DV s6 p6 m6 m6 eo, .int .i64 er]) (by rw [results_cell_tmp rfl]; go_simp) rfl ⟨(M6.out.set HRL.out.1 HRL.out.2 _ _ _).close, ?_⟩
    exact bSet (bSet (bSet hbw _ _ _ HGr.out) _ _ _ HGr.out) _ _ _ HGr.out
  · by_cases hm0 : mn = 0
    · have d1 : ((mn : Int) == 0) = true := by simp [hm0]
      have d2 : ((mn : Int) != 0) = false := by simp [hm0]
      have HM0 : Hid (mn = 0) := hm0
      clear hm0
      have HEQ : Hid (iv false mn = zv ∧ True) := ⟨by rw [HZV.out, HM0.out]; rfl, trivial⟩
      clear HZV
      go_wp2_with fail
      refine (word_any mn _ HM.out.1).mono ?_
      rintro e2 v2 ⟨p2, m2, z2, rfl, ho2, hn2, hm2, hb2⟩
      replace Xr : Hid _ := Xr.out.below hb2
      replace hbw := Below.on hbw hb2
      clear hb2
      have Z2 : Hid (ZN v2 false p2 m2 m2 zv) := (ZN.of (t := false) (Num.of ho2 hn2 (by omega)) (fun h => by cases h)).cast HEQ.out.1
      clear ho2 hn2 hm2
      go_wp2_with fail
      have HRL : Hid (gr < v2.heap.size ∧ w.heap.size ≤ v2.heap.size) := ⟨Xr.out.lt, hbw.size⟩
      refine (makep Z2.out HM.out.2 (TB.out.below hbw)).mono ?_
      rintro e2 v6 ⟨hv, hb6⟩
      obtain ⟨s6, p6, m6, eo, er, rfl, hmp⟩ := hv.open
      clear hv
      replace Xr : Hid _ := Xr.out.below hb6
      replace Z2 : Hid _ := Z2.out.below hb6
      replace hbw := Below.on hbw hb6
      clear hb6
      have M6 : Hid (MP v2.heap.size v6 s6 p6 m6 eo er (zv) (ex)) := hmp
      clear hmp
      obtain ⟨cr0, cr1, cr2, fr0, fr1, fr2⟩ := Xr.out
      have hner : gr < v6.heap.size := World.block_lt_of_cell? v6 _ cr0
      go_wp2_with fail
      refine bodyPost_ret (v := .tuple #[DV s6 p6 m6 m6 eo, .int .i64 er]) (by rw [results_cell_tmp rfl]; go_simp) rfl ⟨(M6.out.set HRL.out.1 HRL.out.2 _ _ _).close, ?_⟩
      exact bSet (bSet (bSet hbw _ _ _ HGr.out) _ _ _ HGr.out) _ _ _ HGr.out
    · have HMN : Hid (mn ≠ 0) := hm0
      have d1 : ((mn : Int) == 0) = false := by simp [hm0]
      have d2 : ((mn : Int) != 0) = true := by simp [hm0]
      clear hm0
      have HEQ : Hid (iv true mn = zv ∧ 0 < mn) := ⟨by rw [HZV.out, decide_eq_true HMN.out]; rfl, by have := HMN.out; omega⟩
      clear HZV
      go_wp2_with fail
      refine (word_any mn _ HM.out.1).mono ?_
      rintro e2 v2 ⟨p2, m2, z2, rfl, ho2, hn2, hm2, hb2⟩
      replace Xr : Hid _ := Xr.out.below hb2
      replace hbw := Below.on hbw hb2
      clear hb2
      have Z2 : Hid (ZN v2 true p2 m2 m2 zv) := (ZN.of (t := true) (Num.of ho2 hn2 (by omega)) (fun _ => HEQ.out.2)).cast HEQ.out.1
      clear ho2 hn2 hm2
      go_wp2_with fail
      have HRL : Hid (gr < v2.heap.size ∧ w.heap.size ≤ v2.heap.size) := ⟨Xr.out.lt, hbw.size⟩
      refine (makep Z2.out HM.out.2 (TB.out.below hbw)).mono ?_
      rintro e2 v6 ⟨hv, hb6⟩
      obtain ⟨s6, p6, m6, eo, er, rfl, hmp⟩ := hv.open
      clear hv
      replace Xr : Hid _ := Xr.out.below hb6
      replace Z2 : Hid _ := Z2.out.below hb6
      replace hbw := Below.on hbw hb6
      clear hb6
      have M6 : Hid (MP v2.heap.size v6 s6 p6 m6 eo er (zv) (ex)) := hmp
      clear hmp
      obtain ⟨cr0, cr1, cr2, fr0, fr1, fr2⟩ := Xr.out
      have hner : gr < v6.heap.size := World.block_lt_of_cell? v6 _ cr0
      go_wp2_with fail
      refine bodyPost_ret (v := .tuple #[DV s6 p6 m6 m6 eo, .int .i64 er]) (by rw [results_cell_tmp rfl]; go_simp) rfl ⟨(M6.out.set HRL.out.1 HRL.out.2 _ _ _).close, ?_⟩
      exact bSet (bSet (bSet hbw _ _ _ HGr.out) _ _ _ HGr.out) _ _ _ HGr.out
structure VFQ (S H : Nat) (l : Int) (b : Nat) (zo eo : Int) : Prop where
  fm : DFm zo eo
  v : dv zo eo = dv (svS S H b) l
theorem vfQ {f p m l : Int} {S I H : Nat} (F : PmQ f p m l S I H) {b : Nat} (hr : b % S < I) : ∃ zo eo, VFQ S H l b zo eo ∧ dv zo eo = dv (if S ≤ b then -(((b % S - (b % S / H - 1) * H : Nat)) : Int) else ((b % S - (b % S / H - 1) * H : Nat) : Int)) (l + ((b % S / H - 1 : Nat) : Int)) := by
  have hst := F.st _ hr
  have hlo := F.lo
  have h9 := F.h9
  have hp := F.hp
  have e1 : dv (if S ≤ b then -(((b % S - (b % S / H - 1) * H : Nat)) : Int) else ((b % S - (b % S / H - 1) * H : Nat) : Int)) (l + ((b % S / H - 1 : Nat) : Int)) = dv (svS S H b) l := by
    rw [dv_up _ (by omega), svS_eq]
    unfold vs
    by_cases h : S ≤ b
    · rw [if_pos h, if_pos h, Int.neg_mul, ← Int.natCast_mul]
    · rw [if_neg h, if_neg h, ← Int.natCast_mul]
  have hmn : b % S - (b % S / H - 1) * H < 2 * H := by
    have h1 := Nat.div_add_mod (b % S) H
    have h2 := Nat.mod_lt (b % S) hp
    rw [Nat.mul_comm] at h1
    by_cases h3 : b % S / H = 0
    · rw [h3] at h1 ⊢; omega
    · rw [Nat.sub_mul]; omega
  obtain ⟨mn, hmn2⟩ : ∃ mn, mn = b % S - (b % S / H - 1) * H := ⟨_, rfl⟩
  rw [← hmn2] at hmn e1 ⊢
  rw [e1]
  obtain ⟨z, hz⟩ : ∃ z : Int, z = (if S ≤ b then -(mn : Int) else (mn : Int)) := ⟨_, rfl⟩
  have hzn : z.natAbs = mn := by rw [hz]; split <;> omega
  rw [← hz] at e1
  by_cases h0 : z = 0
  · exact ⟨0, 0, ⟨.inl ⟨rfl, rfl⟩, by rw [← e1, h0, dv_zero, dv_zero]⟩, by rw [← e1, h0, dv_zero, dv_zero]⟩
  · have h53 : z.natAbs ≤ 2 ^ 53 := by
      have h54 : (2 : Nat) ^ 53 = 9007199254740992 := by decide
      rw [hzn, h54]
      omega
    obtain ⟨zo, eo, g1, g2, _⟩ := form_ex (L := 53) (e := l + ((b % S / H - 1 : Nat) : Int)) h0 (by omega) h53 (by omega)
    exact ⟨zo, eo, ⟨g1, by rw [g2, e1]⟩, by rw [g2, e1]⟩
theorem valueV {f p m l : Int} {S I H : Nat} (F : PmQ f p m l S I H) {b : Nat} (hb : b < 2 * S) (hr : b % S < I) {zo eo : Int} (hv : VFQ S H l b zo eo) (w : World) (hT : Tab w) :
    Calls Tryz.prog 43 #[.int .i64 f, U b] w fun en w' => ∃ v, en = .returned (.tuple #[v, .int .i64 0]) ∧ AnsD w.heap.size w' v zo eo ∧ Below w.heap.size w w' := by
  obtain ⟨z1, e1, v1, v2⟩ := vfQ F hr
  refine (valueQ F b hb hr w hT).mono fun en w' ⟨h1, h2⟩ => ?_
  obtain ⟨v, h3, h4⟩ := h1.form hv.fm (by rw [hv.v, ← v2, v1.v])
  exact ⟨v, h3, h4, h2⟩
theorem sameD_t {p q : Option Addr} {m c n d : Nat} {w : World} {z e : Int} {s t : Bool} (h : DN w s p m c e z) (k : DN w t q n d e z) :
    Calls Tryz.prog 12 #[DV s p m c e, DV t q n d e] w fun en w' => en = .returned (.bool true) ∧ Below w.heap.size w w' := by
  obtain rfl : s = t := by rw [h.zn.sg, k.zn.sg]
  have H : Hid (DN w s p m c e z) := h
  have K : Hid (DN w s q n d e z) := k
  have hbb : (s == s) = true := by simp
  have hee : (e == e) = true := by simp
  clear h k
  go_enter Tryz.func12, Tryz.ntmps12
  go_wp2_with fail
  obtain ⟨W0, hW0⟩ : ∃ W0, W0 = ((w.alloc (.cells #[.bool s, .slice p m c, .int .i64 e] 36)).alloc (.cells #[.bool s, .slice q n d, .int .i64 e] 36)) := ⟨_, rfl⟩
  have Xa : Hid (B3q W0 (w.heap.size) (.bool s) (.slice p m c) (.int .i64 e)) := by rw [hW0]; exact ⟨by go_simp, by go_simp, by go_simp, by go_simp, by go_simp, by go_simp⟩
  have Xb : Hid (B3q W0 (w.heap.size + 1) (.bool s) (.slice q n d) (.int .i64 e)) := by rw [hW0]; exact ⟨by go_simp, by go_simp, by go_simp, by go_simp, by go_simp, by go_simp⟩
  have hb0 : Below w.heap.size w W0 := by rw [hW0]; exact below2 w _ _
  rw [← hW0]
  clear hW0
  have hbw : Below w.heap.size w w := Below.refl _ _
  obtain ⟨gb, hgb⟩ : ∃ g, g = w.heap.size + 1 := ⟨_, rfl⟩
  have HGb : Hid (w.heap.size ≤ gb) := by rw [hgb]; show _ ≤ _; omega
  rw [← hgb] at Xb
  try rw [← hgb]
  obtain ⟨ga, hga⟩ : ∃ g, g = w.heap.size := ⟨_, rfl⟩
  have HGa : Hid (w.heap.size ≤ ga) := by rw [hga]; show _ ≤ _; omega
  rw [← hga] at Xa
  try rw [← hga]
  have HGD : Hid (ga ≠ gb ∧ gb ≠ ga) := by rw [hga, hgb]; exact ⟨by omega, by omega⟩
  clear hga hgb
  replace hbw := Below.on hbw hb0
  clear hb0
  obtain ⟨xs, hX⟩ := (H.out.zn.below hbw).ex
  obtain ⟨ys, hY⟩ := (K.out.zn.below hbw).ex
  obtain rfl := hX.nf.inj B64_one hY.nf
  refine (same_t hX.at_ hY.at_).mono ?_
  rintro e2 v1 ⟨rfl, hb1⟩
  clear hX hY
  replace Xa : Hid _ := Xa.out.below hb1
  replace Xb : Hid _ := Xb.out.below hb1
  replace hbw := Below.on hbw hb1
  clear hb1
  go_wp2_with fail
  go_ret
  exact ⟨rfl, hbw⟩
theorem DN.set {w : World} {s : Bool} {g m c : Nat} {e z : Int} (h : DN w s (some ⟨g, 0, none⟩) m c e z) (g2 o2 : Nat) (v : Value) (hne : g ≠ g2) : DN (w.setCell ⟨g2, o2, none⟩ v) s (some ⟨g, 0, none⟩) m c e z := by
  obtain ⟨xs, hX⟩ := h.zn.ex
  exact ⟨⟨⟨xs, hX.at_.setOther g2 o2 v hne, hX.nf, hX.le⟩, h.zn.sg⟩, h.fm⟩
structure DO (B : Nat) (w : World) (s : Bool) (p : Option Addr) (m : Nat) (e z : Int) : Prop where
  own : ∃ zs, Own B w p m zs ∧ Nf B64 zs z.natAbs ∧ m ≤ 8192
  sg : s = decide (z < 0)
  fm : DFm z e
theorem DO.dn {B : Nat} {w : World} {s : Bool} {p : Option Addr} {m : Nat} {e z : Int} (h : DO B w s p m e z) : DN w s p m m e z := by
  obtain ⟨zs, h1, h2, h3⟩ := h.own
  exact ⟨⟨⟨zs, Num.of h1 h2 h3⟩, h.sg⟩, h.fm⟩
theorem DO.below {B : Nat} {w w' : World} {s : Bool} {p : Option Addr} {m : Nat} {e z : Int} (h : DO B w s p m e z) (hb : Below w.heap.size w w') : DO B w' s p m e z := by
  obtain ⟨zs, h1, h2, h3⟩ := h.own
  exact ⟨⟨zs, h1.below hb, h2, h3⟩, h.sg, h.fm⟩
theorem DO.set {B : Nat} {w : World} {s : Bool} {p : Option Addr} {m : Nat} {e z : Int} (h : DO B w s p m e z) (g o : Nat) (v : Value) (hg : g < B) : DO B (w.setCell ⟨g, o, none⟩ v) s p m e z := by
  obtain ⟨zs, h1, h2, h3⟩ := h.own
  exact ⟨⟨zs, h1.setOld _ _ _ hg, h2, h3⟩, h.sg, h.fm⟩
theorem DO.of {B : Nat} {w : World} {v : Value} {e z : Int} (h : AnsD B w v z e) (hf : DFm z e) : ∃ s p m, v = DV s p m m e ∧ DO B w s p m e z := by
  obtain ⟨p, m, zs, rfl, h1, h2, h3⟩ := h
  exact ⟨_, p, m, rfl, ⟨zs, h1, h2, h3⟩, rfl, hf⟩
theorem vf_dd {b : Nat} (hb : Fin64 b) : ∃ zo eo, VFQ 9223372036854775808 4503599627370496 (-1074) b zo eo ∧ DB zo eo 128 1430 := by
  have hr := hb.fin
  obtain ⟨z1, e1, v1, v2⟩ := vfQ pmQ hr
  refine ⟨z1, e1, v1, ?_⟩
  obtain ⟨q, hq⟩ : ∃ q, q = b % 9223372036854775808 / 4503599627370496 - 1 := ⟨_, rfl⟩
  have hmn : b % 9223372036854775808 - q * 4503599627370496 < 9007199254740992 := by omega
  have hq2 : q ≤ 2045 := by omega
  rw [← hq] at v2
  obtain ⟨y, hy⟩ : ∃ y : Int, y = (if 9223372036854775808 ≤ b then -((b % 9223372036854775808 - q * 4503599627370496 : Nat) : Int) else ((b % 9223372036854775808 - q * 4503599627370496 : Nat) : Int)) := ⟨_, rfl⟩
  rw [← hy] at v2
  have hya : y.natAbs ≤ 2 ^ 53 := by
    have : (2 : Nat) ^ 53 = 9007199254740992 := by decide
    rw [hy, this]; split <;> omega
  by_cases h0 : y = 0
  · rw [h0, dv_zero] at v2
    have := dv_eq_zero v2
    rcases v1.fm with ⟨h1, h2⟩ | ⟨h1, _⟩
    · rw [h1, h2]; exact ⟨.inl ⟨rfl, rfl⟩, by decide, by decide, by decide⟩
    · omega
  · obtain ⟨za, ea, g1, g2, _, g4, g5, g6⟩ := form_ex (z := y) (e := -1074 + (q : Int)) (L := 53) h0 (by omega) hya (by omega)
    obtain ⟨rfl, rfl⟩ := dv_inj v1.fm g1 (v2.trans g2.symm)
    have h128 : (2 : Nat) ^ 53 < 2 ^ 128 := by decide
    exact ⟨g1, by omega, by omega, by omega⟩
theorem ddnumber {b : Nat} {zo eo : Int} (hb : Fin64 b) (hv : VFQ 9223372036854775808 4503599627370496 (-1074) b zo eo) (w : World) (hT : Tab w) :
    Calls Tryz.prog 21 #[Fv b] w fun en w' => ∃ s p m, en = .returned (DV s p m m eo) ∧ DO w.heap.size w' s p m eo zo ∧ Below w.heap.size w w' := by
  have TB : Hid (Tab w) := hT
  have HF : Hid (Fin64 b) := hb
  have VA : Hid (VFQ 9223372036854775808 4503599627370496 (-1074) b zo eo) := hv
  have bo : ∀ w, (callFunc 27 #[Fv b]).run Tryz.prog w = .ok (.value (.int .u64 (b : Int))) w := fun w => bitsOf b w
  clear hT hb hv
  go_enter Tryz.func21, Tryz.ntmps21
  go_wp2_with fail
  obtain ⟨W0, hW0⟩ : ∃ W0, W0 = (w.alloc (.cells #[.bool false, .slice none 0 0, .int .i64 0] 36)) := ⟨_, rfl⟩
  have Xr : Hid (B3q W0 (w.heap.size) (.bool false) (.slice none 0 0) (.int .i64 0)) := by rw [hW0]; exact ⟨by go_simp, by go_simp, by go_simp, by go_simp, by go_simp, by go_simp⟩
  have hb0 : Below w.heap.size w W0 := by rw [hW0]; exact below1 w _
  rw [← hW0]
  clear hW0
  have hbw : Below w.heap.size w w := Below.refl _ _
  obtain ⟨gr, hgr⟩ : ∃ g, g = w.heap.size := ⟨_, rfl⟩
  have HGr : Hid (w.heap.size ≤ gr) := by rw [hgr]; show _ ≤ _; omega
  rw [← hgr] at Xr
  try rw [← hgr]
  clear hgr
  replace hbw := Below.on hbw hb0
  clear hb0
  have HR : Hid (gr < W0.heap.size) := Xr.out.lt
  refine (valueV pmQ (by have := HF.out.lt; omega) HF.out.fin VA.out _ (TB.out.below hbw)).mono ?_
  rintro en v1 ⟨v, rfl, hv, hb1⟩
  obtain ⟨s1, p1, m1, rfl, hd1⟩ := DO.of hv VA.out.fm
  clear hv
  have HN1 : Hid (W0.heap.size ≤ v1.heap.size) := hb1.size
  replace Xr : Hid _ := Xr.out.below hb1
  replace hbw := Below.on hbw hb1
  clear hb1
  have D1 : Hid (DO W0.heap.size v1 s1 p1 m1 (eo) (zo)) := hd1
  clear hd1
  obtain ⟨cr0, cr1, cr2, fr0, fr1, fr2⟩ := Xr.out
  have hner : gr < v1.heap.size := World.block_lt_of_cell? v1 _ cr0
  go_wp2_with fail
  refine bodyPost_ret (v := DV s1 p1 m1 m1 eo) (by rw [results_cell1 rfl]; go_simp) rfl ⟨s1, p1, m1, rfl, ?_, ?_⟩
  · obtain ⟨zs, h1, h2, h3⟩ := D1.out.own
    exact ⟨⟨zs, (own_set3 h1 HR.out (show w.heap.size ≤ W0.heap.size from Nat.le_trans HGr.out (Nat.le_of_lt HR.out)) _ _ _).below (below1 _ _), h2, h3⟩, D1.out.sg, D1.out.fm⟩
  · exact Below.on (bSet (bSet (bSet hbw _ _ _ HGr.out) _ _ _ HGr.out) _ _ _ HGr.out) (below1 _ _)
theorem ddvalue (h l : Nat) (hf : DdF h l) (w : World) (hT : Tab w) :
    Calls Tryz.prog 8 #[.agg #[Fv h, Fv l]] w fun en w' => ∃ s p m zo eo, en = .returned (.tuple #[DV s p m m eo, .int .i64 0]) ∧ DO w.heap.size w' s p m eo zo ∧ dv zo eo = dv (ux h + ux l) (-1074) ∧ Below w.heap.size w w' := by
  have hSF : ∀ (w : World) (a : Addr) (b : Nat), (store a (Fv b)).run Tryz.prog w = stored Tryz.prog w a (Fv b) .plain := stF
  have H1 := ddform h l hf.hi.lt hf.lo.lt
  rw [ddB_iff.2 hf] at H1
  have TB : Hid (Tab w) := hT
  have HF : Hid (DdF h l) := hf
  obtain ⟨z1, e1, k1, b1⟩ := vf_dd hf.hi
  obtain ⟨z2, e2, k2, b2⟩ := vf_dd hf.lo
  have VA : Hid (VFQ 9223372036854775808 4503599627370496 (-1074) h z1 e1 ∧ DB z1 e1 128 1430) := ⟨k1, b1⟩
  have VB : Hid (VFQ 9223372036854775808 4503599627370496 (-1074) l z2 e2 ∧ DB z2 e2 128 1430) := ⟨k2, b2⟩
  clear hT hf k1 b1 k2 b2
  go_enter Tryz.func8, Tryz.ntmps8
  go_wp2_with fail
  obtain ⟨W0, hW0⟩ : ∃ W0, W0 = ((w.alloc (.cells #[Fv h, Fv l] 30)).alloc (.cells #[.bool false, .slice none 0 0, .int .i64 0] 36)) := ⟨_, rfl⟩
  have Xa : Hid (Box W0 (w.heap.size) (Fv h) (Fv l)) := by rw [hW0]; exact ⟨by go_simp, by go_simp, by go_simp, by go_simp⟩
  have Xr : Hid (B3q W0 (w.heap.size + 1) (.bool false) (.slice none 0 0) (.int .i64 0)) := by rw [hW0]; exact ⟨by go_simp, by go_simp, by go_simp, by go_simp, by go_simp, by go_simp⟩
  have hb0 : Below w.heap.size w W0 := by rw [hW0]; exact below2 w _ _
  rw [← hW0]
  clear hW0
  have hbw : Below w.heap.size w w := Below.refl _ _
  obtain ⟨gr, hgr⟩ : ∃ g, g = w.heap.size + 1 := ⟨_, rfl⟩
  have HGr : Hid (w.heap.size ≤ gr) := by rw [hgr]; show _ ≤ _; omega
  rw [← hgr] at Xr
  try rw [← hgr]
  obtain ⟨ga, hga⟩ : ∃ g, g = w.heap.size := ⟨_, rfl⟩
  have HGa : Hid (w.heap.size ≤ ga) := by rw [hga]; show _ ≤ _; omega
  rw [← hga] at Xa
  try rw [← hga]
  have HGD : Hid (ga ≠ gr ∧ gr ≠ ga) := by rw [hga, hgr]; exact ⟨by omega, by omega⟩
  clear hga hgr
  replace hbw := Below.on hbw hb0
  clear hb0
  obtain ⟨hgd0, hgd1⟩ := HGD.out
  have HR : Hid (gr < W0.heap.size) := Xr.out.lt
  refine (H1 _).mono ?_
  rintro e v1 ⟨rfl, hb1⟩
  replace Xa : Hid _ := Xa.out.below hb1
  replace Xr : Hid _ := Xr.out.below hb1
  replace hbw := Below.on hbw hb1
  clear hb1
  obtain ⟨ca0, ca1, fa0, fa1⟩ := Xa.out
  have hnea := Xa.out.lt
  obtain ⟨cr0, cr1, cr2, fr0, fr1, fr2⟩ := Xr.out
  have hner : gr < v1.heap.size := World.block_lt_of_cell? v1 _ cr0
  go_wp2_with fail
  clear ca0 ca1 fa0 fa1 hnea
  clear cr0 cr1 cr2 fr0 fr1 fr2 hner
  obtain ⟨V1, hV1⟩ : ∃ W1, W1 = v1.drew := ⟨_, rfl⟩
  have hbd : Below v1.heap.size v1 V1 := by rw [hV1]; exact bDrew1 (Below.refl _ _)
  replace Xa : Hid _ := Xa.out.below hbd
  replace Xr : Hid _ := Xr.out.below hbd
  replace hbw := Below.on hbw hbd
  clear hbd
  have HJ : Hid ((fun W' : World => W'.cell? ⟨ga, 0, none⟩ = some (Fv h) ∧ W'.cell? ⟨ga, 1, none⟩ = some (Fv l)) V1) := ⟨Xa.out.c0, Xa.out.c1⟩
  refine wp_region_J (fun W' => W'.cell? ⟨ga, 0, none⟩ = some (Fv h) ∧ W'.cell? ⟨ga, 1, none⟩ = some (Fv l)) (by kernel_rfl) ?_
  rw [← hV1]
  clear hV1
  refine wpJ_tq 0 rfl HJ.out ?_
  refine wpJ_tq 1 rfl HJ.out ?_
  refine wpJ_tq 3 rfl HJ.out ?_
  refine wpJ_tq 4 rfl HJ.out ?_
  refine wpJ_on 2 rfl fun KJ hK => ?_
  go_simp
  refine (ddnumber HF.out.hi VA.out.1 _ (TB.out.below hbw)).mono ?_
  rintro en v2 ⟨s2, p2, m2, rfl, hd2, hb2⟩
  replace Xa : Hid _ := Xa.out.below hb2
  replace Xr : Hid _ := Xr.out.below hb2
  replace hbw := Below.on hbw hb2
  clear hb2
  have D2 : Hid (DO V1.heap.size v2 s2 p2 m2 (e1) (z1)) := hd2
  clear hd2
  refine hK _ _ ⟨Xa.out.c0, Xa.out.c1⟩ ?_
  clear hK
  refine wpJ_on 5 rfl fun KJ hK => ?_
  go_simp
  refine (ddnumber HF.out.lo VB.out.1 _ (TB.out.below hbw)).mono ?_
  rintro en v3 ⟨s3, p3, m3, rfl, hd3, hb3⟩
  replace Xa : Hid _ := Xa.out.below hb3
  replace Xr : Hid _ := Xr.out.below hb3
  replace D2 : Hid (DO V1.heap.size v3 s2 p2 m2 (e1) (z1)) := D2.out.below hb3
  replace hbw := Below.on hbw hb3
  clear hb3
  have D3 : Hid (DO v2.heap.size v3 s3 p3 m3 (e2) (z2)) := hd3
  clear hd3
  refine hK _ _ ⟨Xa.out.c0, Xa.out.c1⟩ ?_
  clear hK
  refine wpJ_on 6 rfl fun KJ hK => ?_
  go_simp
  have HRL : Hid (gr < v3.heap.size ∧ w.heap.size ≤ v3.heap.size) := ⟨Xr.out.lt, hbw.size⟩
  refine (dadd_b D2.out.dn D3.out.dn VA.out.2 VB.out.2 (by decide) (TB.out.below hbw)).mono ?_
  rintro en v4 ⟨v, zo, eo, rfl, hv, hB, hV, hb4⟩
  obtain ⟨s4, p4, m4, rfl, hd4⟩ := DO.of hv hB.fm
  have HV : Hid (dv zo eo = dv (ux h + ux l) (-1074)) := by rw [hV, dv_add, VA.out.1.v, VB.out.1.v]; rfl
  clear hv hB hV
  replace Xa : Hid _ := Xa.out.below hb4
  replace Xr : Hid _ := Xr.out.below hb4
  replace D2 : Hid (DO V1.heap.size v4 s2 p2 m2 (e1) (z1)) := D2.out.below hb4
  replace D3 : Hid (DO v2.heap.size v4 s3 p3 m3 (e2) (z2)) := D3.out.below hb4
  replace hbw := Below.on hbw hb4
  clear hb4
  have D4 : Hid (DO v3.heap.size v4 s4 p4 m4 (eo) (zo)) := hd4
  clear hd4
  clear HJ
  have HJ : Hid ((fun W' : World => W'.cell? ⟨ga, 0, none⟩ = some (Fv h) ∧ W'.cell? ⟨ga, 1, none⟩ = some (Fv l)) v4) := ⟨Xa.out.c0, Xa.out.c1⟩
  refine hK _ _ HJ.out ?_
  clear hK
  refine wpJ_tq 7 rfl HJ.out ?_
  refine wpJ_tq 8 rfl HJ.out ?_
  obtain ⟨cr0, cr1, cr2, fr0, fr1, fr2⟩ := Xr.out
  have hner : gr < v4.heap.size := World.block_lt_of_cell? v4 _ cr0
  obtain ⟨ca0, ca1, fa0, fa1⟩ := Xa.out
  have hnea := Xa.out.lt
  obtain ⟨hgd0, hgd1⟩ := HGD.out
  refine wpJ_on 9 rfl fun KJ hK => ?_
  go_simp
  have HJ2 : Hid ((fun W' : World => W'.cell? ⟨ga, 0, none⟩ = some (Fv h) ∧ W'.cell? ⟨ga, 1, none⟩ = some (Fv l)) (((v4.setCell ⟨gr, 0, none⟩ (.bool s4)).setCell ⟨gr, 1, none⟩ (.slice p4 m4 m4)).setCell ⟨gr, 2, none⟩ (.int .i64 eo))) := ⟨by go_simp, by go_simp⟩
  refine hK _ _ HJ2.out ?_
  clear hK HJ
  have HJ := HJ2
  clear HJ2
  refine wpJ_tq 10 rfl HJ.out ?_
  refine wpJ_done (by kernel_rfl) ?_ _
  clear HJ
  go_wp2_with fail
  refine bodyPost_ret (v := .tuple #[DV s4 p4 m4 m4 eo, .int .i64 0]) (by rw [results_cell_tmp rfl]; go_simp) rfl ⟨s4, p4, m4, zo, eo, rfl, ?_, HV.out, ?_⟩
  · obtain ⟨zs, h1, h2, h3⟩ := D4.out.own
    exact ⟨⟨zs, own_set3 h1 HRL.out.1 HRL.out.2 _ _ _, h2, h3⟩, D4.out.sg, D4.out.fm⟩
  · exact bSet (bSet (bSet hbw _ _ _ HGr.out) _ _ _ HGr.out) _ _ _ HGr.out
theorem lfloat (b : Nat) (w : World) :
    Calls Tryz.prog 14 #[.int .u64 (b : Int)] w fun en w' => en = .returned (Fv b) ∧ w' = w := by
  have fb : ∀ w, (callFunc 28 #[.int .u64 (b : Int)]).run Tryz.prog w = .ok (.value (Fv b)) w := fun w => frombits _ w
  go_enter Tryz.func14, Tryz.ntmps14
  go_wp2_with fail
  go_ret
  exact ⟨rfl, rfl⟩
theorem lbits (h l : Nat) (w : World) :
    Calls Tryz.prog 13 #[.agg #[Fv h, Fv l]] w fun en w' => en = .returned (.agg #[.int .u64 (h : Int), .int .u64 (l : Int)]) ∧ Below w.heap.size w w' := by
  have hSF : ∀ (w : World) (a : Addr) (b : Nat), (store a (Fv b)).run Tryz.prog w = stored Tryz.prog w a (Fv b) .plain := stF
  have b1 : ∀ w, (callFunc 27 #[Fv h]).run Tryz.prog w = .ok (.value (.int .u64 (h : Int))) w := fun w => bitsOf _ w
  have b2 : ∀ w, (callFunc 27 #[Fv l]).run Tryz.prog w = .ok (.value (.int .u64 (l : Int))) w := fun w => bitsOf _ w
  go_enter Tryz.func13, Tryz.ntmps13
  go_wp2_with fail
  obtain ⟨W0, hW0⟩ : ∃ W0, W0 = ((w.alloc (.cells #[Fv h, Fv l] 30)).alloc (.cells #[.int .u64 0, .int .u64 0] 24)) := ⟨_, rfl⟩
  have Xa : Hid (Box W0 (w.heap.size) (Fv h) (Fv l)) := by rw [hW0]; exact ⟨by go_simp, by go_simp, by go_simp, by go_simp⟩
  have Xr : Hid (Box W0 (w.heap.size + 1) (.int .u64 0) (.int .u64 0)) := by rw [hW0]; exact ⟨by go_simp, by go_simp, by go_simp, by go_simp⟩
  have hb0 : Below w.heap.size w W0 := by rw [hW0]; exact below2 w _ _
  rw [← hW0]
  clear hW0
  have hbw : Below w.heap.size w w := Below.refl _ _
  obtain ⟨gr, hgr⟩ : ∃ g, g = w.heap.size + 1 := ⟨_, rfl⟩
  have HGr : Hid (w.heap.size ≤ gr) := by rw [hgr]; show _ ≤ _; omega
  rw [← hgr] at Xr
  try rw [← hgr]
  obtain ⟨ga, hga⟩ : ∃ g, g = w.heap.size := ⟨_, rfl⟩
  have HGa : Hid (w.heap.size ≤ ga) := by rw [hga]; show _ ≤ _; omega
  rw [← hga] at Xa
  try rw [← hga]
  have HGD : Hid (ga ≠ gr ∧ gr ≠ ga) := by rw [hga, hgr]; exact ⟨by omega, by omega⟩
  clear hga hgr
  replace hbw := Below.on hbw hb0
  clear hb0
  obtain ⟨V1, hV1⟩ : ∃ W1, W1 = W0.drew := ⟨_, rfl⟩
  have hbd : Below W0.heap.size W0 V1 := by rw [hV1]; exact bDrew1 (Below.refl _ _)
  replace Xa : Hid _ := Xa.out.below hbd
  replace Xr : Hid _ := Xr.out.below hbd
  replace hbw := Below.on hbw hbd
  clear hbd
  have HJ : Hid ((fun W' : World => W'.cell? ⟨ga, 0, none⟩ = some (Fv h) ∧ W'.cell? ⟨ga, 1, none⟩ = some (Fv l)) V1) := ⟨Xa.out.c0, Xa.out.c1⟩
  refine wp_region_J (fun W' => W'.cell? ⟨ga, 0, none⟩ = some (Fv h) ∧ W'.cell? ⟨ga, 1, none⟩ = some (Fv l)) (by kernel_rfl) ?_
  rw [← hV1]
  clear hV1
  refine wpJ_tq 0 rfl HJ.out ?_
  refine wpJ_tq 1 rfl HJ.out ?_
  refine wpJ_tq 3 rfl HJ.out ?_
  refine wpJ_tq 4 rfl HJ.out ?_
  refine wpJ_on 2 rfl fun KJ hK => ?_
  go_simp
  refine hK _ _ ⟨Xa.out.c0, Xa.out.c1⟩ ?_
  clear hK
  refine wpJ_on 5 rfl fun KJ hK => ?_
  go_simp
  clear HJ
  have HJ : Hid ((fun W' : World => W'.cell? ⟨ga, 0, none⟩ = some (Fv h) ∧ W'.cell? ⟨ga, 1, none⟩ = some (Fv l)) V1) := ⟨Xa.out.c0, Xa.out.c1⟩
  refine hK _ _ HJ.out ?_
  clear hK
  refine wpJ_tq 6 rfl HJ.out ?_
  obtain ⟨cr0, cr1, fr0, fr1⟩ := Xr.out
  have hner := Xr.out.lt
  obtain ⟨ca0, ca1, fa0, fa1⟩ := Xa.out
  have hnea := Xa.out.lt
  obtain ⟨hgd0, hgd1⟩ := HGD.out
  refine wpJ_on 7 rfl fun KJ hK => ?_
  go_simp
  have HJ2 : Hid ((fun W' : World => W'.cell? ⟨ga, 0, none⟩ = some (Fv h) ∧ W'.cell? ⟨ga, 1, none⟩ = some (Fv l)) ((V1.setCell ⟨gr, 0, none⟩ (.int .u64 (h : Int))).setCell ⟨gr, 1, none⟩ (.int .u64 (l : Int)))) := ⟨by go_simp, by go_simp⟩
  refine hK _ _ HJ2.out ?_
  clear hK HJ
  have HJ := HJ2
  clear HJ2
  refine wpJ_done (by kernel_rfl) ?_ _
  clear HJ
  go_wp2_with fail
  refine bodyPost_ret (v := .agg #[.int .u64 (h : Int), .int .u64 (l : Int)]) (by rw [results_cell1 rfl]; go_simp) rfl ⟨rfl, ?_⟩
  exact bSet (bSet (hbw) _ _ _ HGr.out) _ _ _ HGr.out
theorem lpair (h l : Nat) (w : World) :
    Calls Tryz.prog 7 #[.agg #[.int .u64 (h : Int), .int .u64 (l : Int)]] w fun en w' => en = .returned (.agg #[Fv h, Fv l]) ∧ Below w.heap.size w w' := by
  have hSF : ∀ (w : World) (a : Addr) (b : Nat), (store a (Fv b)).run Tryz.prog w = stored Tryz.prog w a (Fv b) .plain := stF
  have b1 := lfloat h
  have b2 := lfloat l
  go_enter Tryz.func7, Tryz.ntmps7
  go_wp2_with fail
  obtain ⟨W0, hW0⟩ : ∃ W0, W0 = ((w.alloc (.cells #[.int .u64 (h : Int), .int .u64 (l : Int)] 24)).alloc (.cells #[Fv 0, Fv 0] 30)) := ⟨_, rfl⟩
  have Xa : Hid (Box W0 (w.heap.size) (.int .u64 (h : Int)) (.int .u64 (l : Int))) := by rw [hW0]; exact ⟨by go_simp, by go_simp, by go_simp, by go_simp⟩
  have Xr : Hid (Box W0 (w.heap.size + 1) (Fv 0) (Fv 0)) := by rw [hW0]; exact ⟨by go_simp, by go_simp, by go_simp, by go_simp⟩
  have hb0 : Below w.heap.size w W0 := by rw [hW0]; exact below2 w _ _
  rw [← hW0]
  clear hW0
  have hbw : Below w.heap.size w w := Below.refl _ _
  obtain ⟨gr, hgr⟩ : ∃ g, g = w.heap.size + 1 := ⟨_, rfl⟩
  have HGr : Hid (w.heap.size ≤ gr) := by rw [hgr]; show _ ≤ _; omega
  rw [← hgr] at Xr
  try rw [← hgr]
  obtain ⟨ga, hga⟩ : ∃ g, g = w.heap.size := ⟨_, rfl⟩
  have HGa : Hid (w.heap.size ≤ ga) := by rw [hga]; show _ ≤ _; omega
  rw [← hga] at Xa
  try rw [← hga]
  have HGD : Hid (ga ≠ gr ∧ gr ≠ ga) := by rw [hga, hgr]; exact ⟨by omega, by omega⟩
  clear hga hgr
  replace hbw := Below.on hbw hb0
  clear hb0
  obtain ⟨V1, hV1⟩ : ∃ W1, W1 = W0.drew := ⟨_, rfl⟩
  have hbd : Below W0.heap.size W0 V1 := by rw [hV1]; exact bDrew1 (Below.refl _ _)
  replace Xa : Hid _ := Xa.out.below hbd
  replace Xr : Hid _ := Xr.out.below hbd
  replace hbw := Below.on hbw hbd
  clear hbd
  have HJ : Hid ((fun W' : World => W'.cell? ⟨ga, 0, none⟩ = some (.int .u64 (h : Int)) ∧ W'.cell? ⟨ga, 1, none⟩ = some (.int .u64 (l : Int))) V1) := ⟨Xa.out.c0, Xa.out.c1⟩
  refine wp_region_J (fun W' => W'.cell? ⟨ga, 0, none⟩ = some (.int .u64 (h : Int)) ∧ W'.cell? ⟨ga, 1, none⟩ = some (.int .u64 (l : Int))) (by kernel_rfl) ?_
  rw [← hV1]
  clear hV1
  refine wpJ_tq 0 rfl HJ.out ?_
  refine wpJ_tq 1 rfl HJ.out ?_
  refine wpJ_tq 3 rfl HJ.out ?_
  refine wpJ_tq 4 rfl HJ.out ?_
  refine wpJ_on 2 rfl fun KJ hK => ?_
  go_simp
  refine (b1 _).mono ?_
  rintro e v9 ⟨rfl, hw⟩
  obtain rfl := hw.symm
  clear hw
  refine hK _ _ ⟨Xa.out.c0, Xa.out.c1⟩ ?_
  clear hK
  refine wpJ_on 5 rfl fun KJ hK => ?_
  go_simp
  refine (b2 _).mono ?_
  rintro e v9 ⟨rfl, hw⟩
  obtain rfl := hw.symm
  clear hw
  clear HJ
  have HJ : Hid ((fun W' : World => W'.cell? ⟨ga, 0, none⟩ = some (.int .u64 (h : Int)) ∧ W'.cell? ⟨ga, 1, none⟩ = some (.int .u64 (l : Int))) V1) := ⟨Xa.out.c0, Xa.out.c1⟩
  refine hK _ _ HJ.out ?_
  clear hK
  refine wpJ_tq 6 rfl HJ.out ?_
  obtain ⟨cr0, cr1, fr0, fr1⟩ := Xr.out
  have hner := Xr.out.lt
  obtain ⟨ca0, ca1, fa0, fa1⟩ := Xa.out
  have hnea := Xa.out.lt
  obtain ⟨hgd0, hgd1⟩ := HGD.out
  refine wpJ_on 7 rfl fun KJ hK => ?_
  go_simp
  have HJ2 : Hid ((fun W' : World => W'.cell? ⟨ga, 0, none⟩ = some (.int .u64 (h : Int)) ∧ W'.cell? ⟨ga, 1, none⟩ = some (.int .u64 (l : Int))) ((V1.setCell ⟨gr, 0, none⟩ (Fv h)).setCell ⟨gr, 1, none⟩ (Fv l))) := ⟨by go_simp, by go_simp⟩
  refine hK _ _ HJ2.out ?_
  clear hK HJ
  have HJ := HJ2
  clear HJ2
  refine wpJ_done (by kernel_rfl) ?_ _
  clear HJ
  go_wp2_with fail
  refine bodyPost_ret (v := .agg #[Fv h, Fv l]) (by rw [results_cell1 rfl]; go_simp) rfl ⟨rfl, ?_⟩
  exact bSet (bSet (hbw) _ _ _ HGr.out) _ _ _ HGr.out
theorem ddOf {x : Nat} (hx : Fin64 x) (w : World) :
    Calls Tryz.prog 16 #[Fv x] w fun en w' => en = .returned (.agg #[Fv x, Fv 0]) ∧ Below w.heap.size w w' := by
  have hSF : ∀ (w : World) (a : Addr) (b : Nat), (store a (Fv b)).run Tryz.prog w = stored Tryz.prog w a (Fv b) .plain := stF
  have H1 := ddfinite x hx.lt
  rw [(finB_iff hx.lt).2 hx] at H1
  clear hx
  go_enter Tryz.func16, Tryz.ntmps16
  go_wp2_with fail
  obtain ⟨W0, hW0⟩ : ∃ W0, W0 = (w.alloc (.cells #[Fv 0, Fv 0] 30)) := ⟨_, rfl⟩
  have Xr : Hid (Box W0 (w.heap.size) (Fv 0) (Fv 0)) := by rw [hW0]; exact ⟨by go_simp, by go_simp, by go_simp, by go_simp⟩
  have hb0 : Below w.heap.size w W0 := by rw [hW0]; exact below1 w _
  rw [← hW0]
  clear hW0
  have hbw : Below w.heap.size w w := Below.refl _ _
  obtain ⟨gr, hgr⟩ : ∃ g, g = w.heap.size := ⟨_, rfl⟩
  have HGr : Hid (w.heap.size ≤ gr) := by rw [hgr]; show _ ≤ _; omega
  rw [← hgr] at Xr
  try rw [← hgr]
  clear hgr
  replace hbw := Below.on hbw hb0
  clear hb0
  refine (H1 _).mono ?_
  rintro e v9 ⟨rfl, hw⟩
  obtain rfl := hw.symm
  clear hw
  obtain ⟨cr0, cr1, fr0, fr1⟩ := Xr.out
  have hner := Xr.out.lt
  go_wp2_with fail
  refine bodyPost_ret (v := .agg #[Fv x, Fv 0]) (by rw [results_cell1 rfl]; go_simp) rfl ⟨rfl, ?_⟩
  exact bSet (bSet (hbw) _ _ _ HGr.out) _ _ _ HGr.out
theorem ddpair (x y : Nat) (w : World) :
    Calls Tryz.prog 22 #[Fv x, Fv y] w fun en w' => en = .returned (.agg #[Fv x, Fv y]) ∧ Below w.heap.size w w' := by
  have hSF : ∀ (w : World) (a : Addr) (b : Nat), (store a (Fv b)).run Tryz.prog w = stored Tryz.prog w a (Fv b) .plain := stF
  go_enter Tryz.func22, Tryz.ntmps22
  go_wp2_with fail
  refine bodyPost_ret (v := .agg #[Fv x, Fv y]) (by rw [results_cell1 rfl]; go_simp) rfl ⟨rfl, below1 w _⟩
theorem ts_s {s r : Nat} (h : TSR 4607182418800017408 4359484439294640128 s r) : s = 4607182418800017408 ∧ r = 4359484439294640128 := by
  obtain ⟨ob, oa, da, db, F1, F2, F3, F4, F5, F6⟩ := h
  obtain rfl : s = 4607182418800017408 := F1.some _ (by decide +kernel)
  obtain rfl : ob = 0 := F2.some _ (by decide +kernel)
  obtain rfl : oa = 4607182418800017408 := F3.some _ (by decide +kernel)
  obtain rfl : da = 0 := F4.some _ (by decide +kernel)
  obtain rfl : db = 4359484439294640128 := F5.some _ (by decide +kernel)
  obtain rfl : r = 4359484439294640128 := F6.some _ (by decide +kernel)
  exact ⟨rfl, rfl⟩
theorem ddSum_s (w : World) :
    Calls Tryz.prog 9 #[Fv 4607182418800017408, Fv 4359484439294640128] w fun en w' => en = .returned (.agg #[Fv 4607182418800017408, Fv 4359484439294640128]) ∧ Below w.heap.size w w' := by
  have hSF : ∀ (w : World) (a : Addr) (b : Nat), (store a (Fv b)).run Tryz.prog w = stored Tryz.prog w a (Fv b) .plain := stF
  go_enter Tryz.func9, Tryz.ntmps9
  go_wp2_with fail
  obtain ⟨W0, hW0⟩ : ∃ W0, W0 = (w.alloc (.cells #[Fv 0, Fv 0] 30)) := ⟨_, rfl⟩
  have Xr : Hid (Box W0 (w.heap.size) (Fv 0) (Fv 0)) := by rw [hW0]; exact ⟨by go_simp, by go_simp, by go_simp, by go_simp⟩
  have hb0 : Below w.heap.size w W0 := by rw [hW0]; exact below1 w _
  rw [← hW0]
  clear hW0
  have hbw : Below w.heap.size w w := Below.refl _ _
  obtain ⟨gr, hgr⟩ : ∃ g, g = w.heap.size := ⟨_, rfl⟩
  have HGr : Hid (w.heap.size ≤ gr) := by rw [hgr]; show _ ≤ _; omega
  rw [← hgr] at Xr
  try rw [← hgr]
  clear hgr
  replace hbw := Below.on hbw hb0
  clear hb0
  refine (twoSum 4607182418800017408 4359484439294640128 _).mono ?_
  rintro e9 v9 ⟨s9, r9, n9, rfl, rfl, hR⟩
  obtain ⟨rfl, rfl⟩ := ts_s hR
  clear hR
  have hbr := bDrewN (Below.refl W0.heap.size W0) n9
  generalize W0.drewN n9 = V1 at *
  replace Xr : Hid _ := Xr.out.below hbr
  replace hbw := Below.on hbw hbr
  clear hbr
  go_wp2_with fail
  refine (ddpair 4607182418800017408 4359484439294640128 _).mono ?_
  rintro e v2 ⟨rfl, hb2⟩
  replace Xr : Hid _ := Xr.out.below hb2
  replace hbw := Below.on hbw hb2
  clear hb2
  obtain ⟨cr0, cr1, fr0, fr1⟩ := Xr.out
  have hner := Xr.out.lt
  go_wp2_with fail
  refine bodyPost_ret (v := .agg #[Fv 4607182418800017408, Fv 4359484439294640128]) (by rw [results_cell1 rfl]; go_simp) rfl ⟨rfl, ?_⟩
  exact bSet (bSet (hbw) _ _ _ HGr.out) _ _ _ HGr.out
theorem tp_m_a {h l : Nat} (k : SPR 4613937818241073152 h l) : h = 4613937818241073152 ∧ l = 0 := by
  obtain ⟨c, d, F1, F2, F3, F4⟩ := k
  obtain rfl : c = 4735535008230408192 := F1.some _ (by decide +kernel)
  obtain rfl : d = 4735535008180076544 := F2.some _ (by decide +kernel)
  obtain rfl : h = 4613937818241073152 := F3.some _ (by decide +kernel)
  obtain rfl : l = 0 := F4.some _ (by decide +kernel)
  exact ⟨rfl, rfl⟩
theorem tp_m_b {h l : Nat} (k : SPR 4599676419421066581 h l) : h = 4599676419465805824 ∧ l = 13701451266381578240 := by
  obtain ⟨c, d, F1, F2, F3, F4⟩ := k
  obtain rfl : c = 4721273609404809216 := F1.some _ (by decide +kernel)
  obtain rfl : d = 4721273609360069973 := F2.some _ (by decide +kernel)
  obtain rfl : h = 4599676419465805824 := F3.some _ (by decide +kernel)
  obtain rfl : l = 13701451266381578240 := F4.some _ (by decide +kernel)
  exact ⟨rfl, rfl⟩
theorem tp_m {p e : Nat} (k : TPR 4613937818241073152 4599676419421066581 p e) : p = 4607182418800017408 ∧ e = 13587360075776786432 := by
  obtain ⟨ah, al, bh, bl, x1, e1, x2, e2, x3, e3, x4, F1, S1, S2, F2, F3, F4, F5, F6, F7, F8, F9⟩ := k
  obtain ⟨rfl, rfl⟩ := tp_m_a S1
  obtain ⟨rfl, rfl⟩ := tp_m_b S2
  obtain rfl : p = 4607182418800017408 := F1.some _ (by decide +kernel)
  obtain rfl : x1 = 4607182418833571840 := F2.some _ (by decide +kernel)
  obtain rfl : e1 = 4485585228861014016 := F3.some _ (by decide +kernel)
  obtain rfl : x2 = 13708957265749344256 := F4.some _ (by decide +kernel)
  obtain rfl : e2 = 13587360075776786432 := F5.some _ (by decide +kernel)
  obtain rfl : x3 = 0 := F6.some _ (by decide +kernel)
  obtain rfl : e3 = 13587360075776786432 := F7.some _ (by decide +kernel)
  obtain rfl : x4 = 9223372036854775808 := F8.some _ (by decide +kernel)
  obtain rfl : e = 13587360075776786432 := F9.some _ (by decide +kernel)
  exact ⟨rfl, rfl⟩
theorem fs_m {s r : Nat} (h : FSR 4607182418800017408 13587360075776786432 s r) : s = 4607182418800017408 ∧ r = 13587360075776786432 := by
  obtain ⟨t, F1, F2, F3⟩ := h
  obtain rfl : s = 4607182418800017408 := F1.some _ (by decide +kernel)
  obtain rfl : t = 0 := F2.some _ (by decide +kernel)
  obtain rfl : r = 13587360075776786432 := F3.some _ (by decide +kernel)
  exact ⟨rfl, rfl⟩
theorem ddMulF_m (w : World) :
    Calls Tryz.prog 29 #[.agg #[Fv 4613937818241073152, Fv 0], Fv 4599676419421066581] w fun en w' => en = .returned (.agg #[Fv 4607182418800017408, Fv 13587360075776786432]) ∧ Below w.heap.size w w' := by
  have hSF : ∀ (w : World) (a : Addr) (b : Nat), (store a (Fv b)).run Tryz.prog w = stored Tryz.prog w a (Fv b) .plain := stF
  have fl1 : ∀ w, (binOp .mul 28 (Fv 0) (Fv 4599676419421066581)).run Tryz.prog w = .ok (Fv 0) w := fun w => run_float_arith w .mul 28 .f64 0 4599676419421066581 0 (by decide +kernel)
  have fl2 : ∀ w, (binOp .add 28 (Fv 13587360075776786432) (Fv 0)).run Tryz.prog w = .ok (Fv 13587360075776786432) w := fun w => run_float_arith w .add 28 .f64 13587360075776786432 0 13587360075776786432 (by decide +kernel)
  go_enter Tryz.func29, Tryz.ntmps29
  go_wp2_with fail
  obtain ⟨W0, hW0⟩ : ∃ W0, W0 = ((w.alloc (.cells #[Fv 4613937818241073152, Fv 0] 30)).alloc (.cells #[Fv 0, Fv 0] 30)) := ⟨_, rfl⟩
  have Xa : Hid (Box W0 (w.heap.size) (Fv 4613937818241073152) (Fv 0)) := by rw [hW0]; exact ⟨by go_simp, by go_simp, by go_simp, by go_simp⟩
  have Xr : Hid (Box W0 (w.heap.size + 1) (Fv 0) (Fv 0)) := by rw [hW0]; exact ⟨by go_simp, by go_simp, by go_simp, by go_simp⟩
  have hb0 : Below w.heap.size w W0 := by rw [hW0]; exact below2 w _ _
  rw [← hW0]
  clear hW0
  have hbw : Below w.heap.size w w := Below.refl _ _
  obtain ⟨gr, hgr⟩ : ∃ g, g = w.heap.size + 1 := ⟨_, rfl⟩
  have HGr : Hid (w.heap.size ≤ gr) := by rw [hgr]; show _ ≤ _; omega
  rw [← hgr] at Xr
  try rw [← hgr]
  obtain ⟨ga, hga⟩ : ∃ g, g = w.heap.size := ⟨_, rfl⟩
  have HGa : Hid (w.heap.size ≤ ga) := by rw [hga]; show _ ≤ _; omega
  rw [← hga] at Xa
  try rw [← hga]
  have HGD : Hid (ga ≠ gr ∧ gr ≠ ga) := by rw [hga, hgr]; exact ⟨by omega, by omega⟩
  clear hga hgr
  replace hbw := Below.on hbw hb0
  clear hb0
  obtain ⟨hgd0, hgd1⟩ := HGD.out
  refine (twoProd 4613937818241073152 4599676419421066581 _).mono ?_
  rintro e9 v9 ⟨s9, r9, n9, rfl, rfl, hR⟩
  obtain ⟨rfl, rfl⟩ := tp_m hR
  clear hR
  have hbr := bDrewN (Below.refl W0.heap.size W0) n9
  generalize W0.drewN n9 = V1 at *
  replace Xa : Hid _ := Xa.out.below hbr
  replace Xr : Hid _ := Xr.out.below hbr
  replace hbw := Below.on hbw hbr
  clear hbr
  obtain ⟨ca0, ca1, fa0, fa1⟩ := Xa.out
  have hnea := Xa.out.lt
  go_wp2_with fail
  clear ca0 ca1 fa0 fa1 hnea
  refine (fastTwoSum 4607182418800017408 13587360075776786432 _).mono ?_
  rintro e9 v9 ⟨s9, r9, n9, rfl, rfl, hR⟩
  obtain ⟨rfl, rfl⟩ := fs_m hR
  clear hR
  have hbr := bDrewN (Below.refl V1.heap.size V1) n9
  generalize V1.drewN n9 = V2 at *
  replace Xa : Hid _ := Xa.out.below hbr
  replace Xr : Hid _ := Xr.out.below hbr
  replace hbw := Below.on hbw hbr
  clear hbr
  go_wp2_with fail
  refine (ddpair 4607182418800017408 13587360075776786432 _).mono ?_
  rintro e v3 ⟨rfl, hb3⟩
  replace Xa : Hid _ := Xa.out.below hb3
  replace Xr : Hid _ := Xr.out.below hb3
  replace hbw := Below.on hbw hb3
  clear hb3
  obtain ⟨cr0, cr1, fr0, fr1⟩ := Xr.out
  have hner := Xr.out.lt
  go_wp2_with fail
  refine bodyPost_ret (v := .agg #[Fv 4607182418800017408, Fv 13587360075776786432]) (by rw [results_cell1 rfl]; go_simp) rfl ⟨rfl, ?_⟩
  exact bSet (bSet (hbw) _ _ _ HGr.out) _ _ _ HGr.out
theorem fs_d {s r : Nat} (h : FSR 4599676419421066581 4356482039543059797 s r) : s = 4599676419421066581 ∧ r = 4356482039543059797 := by
  obtain ⟨t, F1, F2, F3⟩ := h
  obtain rfl : s = 4599676419421066581 := F1.some _ (by decide +kernel)
  obtain rfl : t = 0 := F2.some _ (by decide +kernel)
  obtain rfl : r = 4356482039543059797 := F3.some _ (by decide +kernel)
  exact ⟨rfl, rfl⟩
theorem ddDiv_d (w : World) :
    Calls Tryz.prog 15 #[.agg #[Fv 4607182418800017408, Fv 0], .agg #[Fv 4613937818241073152, Fv 0]] w fun en w' => en = .returned (.agg #[Fv 4599676419421066581, Fv 4356482039543059797]) ∧ Below w.heap.size w w' := by
  have hSF : ∀ (w : World) (a : Addr) (b : Nat), (store a (Fv b)).run Tryz.prog w = stored Tryz.prog w a (Fv b) .plain := stF
  have fl3 : ∀ w, (binOp .quo 28 (Fv 4607182418800017408) (Fv 4613937818241073152)).run Tryz.prog w = .ok (Fv 4599676419421066581) w := fun w => run_float_arith w .quo 28 .f64 4607182418800017408 4613937818241073152 4599676419421066581 (by decide +kernel)
  have fl4 : ∀ w, (binOp .sub 28 (Fv 4607182418800017408) (Fv 4607182418800017408)).run Tryz.prog w = .ok (Fv 0) w := fun w => run_float_arith w .sub 28 .f64 4607182418800017408 4607182418800017408 0 (by decide +kernel)
  have fl5 : ∀ w, (binOp .sub 28 (Fv 0) (Fv 13587360075776786432)).run Tryz.prog w = .ok (Fv 4363988038922010624) w := fun w => run_float_arith w .sub 28 .f64 0 13587360075776786432 4363988038922010624 (by decide +kernel)
  have fl6 : ∀ w, (binOp .add 28 (Fv 0) (Fv 4363988038922010624)).run Tryz.prog w = .ok (Fv 4363988038922010624) w := fun w => run_float_arith w .add 28 .f64 0 4363988038922010624 4363988038922010624 (by decide +kernel)
  have fl7 : ∀ w, (binOp .quo 28 (Fv 4363988038922010624) (Fv 4613937818241073152)).run Tryz.prog w = .ok (Fv 4356482039543059797) w := fun w => run_float_arith w .quo 28 .f64 4363988038922010624 4613937818241073152 4356482039543059797 (by decide +kernel)
  go_enter Tryz.func15, Tryz.ntmps15
  go_wp2_with fail
  obtain ⟨W0, hW0⟩ : ∃ W0, W0 = (((w.alloc (.cells #[Fv 4607182418800017408, Fv 0] 30)).alloc (.cells #[Fv 4613937818241073152, Fv 0] 30)).alloc (.cells #[Fv 0, Fv 0] 30)) := ⟨_, rfl⟩
  have Xa : Hid (Box W0 (w.heap.size) (Fv 4607182418800017408) (Fv 0)) := by rw [hW0]; exact ⟨by go_simp, by go_simp, by go_simp, by go_simp⟩
  have Xb : Hid (Box W0 (w.heap.size + 1) (Fv 4613937818241073152) (Fv 0)) := by rw [hW0]; exact ⟨by go_simp, by go_simp, by go_simp, by go_simp⟩
  have Xr : Hid (Box W0 (w.heap.size + 1 + 1) (Fv 0) (Fv 0)) := by rw [hW0]; exact ⟨by go_simp, by go_simp, by go_simp, by go_simp⟩
  have hb0 : Below w.heap.size w W0 := by rw [hW0]; exact below3 w _ _ _
  rw [← hW0]
  clear hW0
  have hbw : Below w.heap.size w w := Below.refl _ _
  obtain ⟨gr, hgr⟩ : ∃ g, g = w.heap.size + 1 + 1 := ⟨_, rfl⟩
  have HGr : Hid (w.heap.size ≤ gr) := by rw [hgr]; show _ ≤ _; omega
  rw [← hgr] at Xr
  try rw [← hgr]
  obtain ⟨gb, hgb⟩ : ∃ g, g = w.heap.size + 1 := ⟨_, rfl⟩
  have HGb : Hid (w.heap.size ≤ gb) := by rw [hgb]; show _ ≤ _; omega
  rw [← hgb] at Xb
  try rw [← hgb]
  obtain ⟨ga, hga⟩ : ∃ g, g = w.heap.size := ⟨_, rfl⟩
  have HGa : Hid (w.heap.size ≤ ga) := by rw [hga]; show _ ≤ _; omega
  rw [← hga] at Xa
  try rw [← hga]
  have HGD : Hid (ga ≠ gb ∧ ga ≠ gr ∧ gb ≠ ga ∧ gb ≠ gr ∧ gr ≠ ga ∧ gr ≠ gb) := by rw [hga, hgb, hgr]; exact ⟨by omega, by omega, by omega, by omega, by omega, by omega⟩
  clear hga hgb hgr
  replace hbw := Below.on hbw hb0
  clear hb0
  obtain ⟨hgd0, hgd1, hgd2, hgd3, hgd4, hgd5⟩ := HGD.out
  obtain ⟨ca0, ca1, fa0, fa1⟩ := Xa.out
  have hnea := Xa.out.lt
  obtain ⟨cb0, cb1, fb0, fb1⟩ := Xb.out
  have hneb := Xb.out.lt
  go_wp2_with fail
  clear ca0 ca1 fa0 fa1 hnea
  clear cb0 cb1 fb0 fb1 hneb
  refine (ddMulF_m _).mono ?_
  rintro e v1 ⟨rfl, hb1⟩
  replace Xa : Hid _ := Xa.out.below hb1
  replace Xb : Hid _ := Xb.out.below hb1
  replace Xr : Hid _ := Xr.out.below hb1
  replace hbw := Below.on hbw hb1
  clear hb1
  obtain ⟨ca0, ca1, fa0, fa1⟩ := Xa.out
  have hnea := Xa.out.lt
  obtain ⟨cb0, cb1, fb0, fb1⟩ := Xb.out
  have hneb := Xb.out.lt
  go_wp2_with fail
  clear ca0 ca1 fa0 fa1 hnea
  clear cb0 cb1 fb0 fb1 hneb
  have Xk0 : Hid (Box (v1.alloc (.cells #[Fv 4607182418800017408, Fv 13587360075776786432] 30)) v1.heap.size (Fv 4607182418800017408) (Fv 13587360075776786432)) := Box.new v1 _ _ _
  have hbn : Below v1.heap.size v1 (v1.alloc (.cells #[Fv 4607182418800017408, Fv 13587360075776786432] 30)) := below1 v1 _
  generalize v1.alloc (.cells #[Fv 4607182418800017408, Fv 13587360075776786432] 30) = Wk at *
  have HGk : Hid (w.heap.size ≤ v1.heap.size) := hbw.size
  replace Xa : Hid _ := Xa.out.below hbn
  replace Xb : Hid _ := Xb.out.below hbn
  replace Xr : Hid _ := Xr.out.below hbn
  replace hbw := Below.on hbw hbn
  clear hbn
  generalize v1.heap.size = gk at *
  have Xk := Xk0
  clear Xk0
  obtain ⟨ca0, ca1, fa0, fa1⟩ := Xa.out
  have hnea := Xa.out.lt
  obtain ⟨cb0, cb1, fb0, fb1⟩ := Xb.out
  have hneb := Xb.out.lt
  obtain ⟨ck0, ck1, fk0, fk1⟩ := Xk.out
  have hnek := Xk.out.lt
  go_wp2_with fail
  clear ca0 ca1 fa0 fa1 hnea
  clear cb0 cb1 fb0 fb1 hneb
  clear ck0 ck1 fk0 fk1 hnek
  refine (fastTwoSum 4599676419421066581 4356482039543059797 _).mono ?_
  rintro e9 v9 ⟨s9, r9, n9, rfl, rfl, hR⟩
  obtain ⟨rfl, rfl⟩ := fs_d hR
  clear hR
  have hbr := bDrewN (Below.refl Wk.heap.size Wk) n9
  generalize Wk.drewN n9 = V2 at *
  replace Xa : Hid _ := Xa.out.below hbr
  replace Xb : Hid _ := Xb.out.below hbr
  replace Xr : Hid _ := Xr.out.below hbr
  replace Xk : Hid _ := Xk.out.below hbr
  replace hbw := Below.on hbw hbr
  clear hbr
  go_wp2_with fail
  refine (ddpair 4599676419421066581 4356482039543059797 _).mono ?_
  rintro e v3 ⟨rfl, hb3⟩
  replace Xa : Hid _ := Xa.out.below hb3
  replace Xb : Hid _ := Xb.out.below hb3
  replace Xr : Hid _ := Xr.out.below hb3
  replace Xk : Hid _ := Xk.out.below hb3
  replace hbw := Below.on hbw hb3
  clear hb3
  obtain ⟨cr0, cr1, fr0, fr1⟩ := Xr.out
  have hner := Xr.out.lt
  go_wp2_with fail
  refine bodyPost_ret (v := .agg #[Fv 4599676419421066581, Fv 4356482039543059797]) (by rw [results_cell1 rfl]; go_simp) rfl ⟨rfl, ?_⟩
  exact bSet (bSet (hbw) _ _ _ HGr.out) _ _ _ HGr.out
theorem ddf_s : DdF 4607182418800017408 4359484439294640128 := ⟨⟨by decide, by decide⟩, ⟨by decide, by decide⟩, by decide +kernel, by decide +kernel⟩
theorem ddf_1 : DdF 4607182418800017408 0 := ⟨⟨by decide, by decide⟩, ⟨by decide, by decide⟩, by decide +kernel, by decide +kernel⟩
theorem cmp_s : cmpD 4607182418800017408 4359484439294640128 4607182418800017408 0 = 1 := by rw [cmpD_eq ddf_s ddf_1]; decide +kernel
theorem awake20 (w : World) :
    Calls Tryz.prog 4 #[] w fun en w' => en = .returned (.bool true) ∧ Below w.heap.size w w' := by
  have hSF : ∀ (w : World) (a : Addr) (b : Nat), (store a (Fv b)).run Tryz.prog w = stored Tryz.prog w a (Fv b) .plain := stF
  have F1 := lfloat 4607182418800017408
  have F2 := lfloat 4359484439294640128
  have F3 := lfloat 4613937818241073152
  have O1 := ddOf (x := 4607182418800017408) ⟨by decide, by decide⟩
  have O3 := ddOf (x := 4613937818241073152) ⟨by decide, by decide⟩
  have P1 := lpair 4607182418800017408 4359484439294640128
  have G1 := ddform 4607182418800017408 4359484439294640128 (by decide) (by decide)
  rw [ddB_iff.2 ddf_s] at G1
  have C1 := ddcmp 4607182418800017408 4359484439294640128 4607182418800017408 0 (by decide) (by decide) (by decide) (by decide)
  rw [cmp_s] at C1
  have hbw : Below w.heap.size w w := Below.refl _ _
  go_enter Tryz.func4, Tryz.ntmps4
  go_wp2_with fail
  refine (F1 _).mono ?_
  rintro e v9 ⟨rfl, hw⟩
  obtain rfl := hw.symm
  clear hw
  go_wp2_with fail
  refine (F2 _).mono ?_
  rintro e v9 ⟨rfl, hw⟩
  obtain rfl := hw.symm
  clear hw
  go_wp2_with fail
  refine (ddSum_s _).mono ?_
  rintro e v1 ⟨rfl, hb1⟩
  replace hbw := Below.on hbw hb1
  clear hb1
  go_wp2_with fail
  refine (lbits 4607182418800017408 4359484439294640128 _).mono ?_
  rintro e v2 ⟨rfl, hb2⟩
  replace hbw := Below.on hbw hb2
  clear hb2
  go_wp2_with fail
  have Xs0 : Hid (Box (v2.alloc (.cells #[.int .u64 ((4607182418800017408 : Nat) : Int), .int .u64 ((4359484439294640128 : Nat) : Int)] 24)) v2.heap.size (.int .u64 ((4607182418800017408 : Nat) : Int)) (.int .u64 ((4359484439294640128 : Nat) : Int))) := Box.new v2 _ _ _
  have hbn : Below v2.heap.size v2 (v2.alloc (.cells #[.int .u64 ((4607182418800017408 : Nat) : Int), .int .u64 ((4359484439294640128 : Nat) : Int)] 24)) := below1 v2 _
  generalize v2.alloc (.cells #[.int .u64 ((4607182418800017408 : Nat) : Int), .int .u64 ((4359484439294640128 : Nat) : Int)] 24) = Ws at *
  have HGs : Hid (w.heap.size ≤ v2.heap.size) := hbw.size
  replace hbw := Below.on hbw hbn
  clear hbn
  generalize v2.heap.size = gs at *
  have Xs := Xs0
  clear Xs0
  refine (F1 _).mono ?_
  rintro e v9 ⟨rfl, hw⟩
  obtain rfl := hw.symm
  clear hw
  go_wp2_with fail
  refine (O1 _).mono ?_
  rintro e v3 ⟨rfl, hb3⟩
  replace Xs : Hid _ := Xs.out.below hb3
  replace hbw := Below.on hbw hb3
  clear hb3
  go_wp2_with fail
  refine (F3 _).mono ?_
  rintro e v9 ⟨rfl, hw⟩
  obtain rfl := hw.symm
  clear hw
  go_wp2_with fail
  refine (O3 _).mono ?_
  rintro e v4 ⟨rfl, hb4⟩
  replace Xs : Hid _ := Xs.out.below hb4
  replace hbw := Below.on hbw hb4
  clear hb4
  go_wp2_with fail
  refine (ddDiv_d _).mono ?_
  rintro e v5 ⟨rfl, hb5⟩
  replace Xs : Hid _ := Xs.out.below hb5
  replace hbw := Below.on hbw hb5
  clear hb5
  go_wp2_with fail
  refine (lbits 4599676419421066581 4356482039543059797 _).mono ?_
  rintro e v6 ⟨rfl, hb6⟩
  replace Xs : Hid _ := Xs.out.below hb6
  replace hbw := Below.on hbw hb6
  clear hb6
  obtain ⟨cs0, cs1, fs0, fs1⟩ := Xs.out
  have hnes := Xs.out.lt
  go_wp2_with fail
  clear cs0 cs1 fs0 fs1 hnes
  have Xq0 : Hid (Box (v6.alloc (.cells #[.int .u64 ((4599676419421066581 : Nat) : Int), .int .u64 ((4356482039543059797 : Nat) : Int)] 24)) v6.heap.size (.int .u64 ((4599676419421066581 : Nat) : Int)) (.int .u64 ((4356482039543059797 : Nat) : Int))) := Box.new v6 _ _ _
  have hbn : Below v6.heap.size v6 (v6.alloc (.cells #[.int .u64 ((4599676419421066581 : Nat) : Int), .int .u64 ((4356482039543059797 : Nat) : Int)] 24)) := below1 v6 _
  generalize v6.alloc (.cells #[.int .u64 ((4599676419421066581 : Nat) : Int), .int .u64 ((4356482039543059797 : Nat) : Int)] 24) = Wq at *
  have HGq : Hid (w.heap.size ≤ v6.heap.size) := hbw.size
  replace Xs : Hid _ := Xs.out.below hbn
  replace hbw := Below.on hbw hbn
  clear hbn
  generalize v6.heap.size = gq at *
  have Xq := Xq0
  clear Xq0
  refine (P1 _).mono ?_
  rintro e v7 ⟨rfl, hb7⟩
  replace Xs : Hid _ := Xs.out.below hb7
  replace Xq : Hid _ := Xq.out.below hb7
  replace hbw := Below.on hbw hb7
  clear hb7
  obtain ⟨cs0, cs1, fs0, fs1⟩ := Xs.out
  have hnes := Xs.out.lt
  go_wp2_with fail
  clear cs0 cs1 fs0 fs1 hnes
  refine (G1 _).mono ?_
  rintro e v8 ⟨rfl, hb8⟩
  replace Xs : Hid _ := Xs.out.below hb8
  replace Xq : Hid _ := Xq.out.below hb8
  replace hbw := Below.on hbw hb8
  clear hb8
  obtain ⟨cs0, cs1, fs0, fs1⟩ := Xs.out
  have hnes := Xs.out.lt
  go_wp2_with fail
  clear cs0 cs1 fs0 fs1 hnes
  refine (P1 _).mono ?_
  rintro e v9 ⟨rfl, hb9⟩
  replace Xs : Hid _ := Xs.out.below hb9
  replace Xq : Hid _ := Xq.out.below hb9
  replace hbw := Below.on hbw hb9
  clear hb9
  go_wp2_with fail
  refine (F1 _).mono ?_
  rintro e v9 ⟨rfl, hw⟩
  obtain rfl := hw.symm
  clear hw
  go_wp2_with fail
  refine (O1 _).mono ?_
  rintro e v10 ⟨rfl, hb10⟩
  replace Xs : Hid _ := Xs.out.below hb10
  replace Xq : Hid _ := Xq.out.below hb10
  replace hbw := Below.on hbw hb10
  clear hb10
  go_wp2_with fail
  refine (C1 _).mono ?_
  rintro e v11 ⟨rfl, hb11⟩
  replace Xs : Hid _ := Xs.out.below hb11
  replace Xq : Hid _ := Xq.out.below hb11
  replace hbw := Below.on hbw hb11
  clear hb11
  go_wp2_with fail
  go_ret
  exact ⟨by kernel_rfl, hbw⟩
theorem sameD_s {p q : Option Addr} {m c n d : Nat} {w : World} {x y e f : Int} {s t : Bool} (h : DN w s p m c e x) (k : DN w t q n d f y) (hs : s ≠ t) :
    Calls Tryz.prog 12 #[DV s p m c e, DV t q n d f] w fun en w' => en = .returned (.bool false) ∧ Below w.heap.size w w' := by
  have H : Hid (DN w s p m c e x) := h
  have K : Hid (DN w t q n d f y) := k
  have hbb : (s == t) = false := by cases s <;> cases t <;> first | rfl | exact absurd rfl hs
  clear h k hs
  go_enter Tryz.func12, Tryz.ntmps12
  go_wp2_with fail
  go_ret
  exact ⟨rfl, below2 w _ _⟩
theorem sameD_e {p q : Option Addr} {m c n d : Nat} {w : World} {x y e f : Int} {s t : Bool} (h : DN w s p m c e x) (k : DN w t q n d f y) (hs : s = t) (he : e ≠ f) :
    Calls Tryz.prog 12 #[DV s p m c e, DV t q n d f] w fun en w' => en = .returned (.bool false) ∧ Below w.heap.size w w' := by
  have H : Hid (DN w s p m c e x) := h
  have K : Hid (DN w t q n d f y) := k
  subst hs
  have hbb : (s == s) = true := by simp
  have hee : (e == f) = false := by simp [he]
  clear h k he
  go_enter Tryz.func12, Tryz.ntmps12
  go_wp2_with fail
  go_ret
  exact ⟨rfl, below2 w _ _⟩
theorem sameD_l {p q : Option Addr} {m c n d : Nat} {w : World} {x y e f : Int} {s t : Bool} (h : DN w s p m c e x) (k : DN w t q n d f y) (hs : s = t) (he : e = f) (hz : x ≠ y) :
    Calls Tryz.prog 12 #[DV s p m c e, DV t q n d f] w fun en w' => en = .returned (.bool false) ∧ Below w.heap.size w w' := by
  have H : Hid (DN w s p m c e x) := h
  have K : Hid (DN w t q n d f y) := k
  subst hs
  subst he
  have hbb : (s == s) = true := by simp
  have hee : (e == e) = true := by simp
  have HZ : Hid (x ≠ y) := hz
  clear h k hz
  go_enter Tryz.func12, Tryz.ntmps12
  go_wp2_with fail
  obtain ⟨W0, hW0⟩ : ∃ W0, W0 = ((w.alloc (.cells #[.bool s, .slice p m c, .int .i64 e] 36)).alloc (.cells #[.bool s, .slice q n d, .int .i64 e] 36)) := ⟨_, rfl⟩
  have Xa : Hid (B3q W0 (w.heap.size) (.bool s) (.slice p m c) (.int .i64 e)) := by rw [hW0]; exact ⟨by go_simp, by go_simp, by go_simp, by go_simp, by go_simp, by go_simp⟩
  have Xb : Hid (B3q W0 (w.heap.size + 1) (.bool s) (.slice q n d) (.int .i64 e)) := by rw [hW0]; exact ⟨by go_simp, by go_simp, by go_simp, by go_simp, by go_simp, by go_simp⟩
  have hb0 : Below w.heap.size w W0 := by rw [hW0]; exact below2 w _ _
  rw [← hW0]
  clear hW0
  have hbw : Below w.heap.size w w := Below.refl _ _
  obtain ⟨gb, hgb⟩ : ∃ g, g = w.heap.size + 1 := ⟨_, rfl⟩
  have HGb : Hid (w.heap.size ≤ gb) := by rw [hgb]; show _ ≤ _; omega
  rw [← hgb] at Xb
  try rw [← hgb]
  obtain ⟨ga, hga⟩ : ∃ g, g = w.heap.size := ⟨_, rfl⟩
  have HGa : Hid (w.heap.size ≤ ga) := by rw [hga]; show _ ≤ _; omega
  rw [← hga] at Xa
  try rw [← hga]
  have HGD : Hid (ga ≠ gb ∧ gb ≠ ga) := by rw [hga, hgb]; exact ⟨by omega, by omega⟩
  clear hga hgb
  replace hbw := Below.on hbw hb0
  clear hb0
  obtain ⟨xs, hX⟩ := (H.out.zn.below hbw).ex
  obtain ⟨ys, hY⟩ := (K.out.zn.below hbw).ex
  have hne : xs ≠ ys := by
    intro h9
    subst h9
    have h1 := hX.nf.val
    have h2 := hY.nf.val
    have h3 := (H.out.zn).sg
    have h4 := (K.out.zn).sg
    rw [h3] at h4
    have h5 := HZ.out
    have h6 : (x < 0) = (y < 0) := by
      by_cases h7 : x < 0
      · rw [decide_eq_true h7] at h4; have := of_decide_eq_true h4.symm; simp [h7, this]
      · rw [decide_eq_false h7] at h4; have := of_decide_eq_false h4.symm; simp [h7, this]
    have h8 : x.natAbs = y.natAbs := h1.symm.trans h2
    by_cases h7 : x < 0
    · have : y < 0 := h6 ▸ h7; omega
    · have : ¬ y < 0 := h6 ▸ h7; omega
  refine (same_any hX.at_ hY.at_).mono ?_
  rintro e2 v1 ⟨rfl, r, hb1⟩
  rw [decide_eq_false hne]
  have hb2 : Below W0.heap.size W0 v1 := by rw [hb1]; exact bDrewN (Below.refl _ _) r
  clear hX hY hne hb1
  replace Xa : Hid _ := Xa.out.below hb2
  replace Xb : Hid _ := Xb.out.below hb2
  replace hbw := Below.on hbw hb2
  clear hb2
  go_wp2_with fail
  go_ret
  exact ⟨rfl, hbw⟩
theorem sameD {p q : Option Addr} {m c n d : Nat} {w : World} {x y e f : Int} {s t : Bool} (h : DN w s p m c e x) (k : DN w t q n d f y) :
    Calls Tryz.prog 12 #[DV s p m c e, DV t q n d f] w fun en w' => en = .returned (.bool (decide (x = y ∧ e = f))) ∧ Below w.heap.size w w' := by
  by_cases hz : x = y
  · by_cases he : e = f
    · subst hz
      subst he
      rw [decide_eq_true ⟨rfl, rfl⟩]
      exact sameD_t h k
    · rw [decide_eq_false (fun h9 => he h9.2)]
      exact sameD_e h k (by rw [h.zn.sg, k.zn.sg, hz]) he
  · rw [decide_eq_false (fun h9 => hz h9.1)]
    by_cases hs : s = t
    · by_cases he : e = f
      · exact sameD_l h k hs he hz
      · exact sameD_e h k hs he
    · exact sameD_s h k hs
theorem DdF.of_sm {X : Int} {s r : Nat} (h : Sm64 X s) (hr : Fin64 r) (hx : ux s + ux r = X) : DdF s r := by
  have h1 : rg 0 X.natAbs < 9218868437227405312 := by rw [← h.size]; exact h.fin.fin
  refine ⟨h.fin, hr, by rw [hx]; exact h1, ?_⟩
  rw [hx]
  unfold rv
  rw [← h.size, ux_eq]
  by_cases h0 : X = 0
  · have h2 : s % 9223372036854775808 = 0 := by rw [h.size, h0]; rfl
    rw [h2, vs_zero, if_neg (by omega)]
    split <;> rfl
  · have h3 := h.sign h0
    by_cases h4 : X < 0
    · rw [if_pos h4, if_pos (h3.2 h4)]
    · rw [if_neg h4, if_neg (fun h5 => h4 (h3.1 h5))]
theorem ddSum_g (a b : Nat) (w : World) :
    Calls Tryz.prog 9 #[Fv a, Fv b] w fun en w' => ∃ s r, en = .returned (.agg #[Fv s, Fv r]) ∧ TSR a b s r ∧ Below w.heap.size w w' := by
  have hSF : ∀ (w : World) (a : Addr) (b : Nat), (store a (Fv b)).run Tryz.prog w = stored Tryz.prog w a (Fv b) .plain := stF
  go_enter Tryz.func9, Tryz.ntmps9
  go_wp2_with fail
  obtain ⟨W0, hW0⟩ : ∃ W0, W0 = (w.alloc (.cells #[Fv 0, Fv 0] 30)) := ⟨_, rfl⟩
  have Xr : Hid (Box W0 (w.heap.size) (Fv 0) (Fv 0)) := by rw [hW0]; exact ⟨by go_simp, by go_simp, by go_simp, by go_simp⟩
  have hb0 : Below w.heap.size w W0 := by rw [hW0]; exact below1 w _
  rw [← hW0]
  clear hW0
  have hbw : Below w.heap.size w w := Below.refl _ _
  obtain ⟨gr, hgr⟩ : ∃ g, g = w.heap.size := ⟨_, rfl⟩
  have HGr : Hid (w.heap.size ≤ gr) := by rw [hgr]; show _ ≤ _; omega
  rw [← hgr] at Xr
  try rw [← hgr]
  clear hgr
  replace hbw := Below.on hbw hb0
  clear hb0
  refine (twoSum a b _).mono ?_
  rintro e9 v9 ⟨s9, r9, n9, rfl, rfl, hR⟩
  have HR := Hid.mk9 hR
  clear hR
  have hbr := bDrewN (Below.refl W0.heap.size W0) n9
  generalize W0.drewN n9 = V1 at *
  replace Xr : Hid _ := Xr.out.below hbr
  replace hbw := Below.on hbw hbr
  clear hbr
  go_wp2_with fail
  refine (ddpair s9 r9 _).mono ?_
  rintro e v2 ⟨rfl, hb2⟩
  replace Xr : Hid _ := Xr.out.below hb2
  replace hbw := Below.on hbw hb2
  clear hb2
  obtain ⟨cr0, cr1, fr0, fr1⟩ := Xr.out
  have hner := Xr.out.lt
  go_wp2_with fail
  refine bodyPost_ret (v := .agg #[Fv s9, Fv r9]) (by rw [results_cell1 rfl]; go_simp) rfl ⟨s9, r9, rfl, HR.out, ?_⟩
  exact bSet (bSet (hbw) _ _ _ HGr.out) _ _ _ HGr.out
theorem ddSplits_w (h l : Nat) (hh : h < 18446744073709551616) (hl : l < 18446744073709551616) (w : World) (hT : Tab w) :
    Calls Tryz.prog 3 #[.agg #[.int .u64 (h : Int), .int .u64 (l : Int)]] w fun en w' => en = .returned (.bool true) ∧ Below w.heap.size w w' := by
  have hSF : ∀ (w : World) (a : Addr) (b : Nat), (store a (Fv b)).run Tryz.prog w = stored Tryz.prog w a (Fv b) .plain := stF
  have TD : Hid (Tab w) := hT
  have HB : Hid (h < 18446744073709551616 ∧ l < 18446744073709551616) := ⟨hh, hl⟩
  clear hT hh hl
  go_enter Tryz.func3, Tryz.ntmps3
  go_wp2_with fail
  obtain ⟨W0, hW0⟩ : ∃ W0, W0 = (w.alloc (.cells #[.int .u64 (h : Int), .int .u64 (l : Int)] 24)) := ⟨_, rfl⟩
  have Xa : Hid (Box W0 (w.heap.size) (.int .u64 (h : Int)) (.int .u64 (l : Int))) := by rw [hW0]; exact ⟨by go_simp, by go_simp, by go_simp, by go_simp⟩
  have hb0 : Below w.heap.size w W0 := by rw [hW0]; exact below1 w _
  rw [← hW0]
  clear hW0
  have hbw : Below w.heap.size w w := Below.refl _ _
  obtain ⟨ga, hga⟩ : ∃ g, g = w.heap.size := ⟨_, rfl⟩
  have HGa : Hid (w.heap.size ≤ ga) := by rw [hga]; show _ ≤ _; omega
  rw [← hga] at Xa
  try rw [← hga]
  clear hga
  replace hbw := Below.on hbw hb0
  clear hb0
  refine (awake20 _).mono ?_
  rintro e v1 ⟨rfl, hb1⟩
  replace Xa : Hid _ := Xa.out.below hb1
  replace hbw := Below.on hbw hb1
  clear hb1
  obtain ⟨ca0, ca1, fa0, fa1⟩ := Xa.out
  have hnea := Xa.out.lt
  go_wp2_with fail
  clear ca0 ca1 fa0 fa1 hnea
  refine (fit20 h l HB.out.1 HB.out.2 _).mono ?_
  rintro en v2 ⟨⟨r, rfl, hr⟩, hb2⟩
  replace Xa : Hid _ := Xa.out.below hb2
  replace hbw := Below.on hbw hb2
  clear hb2
  cases r
  · clear hr
    go_wp2_with fail
    go_ret
    exact ⟨rfl, hbw⟩
  have HF := Hid.mk9 (hr rfl)
  clear hr
  obtain ⟨ca0, ca1, fa0, fa1⟩ := Xa.out
  have hnea := Xa.out.lt
  go_wp2_with fail
  clear ca0 ca1 fa0 fa1 hnea
  refine (fitfloat20 l _).mono ?_
  rintro en v3 ⟨⟨r, rfl, hr⟩, hb3⟩
  replace Xa : Hid _ := Xa.out.below hb3
  replace hbw := Below.on hbw hb3
  clear hb3
  cases r
  · clear hr
    go_wp2_with fail
    go_ret
    exact ⟨rfl, hbw⟩
  have HL := Hid.mk9 (hr rfl)
  clear hr
  obtain ⟨ca0, ca1, fa0, fa1⟩ := Xa.out
  have hnea := Xa.out.lt
  go_wp2_with fail
  clear ca0 ca1 fa0 fa1 hnea
  refine (lpair h l _).mono ?_
  rintro e v4 ⟨rfl, hb4⟩
  replace Xa : Hid _ := Xa.out.below hb4
  replace hbw := Below.on hbw hb4
  clear hb4
  go_wp2_with fail
  have Xx0 : Hid (Box (v4.alloc (.cells #[Fv h, Fv l] 30)) v4.heap.size (Fv h) (Fv l)) := Box.new v4 _ _ _
  have hbn : Below v4.heap.size v4 (v4.alloc (.cells #[Fv h, Fv l] 30)) := below1 v4 _
  generalize v4.alloc (.cells #[Fv h, Fv l] 30) = Wx at *
  have HGx : Hid (w.heap.size ≤ v4.heap.size) := hbw.size
  replace Xa : Hid _ := Xa.out.below hbn
  replace hbw := Below.on hbw hbn
  clear hbn
  generalize v4.heap.size = gx at *
  have Xx := Xx0
  clear Xx0
  obtain ⟨cx0, cx1, fx0, fx1⟩ := Xx.out
  have hnex := Xx.out.lt
  go_wp2_with fail
  clear cx0 cx1 fx0 fx1 hnex
  refine (ddvalue h l HF.out.1 _ (TD.out.below hbw)).mono ?_
  rintro en v5 ⟨s5, p5, m5, z5, e5, rfl, hd5, hv5, hb5⟩
  replace Xa : Hid _ := Xa.out.below hb5
  replace Xx : Hid _ := Xx.out.below hb5
  replace hbw := Below.on hbw hb5
  clear hb5
  have D5 : Hid (DN v5 s5 p5 m5 m5 e5 z5) := hd5.dn
  have HV5 := Hid.mk9 hv5
  have HF5 : Hid (DFm z5 e5) := hd5.fm
  clear hd5 hv5
  obtain ⟨cx0, cx1, fx0, fx1⟩ := Xx.out
  have hnex := Xx.out.lt
  go_wp2_with fail
  clear cx0 cx1 fx0 fx1 hnex
  have Xv0 : Hid (B3q (v5.alloc (.cells #[.bool s5, .slice p5 m5 m5, .int .i64 e5] 36)) v5.heap.size (.bool s5) (.slice p5 m5 m5) (.int .i64 e5)) := B3q.new v5 _ _ _ _
  have hbn : Below v5.heap.size v5 (v5.alloc (.cells #[.bool s5, .slice p5 m5 m5, .int .i64 e5] 36)) := below1 v5 _
  generalize v5.alloc (.cells #[.bool s5, .slice p5 m5 m5, .int .i64 e5] 36) = Wv at *
  have HGv : Hid (w.heap.size ≤ v5.heap.size) := hbw.size
  replace Xa : Hid _ := Xa.out.below hbn
  replace Xx : Hid _ := Xx.out.below hbn
  replace D5 : Hid _ := D5.out.below hbn
  replace hbw := Below.on hbw hbn
  clear hbn
  generalize v5.heap.size = gv at *
  have Xv := Xv0
  clear Xv0
  obtain ⟨cx0, cx1, fx0, fx1⟩ := Xx.out
  have hnex := Xx.out.lt
  go_wp2_with fail
  clear cx0 cx1 fx0 fx1 hnex
  refine (ddSum_g h l _).mono ?_
  rintro en v60 ⟨sh6, sl6, rfl, hR, hb60⟩
  have HT6 : Hid (DdF sh6 sl6 ∧ ux sh6 + ux sl6 = ux h + ux l) := by
    have q := hR.ok HB.out.1 HB.out.2 (by have := HF.out.2; have := HL.out; omega) (by have := HF.out.2; have := HL.out; omega)
    exact ⟨DdF.of_sm q.1 q.2.1 q.2.2, by rw [q.2.2]⟩
  clear hR
  replace Xa : Hid _ := Xa.out.below hb60
  replace Xx : Hid _ := Xx.out.below hb60
  replace Xv : Hid _ := Xv.out.below hb60
  replace D5 : Hid _ := D5.out.below hb60
  replace hbw := Below.on hbw hb60
  clear hb60
  obtain ⟨cx0, cx1, fx0, fx1⟩ := Xx.out
  have hnex := Xx.out.lt
  go_wp2_with fail
  clear cx0 cx1 fx0 fx1 hnex
  refine (ddvalue sh6 sl6 HT6.out.1 _ (TD.out.below hbw)).mono ?_
  rintro en v6 ⟨s6, p6, m6, z6, e6, rfl, hd6, hv6, hb6⟩
  replace Xa : Hid _ := Xa.out.below hb6
  replace Xx : Hid _ := Xx.out.below hb6
  replace Xv : Hid _ := Xv.out.below hb6
  replace D5 : Hid _ := D5.out.below hb6
  replace hbw := Below.on hbw hb6
  clear hb6
  have D6 : Hid (DN v6 s6 p6 m6 m6 e6 z6) := hd6.dn
  have HV6 := Hid.mk9 hv6
  have HF6 : Hid (DFm z6 e6) := hd6.fm
  clear hd6 hv6
  have HE6 : Hid (z6 = z5 ∧ e6 = e5) := dv_inj HF6.out HF5.out (by rw [HV6.out, HV5.out, HT6.out.2])
  obtain ⟨cx0, cx1, fx0, fx1⟩ := Xx.out
  have hnex := Xx.out.lt
  go_wp2_with fail
  clear cx0 cx1 fx0 fx1 hnex
  have Xs0 : Hid (B3q (v6.alloc (.cells #[.bool s6, .slice p6 m6 m6, .int .i64 e6] 36)) v6.heap.size (.bool s6) (.slice p6 m6 m6) (.int .i64 e6)) := B3q.new v6 _ _ _ _
  have hbn : Below v6.heap.size v6 (v6.alloc (.cells #[.bool s6, .slice p6 m6 m6, .int .i64 e6] 36)) := below1 v6 _
  generalize v6.alloc (.cells #[.bool s6, .slice p6 m6 m6, .int .i64 e6] 36) = Ws at *
  have HGs : Hid (w.heap.size ≤ v6.heap.size) := hbw.size
  replace Xa : Hid _ := Xa.out.below hbn
  replace Xx : Hid _ := Xx.out.below hbn
  replace Xv : Hid _ := Xv.out.below hbn
  replace D5 : Hid _ := D5.out.below hbn
  replace D6 : Hid _ := D6.out.below hbn
  replace hbw := Below.on hbw hbn
  clear hbn
  generalize v6.heap.size = gs at *
  have Xs := Xs0
  clear Xs0
  refine (ddSum_g l h _).mono ?_
  rintro en v70 ⟨sh7, sl7, rfl, hR, hb70⟩
  have HT7 : Hid (DdF sh7 sl7 ∧ ux sh7 + ux sl7 = ux h + ux l) := by
    have q := hR.ok HB.out.2 HB.out.1 (by have := HF.out.2; have := HL.out; omega) (by have := HF.out.2; have := HL.out; omega)
    exact ⟨DdF.of_sm q.1 q.2.1 q.2.2, by rw [q.2.2]; omega⟩
  clear hR
  replace Xa : Hid _ := Xa.out.below hb70
  replace Xx : Hid _ := Xx.out.below hb70
  replace Xv : Hid _ := Xv.out.below hb70
  replace Xs : Hid _ := Xs.out.below hb70
  replace D5 : Hid _ := D5.out.below hb70
  replace D6 : Hid _ := D6.out.below hb70
  replace hbw := Below.on hbw hb70
  clear hb70
  obtain ⟨cx0, cx1, fx0, fx1⟩ := Xx.out
  have hnex := Xx.out.lt
  go_wp2_with fail
  clear cx0 cx1 fx0 fx1 hnex
  refine (ddvalue sh7 sl7 HT7.out.1 _ (TD.out.below hbw)).mono ?_
  rintro en v7 ⟨s7, p7, m7, z7, e7, rfl, hd7, hv7, hb7⟩
  replace Xa : Hid _ := Xa.out.below hb7
  replace Xx : Hid _ := Xx.out.below hb7
  replace Xv : Hid _ := Xv.out.below hb7
  replace Xs : Hid _ := Xs.out.below hb7
  replace D5 : Hid _ := D5.out.below hb7
  replace D6 : Hid _ := D6.out.below hb7
  replace hbw := Below.on hbw hb7
  clear hb7
  have D7 : Hid (DN v7 s7 p7 m7 m7 e7 z7) := hd7.dn
  have HV7 := Hid.mk9 hv7
  have HF7 : Hid (DFm z7 e7) := hd7.fm
  clear hd7 hv7
  have HE7 : Hid (z7 = z5 ∧ e7 = e5) := dv_inj HF7.out HF5.out (by rw [HV7.out, HV5.out, HT7.out.2])
  obtain ⟨cx0, cx1, fx0, fx1⟩ := Xx.out
  have hnex := Xx.out.lt
  go_wp2_with fail
  clear cx0 cx1 fx0 fx1 hnex
  have Xt0 : Hid (B3q (v7.alloc (.cells #[.bool s7, .slice p7 m7 m7, .int .i64 e7] 36)) v7.heap.size (.bool s7) (.slice p7 m7 m7) (.int .i64 e7)) := B3q.new v7 _ _ _ _
  have hbn : Below v7.heap.size v7 (v7.alloc (.cells #[.bool s7, .slice p7 m7 m7, .int .i64 e7] 36)) := below1 v7 _
  generalize v7.alloc (.cells #[.bool s7, .slice p7 m7 m7, .int .i64 e7] 36) = Wt at *
  have HGt : Hid (w.heap.size ≤ v7.heap.size) := hbw.size
  replace Xa : Hid _ := Xa.out.below hbn
  replace Xx : Hid _ := Xx.out.below hbn
  replace Xv : Hid _ := Xv.out.below hbn
  replace Xs : Hid _ := Xs.out.below hbn
  replace D5 : Hid _ := D5.out.below hbn
  replace D6 : Hid _ := D6.out.below hbn
  replace D7 : Hid _ := D7.out.below hbn
  replace hbw := Below.on hbw hbn
  clear hbn
  generalize v7.heap.size = gt at *
  have Xt := Xt0
  clear Xt0
  refine (ddneg h l HB.out.1 HB.out.2 _).mono ?_
  rintro e v8 ⟨rfl, hb8⟩
  replace Xa : Hid _ := Xa.out.below hb8
  replace Xx : Hid _ := Xx.out.below hb8
  replace Xv : Hid _ := Xv.out.below hb8
  replace Xs : Hid _ := Xs.out.below hb8
  replace Xt : Hid _ := Xt.out.below hb8
  replace D5 : Hid _ := D5.out.below hb8
  replace D6 : Hid _ := D6.out.below hb8
  replace D7 : Hid _ := D7.out.below hb8
  replace hbw := Below.on hbw hb8
  clear hb8
  go_wp2_with fail
  refine (ddvalue (flipS h) (flipS l) HF.out.1.neg _ (TD.out.below hbw)).mono ?_
  rintro en v9 ⟨s9, p9, m9, z9, e9, rfl, hd9, hv9, hb9⟩
  replace Xa : Hid _ := Xa.out.below hb9
  replace Xx : Hid _ := Xx.out.below hb9
  replace Xv : Hid _ := Xv.out.below hb9
  replace Xs : Hid _ := Xs.out.below hb9
  replace Xt : Hid _ := Xt.out.below hb9
  replace D5 : Hid _ := D5.out.below hb9
  replace D6 : Hid _ := D6.out.below hb9
  replace D7 : Hid _ := D7.out.below hb9
  replace hbw := Below.on hbw hb9
  clear hb9
  have D9 : Hid (DN v9 s9 p9 m9 m9 e9 z9) := hd9.dn
  have HV9 := Hid.mk9 hv9
  have HF9 : Hid (DFm z9 e9) := hd9.fm
  clear hd9 hv9
  obtain ⟨cv0, cv1, cv2, fv0, fv1, fv2⟩ := Xv.out
  have hnev : gv < v9.heap.size := World.block_lt_of_cell? v9 _ cv0
  go_wp2_with fail
  clear cv0 cv1 cv2 fv0 fv1 fv2 hnev
  have Xn0 : Hid (B3q (v9.alloc (.cells #[.bool s9, .slice p9 m9 m9, .int .i64 e9] 36)) v9.heap.size (.bool s9) (.slice p9 m9 m9) (.int .i64 e9)) := B3q.new v9 _ _ _ _
  have hbn : Below v9.heap.size v9 (v9.alloc (.cells #[.bool s9, .slice p9 m9 m9, .int .i64 e9] 36)) := below1 v9 _
  generalize v9.alloc (.cells #[.bool s9, .slice p9 m9 m9, .int .i64 e9] 36) = Wn at *
  have HGn : Hid (w.heap.size ≤ v9.heap.size) := hbw.size
  replace Xa : Hid _ := Xa.out.below hbn
  replace Xx : Hid _ := Xx.out.below hbn
  replace Xv : Hid _ := Xv.out.below hbn
  replace Xs : Hid _ := Xs.out.below hbn
  replace Xt : Hid _ := Xt.out.below hbn
  replace D5 : Hid _ := D5.out.below hbn
  replace D6 : Hid _ := D6.out.below hbn
  replace D7 : Hid _ := D7.out.below hbn
  replace D9 : Hid _ := D9.out.below hbn
  replace hbw := Below.on hbw hbn
  clear hbn
  generalize v9.heap.size = gn at *
  have Xn := Xn0
  clear Xn0
  refine (dneg D5.out).mono ?_
  rintro en v10 ⟨v, rfl, hv, hfm, hb10⟩
  obtain ⟨s10, p10, m10, rfl, hd10⟩ := DO.of hv hfm
  clear hv
  replace Xa : Hid _ := Xa.out.below hb10
  replace Xx : Hid _ := Xx.out.below hb10
  replace Xv : Hid _ := Xv.out.below hb10
  replace Xs : Hid _ := Xs.out.below hb10
  replace Xt : Hid _ := Xt.out.below hb10
  replace Xn : Hid _ := Xn.out.below hb10
  replace D5 : Hid _ := D5.out.below hb10
  replace D6 : Hid _ := D6.out.below hb10
  replace D7 : Hid _ := D7.out.below hb10
  replace D9 : Hid _ := D9.out.below hb10
  replace hbw := Below.on hbw hb10
  clear hb10
  have D10 : Hid (DN v10 s10 p10 m10 m10 e5 (-z5)) := hd10.dn
  have HF10 := Hid.mk9 hfm
  clear hd10 hfm
  have HE9 : Hid (z9 = -z5 ∧ e9 = e5) := dv_inj HF9.out HF10.out (by rw [HV9.out, (flip_ux HB.out.1).1, (flip_ux HB.out.2).1, dv_neg, HV5.out, ← dv_neg]; congr 1; omega)
  obtain ⟨cv0, cv1, cv2, fv0, fv1, fv2⟩ := Xv.out
  have hnev : gv < v10.heap.size := World.block_lt_of_cell? v10 _ cv0
  obtain ⟨cs0, cs1, cs2, fs0, fs1, fs2⟩ := Xs.out
  have hnes : gs < v10.heap.size := World.block_lt_of_cell? v10 _ cs0
  go_wp2_with fail
  clear cv0 cv1 cv2 fv0 fv1 fv2 hnev
  clear cs0 cs1 cs2 fs0 fs1 fs2 hnes
  have Xo0 : Hid (B3q (v10.alloc (.cells #[.bool s10, .slice p10 m10 m10, .int .i64 e5] 36)) v10.heap.size (.bool s10) (.slice p10 m10 m10) (.int .i64 e5)) := B3q.new v10 _ _ _ _
  have hbn : Below v10.heap.size v10 (v10.alloc (.cells #[.bool s10, .slice p10 m10 m10, .int .i64 e5] 36)) := below1 v10 _
  generalize v10.alloc (.cells #[.bool s10, .slice p10 m10 m10, .int .i64 e5] 36) = Wo at *
  have HGo : Hid (w.heap.size ≤ v10.heap.size) := hbw.size
  replace Xa : Hid _ := Xa.out.below hbn
  replace Xx : Hid _ := Xx.out.below hbn
  replace Xv : Hid _ := Xv.out.below hbn
  replace Xs : Hid _ := Xs.out.below hbn
  replace Xt : Hid _ := Xt.out.below hbn
  replace Xn : Hid _ := Xn.out.below hbn
  replace D5 : Hid _ := D5.out.below hbn
  replace D6 : Hid _ := D6.out.below hbn
  replace D7 : Hid _ := D7.out.below hbn
  replace D9 : Hid _ := D9.out.below hbn
  replace D10 : Hid _ := D10.out.below hbn
  replace hbw := Below.on hbw hbn
  clear hbn
  generalize v10.heap.size = go at *
  have Xo := Xo0
  clear Xo0
  refine (sameD D5.out D6.out).mono ?_
  rintro e v11 ⟨rfl, hb11⟩
  rw [decide_eq_true (⟨HE6.out.1.symm, HE6.out.2.symm⟩)]
  replace Xa : Hid _ := Xa.out.below hb11
  replace Xx : Hid _ := Xx.out.below hb11
  replace Xv : Hid _ := Xv.out.below hb11
  replace Xs : Hid _ := Xs.out.below hb11
  replace Xt : Hid _ := Xt.out.below hb11
  replace Xn : Hid _ := Xn.out.below hb11
  replace Xo : Hid _ := Xo.out.below hb11
  replace D5 : Hid _ := D5.out.below hb11
  replace D6 : Hid _ := D6.out.below hb11
  replace D7 : Hid _ := D7.out.below hb11
  replace D9 : Hid _ := D9.out.below hb11
  replace D10 : Hid _ := D10.out.below hb11
  replace hbw := Below.on hbw hb11
  clear hb11
  obtain ⟨cv0, cv1, cv2, fv0, fv1, fv2⟩ := Xv.out
  have hnev : gv < v11.heap.size := World.block_lt_of_cell? v11 _ cv0
  obtain ⟨ct0, ct1, ct2, ft0, ft1, ft2⟩ := Xt.out
  have hnet : gt < v11.heap.size := World.block_lt_of_cell? v11 _ ct0
  go_wp2_with fail
  clear cv0 cv1 cv2 fv0 fv1 fv2 hnev
  clear ct0 ct1 ct2 ft0 ft1 ft2 hnet
  refine (sameD D5.out D7.out).mono ?_
  rintro e v12 ⟨rfl, hb12⟩
  rw [decide_eq_true (⟨HE7.out.1.symm, HE7.out.2.symm⟩)]
  replace Xa : Hid _ := Xa.out.below hb12
  replace Xx : Hid _ := Xx.out.below hb12
  replace Xv : Hid _ := Xv.out.below hb12
  replace Xs : Hid _ := Xs.out.below hb12
  replace Xt : Hid _ := Xt.out.below hb12
  replace Xn : Hid _ := Xn.out.below hb12
  replace Xo : Hid _ := Xo.out.below hb12
  replace D5 : Hid _ := D5.out.below hb12
  replace D6 : Hid _ := D6.out.below hb12
  replace D7 : Hid _ := D7.out.below hb12
  replace D9 : Hid _ := D9.out.below hb12
  replace D10 : Hid _ := D10.out.below hb12
  replace hbw := Below.on hbw hb12
  clear hb12
  obtain ⟨cn0, cn1, cn2, fn0, fn1, fn2⟩ := Xn.out
  have hnen : gn < v12.heap.size := World.block_lt_of_cell? v12 _ cn0
  obtain ⟨co0, co1, co2, fo0, fo1, fo2⟩ := Xo.out
  have hneo : go < v12.heap.size := World.block_lt_of_cell? v12 _ co0
  go_wp2_with fail
  clear cn0 cn1 cn2 fn0 fn1 fn2 hnen
  clear co0 co1 co2 fo0 fo1 fo2 hneo
  refine (sameD D9.out D10.out).mono ?_
  rintro e v13 ⟨rfl, hb13⟩
  rw [decide_eq_true (HE9.out)]
  replace Xa : Hid _ := Xa.out.below hb13
  replace Xx : Hid _ := Xx.out.below hb13
  replace Xv : Hid _ := Xv.out.below hb13
  replace Xs : Hid _ := Xs.out.below hb13
  replace Xt : Hid _ := Xt.out.below hb13
  replace Xn : Hid _ := Xn.out.below hb13
  replace Xo : Hid _ := Xo.out.below hb13
  replace D5 : Hid _ := D5.out.below hb13
  replace D6 : Hid _ := D6.out.below hb13
  replace D7 : Hid _ := D7.out.below hb13
  replace D9 : Hid _ := D9.out.below hb13
  replace D10 : Hid _ := D10.out.below hb13
  replace hbw := Below.on hbw hb13
  clear hb13
  go_wp2_with fail
  go_ret
  exact ⟨rfl, hbw⟩
theorem ddSplits_walk {h l : Nat} (hh : h < 18446744073709551616) (hl : l < 18446744073709551616) {w : World} (hT : Tab w) : Calls Tryz.prog 3 #[.agg #[.int .u64 (h : Int), .int .u64 (l : Int)]] w fun en w' => en = .returned (.bool true) ∧ Below w.heap.size w w' := ddSplits_w h l hh hl w hT
end Go.Proofs.YtccdaadcpbjgaaaGreatDoor
