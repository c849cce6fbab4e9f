import Derived.WalkSmall
import Derived.Laws.Concat
import Derived.Test.YtdmdbdpgdcdifaaGreatDoorJ13
import Derived.Test.YtdmdbdpgdcdifaaGreatDoorJ12
namespace Go.Proofs.YtdmdbdpgdcdifaaGreatDoor
open Go.RowKit Go.Shelf
set_option maxRecDepth 20000
set_option maxHeartbeats 0
theorem hm9 {p : Prop} (h : p) : Hid p := h
structure Hf (f p m le : Int) (S I H sd : Nat) (Be : Int) (Q : Nat) : Prop where
  j : Jn f p m le S I H sd Be
  q : ∀ w, Calls Tryz.prog 14 #[WV p m le] w fun e w' => e = .returned (U Q) ∧ Below w.heap.size w w'
  s : ∀ w, Calls Tryz.prog 21 #[WV p m le] w fun e w' => e = .returned (U S) ∧ Below w.heap.size w w'
  an : ∀ b : Nat, b < 2 * S → bits BinOp.andNot IntKind.u64 (b : Int) (S : Int) = ((b % S : Nat) : Int)
theorem hf_32 : Hf 32 32 24 (-149) 2147483648 2139095040 8388608 23 128 2143289345 := ⟨jn_32, wquiet_32, sign_32, fun b hb => sign_andNot b _ 31 rfl (by decide) hb⟩
theorem hf_64 : Hf 64 64 53 (-1074) 9223372036854775808 9218868437227405312 4503599627370496 52 1024 9221120237041090561 := ⟨jn_64, wquiet_64, sign_64, fun b hb => sign_andNot b _ 63 rfl (by decide) hb⟩
theorem aw_parse : parseF (-1074) 52 1024 9223372036854775808 9218868437227405312 9221120237041090561 [45, 48, 120, 49, 46, 56, 112, 49] = (13837309855095848960, 0) := by decide +kernel
theorem aw_print : printF (-1074) 4503599627370496 9223372036854775808 9218868437227405312 4609434218613702656 = [48, 120, 49, 46, 56, 112, 43, 48] := by decide +kernel
theorem bs_eqL (l p : List UInt8) : ((bs l).toList == p) = decide (l = p) := by
  rw [Lib.toList_data, bs_data]
  by_cases h : l = p
  · subst h; simp
  · simp [h]
theorem aw_eq : ((bs [48, 120, 49, 46, 56, 112, 43, 48]).toList == [48, 120, 49, 46, 56, 112, 43, 48]) = true := by rw [Lib.toList_data, bs_data]; rfl
structure Wd (w : World) : Prop where
  t : Tab w
  b : 0 < w.heap.size
  p : TbP w
theorem Wd.below {w w' : World} (h : Wd w) (hb : Below w.heap.size w w') : Wd w' := ⟨h.t.below hb, Nat.lt_of_lt_of_le h.b hb.size, h.p.below hb⟩
theorem Hf.parse {f p m le : Int} {S I H sd Q : Nat} {Be : Int} (h : Hf f p m le S I H sd Be Q) (l : List UInt8) {w : World} (hw : Wd w) {x : Nat} {e : Int} (hp : parseF le sd Be S I Q l = (x, e)) :
    Calls Tryz.prog 7 #[.int .i64 f, .string (bs l)] w fun en w' => en = .returned (.tuple #[U x, .int .i64 e]) ∧ Below w.heap.size w w' := by
  have h1 := parse_c h.j h.q (l := l) hw.t hw.b
  rw [hp] at h1
  exact h1
theorem Hf.print {f p m le : Int} {S I H sd Q : Nat} {Be : Int} (h : Hf f p m le S I H sd Be Q) {b : Nat} {w : World} (hb : b < 2 * S) (hw : Wd w) {t : List UInt8} (ht : printF le H S I b = t) :
    Calls Tryz.prog 9 #[.int .i64 f, U b] w fun en w' => en = .returned (.tuple #[.string (bs t), .int .i64 0]) ∧ Below w.heap.size w w' := by
  have h1 := print_c h.j h.s h.an hb hw.t hw.p
  rw [ht] at h1
  exact h1
theorem awake10 {w : World} (hw : Wd w) :
    Calls Tryz.prog 5 #[] w fun en w' => en = .returned (.bool true) ∧ Below w.heap.size w w' := by
  have HW : Hid (Wd w) := hw
  clear hw
  go_enter Tryz.func5, Tryz.ntmps5
  go_wp2_with fail
  refine (hf_64.parse [45, 48, 120, 49, 46, 56, 112, 49] HW.out aw_parse).mono ?_
  rintro e w1 ⟨rfl, hb1⟩
  have HB : Hid (Below w.heap.size w w1) := hb1
  clear hb1
  go_wp2_with fail
  refine (hf_64.print (b := 4609434218613702656) (by decide) (HW.out.below HB.out) aw_print).mono ?_
  rintro e w2 ⟨rfl, hb2⟩
  have HB2 : Hid (Below w.heap.size w w2) := Below.on HB.out hb2
  clear hb2
  go_wp2_with fail
  go_ret
  exact ⟨congrArg (fun b => Ending.returned (.bool b)) aw_eq, HB2.out⟩
theorem pre_cons (c : UInt8) (l : List UInt8) : Lib.hasPrefix (c :: l) [c] = true := List.isPrefixOf_iff_prefix.2 ⟨l, rfl⟩
theorem pre_other {c d : UInt8} (l : List UInt8) (h : c ≠ d) : Lib.hasPrefix (c :: l) [d] = false := by
  unfold Lib.hasPrefix
  rw [List.isPrefixOf_cons_cons, show (d == c) = false by simpa using (Ne.symm h)]; rfl
theorem minus_p (l : List UInt8) : minusF (43 :: l) = (false, l) := by unfold minusF; rw [if_pos (pre_cons _ _)]; rfl
theorem minus_m (l : List UInt8) : minusF (45 :: l) = (true, l) := by unfold minusF; rw [if_neg (by rw [pre_other _ (by decide)]; decide), if_pos (pre_cons _ _)]; rfl
theorem minus_n {l : List UInt8} (h : ∀ c r, l = c :: r → c ≠ 43 ∧ c ≠ 45) : minusF l = (false, l) := by
  cases l with
  | nil => rfl
  | cons c r => unfold minusF; rw [if_neg (by rw [pre_other _ (h c r rfl).1]; decide), if_neg (by rw [pre_other _ (h c r rfl).2]; decide)]
theorem rnp_ltS {f p m le : Int} {S I H sd Q : Nat} {Be : Int} (h : Hf f p m le S I H sd Be Q) {l ds : List UInt8} {be : Nat} {ex : Int} (hl : l.length ≤ 4000) (hn : numF l = some (ds, be, ex)) : rnp le sd Be S I (hexF 0 ds : Int) (ex - 4 * ((be : Nat) : Int)) < S := by
  obtain ⟨d, -, -, -, h1, h2, h3⟩ := numF_spec hn
  exact Nat.lt_of_le_of_lt (rnp_le h.j (Int.natCast_nonneg _) (by omega)) h.j.jm.pm.fm.lt
theorem signs_ok {f p m le : Int} {S I H sd Q : Nat} {Be : Int} (h : Hf f p m le S I H sd Be Q) {l : List UInt8} (hl : l.length ≤ 3999) (hs : ∀ c r, l = c :: r → c ≠ 43 ∧ c ≠ 45) :
    (l = [110, 97, 110] ∧ parseF le sd Be S I Q l = (Q, 0) ∧ parseF le sd Be S I Q (45 :: l) = (0, 8) ∧ parseF le sd Be S I Q (43 :: l) = (0, 8)) ∨
    (l ≠ [110, 97, 110] ∧ parseF le sd Be S I Q l = (0, 8) ∧ parseF le sd Be S I Q (45 :: l) = (0, 8) ∧ parseF le sd Be S I Q (43 :: l) = (0, 8)) ∨
    (l ≠ [110, 97, 110] ∧ ∃ R, R < S ∧ parseF le sd Be S I Q l = (R, 0) ∧ parseF le sd Be S I Q (45 :: l) = (S + R, 0) ∧ parseF le sd Be S I Q (43 :: l) = (R, 0)) := by
  have k0 : ¬ 4000 < l.length := by omega
  have k1 : ¬ 4000 < (45 :: l).length := by rw [List.length_cons]; omega
  have k2 : ¬ 4000 < (43 :: l).length := by rw [List.length_cons]; omega
  have n1 : (45 :: l) ≠ [110, 97, 110] := by intro h; cases h
  have n2 : (43 :: l) ≠ [110, 97, 110] := by intro h; cases h
  have m0 := minus_n hs
  have m1 := minus_m l
  have m2 := minus_p l
  by_cases hn : l = [110, 97, 110]
  · have hz : numF l = none := by rw [hn]; decide +kernel
    have hi : l ≠ [105, 110, 102] := by rw [hn]; decide
    refine .inl ⟨hn, parseF_nan k0 hn, parseF_no k1 n1 ?_ ?_, parseF_no k2 n2 ?_ ?_⟩
    · rw [m1]; exact hi
    · rw [m1]; exact hz
    · rw [m2]; exact hi
    · rw [m2]; exact hz
  by_cases hi : l = [105, 110, 102]
  · refine .inr (.inr ⟨hn, I, h.j.jm.pm.fm.lt, ?_, ?_, ?_⟩)
    · rw [parseF_inf k0 hn (by rw [m0]; exact hi), m0]; rfl
    · rw [parseF_inf k1 n1 (by rw [m1]; exact hi), m1]; rfl
    · rw [parseF_inf k2 n2 (by rw [m2]; exact hi), m2]; rfl
  cases hz : numF l with
  | none =>
    refine .inr (.inl ⟨hn, parseF_no k0 hn ?_ ?_, parseF_no k1 n1 ?_ ?_, parseF_no k2 n2 ?_ ?_⟩)
    · rw [m0]; exact hi
    · rw [m0]; exact hz
    · rw [m1]; exact hi
    · rw [m1]; exact hz
    · rw [m2]; exact hi
    · rw [m2]; exact hz
  | some t =>
    obtain ⟨ds, be, ex⟩ := t
    refine .inr (.inr ⟨hn, _, rnp_ltS h (by omega) hz, ?_, ?_, ?_⟩)
    · rw [parseF_num k0 hn (by rw [m0]; exact hi) (by rw [m0]; exact hz), m0]; rfl
    · rw [parseF_num k1 n1 (by rw [m1]; exact hi) (by rw [m1]; exact hz), m1]; rfl
    · rw [parseF_num k2 n2 (by rw [m2]; exact hi) (by rw [m2]; exact hz), m2]; rfl
theorem formats_yes {f : Int} (hf : f = 32 ∨ f = 64) (w : World) : Calls Tryz.prog 6 #[.int .i64 f] w fun en w' => en = .returned (.bool true) ∧ w' = w := by
  rcases hf with rfl | rfl
  · go_enter Tryz.func6, Tryz.ntmps6
    go_wp2_with fail
    go_ret
    exact ⟨rfl, rfl⟩
  · go_enter Tryz.func6, Tryz.ntmps6
    go_wp2_with fail
    go_ret
    exact ⟨rfl, rfl⟩
theorem formats_no {f : Int} (h1 : f ≠ 32) (h2 : f ≠ 64) (w : World) : Calls Tryz.prog 6 #[.int .i64 f] w fun en w' => en = .returned (.bool false) ∧ w' = w := by
  have hd : (f == 32 || f == 64) = false := by simp [h1, h2]
  go_enter Tryz.func6, Tryz.ntmps6
  go_wp2_with fail
  go_ret
  exact ⟨rfl, rfl⟩
theorem lsize_32 {y : Nat} (w : World) (hy : y < B64) :
    Calls Tryz.prog 8 #[.int .i64 32, U y] w fun en w' => en = .returned (U (y % 2147483648)) ∧ w' = w := by
  have hy2 : y < 18446744073709551616 := hy
  go_enter Tryz.func8, Tryz.ntmps8
  go_wp2_with fail
  go_ret
  exact ⟨rfl, rfl⟩
theorem lsize_64 {y : Nat} (w : World) (hy : y < B64) :
    Calls Tryz.prog 8 #[.int .i64 64, U y] w fun en w' => en = .returned (U (y % 9223372036854775808)) ∧ w' = w := by
  have hy2 : y < 18446744073709551616 := hy
  go_enter Tryz.func8, Tryz.ntmps8
  go_wp2_with fail
  go_ret
  exact ⟨rfl, rfl⟩
structure Hg (f p m le : Int) (S I H sd : Nat) (Be : Int) (Q : Nat) : Prop where
  h : Hf f p m le S I H sd Be Q
  fm : f = 32 ∨ f = 64
  sz : ∀ (y : Nat) w, y < B64 → Calls Tryz.prog 8 #[.int .i64 f, U y] w fun en w' => en = .returned (U (y % S)) ∧ w' = w
theorem hg_32 : Hg 32 32 24 (-149) 2147483648 2139095040 8388608 23 128 2143289345 := ⟨hf_32, .inl rfl, fun _ w h => lsize_32 w h⟩
theorem hg_64 : Hg 64 64 53 (-1074) 9223372036854775808 9218868437227405312 4503599627370496 52 1024 9221120237041090561 := ⟨hf_64, .inr rfl, fun _ w h => lsize_64 w h⟩
theorem hexfloatSigns_x {f : Int} (h1 : f ≠ 32) (h2 : f ≠ 64) (l : List UInt8) {w : World} (hw : Wd w) :
    Calls Tryz.prog 3 #[.int .i64 f, .string (bs l)] w fun en w' => en = .returned (.bool true) ∧ Below w.heap.size w w' := by
  have HF : Hid (f ≠ 32 ∧ f ≠ 64) := ⟨h1, h2⟩
  have HW : Hid (Wd w) := hw
  clear h1 h2 hw
  go_enter Tryz.func3, Tryz.ntmps3
  go_wp2_with fail
  refine (awake10 HW.out).mono ?_
  rintro e w1 ⟨rfl, hb1⟩
  have HB : Hid (Below w.heap.size w w1) := hb1
  clear hb1
  go_wp2_with fail
  refine (formats_no HF.out.1 HF.out.2 _).mono ?_
  rintro e w2 ⟨rfl, rfl⟩
  go_wp2_with fail
  go_ret
  exact ⟨rfl, HB.out⟩
theorem hexfloatSigns_l {f p m le : Int} {S I H sd Q : Nat} {Be : Int} (h : Hg f p m le S I H sd Be Q) {l : List UInt8} (hl : 3999 < l.length) {w : World} (hw : Wd w) :
    Calls Tryz.prog 3 #[.int .i64 f, .string (bs l)] w fun en w' => en = .returned (.bool true) ∧ Below w.heap.size w w' := by
  have HG : Hid (Hg f p m le S I H sd Be Q) := h
  have HW : Hid (Wd w) := hw
  have hs : (bs l).size = l.length := bs_size l
  have hl2 : (3999 : Int) < (l.length : Int) := by omega
  clear h hw
  go_enter Tryz.func3, Tryz.ntmps3
  go_wp2_with fail
  refine (awake10 HW.out).mono ?_
  rintro e w1 ⟨rfl, hb1⟩
  have HB : Hid (Below w.heap.size w w1) := hb1
  clear hb1
  go_wp2_with fail
  refine (formats_yes HG.out.fm _).mono ?_
  rintro e w2 ⟨rfl, rfl⟩
  go_wp2_with fail
  go_ret
  exact ⟨rfl, HB.out⟩
theorem hexfloatSigns_43 {f p m le : Int} {S I H sd Q : Nat} {Be : Int} (h : Hg f p m le S I H sd Be Q) {r : List UInt8} (hl : ¬ 3999 < (43 :: r).length) {w : World} (hw : Wd w) :
    Calls Tryz.prog 3 #[.int .i64 f, .string (bs (43 :: r))] w fun en w' => en = .returned (.bool true) ∧ Below w.heap.size w w' := by
  have HG : Hid (Hg f p m le S I H sd Be Q) := h
  have HW : Hid (Wd w) := hw
  have hs : (bs (43 :: r)).size = r.length + 1 := bs_size (43 :: r)
  have hl2 : ¬ (3999 : Int) < (r.length : Int) + 1 := by rw [List.length_cons] at hl; omega
  have hem : (bs (43 :: r)).toList.isEmpty = false := emp1 (by simp)
  have hg0 : (((bs (43 :: r))[0]'(by rw [hs]; exact Nat.succ_pos _)).toNat : Int) = 43 := rfl
  clear h hw
  go_enter Tryz.func3, Tryz.ntmps3
  go_wp2_with fail
  refine (awake10 HW.out).mono ?_
  rintro e w1 ⟨rfl, hb1⟩
  have HB : Hid (Below w.heap.size w w1) := hb1
  clear hb1
  go_wp2_with fail
  refine (formats_yes HG.out.fm _).mono ?_
  rintro e w2 ⟨rfl, rfl⟩
  go_wp2_with fail
  go_ret
  exact ⟨rfl, HB.out⟩
theorem hexfloatSigns_45 {f p m le : Int} {S I H sd Q : Nat} {Be : Int} (h : Hg f p m le S I H sd Be Q) {r : List UInt8} (hl : ¬ 3999 < (45 :: r).length) {w : World} (hw : Wd w) :
    Calls Tryz.prog 3 #[.int .i64 f, .string (bs (45 :: r))] w fun en w' => en = .returned (.bool true) ∧ Below w.heap.size w w' := by
  have HG : Hid (Hg f p m le S I H sd Be Q) := h
  have HW : Hid (Wd w) := hw
  have hs : (bs (45 :: r)).size = r.length + 1 := bs_size (45 :: r)
  have hl2 : ¬ (3999 : Int) < (r.length : Int) + 1 := by rw [List.length_cons] at hl; omega
  have hem : (bs (45 :: r)).toList.isEmpty = false := emp1 (by simp)
  have hg0 : (((bs (45 :: r))[0]'(by rw [hs]; exact Nat.succ_pos _)).toNat : Int) = 45 := rfl
  clear h hw
  go_enter Tryz.func3, Tryz.ntmps3
  go_wp2_with fail
  refine (awake10 HW.out).mono ?_
  rintro e w1 ⟨rfl, hb1⟩
  have HB : Hid (Below w.heap.size w w1) := hb1
  clear hb1
  go_wp2_with fail
  refine (formats_yes HG.out.fm _).mono ?_
  rintro e w2 ⟨rfl, rfl⟩
  go_wp2_with fail
  go_ret
  exact ⟨rfl, HB.out⟩
theorem hexfloatSigns_e {f p m le : Int} {S I H sd Q : Nat} {Be : Int} (h : Hg f p m le S I H sd Be Q) {l : List UInt8} (hle : l = []) {w : World} (hw : Wd w) :
    Calls Tryz.prog 3 #[.int .i64 f, .string (bs l)] w fun en w' => en = .returned (.bool true) ∧ Below w.heap.size w w' := by
  have HG : Hid (Hg f p m le S I H sd Be Q) := h
  have HW : Hid (Wd w) := hw
  have hs : (bs l).size = 0 := by rw [hle]; rfl
  have hem : (bs l).toList.isEmpty = true := by rw [hle]; exact emp0
  have hl : l.length ≤ 3999 := by rw [hle]; decide
  have hsg : ∀ c r, l = c :: r → c ≠ 43 ∧ c ≠ 45 := by intro c r h; rw [hle] at h; cases h
  have HS := hm9 (signs_ok h.h hl hsg)
  have HL : Hid (l.length ≤ 3999) := hl
  have HIS : Hid (I < S ∧ 0 < S ∧ 2 * S ≤ B64) := ⟨h.h.j.jm.pm.fm.lt, Nat.lt_of_le_of_lt (Nat.zero_le _) h.h.j.jm.pm.fm.lt, by have := h.h.j.jm.pm.fm.le; unfold B64; omega⟩
  clear h hw hl hsg hle
  go_enter Tryz.func3, Tryz.ntmps3
  go_wp2_with fail
  refine (awake10 HW.out).mono ?_
  rintro e w1 ⟨rfl, hb1⟩
  have HB : Hid (Below w.heap.size w w1) := hb1
  clear hb1
  go_wp2_with fail
  refine (formats_yes HG.out.fm _).mono ?_
  rintro e w2 ⟨rfl, rfl⟩
  go_wp2_with fail
  rcases HS.out with ⟨hn, p0, p1, p2⟩ | ⟨hn, p0, p1, p2⟩ | ⟨hn, R, hR, p0, p1, p2⟩
  · have P1 := hm9 p1
    have P2 := hm9 p2
    have hcm : ∀ W, (Op.stringOp .add ⟨#[45]⟩ (bs l)).run Tryz.prog W = .ok (.string (bs (45 :: l))) W := fun W => cat_run [45] l W (by have := HL.out; show 1 + _ ≤ _; omega)
    have hcp : ∀ W, (Op.stringOp .add ⟨#[43]⟩ (bs l)).run Tryz.prog W = .ok (.string (bs (43 :: l))) W := fun W => cat_run [43] l W (by have := HL.out; show 1 + _ ≤ _; omega)
    have hbm : ¬ ((⟨#[45]⟩ : ByteArray).size + (bs l).size > 9223372036854775807) := by rw [bs_size]; have := HL.out; show ¬ (1 + _ > _); omega
    have hbp : ¬ ((⟨#[43]⟩ : ByteArray).size + (bs l).size > 9223372036854775807) := by rw [bs_size]; have := HL.out; show ¬ (1 + _ > _); omega
    have hN : l = [110, 97, 110] := hn
    have hq : ((bs l).toList == [110, 97, 110]) = true := by rw [bs_eqL]; exact decide_eq_true hn
    refine (HG.out.h.parse l (HW.out.below HB.out) p0).mono ?_
    rintro e w3 ⟨rfl, hb3⟩
    have HB3 : Hid (Below w.heap.size w w3) := Below.on HB.out hb3
    clear hb3 p0 p1 p2 hn hN
    go_wp2_with fail
    refine (HG.out.h.parse (45 :: l) (HW.out.below HB3.out) P1.out).mono ?_
    rintro e w4 ⟨rfl, hb4⟩
    have HB4 : Hid (Below w.heap.size w w4) := Below.on HB3.out hb4
    clear hb4
    go_wp2_with fail
    refine (HG.out.h.parse (43 :: l) (HW.out.below HB4.out) P2.out).mono ?_
    rintro e w5 ⟨rfl, hb5⟩
    have HB5 : Hid (Below w.heap.size w w5) := Below.on HB4.out hb5
    clear hb5
    go_wp2_with fail
    go_ret
    exact ⟨rfl, HB5.out⟩
  · have P1 := hm9 p1
    have P2 := hm9 p2
    have hcm : ∀ W, (Op.stringOp .add ⟨#[45]⟩ (bs l)).run Tryz.prog W = .ok (.string (bs (45 :: l))) W := fun W => cat_run [45] l W (by have := HL.out; show 1 + _ ≤ _; omega)
    have hcp : ∀ W, (Op.stringOp .add ⟨#[43]⟩ (bs l)).run Tryz.prog W = .ok (.string (bs (43 :: l))) W := fun W => cat_run [43] l W (by have := HL.out; show 1 + _ ≤ _; omega)
    have hbm : ¬ ((⟨#[45]⟩ : ByteArray).size + (bs l).size > 9223372036854775807) := by rw [bs_size]; have := HL.out; show ¬ (1 + _ > _); omega
    have hbp : ¬ ((⟨#[43]⟩ : ByteArray).size + (bs l).size > 9223372036854775807) := by rw [bs_size]; have := HL.out; show ¬ (1 + _ > _); omega
    have HN : Hid (l ≠ [110, 97, 110]) := hn
    have hq : ((bs l).toList == [110, 97, 110]) = false := by rw [bs_eqL]; exact decide_eq_false hn
    refine (HG.out.h.parse l (HW.out.below HB.out) p0).mono ?_
    rintro e w3 ⟨rfl, hb3⟩
    have HB3 : Hid (Below w.heap.size w w3) := Below.on HB.out hb3
    clear hb3 p0 p1 p2 hn
    go_wp2_with fail
    refine (HG.out.h.parse (45 :: l) (HW.out.below HB3.out) P1.out).mono ?_
    rintro e w4 ⟨rfl, hb4⟩
    have HB4 : Hid (Below w.heap.size w w4) := Below.on HB3.out hb4
    clear hb4
    go_wp2_with fail
    refine (HG.out.h.parse (43 :: l) (HW.out.below HB4.out) P2.out).mono ?_
    rintro e w5 ⟨rfl, hb5⟩
    have HB5 : Hid (Below w.heap.size w w5) := Below.on HB4.out hb5
    clear hb5
    go_wp2_with fail
    go_ret
    exact ⟨rfl, HB5.out⟩
  · have P1 := hm9 p1
    have P2 := hm9 p2
    have hcm : ∀ W, (Op.stringOp .add ⟨#[45]⟩ (bs l)).run Tryz.prog W = .ok (.string (bs (45 :: l))) W := fun W => cat_run [45] l W (by have := HL.out; show 1 + _ ≤ _; omega)
    have hcp : ∀ W, (Op.stringOp .add ⟨#[43]⟩ (bs l)).run Tryz.prog W = .ok (.string (bs (43 :: l))) W := fun W => cat_run [43] l W (by have := HL.out; show 1 + _ ≤ _; omega)
    have hbm : ¬ ((⟨#[45]⟩ : ByteArray).size + (bs l).size > 9223372036854775807) := by rw [bs_size]; have := HL.out; show ¬ (1 + _ > _); omega
    have hbp : ¬ ((⟨#[43]⟩ : ByteArray).size + (bs l).size > 9223372036854775807) := by rw [bs_size]; have := HL.out; show ¬ (1 + _ > _); omega
    have HN : Hid (l ≠ [110, 97, 110]) := hn
    have hq : ((bs l).toList == [110, 97, 110]) = false := by rw [bs_eqL]; exact decide_eq_false hn
    refine (HG.out.h.parse l (HW.out.below HB.out) p0).mono ?_
    rintro e w3 ⟨rfl, hb3⟩
    have HB3 : Hid (Below w.heap.size w w3) := Below.on HB.out hb3
    clear hb3 p0 p1 p2 hn
    go_wp2_with fail
    refine (HG.out.h.parse (45 :: l) (HW.out.below HB3.out) P1.out).mono ?_
    rintro e w4 ⟨rfl, hb4⟩
    have HB4 : Hid (Below w.heap.size w w4) := Below.on HB3.out hb4
    clear hb4
    go_wp2_with fail
    refine (HG.out.h.parse (43 :: l) (HW.out.below HB4.out) P2.out).mono ?_
    rintro e w5 ⟨rfl, hb5⟩
    have HB5 : Hid (Below w.heap.size w w5) := Below.on HB4.out hb5
    clear hb5
    have hne : ¬ (S : Int) + (R : Int) = (R : Int) := by have := HIS.out; omega
    have hne2 : ((S : Int) + (R : Int) != (R : Int)) = true := bne_iff_ne.2 hne
    have HNE := hm9 hne2
    have HR : Hid (R < S) := hR
    have hns : (S + R) % S = R := by rw [Nat.add_mod_left, Nat.mod_eq_of_lt hR]
    clear hR
    go_wp2_with fail
    refine (HG.out.sz (S + R) _ (by have := HIS.out; have := HR.out; omega)).mono ?_
    rintro e w6 ⟨rfl, rfl⟩
    rw [hns]
    go_wp2_with fail
    go_ret
    exact ⟨by first | rfl | exact congrArg (fun b => Ending.returned (.bool b)) HNE.out, HB5.out⟩
theorem hexfloatSigns_c {f p m le : Int} {S I H sd Q : Nat} {Be : Int} (h : Hg f p m le S I H sd Be Q) {l : List UInt8} {c : UInt8} {r : List UInt8} (hle : l = c :: r) (hl : l.length ≤ 3999) (h43 : c ≠ 43) (h45 : c ≠ 45) {w : World} (hw : Wd w) :
    Calls Tryz.prog 3 #[.int .i64 f, .string (bs l)] w fun en w' => en = .returned (.bool true) ∧ Below w.heap.size w w' := by
  have HG : Hid (Hg f p m le S I H sd Be Q) := h
  have HW : Hid (Wd w) := hw
  have hs : (bs l).size = r.length + 1 := by rw [hle]; exact bs_size (c :: r)
  have hem : (bs l).toList.isEmpty = false := emp1 (by rw [hle]; simp)
  have hsg : ∀ d s, l = d :: s → d ≠ 43 ∧ d ≠ 45 := by intro d s h; rw [hle] at h; cases h; exact ⟨h43, h45⟩
  have hl2 : ¬ (3999 : Int) < (r.length : Int) + 1 := by rw [hle, List.length_cons] at hl; omega
  have hg0 : (((bs l)[0]'(by rw [hs]; exact Nat.succ_pos _)).toNat : Int) = (c.toNat : Int) := by subst hle; rfl
  have hn43 : ¬ (c.toNat : Int) = 43 := fun h => h43 (UInt8.toNat_inj.1 (by rw [show (c.toNat) = 43 by omega]; rfl))
  have hn45 : ¬ (c.toNat : Int) = 45 := fun h => h45 (UInt8.toNat_inj.1 (by rw [show (c.toNat) = 45 by omega]; rfl))
  have hq43 : ((c.toNat : Int) == 43) = false := by have h := hn43; simpa using h
  have hq45 : ((c.toNat : Int) == 45) = false := by have h := hn45; simpa using h
  have HS := hm9 (signs_ok h.h hl hsg)
  have HL : Hid (l.length ≤ 3999) := hl
  have HIS : Hid (I < S ∧ 0 < S ∧ 2 * S ≤ B64) := ⟨h.h.j.jm.pm.fm.lt, Nat.lt_of_le_of_lt (Nat.zero_le _) h.h.j.jm.pm.fm.lt, by have := h.h.j.jm.pm.fm.le; unfold B64; omega⟩
  clear h hw hl hsg hle h43 h45
  go_enter Tryz.func3, Tryz.ntmps3
  go_wp2_with fail
  refine (awake10 HW.out).mono ?_
  rintro e w1 ⟨rfl, hb1⟩
  have HB : Hid (Below w.heap.size w w1) := hb1
  clear hb1
  go_wp2_with fail
  refine (formats_yes HG.out.fm _).mono ?_
  rintro e w2 ⟨rfl, rfl⟩
  go_wp2_with fail
  rcases HS.out with ⟨hn, p0, p1, p2⟩ | ⟨hn, p0, p1, p2⟩ | ⟨hn, R, hR, p0, p1, p2⟩
  · have P1 := hm9 p1
    have P2 := hm9 p2
    have hcm : ∀ W, (Op.stringOp .add ⟨#[45]⟩ (bs l)).run Tryz.prog W = .ok (.string (bs (45 :: l))) W := fun W => cat_run [45] l W (by have := HL.out; show 1 + _ ≤ _; omega)
    have hcp : ∀ W, (Op.stringOp .add ⟨#[43]⟩ (bs l)).run Tryz.prog W = .ok (.string (bs (43 :: l))) W := fun W => cat_run [43] l W (by have := HL.out; show 1 + _ ≤ _; omega)
    have hbm : ¬ ((⟨#[45]⟩ : ByteArray).size + (bs l).size > 9223372036854775807) := by rw [bs_size]; have := HL.out; show ¬ (1 + _ > _); omega
    have hbp : ¬ ((⟨#[43]⟩ : ByteArray).size + (bs l).size > 9223372036854775807) := by rw [bs_size]; have := HL.out; show ¬ (1 + _ > _); omega
    have hN : l = [110, 97, 110] := hn
    have hq : ((bs l).toList == [110, 97, 110]) = true := by rw [bs_eqL]; exact decide_eq_true hn
    refine (HG.out.h.parse l (HW.out.below HB.out) p0).mono ?_
    rintro e w3 ⟨rfl, hb3⟩
    have HB3 : Hid (Below w.heap.size w w3) := Below.on HB.out hb3
    clear hb3 p0 p1 p2 hn hN
    go_wp2_with fail
    refine (HG.out.h.parse (45 :: l) (HW.out.below HB3.out) P1.out).mono ?_
    rintro e w4 ⟨rfl, hb4⟩
    have HB4 : Hid (Below w.heap.size w w4) := Below.on HB3.out hb4
    clear hb4
    go_wp2_with fail
    refine (HG.out.h.parse (43 :: l) (HW.out.below HB4.out) P2.out).mono ?_
    rintro e w5 ⟨rfl, hb5⟩
    have HB5 : Hid (Below w.heap.size w w5) := Below.on HB4.out hb5
    clear hb5
    go_wp2_with fail
    go_ret
    exact ⟨rfl, HB5.out⟩
  · have P1 := hm9 p1
    have P2 := hm9 p2
    have hcm : ∀ W, (Op.stringOp .add ⟨#[45]⟩ (bs l)).run Tryz.prog W = .ok (.string (bs (45 :: l))) W := fun W => cat_run [45] l W (by have := HL.out; show 1 + _ ≤ _; omega)
    have hcp : ∀ W, (Op.stringOp .add ⟨#[43]⟩ (bs l)).run Tryz.prog W = .ok (.string (bs (43 :: l))) W := fun W => cat_run [43] l W (by have := HL.out; show 1 + _ ≤ _; omega)
    have hbm : ¬ ((⟨#[45]⟩ : ByteArray).size + (bs l).size > 9223372036854775807) := by rw [bs_size]; have := HL.out; show ¬ (1 + _ > _); omega
    have hbp : ¬ ((⟨#[43]⟩ : ByteArray).size + (bs l).size > 9223372036854775807) := by rw [bs_size]; have := HL.out; show ¬ (1 + _ > _); omega
    have HN : Hid (l ≠ [110, 97, 110]) := hn
    have hq : ((bs l).toList == [110, 97, 110]) = false := by rw [bs_eqL]; exact decide_eq_false hn
    refine (HG.out.h.parse l (HW.out.below HB.out) p0).mono ?_
    rintro e w3 ⟨rfl, hb3⟩
    have HB3 : Hid (Below w.heap.size w w3) := Below.on HB.out hb3
    clear hb3 p0 p1 p2 hn
    go_wp2_with fail
    refine (HG.out.h.parse (45 :: l) (HW.out.below HB3.out) P1.out).mono ?_
    rintro e w4 ⟨rfl, hb4⟩
    have HB4 : Hid (Below w.heap.size w w4) := Below.on HB3.out hb4
    clear hb4
    go_wp2_with fail
    refine (HG.out.h.parse (43 :: l) (HW.out.below HB4.out) P2.out).mono ?_
    rintro e w5 ⟨rfl, hb5⟩
    have HB5 : Hid (Below w.heap.size w w5) := Below.on HB4.out hb5
    clear hb5
    go_wp2_with fail
    go_ret
    exact ⟨rfl, HB5.out⟩
  · have P1 := hm9 p1
    have P2 := hm9 p2
    have hcm : ∀ W, (Op.stringOp .add ⟨#[45]⟩ (bs l)).run Tryz.prog W = .ok (.string (bs (45 :: l))) W := fun W => cat_run [45] l W (by have := HL.out; show 1 + _ ≤ _; omega)
    have hcp : ∀ W, (Op.stringOp .add ⟨#[43]⟩ (bs l)).run Tryz.prog W = .ok (.string (bs (43 :: l))) W := fun W => cat_run [43] l W (by have := HL.out; show 1 + _ ≤ _; omega)
    have hbm : ¬ ((⟨#[45]⟩ : ByteArray).size + (bs l).size > 9223372036854775807) := by rw [bs_size]; have := HL.out; show ¬ (1 + _ > _); omega
    have hbp : ¬ ((⟨#[43]⟩ : ByteArray).size + (bs l).size > 9223372036854775807) := by rw [bs_size]; have := HL.out; show ¬ (1 + _ > _); omega
    have HN : Hid (l ≠ [110, 97, 110]) := hn
    have hq : ((bs l).toList == [110, 97, 110]) = false := by rw [bs_eqL]; exact decide_eq_false hn
    refine (HG.out.h.parse l (HW.out.below HB.out) p0).mono ?_
    rintro e w3 ⟨rfl, hb3⟩
    have HB3 : Hid (Below w.heap.size w w3) := Below.on HB.out hb3
    clear hb3 p0 p1 p2 hn
    go_wp2_with fail
    refine (HG.out.h.parse (45 :: l) (HW.out.below HB3.out) P1.out).mono ?_
    rintro e w4 ⟨rfl, hb4⟩
    have HB4 : Hid (Below w.heap.size w w4) := Below.on HB3.out hb4
    clear hb4
    go_wp2_with fail
    refine (HG.out.h.parse (43 :: l) (HW.out.below HB4.out) P2.out).mono ?_
    rintro e w5 ⟨rfl, hb5⟩
    have HB5 : Hid (Below w.heap.size w w5) := Below.on HB4.out hb5
    clear hb5
    have hne : ¬ (S : Int) + (R : Int) = (R : Int) := by have := HIS.out; omega
    have hne2 : ((S : Int) + (R : Int) != (R : Int)) = true := bne_iff_ne.2 hne
    have HNE := hm9 hne2
    have HR : Hid (R < S) := hR
    have hns : (S + R) % S = R := by rw [Nat.add_mod_left, Nat.mod_eq_of_lt hR]
    clear hR
    go_wp2_with fail
    refine (HG.out.sz (S + R) _ (by have := HIS.out; have := HR.out; omega)).mono ?_
    rintro e w6 ⟨rfl, rfl⟩
    rw [hns]
    go_wp2_with fail
    go_ret
    exact ⟨by first | rfl | exact congrArg (fun b => Ending.returned (.bool b)) HNE.out, HB5.out⟩
theorem hexfloatSigns_g {f p m le : Int} {S I H sd Q : Nat} {Be : Int} (h : Hg f p m le S I H sd Be Q) (l : List UInt8) {w : World} (hw : Wd w) : Calls Tryz.prog 3 #[.int .i64 f, .string (bs l)] w fun en w' => en = .returned (.bool true) ∧ Below w.heap.size w w' := by
  by_cases hl : 3999 < l.length
  · exact hexfloatSigns_l h hl hw
  cases l with
  | nil => exact hexfloatSigns_e h rfl hw
  | cons c r =>
    by_cases h1 : c = 43
    · subst h1; exact hexfloatSigns_43 h hl hw
    by_cases h2 : c = 45
    · subst h2; exact hexfloatSigns_45 h hl hw
    exact hexfloatSigns_c h rfl (Nat.le_of_not_lt hl) h1 h2 hw
theorem hexfloatSigns_w (f : Int) (s : ByteArray) {w : World} (hw : Wd w) : Calls Tryz.prog 3 #[.int .i64 f, .string s] w fun en w' => en = .returned (.bool true) ∧ Below w.heap.size w w' := by
  obtain ⟨l, rfl⟩ : ∃ l, s = bs l := ⟨s.data.toList, rfl⟩
  by_cases h1 : f = 32
  · subst h1; exact hexfloatSigns_g hg_32 l hw
  by_cases h2 : f = 64
  · subst h2; exact hexfloatSigns_g hg_64 l hw
  exact hexfloatSigns_x h1 h2 l hw
end Go.Proofs.YtdmdbdpgdcdifaaGreatDoor
