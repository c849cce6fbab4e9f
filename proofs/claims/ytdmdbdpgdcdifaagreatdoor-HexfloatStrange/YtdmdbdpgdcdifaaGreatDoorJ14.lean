import Derived.WalkSmall
import Derived.Laws.Concat
import Derived.Test.YtdmdbdpgdcdifaaGreatDoorJ13
import Derived.Test.YtdmdbdpgdcdifaaGreatDoorJ12
namespace Go.Proofs.YtdmdbdpgdcdifaaGreatDoor
open Go.RowKit Go.Shelf
set_option maxRecDepth 20000
set_option maxHeartbeats 0
theorem hm9 {p : Prop} (h : p) : Hid p := h
structure Hf (f p m le : Int) (S I H sd : Nat) (Be : Int) (Q : Nat) : Prop where
  j : Jn f p m le S I H sd Be
  q : ∀ w, Calls Tryz.prog 14 #[WV p m le] w fun e w' => e = .returned (U Q) ∧ Below w.heap.size w w'
  s : ∀ w, Calls Tryz.prog 21 #[WV p m le] w fun e w' => e = .returned (U S) ∧ Below w.heap.size w w'
  an : ∀ b : Nat, b < 2 * S → bits BinOp.andNot IntKind.u64 (b : Int) (S : Int) = ((b % S : Nat) : Int)
theorem hf_32 : Hf 32 32 24 (-149) 2147483648 2139095040 8388608 23 128 2143289345 := ⟨jn_32, wquiet_32, sign_32, fun b hb => sign_andNot b _ 31 rfl (by decide) hb⟩
theorem hf_64 : Hf 64 64 53 (-1074) 9223372036854775808 9218868437227405312 4503599627370496 52 1024 9221120237041090561 := ⟨jn_64, wquiet_64, sign_64, fun b hb => sign_andNot b _ 63 rfl (by decide) hb⟩
theorem aw_parse : parseF (-1074) 52 1024 9223372036854775808 9218868437227405312 9221120237041090561 [45, 48, 120, 49, 46, 56, 112, 49] = (13837309855095848960, 0) := by decide +kernel
theorem aw_print : printF (-1074) 4503599627370496 9223372036854775808 9218868437227405312 4609434218613702656 = [48, 120, 49, 46, 56, 112, 43, 48] := by decide +kernel
theorem bs_eqL (l p : List UInt8) : ((bs l).toList == p) = decide (l = p) := by
  rw [Lib.toList_data, bs_data]
  by_cases h : l = p
  · subst h; simp
  · simp [h]
theorem aw_eq : ((bs [48, 120, 49, 46, 56, 112, 43, 48]).toList == [48, 120, 49, 46, 56, 112, 43, 48]) = true := by rw [Lib.toList_data, bs_data]; rfl
structure Wd (w : World) : Prop where
  t : Tab w
  b : 0 < w.heap.size
  p : TbP w
theorem Wd.below {w w' : World} (h : Wd w) (hb : Below w.heap.size w w') : Wd w' := ⟨h.t.below hb, Nat.lt_of_lt_of_le h.b hb.size, h.p.below hb⟩
theorem Hf.parse {f p m le : Int} {S I H sd Q : Nat} {Be : Int} (h : Hf f p m le S I H sd Be Q) (l : List UInt8) {w : World} (hw : Wd w) {x : Nat} {e : Int} (hp : parseF le sd Be S I Q l = (x, e)) :
    Calls Tryz.prog 7 #[.int .i64 f, .string (bs l)] w fun en w' => en = .returned (.tuple #[U x, .int .i64 e]) ∧ Below w.heap.size w w' := by
  have h1 := parse_c h.j h.q (l := l) hw.t hw.b
  rw [hp] at h1
  exact h1
theorem Hf.print {f p m le : Int} {S I H sd Q : Nat} {Be : Int} (h : Hf f p m le S I H sd Be Q) {b : Nat} {w : World} (hb : b < 2 * S) (hw : Wd w) {t : List UInt8} (ht : printF le H S I b = t) :
    Calls Tryz.prog 9 #[.int .i64 f, U b] w fun en w' => en = .returned (.tuple #[.string (bs t), .int .i64 0]) ∧ Below w.heap.size w w' := by
  have h1 := print_c h.j h.s h.an hb hw.t hw.p
  rw [ht] at h1
  exact h1
theorem awake10 {w : World} (hw : Wd w) :
    Calls Tryz.prog 5 #[] w fun en w' => en = .returned (.bool true) ∧ Below w.heap.size w w' := by
  have HW : Hid (Wd w) := hw
  clear hw
  go_enter Tryz.func5, Tryz.ntmps5
  go_wp2_with fail
  refine (hf_64.parse [45, 48, 120, 49, 46, 56, 112, 49] HW.out aw_parse).mono ?_
  rintro e w1 ⟨rfl, hb1⟩
  have HB : Hid (Below w.heap.size w w1) := hb1
  clear hb1
  go_wp2_with fail
  refine (hf_64.print (b := 4609434218613702656) (by decide) (HW.out.below HB.out) aw_print).mono ?_
  rintro e w2 ⟨rfl, hb2⟩
  have HB2 : Hid (Below w.heap.size w w2) := Below.on HB.out hb2
  clear hb2
  go_wp2_with fail
  go_ret
  exact ⟨congrArg (fun b => Ending.returned (.bool b)) aw_eq, HB2.out⟩
theorem pre_cons (c : UInt8) (l : List UInt8) : Lib.hasPrefix (c :: l) [c] = true := List.isPrefixOf_iff_prefix.2 ⟨l, rfl⟩
theorem pre_other {c d : UInt8} (l : List UInt8) (h : c ≠ d) : Lib.hasPrefix (c :: l) [d] = false := by
  unfold Lib.hasPrefix
  rw [List.isPrefixOf_cons_cons, show (d == c) = false by simpa using (Ne.symm h)]; rfl
theorem minus_p (l : List UInt8) : minusF (43 :: l) = (false, l) := by unfold minusF; rw [if_pos (pre_cons _ _)]; rfl
theorem minus_m (l : List UInt8) : minusF (45 :: l) = (true, l) := by unfold minusF; rw [if_neg (by rw [pre_other _ (by decide)]; decide), if_pos (pre_cons _ _)]; rfl
theorem minus_n {l : List UInt8} (h : ∀ c r, l = c :: r → c ≠ 43 ∧ c ≠ 45) : minusF l = (false, l) := by
  cases l with
  | nil => rfl
  | cons c r => unfold minusF; rw [if_neg (by rw [pre_other _ (h c r rfl).1]; decide), if_neg (by rw [pre_other _ (h c r rfl).2]; decide)]
theorem rnp_ltS {f p m le : Int} {S I H sd Q : Nat} {Be : Int} (h : Hf f p m le S I H sd Be Q) {l ds : List UInt8} {be : Nat} {ex : Int} (hl : l.length ≤ 4000) (hn : numF l = some (ds, be, ex)) : rnp le sd Be S I (hexF 0 ds : Int) (ex - 4 * ((be : Nat) : Int)) < S := by
  obtain ⟨d, -, -, -, h1, h2, h3⟩ := numF_spec hn
  exact Nat.lt_of_le_of_lt (rnp_le h.j (Int.natCast_nonneg _) (by omega)) h.j.jm.pm.fm.lt
theorem signs_ok {f p m le : Int} {S I H sd Q : Nat} {Be : Int} (h : Hf f p m le S I H sd Be Q) {l : List UInt8} (hl : l.length ≤ 3999) (hs : ∀ c r, l = c :: r → c ≠ 43 ∧ c ≠ 45) :
    (l = [110, 97, 110] ∧ parseF le sd Be S I Q l = (Q, 0) ∧ parseF le sd Be S I Q (45 :: l) = (0, 8) ∧ parseF le sd Be S I Q (43 :: l) = (0, 8)) ∨
    (l ≠ [110, 97, 110] ∧ parseF le sd Be S I Q l = (0, 8) ∧ parseF le sd Be S I Q (45 :: l) = (0, 8) ∧ parseF le sd Be S I Q (43 :: l) = (0, 8)) ∨
    (l ≠ [110, 97, 110] ∧ ∃ R, R < S ∧ parseF le sd Be S I Q l = (R, 0) ∧ parseF le sd Be S I Q (45 :: l) = (S + R, 0) ∧ parseF le sd Be S I Q (43 :: l) = (R, 0)) := by
  have k0 : ¬ 4000 < l.length := by omega
  have k1 : ¬ 4000 < (45 :: l).length := by rw [List.length_cons]; omega
  have k2 : ¬ 4000 < (43 :: l).length := by rw [List.length_cons]; omega
  have n1 : (45 :: l) ≠ [110, 97, 110] := by intro h; cases h
  have n2 : (43 :: l) ≠ [110, 97, 110] := by intro h; cases h
  have m0 := minus_n hs
  have m1 := minus_m l
  have m2 := minus_p l
  by_cases hn : l = [110, 97, 110]
  · have hz : numF l = none := by rw [hn]; decide +kernel
    have hi : l ≠ [105, 110, 102] := by rw [hn]; decide
    refine .inl ⟨hn, parseF_nan k0 hn, parseF_no k1 n1 ?_ ?_, parseF_no k2 n2 ?_ ?_⟩
    · rw [m1]; exact hi
    · rw [m1]; exact hz
    · rw [m2]; exact hi
    · rw [m2]; exact hz
  by_cases hi : l = [105, 110, 102]
  · refine .inr (.inr ⟨hn, I, h.j.jm.pm.fm.lt, ?_, ?_, ?_⟩)
    · rw [parseF_inf k0 hn (by rw [m0]; exact hi), m0]; rfl
    · rw [parseF_inf k1 n1 (by rw [m1]; exact hi), m1]; rfl
    · rw [parseF_inf k2 n2 (by rw [m2]; exact hi), m2]; rfl
  cases hz : numF l with
  | none =>
    refine .inr (.inl ⟨hn, parseF_no k0 hn ?_ ?_, parseF_no k1 n1 ?_ ?_, parseF_no k2 n2 ?_ ?_⟩)
    · rw [m0]; exact hi
    · rw [m0]; exact hz
    · rw [m1]; exact hi
    · rw [m1]; exact hz
    · rw [m2]; exact hi
    · rw [m2]; exact hz
  | some t =>
    obtain ⟨ds, be, ex⟩ := t
    refine .inr (.inr ⟨hn, _, rnp_ltS h (by omega) hz, ?_, ?_, ?_⟩)
    · rw [parseF_num k0 hn (by rw [m0]; exact hi) (by rw [m0]; exact hz), m0]; rfl
    · rw [parseF_num k1 n1 (by rw [m1]; exact hi) (by rw [m1]; exact hz), m1]; rfl
    · rw [parseF_num k2 n2 (by rw [m2]; exact hi) (by rw [m2]; exact hz), m2]; rfl
theorem formats_yes {f : Int} (hf : f = 32 ∨ f = 64) (w : World) : Calls Tryz.prog 6 #[.int .i64 f] w fun en w' => en = .returned (.bool true) ∧ w' = w := by
  rcases hf with rfl | rfl
  · go_enter Tryz.func6, Tryz.ntmps6
    go_wp2_with fail
    go_ret
    exact ⟨rfl, rfl⟩
  · go_enter Tryz.func6, Tryz.ntmps6
    go_wp2_with fail
    go_ret
    exact ⟨rfl, rfl⟩
theorem formats_no {f : Int} (h1 : f ≠ 32) (h2 : f ≠ 64) (w : World) : Calls Tryz.prog 6 #[.int .i64 f] w fun en w' => en = .returned (.bool false) ∧ w' = w := by
  have hd : (f == 32 || f == 64) = false := by simp [h1, h2]
  go_enter Tryz.func6, Tryz.ntmps6
  go_wp2_with fail
  go_ret
  exact ⟨rfl, rfl⟩
theorem lsize_32 {y : Nat} (w : World) (hy : y < B64) :
    Calls Tryz.prog 8 #[.int .i64 32, U y] w fun en w' => en = .returned (U (y % 2147483648)) ∧ w' = w := by
  have hy2 : y < 18446744073709551616 := hy
  go_enter Tryz.func8, Tryz.ntmps8
  go_wp2_with fail
  go_ret
  exact ⟨rfl, rfl⟩
theorem lsize_64 {y : Nat} (w : World) (hy : y < B64) :
    Calls Tryz.prog 8 #[.int .i64 64, U y] w fun en w' => en = .returned (U (y % 9223372036854775808)) ∧ w' = w := by
  have hy2 : y < 18446744073709551616 := hy
  go_enter Tryz.func8, Tryz.ntmps8
  go_wp2_with fail
  go_ret
  exact ⟨rfl, rfl⟩
structure Hg (f p m le : Int) (S I H sd : Nat) (Be : Int) (Q : Nat) : Prop where
  h : Hf f p m le S I H sd Be Q
  fm : f = 32 ∨ f = 64
  sz : ∀ (y : Nat) w, y < B64 → Calls Tryz.prog 8 #[.int .i64 f, U y] w fun en w' => en = .returned (U (y % S)) ∧ w' = w
theorem hg_32 : Hg 32 32 24 (-149) 2147483648 2139095040 8388608 23 128 2143289345 := ⟨hf_32, .inl rfl, fun _ w h => lsize_32 w h⟩
theorem hg_64 : Hg 64 64 53 (-1074) 9223372036854775808 9218868437227405312 4503599627370496 52 1024 9221120237041090561 := ⟨hf_64, .inr rfl, fun _ w h => lsize_64 w h⟩
theorem hexfloatSigns_x {f : Int} (h1 : f ≠ 32) (h2 : f ≠ 64) (l : List UInt8) {w : World} (hw : Wd w) :
    Calls Tryz.prog 3 #[.int .i64 f, .string (bs l)] w fun en w' => en = .returned (.bool true) ∧ Below w.heap.size w w' := by
  have HF : Hid (f ≠ 32 ∧ f ≠ 64) := ⟨h1, h2⟩
  have HW : Hid (Wd w) := hw
  clear h1 h2 hw
  go_enter Tryz.func3, Tryz.ntmps3
  go_wp2_with fail
  refine (awake10 HW.out).mono ?_
  rintro e w1 ⟨rfl, hb1⟩
  have HB : Hid (Below w.heap.size w w1) := hb1
  clear hb1
  go_wp2_with fail
  refine (formats_no HF.out.1 HF.out.2 _).mono ?_
  rintro e w2 ⟨rfl, rfl⟩
  go_wp2_with fail
  go_ret
  exact ⟨rfl, HB.out⟩
theorem hexfloatSigns_l {f p m le : Int} {S I H sd Q : Nat} {Be : Int} (h : Hg f p m le S I H sd Be Q) {l : List UInt8} (hl : 3999 < l.length) {w : World} (hw : Wd w) :
    Calls Tryz.prog 3 #[.int .i64 f, .string (bs l)] w fun en w' => en = .returned (.bool true) ∧ Below w.heap.size w w' := by
  have HG : Hid (Hg f p m le S I H sd Be Q) := h
  have HW : Hid (Wd w) := hw
  have hs : (bs l).size = l.length := bs_size l
  have hl2 : (3999 : Int) < (l.length : Int) := by omega
  clear h hw
  go_enter Tryz.func3, Tryz.ntmps3
  go_wp2_with fail
  refine (awake10 HW.out).mono ?_
  rintro e w1 ⟨rfl, hb1⟩
  have HB : Hid (Below w.heap.size w w1) := hb1
  clear hb1
  go_wp2_with fail
  refine (formats_yes HG.out.fm _).mono ?_
  rintro e w2 ⟨rfl, rfl⟩
  go_wp2_with fail
  go_ret
  exact ⟨rfl, HB.out⟩
theorem hexfloatSigns_43 {f p m le : Int} {S I H sd Q : Nat} {Be : Int} (h : Hg f p m le S I H sd Be Q) {r : List UInt8} (hl : ¬ 3999 < (43 :: r).length) {w : World} (hw : Wd w) :
    Calls Tryz.prog 3 #[.int .i64 f, .string (bs (43 :: r))] w fun en w' => en = .returned (.bool true) ∧ Below w.heap.size w w' := by
  have HG : Hid (Hg f p m le S I H sd Be Q) := h
  have HW : Hid (Wd w) := hw
  have hs : (bs (43 :: r)).size = r.length + 1 := bs_size (43 :: r)
  have hl2 : ¬ (3999 : Int) < (r.length : Int) + 1 := by rw [List.length_cons] at hl; omega
  have hem : (bs (43 :: r)).toList.isEmpty = false := emp1 (by simp)
  have hg0 : (((bs (43 :: r))[0]'(by rw [hs]; exact Nat.succ_pos _)).toNat : Int) = 43 := rfl
  clear h hw
  go_enter Tryz.func3, Tryz.ntmps3
  go_wp2_with fail
  refine (awake10 HW.out).mono ?_
  rintro e w1 ⟨rfl, hb1⟩
  have HB : Hid (Below w.heap.size w w1) := hb1
  clear hb1
  go_wp2_with fail
  refine (formats_yes HG.out.fm _).mono ?_
  rintro e w2 ⟨rfl, rfl⟩
  go_wp2_with fail
  go_ret
  exact ⟨rfl, HB.out⟩
theorem hexfloatSigns_45 {f p m le : Int} {S I H sd Q : Nat} {Be : Int} (h : Hg f p m le S I H sd Be Q) {r : List UInt8} (hl : ¬ 3999 < (45 :: r).length) {w : World} (hw : Wd w) :
    Calls Tryz.prog 3 #[.int .i64 f, .string (bs (45 :: r))] w fun en w' => en = .returned (.bool true) ∧ Below w.heap.size w w' := by
  have HG : Hid (Hg f p m le S I H sd Be Q) := h
  have HW : Hid (Wd w) := hw
  have hs : (bs (45 :: r)).size = r.length + 1 := bs_size (45 :: r)
  have hl2 : ¬ (3999 : Int) < (r.length : Int) + 1 := by rw [List.length_cons] at hl; omega
  have hem : (bs (45 :: r)).toList.isEmpty = false := emp1 (by simp)
  have hg0 : (((bs (45 :: r))[0]'(by rw [hs]; exact Nat.succ_pos _)).toNat : Int) = 45 := rfl
  clear h hw
  go_enter Tryz.func3, Tryz.ntmps3
  go_wp2_with fail
  refine (awake10 HW.out).mono ?_
  rintro e w1 ⟨rfl, hb1⟩
  have HB : Hid (Below w.heap.size w w1) := hb1
  clear hb1
  go_wp2_with fail
  refine (formats_yes HG.out.fm _).mono ?_
  rintro e w2 ⟨rfl, rfl⟩
  go_wp2_with fail
  go_ret
  exact ⟨rfl, HB.out⟩
theorem hexfloatSigns_e {f p m le : Int} {S I H sd Q : Nat} {Be : Int} (h : Hg f p m le S I H sd Be Q) {l : List UInt8} (hle : l = []) {w : World} (hw : Wd w) :
    Calls Tryz.prog 3 #[.int .i64 f, .string (bs l)] w fun en w' => en = .returned (.bool true) ∧ Below w.heap.size w w' := by
  have HG : Hid (Hg f p m le S I H sd Be Q) := h
  have HW : Hid (Wd w) := hw
  have hs : (bs l).size = 0 := by rw [hle]; rfl
  have hem : (bs l).toList.isEmpty = true := by rw [hle]; exact emp0
  have hl : l.length ≤ 3999 := by rw [hle]; decide
  have hsg : ∀ c r, l = c :: r → c ≠ 43 ∧ c ≠ 45 := by intro c r h; rw [hle] at h; cases h
  have HS := hm9 (signs_ok h.h hl hsg)
  have HL : Hid (l.length ≤ 3999) := hl
  have HIS : Hid (I < S ∧ 0 < S ∧ 2 * S ≤ B64) := ⟨h.h.j.jm.pm.fm.lt, Nat.lt_of_le_of_lt (Nat.zero_le _) h.h.j.jm.pm.fm.lt, by have := h.h.j.jm.pm.fm.le; unfold B64; omega⟩
  clear h hw hl hsg hle
  go_enter Tryz.func3, Tryz.ntmps3
  go_wp2_with fail
  refine (awake10 HW.out).mono ?_
  rintro e w1 ⟨rfl, hb1⟩
  have HB : Hid (Below w.heap.size w w1) := hb1
  clear hb1
  go_wp2_with fail
  refine (formats_yes HG.out.fm _).mono ?_
  rintro e w2 ⟨rfl, rfl⟩
  go_wp2_with fail
  rcases HS.out with ⟨hn, p0, p1, p2⟩ | ⟨hn, p0, p1, p2⟩ | ⟨hn, R, hR, p0, p1, p2⟩
  · have P1 := hm9 p1
    have P2 := hm9 p2
    have hcm : ∀ W, (Op.stringOp .add ⟨#[45]⟩ (bs l)).run Tryz.prog W = .ok (.string (bs (45 :: l))) W := fun W => cat_run [45] l W (by have := HL.out; show 1 + _ ≤ _; omega)
    have hcp : ∀ W, (Op.stringOp .add ⟨#[43]⟩ (bs l)).run Tryz.prog W = .ok (.string (bs (43 :: l))) W := fun W => cat_run [43] l W (by have := HL.out; show 1 + _ ≤ _; omega)
    have hbm : ¬ ((⟨#[45]⟩ : ByteArray).size + (bs l).size > 9223372036854775807) := by rw [bs_size]; have := HL.out; show ¬ (1 + _ > _); omega
    have hbp : ¬ ((⟨#[43]⟩ : ByteArray).size + (bs l).size > 9223372036854775807) := by rw [bs_size]; have := HL.out; show ¬ (1 + _ > _); omega
    have hN : l = [110, 97, 110] := hn
    have hq : ((bs l).toList == [110, 97, 110]) = true := by rw [bs_eqL]; exact decide_eq_true hn
    refine (HG.out.h.parse l (HW.out.below HB.out) p0).mono ?_
    rintro e w3 ⟨rfl, hb3⟩
    have HB3 : Hid (Below w.heap.size w w3) := Below.on HB.out hb3
    clear hb3 p0 p1 p2 hn hN
    go_wp2_with fail
    refine (HG.out.h.parse (45 :: l) (HW.out.below HB3.out) P1.out).mono ?_
    rintro e w4 ⟨rfl, hb4⟩
    have HB4 : Hid (Below w.heap.size w w4) := Below.on HB3.out hb4
    clear hb4
    go_wp2_with fail
    refine (HG.out.h.parse (43 :: l) (HW.out.below HB4.out) P2.out).mono ?_
    rintro e w5 ⟨rfl, hb5⟩
    have HB5 : Hid (Below w.heap.size w w5) := Below.on HB4.out hb5
    clear hb5
    go_wp2_with fail
    go_ret
    exact ⟨rfl, HB5.out⟩
  · have P1 := hm9 p1
    have P2 := hm9 p2
    have hcm : ∀ W, (Op.stringOp .add ⟨#[45]⟩ (bs l)).run Tryz.prog W = .ok (.string (bs (45 :: l))) W := fun W => cat_run [45] l W (by have := HL.out; show 1 + _ ≤ _; omega)
    have hcp : ∀ W, (Op.stringOp .add ⟨#[43]⟩ (bs l)).run Tryz.prog W = .ok (.string (bs (43 :: l))) W := fun W => cat_run [43] l W (by have := HL.out; show 1 + _ ≤ _; omega)
    have hbm : ¬ ((⟨#[45]⟩ : ByteArray).size + (bs l).size > 9223372036854775807) := by rw [bs_size]; have := HL.out; show ¬ (1 + _ > _); omega
    have hbp : ¬ ((⟨#[43]⟩ : ByteArray).size + (bs l).size > 9223372036854775807) := by rw [bs_size]; have := HL.out; show ¬ (1 + _ > _); omega
    have HN : Hid (l ≠ [110, 97, 110]) := hn
    have hq : ((bs l).toList == [110, 97, 110]) = false := by rw [bs_eqL]; exact decide_eq_false hn
    refine (HG.out.h.parse l (HW.out.below HB.out) p0).mono ?_
    rintro e w3 ⟨rfl, hb3⟩
    have HB3 : Hid (Below w.heap.size w w3) := Below.on HB.out hb3
    clear hb3 p0 p1 p2 hn
    go_wp2_with fail
    refine (HG.out.h.parse (45 :: l) (HW.out.below HB3.out) P1.out).mono ?_
    rintro e w4 ⟨rfl, hb4⟩
    have HB4 : Hid (Below w.heap.size w w4) := Below.on HB3.out hb4
    clear hb4
    go_wp2_with fail
    refine (HG.out.h.parse (43 :: l) (HW.out.below HB4.out) P2.out).mono ?_
    rintro e w5 ⟨rfl, hb5⟩
    have HB5 : Hid (Below w.heap.size w w5) := Below.on HB4.out hb5
    clear hb5
    go_wp2_with fail
    go_ret
    exact ⟨rfl, HB5.out⟩
  · have P1 := hm9 p1
    have P2 := hm9 p2
    have hcm : ∀ W, (Op.stringOp .add ⟨#[45]⟩ (bs l)).run Tryz.prog W = .ok (.string (bs (45 :: l))) W := fun W => cat_run [45] l W (by have := HL.out; show 1 + _ ≤ _; omega)
    have hcp : ∀ W, (Op.stringOp .add ⟨#[43]⟩ (bs l)).run Tryz.prog W = .ok (.string (bs (43 :: l))) W := fun W => cat_run [43] l W (by have := HL.out; show 1 + _ ≤ _; omega)
    have hbm : ¬ ((⟨#[45]⟩ : ByteArray).size + (bs l).size > 9223372036854775807) := by rw [bs_size]; have := HL.out; show ¬ (1 + _ > _); omega
    have hbp : ¬ ((⟨#[43]⟩ : ByteArray).size + (bs l).size > 9223372036854775807) := by rw [bs_size]; have := HL.out; show ¬ (1 + _ > _); omega
    have HN : Hid (l ≠ [110, 97, 110]) := hn
    have hq : ((bs l).toList == [110, 97, 110]) = false := by rw [bs_eqL]; exact decide_eq_false hn
    refine (HG.out.h.parse l (HW.out.below HB.out) p0).mono ?_
    rintro e w3 ⟨rfl, hb3⟩
    have HB3 : Hid (Below w.heap.size w w3) := Below.on HB.out hb3
    clear hb3 p0 p1 p2 hn
    go_wp2_with fail
    refine (HG.out.h.parse (45 :: l) (HW.out.below HB3.out) P1.out).mono ?_
    rintro e w4 ⟨rfl, hb4⟩
    have HB4 : Hid (Below w.heap.size w w4) := Below.on HB3.out hb4
    clear hb4
    go_wp2_with fail
    refine (HG.out.h.parse (43 :: l) (HW.out.below HB4.out) P2.out).mono ?_
    rintro e w5 ⟨rfl, hb5⟩
    have HB5 : Hid (Below w.heap.size w w5) := Below.on HB4.out hb5
    clear hb5
    have hne : ¬ (S : Int) + (R : Int) = (R : Int) := by have := HIS.out; omega
    have hne2 : ((S : Int) + (R : Int) != (R : Int)) = true := bne_iff_ne.2 hne
    have HNE := hm9 hne2
    have HR : Hid (R < S) := hR
    have hns : (S + R) % S = R := by rw [Nat.add_mod_left, Nat.mod_eq_of_lt hR]
    clear hR
    go_wp2_with fail
    refine (HG.out.sz (S + R) _ (by have := HIS.out; have := HR.out; omega)).mono ?_
    rintro e w6 ⟨rfl, rfl⟩
    rw [hns]
    go_wp2_with fail
    go_ret
    exact ⟨by first | rfl | exact congrArg (fun b => Ending.returned (.bool b)) HNE.out, HB5.out⟩
theorem hexfloatSigns_c {f p m le : Int} {S I H sd Q : Nat} {Be : Int} (h : Hg f p m le S I H sd Be Q) {l : List UInt8} {c : UInt8} {r : List UInt8} (hle : l = c :: r) (hl : l.length ≤ 3999) (h43 : c ≠ 43) (h45 : c ≠ 45) {w : World} (hw : Wd w) :
    Calls Tryz.prog 3 #[.int .i64 f, .string (bs l)] w fun en w' => en = .returned (.bool true) ∧ Below w.heap.size w w' := by
  have HG : Hid (Hg f p m le S I H sd Be Q) := h
  have HW : Hid (Wd w) := hw
  have hs : (bs l).size = r.length + 1 := by rw [hle]; exact bs_size (c :: r)
  have hem : (bs l).toList.isEmpty = false := emp1 (by rw [hle]; simp)
  have hsg : ∀ d s, l = d :: s → d ≠ 43 ∧ d ≠ 45 := by intro d s h; rw [hle] at h; cases h; exact ⟨h43, h45⟩
  have hl2 : ¬ (3999 : Int) < (r.length : Int) + 1 := by rw [hle, List.length_cons] at hl; omega
  have hg0 : (((bs l)[0]'(by rw [hs]; exact Nat.succ_pos _)).toNat : Int) = (c.toNat : Int) := by subst hle; rfl
  have hn43 : ¬ (c.toNat : Int) = 43 := fun h => h43 (UInt8.toNat_inj.1 (by rw [show (c.toNat) = 43 by omega]; rfl))
  have hn45 : ¬ (c.toNat : Int) = 45 := fun h => h45 (UInt8.toNat_inj.1 (by rw [show (c.toNat) = 45 by omega]; rfl))
  have hq43 : ((c.toNat : Int) == 43) = false := by have h := hn43; simpa using h
  have hq45 : ((c.toNat : Int) == 45) = false := by have h := hn45; simpa using h
  have HS := hm9 (signs_ok h.h hl hsg)
  have HL : Hid (l.length ≤ 3999) := hl
  have HIS : Hid (I < S ∧ 0 < S ∧ 2 * S ≤ B64) := ⟨h.h.j.jm.pm.fm.lt, Nat.lt_of_le_of_lt (Nat.zero_le _) h.h.j.jm.pm.fm.lt, by have := h.h.j.jm.pm.fm.le; unfold B64; omega⟩
  clear h hw hl hsg hle h43 h45
  go_enter Tryz.func3, Tryz.ntmps3
  go_wp2_with fail
  refine (awake10 HW.out).mono ?_
  rintro e w1 ⟨rfl, hb1⟩
  have HB : Hid (Below w.heap.size w w1) := hb1
  clear hb1
  go_wp2_with fail
  refine (formats_yes HG.out.fm _).mono ?_
  rintro e w2 ⟨rfl, rfl⟩
  go_wp2_with fail
  rcases HS.out with ⟨hn, p0, p1, p2⟩ | ⟨hn, p0, p1, p2⟩ | ⟨hn, R, hR, p0, p1, p2⟩
  · have P1 := hm9 p1
    have P2 := hm9 p2
    have hcm : ∀ W, (Op.stringOp .add ⟨#[45]⟩ (bs l)).run Tryz.prog W = .ok (.string (bs (45 :: l))) W := fun W => cat_run [45] l W (by have := HL.out; show 1 + _ ≤ _; omega)
    have hcp : ∀ W, (Op.stringOp .add ⟨#[43]⟩ (bs l)).run Tryz.prog W = .ok (.string (bs (43 :: l))) W := fun W => cat_run [43] l W (by have := HL.out; show 1 + _ ≤ _; omega)
    have hbm : ¬ ((⟨#[45]⟩ : ByteArray).size + (bs l).size > 9223372036854775807) := by rw [bs_size]; have := HL.out; show ¬ (1 + _ > _); omega
    have hbp : ¬ ((⟨#[43]⟩ : ByteArray).size + (bs l).size > 9223372036854775807) := by rw [bs_size]; have := HL.out; show ¬ (1 + _ > _); omega
    have hN : l = [110, 97, 110] := hn
    have hq : ((bs l).toList == [110, 97, 110]) = true := by rw [bs_eqL]; exact decide_eq_true hn
    refine (HG.out.h.parse l (HW.out.below HB.out) p0).mono ?_
    rintro e w3 ⟨rfl, hb3⟩
    have HB3 : Hid (Below w.heap.size w w3) := Below.on HB.out hb3
    clear hb3 p0 p1 p2 hn hN
    go_wp2_with fail
    refine (HG.out.h.parse (45 :: l) (HW.out.below HB3.out) P1.out).mono ?_
    rintro e w4 ⟨rfl, hb4⟩
    have HB4 : Hid (Below w.heap.size w w4) := Below.on HB3.out hb4
    clear hb4
    go_wp2_with fail
    refine (HG.out.h.parse (43 :: l) (HW.out.below HB4.out) P2.out).mono ?_
    rintro e w5 ⟨rfl, hb5⟩
    have HB5 : Hid (Below w.heap.size w w5) := Below.on HB4.out hb5
    clear hb5
    go_wp2_with fail
    go_ret
    exact ⟨rfl, HB5.out⟩
  · have P1 := hm9 p1
    have P2 := hm9 p2
    have hcm : ∀ W, (Op.stringOp .add ⟨#[45]⟩ (bs l)).run Tryz.prog W = .ok (.string (bs (45 :: l))) W := fun W => cat_run [45] l W (by have := HL.out; show 1 + _ ≤ _; omega)
    have hcp : ∀ W, (Op.stringOp .add ⟨#[43]⟩ (bs l)).run Tryz.prog W = .ok (.string (bs (43 :: l))) W := fun W => cat_run [43] l W (by have := HL.out; show 1 + _ ≤ _; omega)
    have hbm : ¬ ((⟨#[45]⟩ : ByteArray).size + (bs l).size > 9223372036854775807) := by rw [bs_size]; have := HL.out; show ¬ (1 + _ > _); omega
    have hbp : ¬ ((⟨#[43]⟩ : ByteArray).size + (bs l).size > 9223372036854775807) := by rw [bs_size]; have := HL.out; show ¬ (1 + _ > _); omega
    have HN : Hid (l ≠ [110, 97, 110]) := hn
    have hq : ((bs l).toList == [110, 97, 110]) = false := by rw [bs_eqL]; exact decide_eq_false hn
    refine (HG.out.h.parse l (HW.out.below HB.out) p0).mono ?_
    rintro e w3 ⟨rfl, hb3⟩
    have HB3 : Hid (Below w.heap.size w w3) := Below.on HB.out hb3
    clear hb3 p0 p1 p2 hn
    go_wp2_with fail
    refine (HG.out.h.parse (45 :: l) (HW.out.below HB3.out) P1.out).mono ?_
    rintro e w4 ⟨rfl, hb4⟩
    have HB4 : Hid (Below w.heap.size w w4) := Below.on HB3.out hb4
    clear hb4
    go_wp2_with fail
    refine (HG.out.h.parse (43 :: l) (HW.out.below HB4.out) P2.out).mono ?_
    rintro e w5 ⟨rfl, hb5⟩
    have HB5 : Hid (Below w.heap.size w w5) := Below.on HB4.out hb5
    clear hb5
    go_wp2_with fail
    go_ret
    exact ⟨rfl, HB5.out⟩
  · have P1 := hm9 p1
    have P2 := hm9 p2
    have hcm : ∀ W, (Op.stringOp .add ⟨#[45]⟩ (bs l)).run Tryz.prog W = .ok (.string (bs (45 :: l))) W := fun W => cat_run [45] l W (by have := HL.out; show 1 + _ ≤ _; omega)
    have hcp : ∀ W, (Op.stringOp .add ⟨#[43]⟩ (bs l)).run Tryz.prog W = .ok (.string (bs (43 :: l))) W := fun W => cat_run [43] l W (by have := HL.out; show 1 + _ ≤ _; omega)
    have hbm : ¬ ((⟨#[45]⟩ : ByteArray).size + (bs l).size > 9223372036854775807) := by rw [bs_size]; have := HL.out; show ¬ (1 + _ > _); omega
    have hbp : ¬ ((⟨#[43]⟩ : ByteArray).size + (bs l).size > 9223372036854775807) := by rw [bs_size]; have := HL.out; show ¬ (1 + _ > _); omega
    have HN : Hid (l ≠ [110, 97, 110]) := hn
    have hq : ((bs l).toList == [110, 97, 110]) = false := by rw [bs_eqL]; exact decide_eq_false hn
    refine (HG.out.h.parse l (HW.out.below HB.out) p0).mono ?_
    rintro e w3 ⟨rfl, hb3⟩
    have HB3 : Hid (Below w.heap.size w w3) := Below.on HB.out hb3
    clear hb3 p0 p1 p2 hn
    go_wp2_with fail
    refine (HG.out.h.parse (45 :: l) (HW.out.below HB3.out) P1.out).mono ?_
    rintro e w4 ⟨rfl, hb4⟩
    have HB4 : Hid (Below w.heap.size w w4) := Below.on HB3.out hb4
    clear hb4
    go_wp2_with fail
    refine (HG.out.h.parse (43 :: l) (HW.out.below HB4.out) P2.out).mono ?_
    rintro e w5 ⟨rfl, hb5⟩
    have HB5 : Hid (Below w.heap.size w w5) := Below.on HB4.out hb5
    clear hb5
    have hne : ¬ (S : Int) + (R : Int) = (R : Int) := by have := HIS.out; omega
    have hne2 : ((S : Int) + (R : Int) != (R : Int)) = true := bne_iff_ne.2 hne
    have HNE := hm9 hne2
    have HR : Hid (R < S) := hR
    have hns : (S + R) % S = R := by rw [Nat.add_mod_left, Nat.mod_eq_of_lt hR]
    clear hR
    go_wp2_with fail
    refine (HG.out.sz (S + R) _ (by have := HIS.out; have := HR.out; omega)).mono ?_
    rintro e w6 ⟨rfl, rfl⟩
    rw [hns]
    go_wp2_with fail
    go_ret
    exact ⟨by first | rfl | exact congrArg (fun b => Ending.returned (.bool b)) HNE.out, HB5.out⟩
theorem hexfloatSigns_g {f p m le : Int} {S I H sd Q : Nat} {Be : Int} (h : Hg f p m le S I H sd Be Q) (l : List UInt8) {w : World} (hw : Wd w) : Calls Tryz.prog 3 #[.int .i64 f, .string (bs l)] w fun en w' => en = .returned (.bool true) ∧ Below w.heap.size w w' := by
  by_cases hl : 3999 < l.length
  · exact hexfloatSigns_l h hl hw
  cases l with
  | nil => exact hexfloatSigns_e h rfl hw
  | cons c r =>
    by_cases h1 : c = 43
    · subst h1; exact hexfloatSigns_43 h hl hw
    by_cases h2 : c = 45
    · subst h2; exact hexfloatSigns_45 h hl hw
    exact hexfloatSigns_c h rfl (Nat.le_of_not_lt hl) h1 h2 hw
theorem hexfloatSigns_w (f : Int) (s : ByteArray) {w : World} (hw : Wd w) : Calls Tryz.prog 3 #[.int .i64 f, .string s] w fun en w' => en = .returned (.bool true) ∧ Below w.heap.size w w' := by
  obtain ⟨l, rfl⟩ : ∃ l, s = bs l := ⟨s.data.toList, rfl⟩
  by_cases h1 : f = 32
  · subst h1; exact hexfloatSigns_g hg_32 l hw
  by_cases h2 : f = 64
  · subst h2; exact hexfloatSigns_g hg_64 l hw
  exact hexfloatSigns_x h1 h2 l hw
theorem bs_drop (l : List UInt8) (n : Nat) : (bs l).extract n (bs l).size = bs (l.drop n) := by
  apply ByteArray.ext
  apply Array.ext'
  rw [Lib.extract_data, bs_data, bs_data, bs_size]
  exact List.take_of_length_le (by rw [List.length_drop]; omega)
theorem byte1 {w : World} {g : Nat} {c : UInt8} (h : w.cell? ⟨g, 0, none⟩ = some (.int .u8 (c.toNat : Int))) :
    (convert 31 9 (.slice (some ⟨g, 0, none⟩) 1 1)).run Tryz.prog w = .ok (.string (bs [c])) w :=
  run_convert_bytes_back (P := Tryz.prog) w 31 9 5 ⟨g, 0, none⟩ 1 [c] Tryz.underlying31 Tryz.underlying5 Tryz.underlying9 (fun j hj => by
    obtain rfl : j = 0 := by have : j < 1 := hj; omega
    exact h)
def knL : List UInt8 := [48, 49, 50, 51, 52, 53, 54, 55, 56, 57, 97, 98, 99, 100, 101, 102, 65, 66, 67, 68, 69, 70, 120, 88, 112, 80, 46, 43, 45, 105, 110]
theorem hexs_kn : ∀ c ∈ hexs, c ∈ knL := by decide
theorem decs_kn : ∀ c ∈ decs, c ∈ knL := by decide
theorem take_in {l p : List UInt8} : ∀ c ∈ l.takeWhile (p.contains ·), c ∈ p := by
  intro c hc
  exact List.contains_iff_mem.1 (List.all_eq_true.1 (List.all_takeWhile (p := (p.contains ·)) (l := l)) c hc)
theorem cut_kn {l p : List UInt8} (hp : ∀ c ∈ p, c ∈ knL) (hr : ∀ c ∈ Lib.trimLeftS l p, c ∈ knL) : ∀ c ∈ l, c ∈ knL := by
  intro c hc
  rw [← List.takeWhile_append_dropWhile (p := (p.contains ·)) (l := l), List.mem_append] at hc
  rcases hc with h | h
  · exact hp c (take_in c h)
  · exact hr c h
theorem pre_split {l p : List UInt8} (h : Lib.hasPrefix l p = true) : l = p ++ l.drop p.length := by
  obtain ⟨t, ht⟩ := List.isPrefixOf_iff_prefix.1 h
  rw [← ht, List.drop_left]
theorem takes_kn : ∀ {ps : List (List UInt8)} {l r : List UInt8}, takesF ps l = some r → (∀ p ∈ ps, ∀ c ∈ p, c ∈ knL) → (∀ c ∈ r, c ∈ knL) → ∀ c ∈ l, c ∈ knL
  | [], _, _, h, _, _ => by cases h
  | p :: ps, l, r, h, hp, hr => by
    unfold takesF at h
    split at h
    · rename_i h1
      cases h
      intro c hc
      rw [pre_split h1, List.mem_append] at hc
      rcases hc with hc | hc
      · exact hp p (List.mem_cons_self ..) c hc
      · exact hr c hc
    · exact takes_kn h (fun q hq => hp q (List.mem_cons_of_mem _ hq)) hr
theorem digs_kn {l : List UInt8} (h : ∀ c ∈ (digsF hexs l).2.2, c ∈ knL) : ∀ c ∈ l, c ∈ knL := by
  unfold digsF at h
  split at h
  · exact cut_kn hexs_kn h
  · rename_i r2 h2
    exact cut_kn hexs_kn (takes_kn h2 (by decide) (cut_kn hexs_kn h))
theorem minus_kn {l : List UInt8} (h : ∀ c ∈ (minusF l).2, c ∈ knL) : ∀ c ∈ l, c ∈ knL := by
  unfold minusF at h
  split at h
  · rename_i h1
    intro c hc
    rw [pre_split h1, List.mem_append] at hc
    rcases hc with hc | hc
    · exact (by decide : ∀ c ∈ ([43] : List UInt8), c ∈ knL) c hc
    · exact h c hc
  · split at h
    · rename_i h1
      intro c hc
      rw [pre_split h1, List.mem_append] at hc
      rcases hc with hc | hc
      · exact (by decide : ∀ c ∈ ([45] : List UInt8), c ∈ knL) c hc
      · exact h c hc
    · exact h
theorem exp_kn {l : List UInt8} (h : (expF l).2.2 = []) : ∀ c ∈ l, c ∈ knL := by
  have h1 : Lib.trimLeftS (minusF l).2 decs = [] := h
  exact minus_kn (cut_kn decs_kn (by rw [h1]; intro c hc; cases hc))
theorem numF_kn {l : List UInt8} {t : List UInt8 × Nat × Int} (h : numF l = some t) : ∀ c ∈ l, c ∈ knL := by
  unfold numF at h
  split at h
  · cases h
  · rename_i r1 h1
    split at h
    · cases h
    · split at h
      · cases h
      · rename_i r2 h2
        split at h
        · cases h
        · split at h
          · rename_i h4
            exact takes_kn h1 (by decide) (digs_kn (takes_kn h2 (by decide) (exp_kn h4)))
          · cases h
theorem strange_ok {le : Int} {sd : Nat} {Be : Int} {S I Q : Nat} {l : List UInt8} {c : UInt8} (hl : l.length ≤ 4000) (hc : c ∈ l) (hk : c ∉ knL) : parseF le sd Be S I Q l = (0, 8) := by
  refine parseF_no (by omega) ?_ ?_ ?_
  · rintro rfl
    exact hk ((by decide : ∀ c ∈ ([110, 97, 110] : List UInt8), c ∈ knL) c hc)
  · intro h
    exact hk (minus_kn (by rw [h]; decide) c hc)
  · cases hn : numF (minusF l).2 with
    | none => rfl
    | some t => exact absurd (minus_kn (numF_kn hn) c hc) hk
theorem hexfloatStrange_x {f : Int} (h1 : f ≠ 32) (h2 : f ≠ 64) (l : List UInt8) (n : Int) (c : UInt8) {w : World} (hw : Wd w) :
    Calls Tryz.prog 4 #[.int .i64 f, .string (bs l), .int .i64 n, .int .u8 (c.toNat : Int)] w fun en w' => en = .returned (.bool true) ∧ Below w.heap.size w w' := by
  have HF : Hid (f ≠ 32 ∧ f ≠ 64) := ⟨h1, h2⟩
  have HW : Hid (Wd w) := hw
  clear h1 h2 hw
  go_enter Tryz.func4, Tryz.ntmps4
  go_wp2_with fail
  refine (awake10 HW.out).mono ?_
  rintro e w1 ⟨rfl, hb1⟩
  have HB : Hid (Below w.heap.size w w1) := hb1
  clear hb1
  go_wp2_with fail
  refine (formats_no HF.out.1 HF.out.2 _).mono ?_
  rintro e w2 ⟨rfl, rfl⟩
  go_wp2_with fail
  go_ret
  exact ⟨rfl, HB.out⟩
theorem hexfloatStrange_l {f : Int} (hf : f = 32 ∨ f = 64) {l : List UInt8} {n : Int} (h1 : 4000 ≤ l.length) (c : UInt8) {w : World} (hw : Wd w) :
    Calls Tryz.prog 4 #[.int .i64 f, .string (bs l), .int .i64 n, .int .u8 (c.toNat : Int)] w fun en w' => en = .returned (.bool true) ∧ Below w.heap.size w w' := by
  have HF : Hid (f = 32 ∨ f = 64) := hf
  have HW : Hid (Wd w) := hw
  have hs : (bs l).size = l.length := bs_size l
  have hl2 : (4000 : Int) ≤ (l.length : Int) := by omega
  clear hw hf h1
  go_enter Tryz.func4, Tryz.ntmps4
  go_wp2_with fail
  refine (awake10 HW.out).mono ?_
  rintro e w1 ⟨rfl, hb1⟩
  have HB : Hid (Below w.heap.size w w1) := hb1
  clear hb1
  go_wp2_with fail
  refine (formats_yes HF.out _).mono ?_
  rintro e w2 ⟨rfl, rfl⟩
  go_wp2_with fail
  go_ret
  exact ⟨rfl, HB.out⟩
theorem hexfloatStrange_n {f : Int} (hf : f = 32 ∨ f = 64) {l : List UInt8} {n : Int} (h1 : l.length < 4000) (h2 : n < 0) (c : UInt8) {w : World} (hw : Wd w) :
    Calls Tryz.prog 4 #[.int .i64 f, .string (bs l), .int .i64 n, .int .u8 (c.toNat : Int)] w fun en w' => en = .returned (.bool true) ∧ Below w.heap.size w w' := by
  have HF : Hid (f = 32 ∨ f = 64) := hf
  have HW : Hid (Wd w) := hw
  have hs : (bs l).size = l.length := bs_size l
  have hl2 : ¬ (4000 : Int) ≤ (l.length : Int) := by omega
  clear hw hf h1
  go_enter Tryz.func4, Tryz.ntmps4
  go_wp2_with fail
  refine (awake10 HW.out).mono ?_
  rintro e w1 ⟨rfl, hb1⟩
  have HB : Hid (Below w.heap.size w w1) := hb1
  clear hb1
  go_wp2_with fail
  refine (formats_yes HF.out _).mono ?_
  rintro e w2 ⟨rfl, rfl⟩
  go_wp2_with fail
  go_ret
  exact ⟨rfl, HB.out⟩
theorem hexfloatStrange_g {f : Int} (hf : f = 32 ∨ f = 64) {l : List UInt8} {n : Int} (h1 : l.length < 4000) (h2 : ¬ n < 0) (h3 : (l.length : Int) < n) (c : UInt8) {w : World} (hw : Wd w) :
    Calls Tryz.prog 4 #[.int .i64 f, .string (bs l), .int .i64 n, .int .u8 (c.toNat : Int)] w fun en w' => en = .returned (.bool true) ∧ Below w.heap.size w w' := by
  have HF : Hid (f = 32 ∨ f = 64) := hf
  have HW : Hid (Wd w) := hw
  have hs : (bs l).size = l.length := bs_size l
  have hl2 : ¬ (4000 : Int) ≤ (l.length : Int) := by omega
  clear hw hf h1
  go_enter Tryz.func4, Tryz.ntmps4
  go_wp2_with fail
  refine (awake10 HW.out).mono ?_
  rintro e w1 ⟨rfl, hb1⟩
  have HB : Hid (Below w.heap.size w w1) := hb1
  clear hb1
  go_wp2_with fail
  refine (formats_yes HF.out _).mono ?_
  rintro e w2 ⟨rfl, rfl⟩
  go_wp2_with fail
  go_ret
  exact ⟨rfl, HB.out⟩
theorem hexfloatStrange_i {f p m le : Int} {S I H sd Q : Nat} {Be : Int} (h : Hg f p m le S I H sd Be Q) {l : List UInt8} {n : Nat} (hl : l.length < 4000) (hn : n ≤ l.length) (c : UInt8) {w : World} (hw : Wd w) :
    Calls Tryz.prog 4 #[.int .i64 f, .string (bs l), .int .i64 (n : Int), .int .u8 (c.toNat : Int)] w fun en w' => en = .returned (.bool true) ∧ Below w.heap.size w w' := by
  have HF : Hid (Hg f p m le S I H sd Be Q) := h
  have HW : Hid (Wd w) := hw
  have HL : Hid (l.length < 4000 ∧ n ≤ l.length) := ⟨hl, hn⟩
  have hs : (bs l).size = l.length := bs_size l
  have hl2 : ¬ (4000 : Int) ≤ (l.length : Int) := by omega
  have hn0 : ¬ (n : Int) < 0 := by omega
  have hn1 : ¬ (l.length : Int) < (n : Int) := by omega
  clear hw hl hn h
  go_enter Tryz.func4, Tryz.ntmps4
  go_wp2_with fail
  refine (awake10 HW.out).mono ?_
  rintro e w1 ⟨rfl, hb1⟩
  have HB : Hid (Below w.heap.size w w1) := hb1
  clear hb1
  go_wp2_with fail
  refine (formats_yes HF.out.fm _).mono ?_
  rintro e w2 ⟨rfl, rfl⟩
  go_wp2_with fail
  obtain ⟨K, hK⟩ : ∃ K, K = bs knL := ⟨_, rfl⟩
  have hKs : K.size = 31 := by rw [hK]; rfl
  have HK : Hid (∀ (i : Nat) (h : i < K.size), (K[i]'h).toNat = (knL.getD i 0).toNat) := by subst hK; intro i h; show knL[i].toNat = _; rw [List.getD_eq_getElem?_getD, List.getElem?_eq_getElem h]; rfl
  rw [show (⟨#[48, 49, 50, 51, 52, 53, 54, 55, 56, 57, 97, 98, 99, 100, 101, 102, 65, 66, 67, 68, 69, 70, 120, 88, 112, 80, 46, 43, 45, 105, 110]⟩ : ByteArray) = K from hK ▸ rfl]
  clear hK
  go_loopg [10] 31 (fun gk iv wr => ∃ i : Nat, i + gk = 31 ∧ iv = .int .i64 i ∧ (∀ j, j < i → knL.getD j 0 ≠ c) ∧ wr = w2)
  case atStart => exact ⟨0, rfl, rfl, fun j hj => absurd hj (Nat.not_lt_zero _), rfl⟩
  case round =>
    obtain ⟨i, hig, rfl, hkn, rfl⟩ := hrel
    cases gk with
    | zero =>
      obtain rfl : i = 31 := by omega
      have HKN : Hid (c ∉ knL) := by
        intro hc
        obtain ⟨j, hj, he⟩ := List.getElem_of_mem hc
        exact hkn j hj (by rw [List.getD_eq_getElem?_getD, List.getElem?_eq_getElem hj]; exact he)
      clear hkn hig
      go_wp2_with fail
      have hxt : (bs l).extract 0 n = bs (l.take n) := bs_take l n
      have hxd : (bs l).extract n (bs l).size = bs (l.drop n) := bs_drop l n
      have hxe : (bs l).extract n l.length = bs (l.drop n) := by rw [← hs]; exact hxd
      have hnle : n ≤ l.length := HL.out.2
      have hbw : Below w.heap.size w wr := HB.out
      obtain ⟨V, hV⟩ : ∃ W1, W1 = wr.drew := ⟨_, rfl⟩
      have hbd : Below wr.heap.size wr V := by rw [hV]; exact bDrew1 (Below.refl _ _)
      replace hbw := Below.on hbw hbd
      clear hbd
      have HJ : Hid ((fun W' : World => True) V) := trivial
      refine wp_region_J (fun W' => True) (by kernel_rfl) ?_
      rw [← hV]
      clear hV
      refine wpJ_tk 0 (v := ?v1x0) rfl ?hy1x0 HJ.out ?_
      case hy1x0 => (intro W' hJ; have j0 := hJ; go_simp; first | done | with_reducible rfl)
      refine wpJ_tk 1 (v := ?v2x1) rfl ?hy2x1 HJ.out ?_
      case hy2x1 => (intro W' hJ; have j0 := hJ; go_simp; first | done | with_reducible rfl)
      refine wpJ_tk 2 (v := ?v3x2) rfl ?hy3x2 HJ.out ?_
      case hy3x2 => (intro W' hJ; have j0 := hJ; go_simp; first | done | with_reducible rfl)
      refine wpJ_tk 3 (v := ?v4x3) rfl ?hy4x3 HJ.out ?_
      case hy4x3 => (intro W' hJ; have j0 := hJ; go_simp; first | done | with_reducible rfl)
      refine wpJ_tk 4 (v := ?v5x4) rfl ?hy5x4 HJ.out ?_
      case hy5x4 => (intro W' hJ; have j0 := hJ; go_simp; first | done | with_reducible rfl)
      refine wpJ_tk 8 (v := ?v6x8) rfl ?hy6x8 HJ.out ?_
      case hy6x8 => (intro W' hJ; have j0 := hJ; go_simp; first | done | with_reducible rfl)
      refine wpJ_tk 9 (v := ?v7x9) rfl ?hy7x9 HJ.out ?_
      case hy7x9 => (intro W' hJ; have j0 := hJ; go_simp; first | done | with_reducible rfl)
      refine wpJ_tk 10 (v := ?v8x10) rfl ?hy8x10 HJ.out ?_
      case hy8x10 => (intro W' hJ; have j0 := hJ; go_simp; first | done | with_reducible rfl)
      refine wpJ_on 5 rfl fun KJ hK => ?_
      go_simp
      obtain ⟨VA, hVA⟩ : ∃ VA, VA = V.alloc (.cells #[.int .u8 (c.toNat : Int)] 5) := ⟨_, rfl⟩
      have hcell : VA.cell? ⟨V.heap.size, 0, none⟩ = some (.int .u8 (c.toNat : Int)) := by rw [hVA]; exact World.cell?_alloc_new ..
      have hcv := byte1 hcell
      have hba : Below V.heap.size V VA := by rw [hVA]; exact below1 _ _
      have hbv := Below.on hbw hba
      rw [← hVA]
      refine hK _ _ trivial ?_
      clear hK hVA hcell hba hbw
      have hbw := hbv
      clear hbv HJ
      have HJ : Hid ((fun W' : World => True) VA) := trivial
      refine wpJ_on 6 rfl fun KJ hK => ?_
      go_simp
      refine hK _ _ trivial ?_
      clear hK hcv
      have hl1 : (l.take n).length = n := by rw [List.length_take]; omega
      have hl2d : (l.drop n).length = l.length - n := List.length_drop
      have hca : ∀ W, (Op.stringOp .add (bs (l.take n)) (bs [c])).run Tryz.prog W = .ok (.string (bs (l.take n ++ [c]))) W := fun W => cat_run (l.take n) [c] W (by have := HL.out; show _ + 1 ≤ _; omega)
      have hba : ¬ ((bs (l.take n)).size + (bs [c]).size > 9223372036854775807) := by rw [bs_size, bs_size]; have := HL.out; show ¬ (_ + 1 > _); omega
      have hcb : ∀ W, (Op.stringOp .add (bs (l.take n ++ [c])) (bs (l.drop n))).run Tryz.prog W = .ok (.string (bs (l.take n ++ [c] ++ l.drop n))) W := fun W => cat_run (l.take n ++ [c]) (l.drop n) W (by have := HL.out; rw [List.length_append]; show _ + 1 + _ ≤ _; omega)
      have hbb : ¬ ((bs (l.take n ++ [c])).size + (bs (l.drop n)).size > 9223372036854775807) := by rw [bs_size, bs_size, List.length_append]; have := HL.out; show ¬ (_ + 1 + _ > _); omega
      refine wpJ_tk 7 (v := ?v9x7) rfl ?hy9x7 HJ.out ?_
      case hy9x7 => (intro W' hJ; have j0 := hJ; go_simp; first | done | with_reducible rfl)
      refine wpJ_tk 11 (v := ?v10x11) rfl ?hy10x11 HJ.out ?_
      case hy10x11 => (intro W' hJ; have j0 := hJ; go_simp; first | done | with_reducible rfl)
      refine wpJ_on 12 rfl fun KJ hK => ?_
      go_simp
      refine (HF.out.h.parse _ (HW.out.below hbw) (strange_ok (c := c) (by have := HL.out; simp only [List.length_append, List.length_cons]; omega) (by simp) HKN.out)).mono ?_
      rintro e v9 ⟨rfl, hb9⟩
      replace hbw := Below.on hbw hb9
      clear hb9
      refine hK _ _ trivial ?_
      clear hK HJ
      have HJ : Hid ((fun W' : World => True) v9) := trivial
      refine wpJ_tk 13 (v := ?v11x13) rfl ?hy11x13 HJ.out ?_
      case hy11x13 => (intro W' hJ; have j0 := hJ; go_simp; first | done | with_reducible rfl)
      refine wpJ_tk 14 (v := ?v12x14) rfl ?hy12x14 HJ.out ?_
      case hy12x14 => (intro W' hJ; have j0 := hJ; go_simp; first | done | with_reducible rfl)
      refine wpJ_tk 15 (v := ?v13x15) rfl ?hy13x15 HJ.out ?_
      case hy13x15 => (intro W' hJ; have j0 := hJ; go_simp; first | done | with_reducible rfl)
      refine wpJ_tk 16 (v := ?v14x16) rfl ?hy14x16 HJ.out ?_
      case hy14x16 => (intro W' hJ; have j0 := hJ; go_simp; first | done | with_reducible rfl)
      refine wpJ_tk 17 (v := ?v15x17) rfl ?hy15x17 HJ.out ?_
      case hy15x17 => (intro W' hJ; have j0 := hJ; go_simp; first | done | with_reducible rfl)
      refine wpJ_done (by kernel_rfl) ?_ _
      clear HJ
      go_wp2_with fail
      go_ret
      exact ⟨rfl, hbw⟩
    | succ g =>
      have hi1 : (i : Int) < 31 := by omega
      have hi0 : (0 : Int) ≤ (i : Int) := by omega
      have hiK : i < K.size := by omega
      have hgi : (((K[i]'hiK).toNat : Nat) : Int) = ((knL.getD i 0).toNat : Int) := by rw [HK.out i hiK]
      have wi : wrap64 ((i : Int) + 1) = ((i + 1 : Nat) : Int) := by simp only [wrap64]; omega
      by_cases hc : (knL.getD i 0).toNat = c.toNat
      · have hcq : ((knL.getD i 0).toNat : Int) = (c.toNat : Int) := by omega
        generalize (knL.getD i 0).toNat = d at *
        clear hkn hc
        go_wp2_with fail
        go_ret
        exact ⟨rfl, HB.out⟩
      · have HN : Hid (∀ j, j < i + 1 → knL.getD j 0 ≠ c) := by
          intro j hj
          rcases Nat.lt_or_ge j i with h | h
          · exact hkn j h
          · obtain rfl : j = i := by omega
            exact fun h2 => hc (by rw [h2])
        have hcq : ¬ ((knL.getD i 0).toNat : Int) = (c.toNat : Int) := by omega
        generalize (knL.getD i 0).toNat = d at *
        have hcb : ((d : Int) == (c.toNat : Int)) = false := by simpa using hcq
        clear hkn hc
        go_wp2_with fail
        go_roundg g
        case measure => omega
        case rel => exact ⟨i + 1, by omega, by go_num, HN.out, rfl⟩
theorem hexfloatStrange_w (f : Int) (s : ByteArray) (n : Int) {c : Nat} (hc : c ≤ 255) {w : World} (hw : Wd w) : Calls Tryz.prog 4 #[.int .i64 f, .string s, .int .i64 n, .int .u8 (c : Int)] w fun en w' => en = .returned (.bool true) ∧ Below w.heap.size w w' := by
  obtain ⟨l, rfl⟩ : ∃ l, s = bs l := ⟨s.data.toList, rfl⟩
  obtain ⟨d, rfl⟩ : ∃ d : UInt8, c = d.toNat := ⟨UInt8.ofNat c, by rw [UInt8.toNat_ofNat']; exact (Nat.mod_eq_of_lt (by omega)).symm⟩
  by_cases hf : f = 32 ∨ f = 64
  · by_cases h1 : 4000 ≤ l.length
    · exact hexfloatStrange_l hf h1 d hw
    by_cases h2 : n < 0
    · exact hexfloatStrange_n hf (by omega) h2 d hw
    by_cases h3 : (l.length : Int) < n
    · exact hexfloatStrange_g hf (by omega) h2 h3 d hw
    obtain ⟨m, rfl⟩ := Int.eq_ofNat_of_zero_le (Int.not_lt.1 h2)
    rcases hf with rfl | rfl
    · exact hexfloatStrange_i hg_32 (by omega) (by omega) d hw
    · exact hexfloatStrange_i hg_64 (by omega) (by omega) d hw
  · exact hexfloatStrange_x (fun h => hf (.inl h)) (fun h => hf (.inr h)) l n d hw
end Go.Proofs.YtdmdbdpgdcdifaaGreatDoor
