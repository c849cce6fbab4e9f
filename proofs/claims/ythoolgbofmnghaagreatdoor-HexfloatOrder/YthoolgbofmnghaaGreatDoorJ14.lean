import Derived.WalkSmall
import Derived.Laws.Concat
import Derived.Test.YthoolgbofmnghaaGreatDoorJ13
namespace Go.Proofs.YthoolgbofmnghaaGreatDoor
open Go.RowKit Go.Shelf
set_option maxRecDepth 20000
set_option maxHeartbeats 0
theorem formats_yes {f : Int} (hf : f = 32 ∨ f = 64) (w : World) : Calls Tryz.prog 10 #[.int .i64 f] w fun en w' => en = .returned (.bool true) ∧ w' = w := by
  rcases hf with rfl | rfl
  · go_enter Tryz.func10, Tryz.ntmps10
    go_wp2_with fail
    go_ret
    exact ⟨rfl, rfl⟩
  · go_enter Tryz.func10, Tryz.ntmps10
    go_wp2_with fail
    go_ret
    exact ⟨rfl, rfl⟩
theorem formats_no {f : Int} (h1 : f ≠ 32) (h2 : f ≠ 64) (w : World) : Calls Tryz.prog 10 #[.int .i64 f] w fun en w' => en = .returned (.bool false) ∧ w' = w := by
  have hd : (f == 32 || f == 64) = false := by simp [h1, h2]
  go_enter Tryz.func10, Tryz.ntmps10
  go_wp2_with fail
  go_ret
  exact ⟨rfl, rfl⟩
theorem tw_app {p A r : List UInt8} (hA : ∀ c ∈ A, c ∈ p) (hr : ∀ c t, r = c :: t → c ∉ p) : (A ++ r).takeWhile (p.contains ·) = A ∧ Lib.trimLeftS (A ++ r) p = r := by
  have hA' : ∀ c ∈ A, p.contains c = true := fun c hc => List.contains_iff_mem.2 (hA c hc)
  have h2 : r.takeWhile (p.contains ·) = [] ∧ r.dropWhile (p.contains ·) = r := by
    cases r with
    | nil => exact ⟨rfl, rfl⟩
    | cons c t =>
      have h3 : p.contains c = false := by
        cases h : p.contains c with
        | false => rfl
        | true => exact absurd (List.contains_iff_mem.1 h) (hr c t rfl)
      rw [List.takeWhile_cons, List.dropWhile_cons, h3]
      exact ⟨rfl, rfl⟩
  unfold Lib.trimLeftS
  rw [List.takeWhile_append_of_pos hA', List.dropWhile_append_of_pos hA', h2.1, h2.2, List.append_nil]
  exact ⟨rfl, rfl⟩
theorem pre_same (p r : List UInt8) : Lib.hasPrefix (p ++ r) p = true := List.isPrefixOf_iff_prefix.2 (List.prefix_append _ _)
theorem takes_same (p : List UInt8) (ps : List (List UInt8)) (r : List UInt8) : takesF (p :: ps) (p ++ r) = some r := by
  unfold takesF; rw [if_pos (pre_same p r), List.drop_left]
theorem takes_snd {p q r : List UInt8} (ps : List (List UInt8)) (h : Lib.hasPrefix (q ++ r) p = false) : takesF (p :: q :: ps) (q ++ r) = some r := by
  unfold takesF; rw [if_neg (by rw [h]; decide)]; exact takes_same q ps r
theorem pre_ne {c d : UInt8} {l p : List UInt8} (h : c ≠ d) : Lib.hasPrefix (c :: l) (d :: p) = false := by
  unfold Lib.hasPrefix
  rw [List.isPrefixOf_cons_cons, show (d == c) = false by simpa using (Ne.symm h)]; rfl
theorem takes_not {c d : UInt8} {r : List UInt8} (h : c ≠ d) : takesF [[d]] (c :: r) = none := by
  unfold takesF; rw [if_neg (by rw [pre_ne h]; decide)]; rfl
theorem hexs_mem {c : UInt8} (h : hexd c = true) : c ∈ hexs := by
  have h1 : ∀ n, n < 256 → hexdN n = true → UInt8.ofNat n ∈ hexs := by decide +kernel
  have h2 := h1 c.toNat c.toNat_lt h
  rwa [UInt8.ofNat_toNat] at h2
theorem digs_plain {A r : List UInt8} {c : UInt8} (hA : ∀ c ∈ A, hexd c = true) (hc : c ∉ hexs) (h46 : c ≠ 46) : digsF hexs (A ++ c :: r) = (A, 0, c :: r) := by
  obtain ⟨h1, h2⟩ := tw_app (p := hexs) (A := A) (r := c :: r) (fun c hc => hexs_mem (hA c hc)) (by rintro d t ⟨rfl⟩; exact hc)
  unfold digsF
  rw [h2, takes_not h46, h1]
def ExT (E : List UInt8) (n : Int) : Prop := (expF E).1 ≠ [] ∧ (expF E).2.1 = n ∧ (expF E).2.2 = []
theorem numF_plain {x p : UInt8} {A E : List UInt8} {n : Int} (hx : x = 120 ∨ x = 88) (hp : p = 112 ∨ p = 80) (hA : ∀ c ∈ A, hexd c = true) (hA0 : A ≠ []) (hE : ExT E n) :
    numF (48 :: x :: (A ++ p :: E)) = some (Lib.trimLeftS A [48], 0, n) := by
  have h1 : takesF [[48, 120], [48, 88]] (48 :: x :: (A ++ p :: E)) = some (A ++ p :: E) := by
    rcases hx with rfl | rfl
    · exact takes_same [48, 120] [[48, 88]] _
    · refine takes_snd (p := [48, 120]) (q := [48, 88]) [] ?_
      unfold Lib.hasPrefix; rfl
  have h2 : digsF hexs (A ++ p :: E) = (A, 0, p :: E) := digs_plain hA (by rcases hp with rfl | rfl <;> decide) (by rcases hp with rfl | rfl <;> decide)
  have h3 : takesF [[112], [80]] (p :: E) = some E := by
    rcases hp with rfl | rfl
    · exact takes_same [112] [[80]] _
    · exact takes_snd (p := [112]) (q := [80]) [] (pre_ne (by decide))
  rw [numF_s h1 (by rw [h2]; exact hA0) (by rw [h2]; exact h3), if_neg hE.1, if_pos hE.2.2, h2, hE.2.1]
theorem farF_snoc (n : Nat) (l : List UInt8) (c : UInt8) : farF n (l ++ [c]) = min (10 * farF n l + (c.toNat - 48)) 100000 := by
  induction l generalizing n with
  | nil => rfl
  | cons d l ih => exact ih _
theorem decc {d : Nat} (h : d < 10) : (UInt8.ofNat (48 + d)).toNat = 48 + d ∧ UInt8.ofNat (48 + d) ∈ decs := by
  obtain rfl | rfl | rfl | rfl | rfl | rfl | rfl | rfl | rfl | rfl : d = 0 ∨ d = 1 ∨ d = 2 ∨ d = 3 ∨ d = 4 ∨ d = 5 ∨ d = 6 ∨ d = 7 ∨ d = 8 ∨ d = 9 := by omega
  all_goals exact ⟨rfl, by decide⟩
theorem dec_read (u : Nat) : farF 0 (Lib.decDigits u) = min u 100000 ∧ (∀ c ∈ Lib.decDigits u, c ∈ decs) ∧ Lib.decDigits u ≠ [] := by
  induction u using Nat.strongRecOn with
  | ind u ih =>
    rw [Lib.decDigits]
    split
    · rename_i h
      refine ⟨?_, ?_, by simp⟩
      · show min (10 * 0 + ((UInt8.ofNat (48 + u)).toNat - 48)) 100000 = _
        rw [(decc h).1]; congr 1; omega
      · intro c hc; rw [List.mem_singleton] at hc; rw [hc]; exact (decc h).2
    · rename_i h
      obtain ⟨i1, i2, i3⟩ := ih (u / 10) (by omega)
      refine ⟨?_, ?_, by simp⟩
      · rw [farF_snoc, i1, (decc (Nat.mod_lt u (by decide))).1]; omega
      · intro c hc
        rw [List.mem_append] at hc
        rcases hc with hc | hc
        · exact i2 c hc
        · rw [List.mem_singleton] at hc; rw [hc]; exact (decc (Nat.mod_lt u (by decide))).2
theorem exp_plain {E : List UInt8} (hE : ∀ c ∈ E, c ∈ decs) (h0 : E ≠ []) : ExT E (farF 0 E : Nat) ∧ ExT (45 :: E) (-((farF 0 E : Nat) : Int)) ∧ ExT (43 :: E) (farF 0 E : Nat) := by
  obtain ⟨h1, h2⟩ := tw_app (p := decs) (A := E) (r := []) hE (by rintro d t ⟨⟩)
  rw [List.append_nil] at h1 h2
  have hm0 : minusF E = (false, E) := by
    cases E with
    | nil => rfl
    | cons c r =>
      have hc := hE c (List.mem_cons_self ..)
      unfold minusF
      rw [if_neg (by rw [pre_ne (by rintro rfl; revert hc; decide)]; decide), if_neg (by rw [pre_ne (by rintro rfl; revert hc; decide)]; decide)]
  have hm1 : minusF (45 :: E) = (true, E) := by unfold minusF; rw [if_neg (by rw [pre_ne (by decide)]; decide), if_pos (show Lib.hasPrefix (45 :: E) [45] = true from pre_same [45] E)]; rfl
  have hm2 : minusF (43 :: E) = (false, E) := by unfold minusF; rw [if_pos (show Lib.hasPrefix (43 :: E) [43] = true from pre_same [43] E)]; rfl
  refine ⟨?_, ?_, ?_⟩
  · unfold ExT expF; rw [hm0]; refine ⟨?_, ?_, h2⟩
    · show E.takeWhile (decs.contains ·) ≠ []; rw [h1]; exact h0
    · show ((farF 0 (E.takeWhile (decs.contains ·)) : Nat) : Int) = _; rw [h1]
  · unfold ExT expF; rw [hm1]; refine ⟨?_, ?_, h2⟩
    · show E.takeWhile (decs.contains ·) ≠ []; rw [h1]; exact h0
    · show -((farF 0 (E.takeWhile (decs.contains ·)) : Nat) : Int) = _; rw [h1]
  · unfold ExT expF; rw [hm2]; refine ⟨?_, ?_, h2⟩
    · show E.takeWhile (decs.contains ·) ≠ []; rw [h1]; exact h0
    · show ((farF 0 (E.takeWhile (decs.contains ·)) : Nat) : Int) = _; rw [h1]
theorem exp_itoa {n : Int} (h0 : -100000 ≤ n) (h1 : n ≤ 100000) : ExT (Lib.itoa n) n ∧ (0 ≤ n → ExT (43 :: Lib.itoa n) n) := by
  unfold Lib.itoa
  split
  · rename_i h
    obtain ⟨a1, a2, a3⟩ := dec_read n.natAbs
    have hx := (exp_plain a2 a3).2.1
    rw [a1, show (-((min n.natAbs 100000 : Nat) : Int)) = n by omega] at hx
    exact ⟨hx, fun h2 => by omega⟩
  · rename_i h
    obtain ⟨a1, a2, a3⟩ := dec_read n.toNat
    have hx := (exp_plain a2 a3).1
    have hy := (exp_plain a2 a3).2.2
    rw [a1, show ((min n.toNat 100000 : Nat) : Int) = n by omega] at hx hy
    exact ⟨hx, fun _ => hy⟩
theorem hxc_v {d : Nat} (h : d < 16) : hexv (UInt8.ofNat (hxc d)) = d ∧ hexd (UInt8.ofNat (hxc d)) = true := by
  have h1 : ∀ d, d < 16 → hexv (UInt8.ofNat (hxc d)) = d ∧ hexd (UInt8.ofNat (hxc d)) = true := by decide +kernel
  exact h1 d h
theorem hexL_in : ∀ (f x : Nat), ∀ c ∈ hexL f x, hexd c = true
  | 0, _, c, h => by cases h
  | f + 1, x, c, h => by
    have h1 : c ∈ (if x < 16 then [UInt8.ofNat (hxc x)] else hexL f (x / 16) ++ [UInt8.ofNat (hxc (x % 16))]) := h
    split at h1
    · rename_i hx; rw [List.mem_singleton] at h1; rw [h1]; exact (hxc_v hx).2
    · rw [List.mem_append] at h1
      rcases h1 with h1 | h1
      · exact hexL_in f _ c h1
      · rw [List.mem_singleton] at h1; rw [h1]; exact (hxc_v (Nat.mod_lt _ (by decide))).2
theorem hexL_val : ∀ (f x : Nat), x < 16 ^ f → hexF 0 (hexL f x) = x
  | 0, x, h => by have : x < 1 := h; show 0 = x; omega
  | f + 1, x, h => by
    show hexF 0 (if x < 16 then [UInt8.ofNat (hxc x)] else hexL f (x / 16) ++ [UInt8.ofNat (hxc (x % 16))]) = x
    split
    · rename_i hx; show 16 * 0 + hexv _ = x; rw [(hxc_v hx).1]; omega
    · rw [hexF_app, hexL_val f _ (by rw [Nat.pow_succ] at h; omega)]
      show 16 * (x / 16) + hexv _ = x
      rw [(hxc_v (Nat.mod_lt _ (by decide))).1]; omega
theorem rnp_mono {f p m l : Int} {S I H sd : Nat} {Be : Int} (J : Jn f p m l S I H sd Be) {x y e g : Int} (hx : 0 ≤ x) (hy : 0 ≤ y) (he : -4194304 ≤ e) (hg : -4194304 ≤ g) (h : dv x e ≤ dv y g) : rnp l sd Be S I x e ≤ rnp l sd Be S I y g := by
  obtain ⟨Z, _, h2, h3, _⟩ := rnp_is J x e he
  obtain ⟨Y, _, k2, k3, _⟩ := rnp_is J y g hg
  rw [h3, k3, if_neg (by omega), if_neg (by omega)]
  rw [show ((x.natAbs : Nat) : Int) = x by omega] at h2
  rw [show ((y.natAbs : Nat) : Int) = y by omega] at k2
  exact h2.mono k2 h
theorem parseF_of {le : Int} {sd : Nat} {Be : Int} {S I Q : Nat} {l r ds : List UInt8} {be : Nat} {ex : Int} {neg : Bool} (hl : l.length ≤ 4000) (hm : minusF l = (neg, r)) (hn : numF r = some (ds, be, ex)) :
    parseF le sd Be S I Q l = (sgq S neg (rnp le sd Be S I (hexF 0 ds : Int) (ex - 4 * ((be : Nat) : Int))), 0) := by
  have h1 : l ≠ [110, 97, 110] := by
    rintro rfl
    have h2 : minusF [110, 97, 110] = (false, [110, 97, 110]) := by decide +kernel
    rw [h2] at hm
    cases hm
    have h3 : numF [110, 97, 110] = none := by decide +kernel
    rw [h3] at hn; cases hn
  have h2 : (minusF l).2 ≠ [105, 110, 102] := by
    rw [hm]
    rintro rfl
    have h3 : numF [105, 110, 102] = none := by decide +kernel
    rw [h3] at hn; cases hn
  rw [parseF_num (by omega) h1 h2 (by rw [hm]; exact hn), hm]
theorem minus_0 (r : List UInt8) : minusF (48 :: r) = (false, 48 :: r) := by
  unfold minusF
  rw [if_neg (by rw [pre_ne (by decide)]; decide), if_neg (by rw [pre_ne (by decide)]; decide)]
theorem minus_s (neg : Bool) (r : List UInt8) : minusF ((if neg then [45] else []) ++ 48 :: r) = (neg, 48 :: r) := by
  cases neg
  · exact minus_0 r
  · exact minus_m (48 :: r)
def hxT (x : Nat) (e : Int) : List UInt8 := [48, 120] ++ hexL 16 x ++ 112 :: Lib.itoa e
theorem hxT_num {x : Nat} (hx : x < B64) {e : Int} (he : -100000 ≤ e ∧ e ≤ 100000) : ∃ r ds, hxT x e = 48 :: r ∧ numF (48 :: r) = some (ds, 0, e) ∧ hexF 0 ds = x := by
  refine ⟨120 :: (hexL 16 x ++ 112 :: Lib.itoa e), _, rfl, numF_plain (.inl rfl) (.inl rfl) (hexL_in 16 x) (fun h => ?_) (exp_itoa he.1 he.2).1, ?_⟩
  · have := hexL_ne (f := 16) (by decide) x
    rw [h] at this
    exact absurd this (by decide)
  · rw [hexF_trim, hexL_val 16 x hx]
theorem itoa_sh {n : Int} (h0 : -40000 ≤ n) (h1 : n ≤ 40000) : (Lib.itoa n).length ≤ 3 + 4000 / 4 := by
  have hu : ∀ u : Nat, u ≤ 40000 → Lib.nDigits u ≤ 6 := by
    intro u hu
    by_cases a1 : u < 10
    · rw [Lib.nDigits_small a1]; omega
    rw [Lib.nDigits_big a1]
    by_cases a2 : u / 10 < 10
    · rw [Lib.nDigits_small a2]; omega
    rw [Lib.nDigits_big a2]
    by_cases a3 : u / 10 / 10 < 10
    · rw [Lib.nDigits_small a3]; omega
    rw [Lib.nDigits_big a3]
    by_cases a4 : u / 10 / 10 / 10 < 10
    · rw [Lib.nDigits_small a4]; omega
    rw [Lib.nDigits_big a4, Lib.nDigits_small (by omega)]; omega
  unfold Lib.itoa
  split
  · rw [List.length_cons, Lib.decDigits_length]; have := hu n.natAbs (by omega); omega
  · rw [Lib.decDigits_length]; have := hu n.toNat (by omega); omega
theorem hxT_len {x : Nat} {e : Int} (he : -40000 ≤ e ∧ e ≤ 40000) : (hxT x e).length ≤ 2000 := by
  have h1 := hexL_len 16 x
  have h2 := itoa_sh he.1 he.2
  unfold hxT
  simp only [List.length_append, List.length_cons, List.length_nil]
  omega
theorem hxT_parse {le : Int} {sd : Nat} {Be : Int} {S I Q : Nat} {x : Nat} (hx : x < B64) {e : Int} (he : -40000 ≤ e ∧ e ≤ 40000) (neg : Bool) :
    parseF le sd Be S I Q ((if neg then [45] else []) ++ hxT x e) = (sgq S neg (rnp le sd Be S I (x : Int) e), 0) := by
  obtain ⟨r, ds, h1, h2, h3⟩ := hxT_num hx (e := e) ⟨by omega, by omega⟩
  have hl := hxT_len (x := x) he
  rw [h1] at hl ⊢
  rw [parseF_of (neg := neg) (r := 48 :: r) (by cases neg <;> simp only [if_true, if_false, List.length_append, List.length_cons, List.length_nil, Bool.false_eq_true] at hl ⊢ <;> omega) (minus_s neg _) h2, h3]
  simp
theorem hxT_plain {le : Int} {sd : Nat} {Be : Int} {S I Q : Nat} {x : Nat} (hx : x < B64) {e : Int} (he : -40000 ≤ e ∧ e ≤ 40000) :
    parseF le sd Be S I Q (hxT x e) = (rnp le sd Be S I (x : Int) e, 0) := hxT_parse hx he false
theorem order_ok {f p m l : Int} {S I H sd : Nat} {Be : Int} (J : Jn f p m l S I H sd Be) {x y : Nat} {e : Int} (k : Nat) (he : -40000 ≤ e) (hxy : x ≤ y) :
    rnp l sd Be S I (x : Int) e ≤ rnp l sd Be S I (y : Int) e ∧ rnp l sd Be S I (x : Int) e ≤ rnp l sd Be S I (x : Int) (e + k) := by
  refine ⟨rnp_mono J (by omega) (by omega) (by omega) (by omega) (dv_le e (by omega)), rnp_mono J (by omega) (by omega) (by omega) (by omega) ?_⟩
  rw [dv_up k (by omega)]
  refine dv_le e ?_
  have h1 : (1 : Int) ≤ ((2 ^ k : Nat) : Int) := by have := Nat.two_pow_pos k; omega
  have h2 := Int.mul_le_mul_of_nonneg_left h1 (show (0 : Int) ≤ (x : Int) by omega)
  omega
theorem hexfloatOrder_x {f : Int} (h1 : f ≠ 32) (h2 : f ≠ 64) (a b : Nat) (e : Int) (k : Nat) {w : World} (hw : Wd w) :
    Calls Tryz.prog 5 #[.int .i64 f, U a, U b, .int .i16 e, .int .u8 (k : Int)] w fun en w' => en = .returned (.bool true) ∧ Below w.heap.size w w' := by
  have HF : Hid (f ≠ 32 ∧ f ≠ 64) := ⟨h1, h2⟩
  have HW : Hid (Wd w) := hw
  clear h1 h2 hw
  go_enter Tryz.func5, Tryz.ntmps5
  go_wp2_with fail
  refine (awake10 HW.out).mono ?_
  rintro e w1 ⟨rfl, hb1⟩
  have HB : Hid (Below w.heap.size w w1) := hb1
  clear hb1
  go_wp2_with fail
  refine (formats_no HF.out.1 HF.out.2 _).mono ?_
  rintro e w2 ⟨rfl, rfl⟩
  go_wp2_with fail
  go_ret
  exact ⟨rfl, HB.out⟩
theorem hexfloatOrder_i {f p m le : Int} {S I H sd Q : Nat} {Be : Int} (h : Hf f p m le S I H sd Be Q) (hf : f = 32 ∨ f = 64) {a b : Nat} {e : Int} {k : Nat} (ha : a < B64) (hb : b < B64) (he : -32768 ≤ e ∧ e ≤ 32767) (hk : k ≤ 255) {w : World} (hw : Wd w) :
    Calls Tryz.prog 5 #[.int .i64 f, U a, U b, .int .i16 e, .int .u8 (k : Int)] w fun en w' => en = .returned (.bool true) ∧ Below w.heap.size w w' := by
  have HF : Hid (Hf f p m le S I H sd Be Q ∧ (f = 32 ∨ f = 64)) := ⟨h, hf⟩
  have HW : Hid (Wd w) := hw
  have HX : Hid (a < B64 ∧ b < B64 ∧ (-32768 ≤ e ∧ e ≤ 32767) ∧ k ≤ 255) := ⟨ha, hb, he, hk⟩
  clear h hf hw ha hb he hk
  go_enter Tryz.func5, Tryz.ntmps5
  go_wp2_with fail
  refine (awake10 HW.out).mono ?_
  rintro en w1 ⟨rfl, hb1⟩
  have HB : Hid (Below w.heap.size w w1) := hb1
  clear hb1
  go_wp2_with fail
  refine (formats_yes HF.out.2 _).mono ?_
  rintro en w2 ⟨rfl, rfl⟩
  have hwe : wrap64 e = e := by have := HX.out; simp only [wrap64]; omega
  go_wp2_with fail
  refine (itoa_c e (by have := HX.out; omega) (by have := HX.out; omega) _ (HW.out.below HB.out).p).mono ?_
  rintro en v1 ⟨rfl, hb1⟩
  have HB1 : Hid (Below w.heap.size w v1) := Below.on HB.out hb1
  obtain ⟨E, hE⟩ : ∃ E, E = Lib.itoa e := ⟨_, rfl⟩
  have HE : Hid (E = Lib.itoa e ∧ E.length ≤ 1003) := ⟨hE, by rw [hE]; exact itoa_sh (by have := HX.out; omega) (by have := HX.out; omega)⟩
  rw [← hE]
  clear hE hb1 hwe
  have hc1 : ∀ W, (Op.stringOp .add ⟨#[112]⟩ (bs E)).run Tryz.prog W = .ok (.string (bs ([112] ++ E))) W := fun W => cat_run [112] E W (by have h1 : [(112 : UInt8)].length = 1 := rfl; have := HE.out; omega)
  have hb1 : ¬ ((⟨#[112]⟩ : ByteArray).size + ((bs E) : ByteArray).size > 9223372036854775807) := by show ¬ ((bs [112]).size + (bs E).size > _); rw [bs_size, bs_size]; have h1 : [(112 : UInt8)].length = 1 := rfl; have := HE.out; omega
  go_wp2_with fail
  obtain ⟨x, hx⟩ : ∃ x, x = min a b := ⟨_, rfl⟩
  obtain ⟨y, hy⟩ : ∃ y, y = max a b := ⟨_, rfl⟩
  have HXY : Hid (x ≤ y ∧ x < B64 ∧ y < B64) := by have := HX.out; exact ⟨by omega, by omega, by omega⟩
  have hmn : min (a : Int) (b : Int) = (x : Int) := by omega
  have hmx : max (a : Int) (b : Int) = (y : Int) := by omega
  rw [hmn]
  clear hx hy
  refine (fmt16 HXY.out.2.1 (HW.out.below HB1.out).t).mono ?_
  rintro en vxa ⟨rfl, hb⟩
  have HBxa : Hid (Below w.heap.size w vxa) := Below.on HB1.out hb
  obtain ⟨Dx, hD⟩ : ∃ D, D = hexL 16 x := ⟨_, rfl⟩
  have HDx : Hid (Dx = hexL 16 x ∧ Dx.length ≤ 16) := ⟨hD, by rw [hD]; exact hexL_len 16 _⟩
  rw [← hD]
  clear hD hb
  have hc2 : ∀ W, (Op.stringOp .add ⟨#[48, 120]⟩ (bs Dx)).run Tryz.prog W = .ok (.string (bs ([48, 120] ++ Dx))) W := fun W => cat_run [48, 120] Dx W (by have h1 : [(48 : UInt8), 120].length = 2 := rfl; have := HDx.out; omega)
  have hb2 : ¬ ((⟨#[48, 120]⟩ : ByteArray).size + ((bs Dx) : ByteArray).size > 9223372036854775807) := by show ¬ ((bs [48, 120]).size + (bs Dx).size > _); rw [bs_size, bs_size]; have h1 : [(48 : UInt8), 120].length = 2 := rfl; have := HDx.out; omega
  have hc3 : ∀ W, (Op.stringOp .add (bs (48 :: 120 :: Dx)) (bs (112 :: E))).run Tryz.prog W = .ok (.string (bs ((48 :: 120 :: Dx) ++ (112 :: E)))) W := fun W => cat_run (48 :: 120 :: Dx) (112 :: E) W (by have := HDx.out; have := HE.out; simp only [List.length_cons]; omega)
  have hb3 : ¬ (((bs (48 :: 120 :: Dx)) : ByteArray).size + ((bs (112 :: E)) : ByteArray).size > 9223372036854775807) := by show ¬ ((bs (48 :: 120 :: Dx)).size + (bs (112 :: E)).size > _); rw [bs_size, bs_size]; have := HDx.out; have := HE.out; simp only [List.length_cons]; omega
  go_wp2_with fail
  have hpx : parseF le sd Be S I Q (48 :: 120 :: (Dx ++ 112 :: E)) = (rnp le sd Be S I (x : Int) e, 0) := by have h := hxT_plain (le := le) (sd := sd) (Be := Be) (S := S) (I := I) (Q := Q) (x := x) (e := e) HXY.out.2.1 (by have := HX.out; omega); unfold hxT at h; rw [← HDx.out.1, ← HE.out.1] at h; exact h
  obtain ⟨X, hX⟩ : ∃ X, X = rnp le sd Be S I (x : Int) e := ⟨_, rfl⟩
  rw [← hX] at hpx
  have HXX := hm9 hX
  clear hX hc2 hc3 hb2 hb3
  refine (HF.out.1.parse _ (HW.out.below HBxa.out) hpx).mono ?_
  rintro en v3 ⟨rfl, hb⟩
  have HB3 : Hid (Below w.heap.size w v3) := Below.on HBxa.out hb
  clear hb hpx
  go_wp2_with fail
  refine (fmt16 HXY.out.2.2 (HW.out.below HB3.out).t).mono ?_
  rintro en vya ⟨rfl, hb⟩
  have HBya : Hid (Below w.heap.size w vya) := Below.on HB3.out hb
  obtain ⟨Dy, hD⟩ : ∃ D, D = hexL 16 y := ⟨_, rfl⟩
  have HDy : Hid (Dy = hexL 16 y ∧ Dy.length ≤ 16) := ⟨hD, by rw [hD]; exact hexL_len 16 _⟩
  rw [← hD]
  clear hD hb
  have hc2 : ∀ W, (Op.stringOp .add ⟨#[48, 120]⟩ (bs Dy)).run Tryz.prog W = .ok (.string (bs ([48, 120] ++ Dy))) W := fun W => cat_run [48, 120] Dy W (by have h1 : [(48 : UInt8), 120].length = 2 := rfl; have := HDy.out; omega)
  have hb2 : ¬ ((⟨#[48, 120]⟩ : ByteArray).size + ((bs Dy) : ByteArray).size > 9223372036854775807) := by show ¬ ((bs [48, 120]).size + (bs Dy).size > _); rw [bs_size, bs_size]; have h1 : [(48 : UInt8), 120].length = 2 := rfl; have := HDy.out; omega
  have hc3 : ∀ W, (Op.stringOp .add (bs (48 :: 120 :: Dy)) (bs (112 :: E))).run Tryz.prog W = .ok (.string (bs ((48 :: 120 :: Dy) ++ (112 :: E)))) W := fun W => cat_run (48 :: 120 :: Dy) (112 :: E) W (by have := HDy.out; have := HE.out; simp only [List.length_cons]; omega)
  have hb3 : ¬ (((bs (48 :: 120 :: Dy)) : ByteArray).size + ((bs (112 :: E)) : ByteArray).size > 9223372036854775807) := by show ¬ ((bs (48 :: 120 :: Dy)).size + (bs (112 :: E)).size > _); rw [bs_size, bs_size]; have := HDy.out; have := HE.out; simp only [List.length_cons]; omega
  go_wp2_with fail
  have hpy : parseF le sd Be S I Q (48 :: 120 :: (Dy ++ 112 :: E)) = (rnp le sd Be S I (y : Int) e, 0) := by have h := hxT_plain (le := le) (sd := sd) (Be := Be) (S := S) (I := I) (Q := Q) (x := y) (e := e) HXY.out.2.2 (by have := HX.out; omega); unfold hxT at h; rw [← HDy.out.1, ← HE.out.1] at h; exact h
  obtain ⟨Y, hY⟩ : ∃ X, X = rnp le sd Be S I (y : Int) e := ⟨_, rfl⟩
  rw [← hY] at hpy
  have HYY := hm9 hY
  clear hY hc2 hc3 hb2 hb3
  refine (HF.out.1.parse _ (HW.out.below HBya.out) hpy).mono ?_
  rintro en v4 ⟨rfl, hb⟩
  have HB4 : Hid (Below w.heap.size w v4) := Below.on HBya.out hb
  clear hb hpy
  go_wp2_with fail
  refine (fmt16 HXY.out.2.1 (HW.out.below HB4.out).t).mono ?_
  rintro en vza ⟨rfl, hb⟩
  have HBza : Hid (Below w.heap.size w vza) := Below.on HB4.out hb
  obtain ⟨Dz, hD⟩ : ∃ D, D = hexL 16 x := ⟨_, rfl⟩
  have HDz : Hid (Dz = hexL 16 x ∧ Dz.length ≤ 16) := ⟨hD, by rw [hD]; exact hexL_len 16 _⟩
  rw [← hD]
  clear hD hb
  have hc2 : ∀ W, (Op.stringOp .add ⟨#[48, 120]⟩ (bs Dz)).run Tryz.prog W = .ok (.string (bs ([48, 120] ++ Dz))) W := fun W => cat_run [48, 120] Dz W (by have h1 : [(48 : UInt8), 120].length = 2 := rfl; have := HDz.out; omega)
  have hb2 : ¬ ((⟨#[48, 120]⟩ : ByteArray).size + ((bs Dz) : ByteArray).size > 9223372036854775807) := by show ¬ ((bs [48, 120]).size + (bs Dz).size > _); rw [bs_size, bs_size]; have h1 : [(48 : UInt8), 120].length = 2 := rfl; have := HDz.out; omega
  have hs2 : wrap64 (wrap64 e + (k : Int)) = e + (k : Int) := by have := HX.out; simp only [wrap64]; omega
  have hc4 : ∀ W, (Op.stringOp .add (bs (48 :: 120 :: Dz)) ⟨#[112]⟩).run Tryz.prog W = .ok (.string (bs ((48 :: 120 :: Dz) ++ [112]))) W := fun W => cat_run (48 :: 120 :: Dz) [112] W (by have h1 : [(112 : UInt8)].length = 1 := rfl; have := HDz.out; simp only [List.length_cons] at h1 ⊢; omega)
  have hb4 : ¬ (((bs (48 :: 120 :: Dz)) : ByteArray).size + (⟨#[112]⟩ : ByteArray).size > 9223372036854775807) := by show ¬ ((bs (48 :: 120 :: Dz)).size + (bs [112]).size > _); rw [bs_size, bs_size]; have h1 : [(112 : UInt8)].length = 1 := rfl; have := HDz.out; simp only [List.length_cons] at h1 ⊢; omega
  go_wp2_with fail
  rw [show wrap64 (wrap64 e + wrap64 (k : Int)) = e + (k : Int) by have := HX.out; simp only [wrap64]; omega]
  refine (itoa_c (e + (k : Int)) (by have := HX.out; omega) (by have := HX.out; omega) _ (HW.out.below HBza.out).p).mono ?_
  rintro en v5 ⟨rfl, hb5⟩
  have HB5 : Hid (Below w.heap.size w v5) := Below.on HBza.out hb5
  obtain ⟨F, hF⟩ : ∃ F, F = Lib.itoa (e + (k : Int)) := ⟨_, rfl⟩
  have HFF : Hid (F = Lib.itoa (e + (k : Int)) ∧ F.length ≤ 1003) := ⟨hF, by rw [hF]; exact itoa_sh (by have := HX.out; omega) (by have := HX.out; omega)⟩
  rw [← hF]
  clear hF hb5 hs2 hc2 hb2 hc4 hb4
  have hc5 : ∀ W, (Op.stringOp .add (bs (48 :: 120 :: (Dz ++ [112]))) (bs F)).run Tryz.prog W = .ok (.string (bs ((48 :: 120 :: (Dz ++ [112])) ++ F))) W := fun W => cat_run (48 :: 120 :: (Dz ++ [112])) F W (by have := HDz.out; have := HFF.out; simp only [List.length_cons, List.length_append, List.length_nil]; omega)
  have hb5 : ¬ (((bs (48 :: 120 :: (Dz ++ [112]))) : ByteArray).size + ((bs F) : ByteArray).size > 9223372036854775807) := by show ¬ ((bs (48 :: 120 :: (Dz ++ [112]))).size + (bs F).size > _); rw [bs_size, bs_size]; have := HDz.out; have := HFF.out; simp only [List.length_cons, List.length_append, List.length_nil]; omega
  have hpz : parseF le sd Be S I Q (48 :: 120 :: (Dz ++ 112 :: F)) = (rnp le sd Be S I (x : Int) (e + (k : Int)), 0) := by have h := hxT_plain (le := le) (sd := sd) (Be := Be) (S := S) (I := I) (Q := Q) (x := x) (e := e + (k : Int)) HXY.out.2.1 (by have := HX.out; omega); unfold hxT at h; rw [← HDz.out.1, ← HFF.out.1] at h; exact h
  have hor := order_ok HF.out.1.j (x := x) (y := y) (e := e) k (by have := HX.out; omega) HXY.out.1
  rw [← HXX.out, ← HYY.out] at hor
  obtain ⟨Z, hZ⟩ : ∃ X, X = rnp le sd Be S I (x : Int) (e + (k : Int)) := ⟨_, rfl⟩
  rw [← hZ] at hpz hor
  clear hZ
  have ho1 : (X : Int) ≤ (Y : Int) := by omega
  have ho2 : (X : Int) ≤ (Z : Int) := by omega
  clear hor
  go_wp2_with fail
  refine (HF.out.1.parse _ (HW.out.below HB5.out) hpz).mono ?_
  rintro en v6 ⟨rfl, hb⟩
  have HB6 : Hid (Below w.heap.size w v6) := Below.on HB5.out hb
  clear hb hpz
  go_wp2_with fail
  go_ret
  exact ⟨rfl, HB6.out⟩
theorem hexfloatOrder_w (f : Int) {a b : Nat} {e : Int} {k : Nat} (ha : a < B64) (hb : b < B64) (he : -32768 ≤ e ∧ e ≤ 32767) (hk : k ≤ 255) {w : World} (hw : Wd w) : Calls Tryz.prog 5 #[.int .i64 f, U a, U b, .int .i16 e, .int .u8 (k : Int)] w fun en w' => en = .returned (.bool true) ∧ Below w.heap.size w w' := by
  by_cases h1 : f = 32
  · subst h1; exact hexfloatOrder_i hf_32 (.inl rfl) ha hb he hk hw
  by_cases h2 : f = 64
  · subst h2; exact hexfloatOrder_i hf_64 (.inr rfl) ha hb he hk hw
  exact hexfloatOrder_x h1 h2 a b e k hw
end Go.Proofs.YthoolgbofmnghaaGreatDoor
