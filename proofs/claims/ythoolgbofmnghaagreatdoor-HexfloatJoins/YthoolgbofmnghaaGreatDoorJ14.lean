import Derived.WalkSmall
import Derived.Laws.Concat
import Derived.Test.YthoolgbofmnghaaGreatDoorJ13
import Derived.Test.YthoolgbofmnghaaGreatDoorJ12
import Derived.Recover
namespace Go.Proofs.YthoolgbofmnghaaGreatDoor
open Go.RowKit Go.Shelf
set_option maxRecDepth 20000
set_option maxHeartbeats 0
theorem hm9 {p : Prop} (h : p) : Hid p := h
structure Hf (f p m le : Int) (S I H sd : Nat) (Be : Int) (Q : Nat) : Prop where
  j : Jn f p m le S I H sd Be
  q : ∀ w, Calls Tryz.prog 28 #[WV p m le] w fun e w' => e = .returned (U Q) ∧ Below w.heap.size w w'
  s : ∀ w, Calls Tryz.prog 22 #[WV p m le] w fun e w' => e = .returned (U S) ∧ Below w.heap.size w w'
  an : ∀ b : Nat, b < 2 * S → bits BinOp.andNot IntKind.u64 (b : Int) (S : Int) = ((b % S : Nat) : Int)
theorem hf_32 : Hf 32 32 24 (-149) 2147483648 2139095040 8388608 23 128 2143289345 := ⟨jn_32, wquiet_32, sign_32, fun b hb => sign_andNot b _ 31 rfl (by decide) hb⟩
theorem hf_64 : Hf 64 64 53 (-1074) 9223372036854775808 9218868437227405312 4503599627370496 52 1024 9221120237041090561 := ⟨jn_64, wquiet_64, sign_64, fun b hb => sign_andNot b _ 63 rfl (by decide) hb⟩
theorem aw_parse : parseF (-1074) 52 1024 9223372036854775808 9218868437227405312 9221120237041090561 [45, 48, 120, 49, 46, 56, 112, 49] = (13837309855095848960, 0) := by decide +kernel
theorem aw_print : printF (-1074) 4503599627370496 9223372036854775808 9218868437227405312 4609434218613702656 = [48, 120, 49, 46, 56, 112, 43, 48] := by decide +kernel
theorem bs_eqL (l p : List UInt8) : ((bs l).toList == p) = decide (l = p) := by
  rw [Lib.toList_data, bs_data]
  by_cases h : l = p
  · subst h; simp
  · simp [h]
theorem aw_eq : ((bs [48, 120, 49, 46, 56, 112, 43, 48]).toList == [48, 120, 49, 46, 56, 112, 43, 48]) = true := by rw [Lib.toList_data, bs_data]; rfl
structure Wd (w : World) : Prop where
  t : Tab w
  b : 0 < w.heap.size
  p : TbP w
theorem Wd.below {w w' : World} (h : Wd w) (hb : Below w.heap.size w w') : Wd w' := ⟨h.t.below hb, Nat.lt_of_lt_of_le h.b hb.size, h.p.below hb⟩
theorem Hf.parse {f p m le : Int} {S I H sd Q : Nat} {Be : Int} (h : Hf f p m le S I H sd Be Q) (l : List UInt8) {w : World} (hw : Wd w) {x : Nat} {e : Int} (hp : parseF le sd Be S I Q l = (x, e)) :
    Calls Tryz.prog 12 #[.int .i64 f, .string (bs l)] w fun en w' => en = .returned (.tuple #[U x, .int .i64 e]) ∧ Below w.heap.size w w' := by
  have h1 := parse_c h.j h.q (l := l) hw.t hw.b
  rw [hp] at h1
  exact h1
theorem Hf.print {f p m le : Int} {S I H sd Q : Nat} {Be : Int} (h : Hf f p m le S I H sd Be Q) {b : Nat} {w : World} (hb : b < 2 * S) (hw : Wd w) {t : List UInt8} (ht : printF le H S I b = t) :
    Calls Tryz.prog 11 #[.int .i64 f, U b] w fun en w' => en = .returned (.tuple #[.string (bs t), .int .i64 0]) ∧ Below w.heap.size w w' := by
  have h1 := print_c h.j h.s h.an hb hw.t hw.p
  rw [ht] at h1
  exact h1
theorem awake10 {w : World} (hw : Wd w) :
    Calls Tryz.prog 9 #[] w fun en w' => en = .returned (.bool true) ∧ Below w.heap.size w w' := by
  have HW : Hid (Wd w) := hw
  clear hw
  go_enter Tryz.func9, Tryz.ntmps9
  go_wp2_with fail
  refine (hf_64.parse [45, 48, 120, 49, 46, 56, 112, 49] HW.out aw_parse).mono ?_
  rintro e w1 ⟨rfl, hb1⟩
  have HB : Hid (Below w.heap.size w w1) := hb1
  clear hb1
  go_wp2_with fail
  refine (hf_64.print (b := 4609434218613702656) (by decide) (HW.out.below HB.out) aw_print).mono ?_
  rintro e w2 ⟨rfl, hb2⟩
  have HB2 : Hid (Below w.heap.size w w2) := Below.on HB.out hb2
  clear hb2
  go_wp2_with fail
  go_ret
  exact ⟨congrArg (fun b => Ending.returned (.bool b)) aw_eq, HB2.out⟩
theorem pre_cons (c : UInt8) (l : List UInt8) : Lib.hasPrefix (c :: l) [c] = true := List.isPrefixOf_iff_prefix.2 ⟨l, rfl⟩
theorem pre_other {c d : UInt8} (l : List UInt8) (h : c ≠ d) : Lib.hasPrefix (c :: l) [d] = false := by
  unfold Lib.hasPrefix
  rw [List.isPrefixOf_cons_cons, show (d == c) = false by simpa using (Ne.symm h)]; rfl
theorem minus_p (l : List UInt8) : minusF (43 :: l) = (false, l) := by unfold minusF; rw [if_pos (pre_cons _ _)]; rfl
theorem minus_m (l : List UInt8) : minusF (45 :: l) = (true, l) := by unfold minusF; rw [if_neg (by rw [pre_other _ (by decide)]; decide), if_pos (pre_cons _ _)]; rfl
theorem formats_yes {f : Int} (hf : f = 32 ∨ f = 64) (w : World) : Calls Tryz.prog 10 #[.int .i64 f] w fun en w' => en = .returned (.bool true) ∧ w' = w := by
  rcases hf with rfl | rfl
  · go_enter Tryz.func10, Tryz.ntmps10
    go_wp2_with fail
    go_ret
    exact ⟨rfl, rfl⟩
  · go_enter Tryz.func10, Tryz.ntmps10
    go_wp2_with fail
    go_ret
    exact ⟨rfl, rfl⟩
theorem formats_no {f : Int} (h1 : f ≠ 32) (h2 : f ≠ 64) (w : World) : Calls Tryz.prog 10 #[.int .i64 f] w fun en w' => en = .returned (.bool false) ∧ w' = w := by
  have hd : (f == 32 || f == 64) = false := by simp [h1, h2]
  go_enter Tryz.func10, Tryz.ntmps10
  go_wp2_with fail
  go_ret
  exact ⟨rfl, rfl⟩
theorem tw_app {p A r : List UInt8} (hA : ∀ c ∈ A, c ∈ p) (hr : ∀ c t, r = c :: t → c ∉ p) : (A ++ r).takeWhile (p.contains ·) = A ∧ Lib.trimLeftS (A ++ r) p = r := by
  have hA' : ∀ c ∈ A, p.contains c = true := fun c hc => List.contains_iff_mem.2 (hA c hc)
  have h2 : r.takeWhile (p.contains ·) = [] ∧ r.dropWhile (p.contains ·) = r := by
    cases r with
    | nil => exact ⟨rfl, rfl⟩
    | cons c t =>
      have h3 : p.contains c = false := by
        cases h : p.contains c with
        | false => rfl
        | true => exact absurd (List.contains_iff_mem.1 h) (hr c t rfl)
      rw [List.takeWhile_cons, List.dropWhile_cons, h3]
      exact ⟨rfl, rfl⟩
  unfold Lib.trimLeftS
  rw [List.takeWhile_append_of_pos hA', List.dropWhile_append_of_pos hA', h2.1, h2.2, List.append_nil]
  exact ⟨rfl, rfl⟩
theorem pre_same (p r : List UInt8) : Lib.hasPrefix (p ++ r) p = true := List.isPrefixOf_iff_prefix.2 (List.prefix_append _ _)
theorem takes_same (p : List UInt8) (ps : List (List UInt8)) (r : List UInt8) : takesF (p :: ps) (p ++ r) = some r := by
  unfold takesF; rw [if_pos (pre_same p r), List.drop_left]
theorem takes_snd {p q r : List UInt8} (ps : List (List UInt8)) (h : Lib.hasPrefix (q ++ r) p = false) : takesF (p :: q :: ps) (q ++ r) = some r := by
  unfold takesF; rw [if_neg (by rw [h]; decide)]; exact takes_same q ps r
theorem pre_ne {c d : UInt8} {l p : List UInt8} (h : c ≠ d) : Lib.hasPrefix (c :: l) (d :: p) = false := by
  unfold Lib.hasPrefix
  rw [List.isPrefixOf_cons_cons, show (d == c) = false by simpa using (Ne.symm h)]; rfl
theorem takes_not {c d : UInt8} {r : List UInt8} (h : c ≠ d) : takesF [[d]] (c :: r) = none := by
  unfold takesF; rw [if_neg (by rw [pre_ne h]; decide)]; rfl
theorem hexs_mem {c : UInt8} (h : hexd c = true) : c ∈ hexs := by
  have h1 : ∀ n, n < 256 → hexdN n = true → UInt8.ofNat n ∈ hexs := by decide +kernel
  have h2 := h1 c.toNat c.toNat_lt h
  rwa [UInt8.ofNat_toNat] at h2
theorem digs_plain {A r : List UInt8} {c : UInt8} (hA : ∀ c ∈ A, hexd c = true) (hc : c ∉ hexs) (h46 : c ≠ 46) : digsF hexs (A ++ c :: r) = (A, 0, c :: r) := by
  obtain ⟨h1, h2⟩ := tw_app (p := hexs) (A := A) (r := c :: r) (fun c hc => hexs_mem (hA c hc)) (by rintro d t ⟨rfl⟩; exact hc)
  unfold digsF
  rw [h2, takes_not h46, h1]
theorem digs_point {A B r : List UInt8} {c : UInt8} (hA : ∀ c ∈ A, hexd c = true) (hB : ∀ c ∈ B, hexd c = true) (hc : c ∉ hexs) : digsF hexs (A ++ 46 :: (B ++ c :: r)) = (A ++ B, B.length, c :: r) := by
  obtain ⟨h1, h2⟩ := tw_app (p := hexs) (A := A) (r := 46 :: (B ++ c :: r)) (fun c hc => hexs_mem (hA c hc)) (by rintro d t ⟨rfl⟩; decide)
  obtain ⟨h3, h4⟩ := tw_app (p := hexs) (A := B) (r := c :: r) (fun c hc => hexs_mem (hB c hc)) (by rintro d t ⟨rfl⟩; exact hc)
  unfold digsF
  rw [h2, show (46 : UInt8) :: (B ++ c :: r) = [46] ++ (B ++ c :: r) from rfl, takes_same [46] [] _]
  show (_, _, _) = _
  rw [show ([46] : List UInt8) ++ (B ++ c :: r) = 46 :: (B ++ c :: r) from rfl, h1, h3, h4]
def ExT (E : List UInt8) (n : Int) : Prop := (expF E).1 ≠ [] ∧ (expF E).2.1 = n ∧ (expF E).2.2 = []
theorem numF_plain {x p : UInt8} {A E : List UInt8} {n : Int} (hx : x = 120 ∨ x = 88) (hp : p = 112 ∨ p = 80) (hA : ∀ c ∈ A, hexd c = true) (hA0 : A ≠ []) (hE : ExT E n) :
    numF (48 :: x :: (A ++ p :: E)) = some (Lib.trimLeftS A [48], 0, n) := by
  have h1 : takesF [[48, 120], [48, 88]] (48 :: x :: (A ++ p :: E)) = some (A ++ p :: E) := by
    rcases hx with rfl | rfl
    · exact takes_same [48, 120] [[48, 88]] _
    · refine takes_snd (p := [48, 120]) (q := [48, 88]) [] ?_
      unfold Lib.hasPrefix; rfl
  have h2 : digsF hexs (A ++ p :: E) = (A, 0, p :: E) := digs_plain hA (by rcases hp with rfl | rfl <;> decide) (by rcases hp with rfl | rfl <;> decide)
  have h3 : takesF [[112], [80]] (p :: E) = some E := by
    rcases hp with rfl | rfl
    · exact takes_same [112] [[80]] _
    · exact takes_snd (p := [112]) (q := [80]) [] (pre_ne (by decide))
  rw [numF_s h1 (by rw [h2]; exact hA0) (by rw [h2]; exact h3), if_neg hE.1, if_pos hE.2.2, h2, hE.2.1]
theorem numF_point {x p : UInt8} {A B E : List UInt8} {n : Int} (hx : x = 120 ∨ x = 88) (hp : p = 112 ∨ p = 80) (hA : ∀ c ∈ A, hexd c = true) (hB : ∀ c ∈ B, hexd c = true) (hA0 : A ++ B ≠ []) (hE : ExT E n) :
    numF (48 :: x :: (A ++ 46 :: (B ++ p :: E))) = some (Lib.trimLeftS (A ++ B) [48], B.length, n) := by
  have h1 : takesF [[48, 120], [48, 88]] (48 :: x :: (A ++ 46 :: (B ++ p :: E))) = some (A ++ 46 :: (B ++ p :: E)) := by
    rcases hx with rfl | rfl
    · exact takes_same [48, 120] [[48, 88]] _
    · refine takes_snd (p := [48, 120]) (q := [48, 88]) [] ?_
      unfold Lib.hasPrefix; rfl
  have h2 : digsF hexs (A ++ 46 :: (B ++ p :: E)) = (A ++ B, B.length, p :: E) := digs_point hA hB (by rcases hp with rfl | rfl <;> decide)
  have h3 : takesF [[112], [80]] (p :: E) = some E := by
    rcases hp with rfl | rfl
    · exact takes_same [112] [[80]] _
    · exact takes_snd (p := [112]) (q := [80]) [] (pre_ne (by decide))
  rw [numF_s h1 (by rw [h2]; exact hA0) (by rw [h2]; exact h3), if_neg hE.1, if_pos hE.2.2, h2, hE.2.1]
theorem farF_snoc (n : Nat) (l : List UInt8) (c : UInt8) : farF n (l ++ [c]) = min (10 * farF n l + (c.toNat - 48)) 100000 := by
  induction l generalizing n with
  | nil => rfl
  | cons d l ih => exact ih _
theorem decc {d : Nat} (h : d < 10) : (UInt8.ofNat (48 + d)).toNat = 48 + d ∧ UInt8.ofNat (48 + d) ∈ decs := by
  obtain rfl | rfl | rfl | rfl | rfl | rfl | rfl | rfl | rfl | rfl : d = 0 ∨ d = 1 ∨ d = 2 ∨ d = 3 ∨ d = 4 ∨ d = 5 ∨ d = 6 ∨ d = 7 ∨ d = 8 ∨ d = 9 := by omega
  all_goals exact ⟨rfl, by decide⟩
theorem dec_read (u : Nat) : farF 0 (Lib.decDigits u) = min u 100000 ∧ (∀ c ∈ Lib.decDigits u, c ∈ decs) ∧ Lib.decDigits u ≠ [] := by
  induction u using Nat.strongRecOn with
  | ind u ih =>
    rw [Lib.decDigits]
    split
    · rename_i h
      refine ⟨?_, ?_, by simp⟩
      · show min (10 * 0 + ((UInt8.ofNat (48 + u)).toNat - 48)) 100000 = _
        rw [(decc h).1]; congr 1; omega
      · intro c hc; rw [List.mem_singleton] at hc; rw [hc]; exact (decc h).2
    · rename_i h
      obtain ⟨i1, i2, i3⟩ := ih (u / 10) (by omega)
      refine ⟨?_, ?_, by simp⟩
      · rw [farF_snoc, i1, (decc (Nat.mod_lt u (by decide))).1]; omega
      · intro c hc
        rw [List.mem_append] at hc
        rcases hc with hc | hc
        · exact i2 c hc
        · rw [List.mem_singleton] at hc; rw [hc]; exact (decc (Nat.mod_lt u (by decide))).2
theorem exp_plain {E : List UInt8} (hE : ∀ c ∈ E, c ∈ decs) (h0 : E ≠ []) : ExT E (farF 0 E : Nat) ∧ ExT (45 :: E) (-((farF 0 E : Nat) : Int)) ∧ ExT (43 :: E) (farF 0 E : Nat) := by
  obtain ⟨h1, h2⟩ := tw_app (p := decs) (A := E) (r := []) hE (by rintro d t ⟨⟩)
  rw [List.append_nil] at h1 h2
  have hm0 : minusF E = (false, E) := by
    cases E with
    | nil => rfl
    | cons c r =>
      have hc := hE c (List.mem_cons_self ..)
      unfold minusF
      rw [if_neg (by rw [pre_ne (by rintro rfl; revert hc; decide)]; decide), if_neg (by rw [pre_ne (by rintro rfl; revert hc; decide)]; decide)]
  have hm1 : minusF (45 :: E) = (true, E) := by unfold minusF; rw [if_neg (by rw [pre_ne (by decide)]; decide), if_pos (show Lib.hasPrefix (45 :: E) [45] = true from pre_same [45] E)]; rfl
  have hm2 : minusF (43 :: E) = (false, E) := by unfold minusF; rw [if_pos (show Lib.hasPrefix (43 :: E) [43] = true from pre_same [43] E)]; rfl
  refine ⟨?_, ?_, ?_⟩
  · unfold ExT expF; rw [hm0]; refine ⟨?_, ?_, h2⟩
    · show E.takeWhile (decs.contains ·) ≠ []; rw [h1]; exact h0
    · show ((farF 0 (E.takeWhile (decs.contains ·)) : Nat) : Int) = _; rw [h1]
  · unfold ExT expF; rw [hm1]; refine ⟨?_, ?_, h2⟩
    · show E.takeWhile (decs.contains ·) ≠ []; rw [h1]; exact h0
    · show -((farF 0 (E.takeWhile (decs.contains ·)) : Nat) : Int) = _; rw [h1]
  · unfold ExT expF; rw [hm2]; refine ⟨?_, ?_, h2⟩
    · show E.takeWhile (decs.contains ·) ≠ []; rw [h1]; exact h0
    · show ((farF 0 (E.takeWhile (decs.contains ·)) : Nat) : Int) = _; rw [h1]
theorem exp_itoa {n : Int} (h0 : -100000 ≤ n) (h1 : n ≤ 100000) : ExT (Lib.itoa n) n ∧ (0 ≤ n → ExT (43 :: Lib.itoa n) n) := by
  unfold Lib.itoa
  split
  · rename_i h
    obtain ⟨a1, a2, a3⟩ := dec_read n.natAbs
    have hx := (exp_plain a2 a3).2.1
    rw [a1, show (-((min n.natAbs 100000 : Nat) : Int)) = n by omega] at hx
    exact ⟨hx, fun h2 => by omega⟩
  · rename_i h
    obtain ⟨a1, a2, a3⟩ := dec_read n.toNat
    have hx := (exp_plain a2 a3).1
    have hy := (exp_plain a2 a3).2.2
    rw [a1, show ((min n.toNat 100000 : Nat) : Int) = n by omega] at hx hy
    exact ⟨hx, fun _ => hy⟩
theorem hexF_n (n : Nat) (b : List UInt8) : hexF n b = n * 16 ^ b.length + hexF 0 b := by
  induction b generalizing n with
  | nil => show n = n * 1 + 0; omega
  | cons c b ih =>
    show hexF (16 * n + hexv c) b = n * 16 ^ (b.length + 1) + hexF (16 * 0 + hexv c) b
    rw [ih (16 * n + hexv c), ih (16 * 0 + hexv c), Nat.pow_succ, Nat.mul_zero, Nat.zero_add, Nat.add_mul, show 16 * n * 16 ^ b.length = n * (16 ^ b.length * 16) by rw [Nat.mul_comm 16 n, Nat.mul_assoc, Nat.mul_comm 16]]
    omega
theorem hxc_v {d : Nat} (h : d < 16) : hexv (UInt8.ofNat (hxc d)) = d ∧ hexd (UInt8.ofNat (hxc d)) = true := by
  have h1 : ∀ d, d < 16 → hexv (UInt8.ofNat (hxc d)) = d ∧ hexd (UInt8.ofNat (hxc d)) = true := by decide +kernel
  exact h1 d h
theorem hexL_in : ∀ (f x : Nat), ∀ c ∈ hexL f x, hexd c = true
  | 0, _, c, h => by cases h
  | f + 1, x, c, h => by
    have h1 : c ∈ (if x < 16 then [UInt8.ofNat (hxc x)] else hexL f (x / 16) ++ [UInt8.ofNat (hxc (x % 16))]) := h
    split at h1
    · rename_i hx; rw [List.mem_singleton] at h1; rw [h1]; exact (hxc_v hx).2
    · rw [List.mem_append] at h1
      rcases h1 with h1 | h1
      · exact hexL_in f _ c h1
      · rw [List.mem_singleton] at h1; rw [h1]; exact (hxc_v (Nat.mod_lt _ (by decide))).2
theorem hexL_val : ∀ (f x : Nat), x < 16 ^ f → hexF 0 (hexL f x) = x
  | 0, x, h => by have : x < 1 := h; show 0 = x; omega
  | f + 1, x, h => by
    show hexF 0 (if x < 16 then [UInt8.ofNat (hxc x)] else hexL f (x / 16) ++ [UInt8.ofNat (hxc (x % 16))]) = x
    split
    · rename_i hx; show 16 * 0 + hexv _ = x; rw [(hxc_v hx).1]; omega
    · rw [hexF_app, hexL_val f _ (by rw [Nat.pow_succ] at h; omega)]
      show 16 * (x / 16) + hexv _ = x
      rw [(hxc_v (Nat.mod_lt _ (by decide))).1]; omega
theorem rnp_eq {f p m l : Int} {S I H sd : Nat} {Be : Int} (J : Jn f p m l S I H sd Be) {x e : Int} {Z : Nat} (hx : 0 ≤ x) (he : -4194304 ≤ e) (h : RNz H l I (dv x e) Z) : rnp l sd Be S I x e = Z := by
  obtain ⟨Y, _, h2, h3, _⟩ := rnp_is J x e he
  rw [show ((x.natAbs : Nat) : Int) = x by omega] at h2
  rw [h3, if_neg (by omega)]
  exact h2.uniq h
theorem rnp_mono {f p m l : Int} {S I H sd : Nat} {Be : Int} (J : Jn f p m l S I H sd Be) {x y e g : Int} (hx : 0 ≤ x) (hy : 0 ≤ y) (he : -4194304 ≤ e) (hg : -4194304 ≤ g) (h : dv x e ≤ dv y g) : rnp l sd Be S I x e ≤ rnp l sd Be S I y g := by
  obtain ⟨Z, _, h2, h3, _⟩ := rnp_is J x e he
  obtain ⟨Y, _, k2, k3, _⟩ := rnp_is J y g hg
  rw [h3, k3, if_neg (by omega), if_neg (by omega)]
  rw [show ((x.natAbs : Nat) : Int) = x by omega] at h2
  rw [show ((y.natAbs : Nat) : Int) = y by omega] at k2
  exact h2.mono k2 h
theorem parseF_of {le : Int} {sd : Nat} {Be : Int} {S I Q : Nat} {l r ds : List UInt8} {be : Nat} {ex : Int} {neg : Bool} (hl : l.length ≤ 4000) (hm : minusF l = (neg, r)) (hn : numF r = some (ds, be, ex)) :
    parseF le sd Be S I Q l = (sgq S neg (rnp le sd Be S I (hexF 0 ds : Int) (ex - 4 * ((be : Nat) : Int))), 0) := by
  have h1 : l ≠ [110, 97, 110] := by
    rintro rfl
    have h2 : minusF [110, 97, 110] = (false, [110, 97, 110]) := by decide +kernel
    rw [h2] at hm
    cases hm
    have h3 : numF [110, 97, 110] = none := by decide +kernel
    rw [h3] at hn; cases hn
  have h2 : (minusF l).2 ≠ [105, 110, 102] := by
    rw [hm]
    rintro rfl
    have h3 : numF [105, 110, 102] = none := by decide +kernel
    rw [h3] at hn; cases hn
  rw [parseF_num (by omega) h1 h2 (by rw [hm]; exact hn), hm]
theorem minus_0 (r : List UInt8) : minusF (48 :: r) = (false, 48 :: r) := by
  unfold minusF
  rw [if_neg (by rw [pre_ne (by decide)]; decide), if_neg (by rw [pre_ne (by decide)]; decide)]
theorem minus_s (neg : Bool) (r : List UInt8) : minusF ((if neg then [45] else []) ++ 48 :: r) = (neg, 48 :: r) := by
  cases neg
  · exact minus_0 r
  · exact minus_m (48 :: r)
theorem trimR_split (l : List UInt8) (c : UInt8) : ∃ k, l = Lib.trimRightB l c ++ List.replicate k c := by
  have h := List.takeWhile_append_dropWhile (p := (· == c)) (l := l.reverse)
  refine ⟨(l.reverse.takeWhile (· == c)).length, ?_⟩
  have h2 : l = (l.reverse.dropWhile (· == c)).reverse ++ (l.reverse.takeWhile (· == c)).reverse := by rw [← List.reverse_append, h, List.reverse_reverse]
  have h3 : (l.reverse.takeWhile (· == c)).reverse = List.replicate (l.reverse.takeWhile (· == c)).length c := by
    rw [List.eq_replicate_iff]
    refine ⟨List.length_reverse, fun b hb => ?_⟩
    rw [List.mem_reverse] at hb
    have := List.all_eq_true.1 (List.all_takeWhile (p := (· == c)) (l := l.reverse)) b hb
    simpa using this
  unfold Lib.trimRightB
  rw [← h3]
  exact h2
theorem hexF_zeros (n k : Nat) : hexF n (List.replicate k 48) = n * 16 ^ k := by
  induction k generalizing n with
  | zero => show n = n * 1; omega
  | succ k ih =>
    rw [List.replicate_succ]
    show hexF (16 * n + hexv 48) (List.replicate k 48) = _
    rw [ih, show hexv 48 = 0 by decide, Nat.pow_succ, Nat.add_zero, Nat.mul_comm 16 n, Nat.mul_assoc, Nat.mul_comm 16]
theorem frF_val {x : Nat} (hx : x < 16 ^ 16) : ∃ k, (frF x).length + k = 16 ∧ hexF 0 (frF x) * 16 ^ k = x ∧ ∀ c ∈ frF x, hexd c = true := by
  have hl := hexL_len 16 x
  obtain ⟨k, hk⟩ := trimR_split (List.replicate (16 - (hexL 16 x).length) 48 ++ hexL 16 x) 48
  have hlen := congrArg List.length hk
  rw [List.length_append, List.length_append, List.length_replicate, List.length_replicate] at hlen
  have hv := congrArg (hexF 0) hk
  rw [hexF_app, hexF_app, hexF_zeros, hexF_zeros, Nat.zero_mul, hexL_val 16 x hx] at hv
  refine ⟨k, ?_, ?_, ?_⟩
  · unfold frF; omega
  · unfold frF; exact hv.symm
  · intro c hc
    have h2 : c ∈ List.replicate (16 - (hexL 16 x).length) 48 ++ hexL 16 x := by rw [hk]; exact List.mem_append_left _ hc
    rw [List.mem_append] at h2
    rcases h2 with h2 | h2
    · rw [(List.mem_replicate.1 h2).2]; decide
    · exact hexL_in _ _ c h2
theorem dv_cong {x y : Int} {a b : Int} (k : Nat) (ha : -4194304 ≤ a) (_ : -4194304 ≤ b) (hab : b = a + k) (h : x = y * ((2 ^ k : Nat) : Int)) : dv x a = dv y b := by
  rw [hab, dv_up k ha, h]
theorem sixteen (k : Nat) : (16 : Nat) ^ k = 2 ^ (4 * k) := by rw [show (16 : Nat) = 2 ^ 4 by decide, ← Nat.pow_mul]
theorem itoa_short {n : Int} (h0 : -3000 ≤ n) (h1 : n ≤ 3000) : (Lib.itoa n).length ≤ 302 := by
  unfold Lib.itoa
  split
  · rw [List.length_cons, Lib.decDigits_length]; have := ndig_le n.natAbs; omega
  · rw [Lib.decDigits_length]; have := ndig_le n.toNat; omega
theorem exF_num {man : Nat} {exp : Int} (h0 : man ≠ 0) (h1 : man < B64) (he : -2000 ≤ exp ∧ exp ≤ 2000) :
    ∃ r ds be ex, exF man exp = 48 :: r ∧ numF (48 :: r) = some (ds, be, ex) ∧ dv (hexF 0 ds : Int) (ex - 4 * ((be : Nat) : Int)) = dv (man : Int) exp ∧ -4194304 ≤ ex - 4 * ((be : Nat) : Int) ∧ r.length ≤ 500 := by
  have hb1 := bitsN_le64 h1
  have hb2 := bitsN_posX h0
  obtain ⟨t, ht⟩ : ∃ t, t = bitsN man - 1 := ⟨_, rfl⟩
  have hlo : 2 ^ t ≤ man := by rw [ht]; exact bitsN_le man h0
  have hhi : man < 2 ^ (t + 1) := by rw [ht, show bitsN man - 1 + 1 = bitsN man by omega]; exact bitsN_lt man
  obtain ⟨y, hy⟩ : ∃ y, y = man * 2 ^ (64 - t) % B64 := ⟨_, rfl⟩
  have hyB : y < 16 ^ 16 := by rw [hy]; exact Nat.mod_lt _ (by decide)
  have hp : 2 ^ t * 2 ^ (64 - t) = B64 := by rw [← Nat.pow_add, show t + (64 - t) = 64 by omega]; rfl
  have hy2 : B64 + y = man * 2 ^ (64 - t) := by
    have a1 : B64 ≤ man * 2 ^ (64 - t) := by rw [← hp]; exact Nat.mul_le_mul_right _ hlo
    have a2 : man * 2 ^ (64 - t) < B64 + B64 := by
      rw [show B64 + B64 = 2 ^ (t + 1) * 2 ^ (64 - t) by rw [Nat.pow_succ, Nat.mul_assoc, Nat.mul_comm 2, ← Nat.mul_assoc, hp]; omega]
      exact Nat.mul_lt_mul_of_pos_right hhi (Nat.two_pow_pos _)
    rw [hy, Nat.mod_eq_sub_mod a1, Nat.mod_eq_of_lt (by omega)]; omega
  obtain ⟨k, hk1, hk2, hk3⟩ := frF_val hyB
  have hdg : dgF man = frF y := by unfold dgF; rw [← ht, hy]
  obtain ⟨q, hq⟩ : ∃ q, q = frF y := ⟨_, rfl⟩
  rw [← hq] at hk1 hk2 hk3 hdg
  obtain ⟨n, hn⟩ : ∃ n : Int, n = exp + (t : Int) := ⟨_, rfl⟩
  have hE : ExT (sgT n) n := by
    have h := exp_itoa (n := n) (by omega) (by omega)
    unfold sgT
    split
    · exact h.1
    · exact h.2 (by omega)
  have hsl : (sgT n).length ≤ 400 := by
    have h := itoa_short (n := n) (by omega) (by omega)
    unfold sgT
    split <;> (try rw [List.length_cons]) <;> omega
  have hval : dv (hexF 0 (49 :: q) : Int) (n - 4 * ((q.length : Nat) : Int)) = dv (man : Int) exp := by
    have e1 : hexF 0 (49 :: q) * 16 ^ k = man * 2 ^ (64 - t) := by
      show hexF (16 * 0 + hexv 49) q * 16 ^ k = _
      rw [hexF_n, Nat.add_mul, hk2, show 16 * 0 + hexv 49 = 1 by decide, Nat.one_mul, ← Nat.pow_add, hk1, ← hy2]; rfl
    have e2 : (hexF 0 (49 :: q) * 2 ^ (4 * k) : Nat) = man * 2 ^ (64 - t) := by rw [← sixteen]; exact e1
    have c1 : dv (((hexF 0 (49 :: q) * 2 ^ (4 * k) : Nat) : Int)) (n - 64) = dv (hexF 0 (49 :: q) : Int) (n - 4 * ((q.length : Nat) : Int)) :=
      dv_cong (4 * k) (by omega) (by omega) (by omega) (by rw [Int.natCast_mul])
    have c2 : dv (((man * 2 ^ (64 - t) : Nat) : Int)) (n - 64) = dv (man : Int) exp :=
      dv_cong (64 - t) (by omega) (by omega) (by omega) (by rw [Int.natCast_mul])
    rw [← c1, e2, c2]
  by_cases hq0 : q = []
  · refine ⟨120 :: ([49] ++ 112 :: sgT n), [49], 0, n, ?_, ?_, ?_, by omega, ?_⟩
    · unfold exF; rw [if_neg h0, hdg, if_pos hq0, ← ht, hn]; rfl
    · have h := numF_plain (x := 120) (p := 112) (A := [49]) (.inl rfl) (.inl rfl) (by decide) (by decide) hE
      rw [h]; rfl
    · rw [hq0] at hval; exact hval
    · simp only [List.length_cons, List.length_append, List.length_nil]; omega
  · refine ⟨120 :: ([49] ++ 46 :: (q ++ 112 :: sgT n)), 49 :: q, q.length, n, ?_, ?_, hval, by omega, ?_⟩
    · unfold exF; rw [if_neg h0, hdg, if_neg hq0, ← ht, hn]; simp
    · have h := numF_point (x := 120) (p := 112) (A := [49]) (B := q) (.inl rfl) (.inl rfl) (by decide) hk3 (by simp) hE
      rw [h]; rfl
    · simp only [List.length_cons, List.length_append, List.length_nil]; omega
theorem vs_dv {H z : Nat} {le : Int} (hl : -4194303 ≤ le) : dv ((z - (z / H - 1) * H : Nat) : Int) (le + ((z / H - 1 : Nat) : Int)) = dv (vs H z : Int) le := by
  rw [dv_up _ (by omega)]
  unfold vs
  rw [Int.natCast_mul]
theorem back_ok {f p m le : Int} {S I H sd Q : Nat} {Be : Int} (h : Hf f p m le S I H sd Be Q) {b : Nat} (hb : b < 2 * S) :
    (I < b % S ∧ printF le H S I b = [110, 97, 110] ∧ parseF le sd Be S I Q [110, 97, 110] = (Q, 0)) ∨ (b % S ≤ I ∧ parseF le sd Be S I Q (printF le H S I b) = (b, 0)) := by
  have hlt := h.j.jm.pm.fm.lt
  by_cases hn : I < b % S
  · exact .inl ⟨hn, if_pos hn, parseF_nan (by decide) rfl⟩
  right
  refine ⟨by omega, ?_⟩
  obtain ⟨z, hz⟩ : ∃ z, z = b % S := ⟨_, rfl⟩
  obtain ⟨neg, hneg⟩ : ∃ neg, neg = decide (S ≤ b) := ⟨_, rfl⟩
  have hbz : sgq S neg z = b := by
    unfold sgq
    by_cases hs : S ≤ b
    · rw [hneg, decide_eq_true hs, if_pos rfl, hz, Nat.mod_eq_sub_mod hs, Nat.mod_eq_of_lt (by omega)]; omega
    · rw [hneg, decide_eq_false hs, if_neg (by decide), hz, Nat.mod_eq_of_lt (by omega)]
  have hsg : (if S ≤ b then [45] else [] : List UInt8) = if neg then [45] else [] := by rw [hneg]; by_cases hs : S ≤ b <;> simp [hs]
  rw [← hz] at hn
  unfold printF
  rw [← hz, if_neg hn, hsg]
  by_cases hi : z = I
  · rw [if_pos hi]
    cases neg
    · rw [parseF_inf (by decide) (by decide) (by decide +kernel), ← hbz, hi]; rfl
    · rw [parseF_inf (by decide) (by decide) (by decide +kernel), ← hbz, hi]; rfl
  rw [if_neg hi]
  have hst := h.j.jm.pm.st z (by omega)
  have hlo := h.j.jm.pm.lo
  have hle := h.j.jm.pm.fm.le
  obtain ⟨mn, hmn⟩ : ∃ mn, mn = z - (z / H - 1) * H := ⟨_, rfl⟩
  obtain ⟨ex, hex⟩ : ∃ ex : Int, ex = le + ((z / H - 1 : Nat) : Int) := ⟨_, rfl⟩
  have hv := vs_dv (H := H) (z := z) (le := le) (by omega)
  rw [← hmn, ← hex] at hv ⊢
  have hmB : mn < B64 := Nat.lt_of_le_of_lt (by rw [hmn]; exact Nat.sub_le _ _) (Nat.lt_of_lt_of_le (by omega : z < S) (Nat.le_trans hle (by decide)))
  have hex2 : -2000 ≤ ex ∧ ex ≤ 2000 := ⟨by omega, by omega⟩
  have hRZ : RNz H le I (dv (vs H z : Int) le) z := RNz.exact h.j.jm.pm.hp (by omega) (by omega)
  by_cases hm0 : mn = 0
  · have hE0 : exF mn ex = [48, 120, 48, 112, 43, 48] := by unfold exF; rw [if_pos hm0]
    have hnum : numF [48, 120, 48, 112, 43, 48] = some ([], 0, 0) := by decide +kernel
    rw [hE0, parseF_of (neg := neg) (r := [48, 120, 48, 112, 43, 48]) (by cases neg <;> decide) (minus_s neg _) hnum]
    have hr : rnp le sd Be S I (hexF 0 [] : Int) (0 - 4 * ((0 : Nat) : Int)) = z := by
      refine rnp_eq h.j (by decide) (by decide) ?_
      rw [hm0] at hv
      rw [← hv] at hRZ
      have e1 : dv ((0 : Nat) : Int) ex = dv ((hexF 0 [] : Nat) : Int) (0 - 4 * ((0 : Nat) : Int)) := by
        show 0 * _ = 0 * _
        rw [Int.zero_mul, Int.zero_mul]
      rwa [e1] at hRZ
    rw [hr, hbz]
  · obtain ⟨r, ds, be, en, h1, h2, h3, h4, h5⟩ := exF_num hm0 hmB hex2
    rw [h1, parseF_of (neg := neg) (r := 48 :: r) (by cases neg <;> simp only [if_true, if_false, List.length_append, List.length_cons, List.length_nil, Bool.false_eq_true] <;> omega) (minus_s neg _) h2]
    have hr : rnp le sd Be S I (hexF 0 ds : Int) (en - 4 * ((be : Nat) : Int)) = z := by
      refine rnp_eq h.j (Int.natCast_nonneg _) h4 ?_
      rwa [h3, hv]
    rw [hr, hbz]
theorem clsof_bd {f : Int} {b : Nat} {er : Int} (hB : Bad f b er) (he : er ≠ 0) (w : World) :
    Calls Tryz.prog 13 #[.int .i64 f, U b] w fun en w' => en = .returned (.tuple #[.int .i64 0, .int .i64 er]) ∧ Below w.heap.size w w' := by
  have hbw : Below w.heap.size w w := Below.refl _ _
  have HB : Hid (Bad f b er) := hB
  have e1 : (er == 0) = false := by simp [he]
  have e2 : (er != 0) = true := by simp [he]
  clear hB he
  go_enter Tryz.func13, Tryz.ntmps13
  go_wp2_with fail
  refine (HB.out _).mono ?_
  rintro e v1 ⟨rfl, hb1⟩
  replace hbw := Below.on hbw hb1
  clear hb1
  go_wp2_with fail
  go_ret2
  exact ⟨rfl, Below.on hbw (below1 _ _)⟩
theorem print_bad {f : Int} {b : Nat} {er : Int} (hB : Bad f b er) (he : er ≠ 0) (w : World) :
    Calls Tryz.prog 11 #[.int .i64 f, U b] w fun en w' => en = .returned (.tuple #[.string ⟨#[]⟩, .int .i64 er]) ∧ Below w.heap.size w w' := by
  have HB : Hid (Bad f b er ∧ er ≠ 0) := ⟨hB, he⟩
  have e1 : (er == 0) = false := by simp [he]
  have e2 : (er != 0) = true := by simp [he]
  clear hB he
  go_enter Tryz.func11, Tryz.ntmps11
  go_wp2_with fail
  refine (clsof_bd HB.out.1 HB.out.2 _).mono ?_
  rintro e w2 ⟨rfl, hb2⟩
  have HB2 : Hid (Below w.heap.size w w2) := hb2
  clear hb2
  go_wp2_with fail
  go_ret2
  exact ⟨rfl, HB2.out⟩
theorem hexfloatBack_e {f : Int} {b : Nat} {er : Int} (hB : Bad f b er) (he : er ≠ 0) (hx : (f ≠ 32 ∧ f ≠ 64) ∨ (f = 32 ∧ 4294967296 ≤ b)) {w : World} (hw : Wd w) :
    Calls Tryz.prog 3 #[.int .i64 f, U b] w fun en w' => en = .returned (.bool true) ∧ Below w.heap.size w w' := by
  have HB : Hid (Bad f b er ∧ er ≠ 0) := ⟨hB, he⟩
  have HW : Hid (Wd w) := hw
  have e1 : (er == 0) = false := by simp [he]
  have e2 : (er != 0) = true := by simp [he]
  clear hB he hw
  go_enter Tryz.func3, Tryz.ntmps3
  go_wp2_with fail
  refine (awake10 HW.out).mono ?_
  rintro e w1 ⟨rfl, hb1⟩
  have HB1 : Hid (Below w.heap.size w w1) := hb1
  clear hb1
  go_wp2_with fail
  rcases hx with ⟨h1, h2⟩ | ⟨rfl, h1⟩
  · refine (formats_no h1 h2 _).mono ?_
    rintro e w2 ⟨rfl, rfl⟩
    go_wp2_with fail
    refine (print_bad HB.out.1 HB.out.2 _).mono ?_
    rintro e w3 ⟨rfl, hb3⟩
    have HB3 : Hid (Below w.heap.size w w3) := Below.on HB1.out hb3
    clear hb3
    go_wp2_with fail
    go_ret
    exact ⟨rfl, HB3.out⟩
  · refine (formats_yes (.inl rfl) _).mono ?_
    rintro e w2 ⟨rfl, rfl⟩
    have h2 : (4294967296 : Int) ≤ (b : Int) := by omega
    go_wp2_with fail
    refine (print_bad HB.out.1 HB.out.2 _).mono ?_
    rintro e w3 ⟨rfl, hb3⟩
    have HB3 : Hid (Below w.heap.size w w3) := Below.on HB1.out hb3
    clear hb3
    go_wp2_with fail
    go_ret
    exact ⟨rfl, HB3.out⟩
theorem hexfloatBack_32 {b : Nat} (hb : b < 2 * 2147483648) {w : World} (hw : Wd w) :
    Calls Tryz.prog 3 #[.int .i64 32, U b] w fun en w' => en = .returned (.bool true) ∧ Below w.heap.size w w' := by
  have HX : Hid (b < 2 * 2147483648) := hb
  have HW : Hid (Wd w) := hw
  clear hb hw
  go_enter Tryz.func3, Tryz.ntmps3
  go_wp2_with fail
  refine (awake10 HW.out).mono ?_
  rintro e w1 ⟨rfl, hb1⟩
  have HB1 : Hid (Below w.heap.size w w1) := hb1
  clear hb1
  go_wp2_with fail
  refine (formats_yes (.inl rfl) _).mono ?_
  rintro e w2 ⟨rfl, rfl⟩
  have h2 : decide ((4294967296 : Int) ≤ (b : Int)) = false := decide_eq_false (by have := HX.out; omega)
  go_wp2_with fail
  obtain ⟨t, ht⟩ : ∃ t, printF (-149) 8388608 2147483648 2139095040 b = t := ⟨_, rfl⟩
  refine (hf_32.print HX.out (HW.out.below HB1.out) ht).mono ?_
  rintro e w3 ⟨rfl, hb3⟩
  have HB3 : Hid (Below w.heap.size w w3) := Below.on HB1.out hb3
  have HK := hm9 (back_ok hf_32 HX.out)
  rw [ht] at HK
  clear hb3 ht HB1
  go_wp2_with fail
  obtain ⟨c, g, hp, hc⟩ : ∃ c : Nat, ∃ g : Int, parseF (-149) 23 128 2147483648 2139095040 2143289345 t = (c, g) ∧ g = 0 ∧ ((2139095040 < b % 2147483648 ∧ t = [110, 97, 110] ∧ c = 2143289345) ∨ (b % 2147483648 ≤ 2139095040 ∧ c = b)) := by
    rcases HK.out with ⟨h1, h2, h3⟩ | ⟨h1, h2⟩
    · exact ⟨_, _, h2 ▸ h3, rfl, .inl ⟨h1, h2, rfl⟩⟩
    · exact ⟨_, _, h2, rfl, .inr ⟨h1, rfl⟩⟩
  obtain ⟨rfl, hc⟩ := hc
  have HC := hm9 hc
  clear hc HK
  refine (hf_32.parse t (HW.out.below HB3.out) hp).mono ?_
  rintro e w4 ⟨rfl, hb4⟩
  have HB4 : Hid (Below w.heap.size w w4) := Below.on HB3.out hb4
  clear hb4 hp HB3
  go_wp2_with fail
  refine (hf_32.j.cl b _ HX.out).mono ?_
  rintro e w5 ⟨rfl, hb5⟩
  have HB5 : Hid (Below w.heap.size w w5) := Below.on HB4.out hb5
  clear hb5 HB4
  obtain ⟨z, hz⟩ : ∃ z, z = b % 2147483648 := ⟨_, rfl⟩
  rw [← hz]
  rw [← hz] at HC
  obtain ⟨d, hd⟩ : ∃ d, d = clsN 8388608 2139095040 z := ⟨_, rfl⟩
  have HD : Hid (d = 4 ↔ 2139095040 < z) := by rw [hd]; exact (cls4 (by decide) (by decide)).1
  rw [← hd]
  clear hz hd
  go_wp2_with fail
  refine (quiet_32 _).mono ?_
  rintro e w6 ⟨rfl, hb6⟩
  have HB6 : Hid (Below w.heap.size w w6) := Below.on HB5.out hb6
  clear hb6 HB5
  rcases HC.out with ⟨h1, rfl, rfl⟩ | ⟨h1, rfl⟩
  · obtain rfl := HD.out.2 h1
    have hs1 : ((bs [110, 97, 110]).toList == [110, 97, 110]) = true := by rw [bs_eqL]; exact decide_eq_true rfl
    clear h1 HC HD
    go_wp2_with fail
    go_ret
    exact ⟨rfl, HB6.out⟩
  · have hd4 : ¬ d = 4 := fun h => by have := HD.out.1 h; omega
    have hd5 : (d == 4) = false := by simpa using hd4
    clear h1 HC HD
    go_wp2_with fail
    go_ret
    exact ⟨rfl, HB6.out⟩
theorem hexfloatBack_64 {b : Nat} (hb : b < 2 * 9223372036854775808) {w : World} (hw : Wd w) :
    Calls Tryz.prog 3 #[.int .i64 64, U b] w fun en w' => en = .returned (.bool true) ∧ Below w.heap.size w w' := by
  have HX : Hid (b < 2 * 9223372036854775808) := hb
  have HW : Hid (Wd w) := hw
  clear hb hw
  go_enter Tryz.func3, Tryz.ntmps3
  go_wp2_with fail
  refine (awake10 HW.out).mono ?_
  rintro e w1 ⟨rfl, hb1⟩
  have HB1 : Hid (Below w.heap.size w w1) := hb1
  clear hb1
  go_wp2_with fail
  refine (formats_yes (.inr rfl) _).mono ?_
  rintro e w2 ⟨rfl, rfl⟩
  go_wp2_with fail
  obtain ⟨t, ht⟩ : ∃ t, printF (-1074) 4503599627370496 9223372036854775808 9218868437227405312 b = t := ⟨_, rfl⟩
  refine (hf_64.print HX.out (HW.out.below HB1.out) ht).mono ?_
  rintro e w3 ⟨rfl, hb3⟩
  have HB3 : Hid (Below w.heap.size w w3) := Below.on HB1.out hb3
  have HK := hm9 (back_ok hf_64 HX.out)
  rw [ht] at HK
  clear hb3 ht HB1
  go_wp2_with fail
  obtain ⟨c, g, hp, hc⟩ : ∃ c : Nat, ∃ g : Int, parseF (-1074) 52 1024 9223372036854775808 9218868437227405312 9221120237041090561 t = (c, g) ∧ g = 0 ∧ ((9218868437227405312 < b % 9223372036854775808 ∧ t = [110, 97, 110] ∧ c = 9221120237041090561) ∨ (b % 9223372036854775808 ≤ 9218868437227405312 ∧ c = b)) := by
    rcases HK.out with ⟨h1, h2, h3⟩ | ⟨h1, h2⟩
    · exact ⟨_, _, h2 ▸ h3, rfl, .inl ⟨h1, h2, rfl⟩⟩
    · exact ⟨_, _, h2, rfl, .inr ⟨h1, rfl⟩⟩
  obtain ⟨rfl, hc⟩ := hc
  have HC := hm9 hc
  clear hc HK
  refine (hf_64.parse t (HW.out.below HB3.out) hp).mono ?_
  rintro e w4 ⟨rfl, hb4⟩
  have HB4 : Hid (Below w.heap.size w w4) := Below.on HB3.out hb4
  clear hb4 hp HB3
  go_wp2_with fail
  refine (hf_64.j.cl b _ HX.out).mono ?_
  rintro e w5 ⟨rfl, hb5⟩
  have HB5 : Hid (Below w.heap.size w w5) := Below.on HB4.out hb5
  clear hb5 HB4
  obtain ⟨z, hz⟩ : ∃ z, z = b % 9223372036854775808 := ⟨_, rfl⟩
  rw [← hz]
  rw [← hz] at HC
  obtain ⟨d, hd⟩ : ∃ d, d = clsN 4503599627370496 9218868437227405312 z := ⟨_, rfl⟩
  have HD : Hid (d = 4 ↔ 9218868437227405312 < z) := by rw [hd]; exact (cls4 (by decide) (by decide)).1
  rw [← hd]
  clear hz hd
  go_wp2_with fail
  refine (quiet_64 _).mono ?_
  rintro e w6 ⟨rfl, hb6⟩
  have HB6 : Hid (Below w.heap.size w w6) := Below.on HB5.out hb6
  clear hb6 HB5
  rcases HC.out with ⟨h1, rfl, rfl⟩ | ⟨h1, rfl⟩
  · obtain rfl := HD.out.2 h1
    have hs1 : ((bs [110, 97, 110]).toList == [110, 97, 110]) = true := by rw [bs_eqL]; exact decide_eq_true rfl
    clear h1 HC HD
    go_wp2_with fail
    go_ret
    exact ⟨rfl, HB6.out⟩
  · have hd4 : ¬ d = 4 := fun h => by have := HD.out.1 h; omega
    have hd5 : (d == 4) = false := by simpa using hd4
    clear h1 HC HD
    go_wp2_with fail
    go_ret
    exact ⟨rfl, HB6.out⟩
theorem hexfloatBack_w {f : Int} {b : Nat} {w : World} (hb : b < B64) (hw : Wd w) : Calls Tryz.prog 3 #[.int .i64 f, U b] w fun en w' => en = .returned (.bool true) ∧ Below w.heap.size w w' := by
  by_cases h1 : f = 32
  · subst h1
    rcases Nat.lt_or_ge b 4294967296 with h | h
    · exact hexfloatBack_32 h hw
    · exact hexfloatBack_e (fun w => patternOf_32_big b hb h w) (by decide) (.inr ⟨rfl, h⟩) hw
  by_cases h2 : f = 64
  · subst h2; exact hexfloatBack_64 hb hw
  · exact hexfloatBack_e (fun w => patternOf_x f h1 h2 b w) (by decide) (.inl ⟨h1, h2⟩) hw
def hxT (x : Nat) (e : Int) : List UInt8 := [48, 120] ++ hexL 16 x ++ 112 :: Lib.itoa e
theorem hxT_num {x : Nat} (hx : x < B64) {e : Int} (he : -100000 ≤ e ∧ e ≤ 100000) : ∃ r ds, hxT x e = 48 :: r ∧ numF (48 :: r) = some (ds, 0, e) ∧ hexF 0 ds = x := by
  refine ⟨120 :: (hexL 16 x ++ 112 :: Lib.itoa e), _, rfl, numF_plain (.inl rfl) (.inl rfl) (hexL_in 16 x) (fun h => ?_) (exp_itoa he.1 he.2).1, ?_⟩
  · have := hexL_ne (f := 16) (by decide) x
    rw [h] at this
    exact absurd this (by decide)
  · rw [hexF_trim, hexL_val 16 x hx]
theorem itoa_sh {n : Int} (h0 : -40000 ≤ n) (h1 : n ≤ 40000) : (Lib.itoa n).length ≤ 3 + 4000 / 4 := by
  have hu : ∀ u : Nat, u ≤ 40000 → Lib.nDigits u ≤ 6 := by
    intro u hu
    by_cases a1 : u < 10
    · rw [Lib.nDigits_small a1]; omega
    rw [Lib.nDigits_big a1]
    by_cases a2 : u / 10 < 10
    · rw [Lib.nDigits_small a2]; omega
    rw [Lib.nDigits_big a2]
    by_cases a3 : u / 10 / 10 < 10
    · rw [Lib.nDigits_small a3]; omega
    rw [Lib.nDigits_big a3]
    by_cases a4 : u / 10 / 10 / 10 < 10
    · rw [Lib.nDigits_small a4]; omega
    rw [Lib.nDigits_big a4, Lib.nDigits_small (by omega)]; omega
  unfold Lib.itoa
  split
  · rw [List.length_cons, Lib.decDigits_length]; have := hu n.natAbs (by omega); omega
  · rw [Lib.decDigits_length]; have := hu n.toNat (by omega); omega
theorem hxT_len {x : Nat} {e : Int} (he : -40000 ≤ e ∧ e ≤ 40000) : (hxT x e).length ≤ 2000 := by
  have h1 := hexL_len 16 x
  have h2 := itoa_sh he.1 he.2
  unfold hxT
  simp only [List.length_append, List.length_cons, List.length_nil]
  omega
theorem hxT_parse {le : Int} {sd : Nat} {Be : Int} {S I Q : Nat} {x : Nat} (hx : x < B64) {e : Int} (he : -40000 ≤ e ∧ e ≤ 40000) (neg : Bool) :
    parseF le sd Be S I Q ((if neg then [45] else []) ++ hxT x e) = (sgq S neg (rnp le sd Be S I (x : Int) e), 0) := by
  obtain ⟨r, ds, h1, h2, h3⟩ := hxT_num hx (e := e) ⟨by omega, by omega⟩
  have hl := hxT_len (x := x) he
  rw [h1] at hl ⊢
  rw [parseF_of (neg := neg) (r := 48 :: r) (by cases neg <;> simp only [if_true, if_false, List.length_append, List.length_cons, List.length_nil, Bool.false_eq_true] at hl ⊢ <;> omega) (minus_s neg _) h2, h3]
  simp
theorem hxT_plain {le : Int} {sd : Nat} {Be : Int} {S I Q : Nat} {x : Nat} (hx : x < B64) {e : Int} (he : -40000 ≤ e ∧ e ≤ 40000) :
    parseF le sd Be S I Q (hxT x e) = (rnp le sd Be S I (x : Int) e, 0) := hxT_parse hx he false
theorem order_ok {f p m l : Int} {S I H sd : Nat} {Be : Int} (J : Jn f p m l S I H sd Be) {x y : Nat} {e : Int} (k : Nat) (he : -40000 ≤ e) (hxy : x ≤ y) :
    rnp l sd Be S I (x : Int) e ≤ rnp l sd Be S I (y : Int) e ∧ rnp l sd Be S I (x : Int) e ≤ rnp l sd Be S I (x : Int) (e + k) := by
  refine ⟨rnp_mono J (by omega) (by omega) (by omega) (by omega) (dv_le e (by omega)), rnp_mono J (by omega) (by omega) (by omega) (by omega) ?_⟩
  rw [dv_up k (by omega)]
  refine dv_le e ?_
  have h1 : (1 : Int) ≤ ((2 ^ k : Nat) : Int) := by have := Nat.two_pow_pos k; omega
  have h2 := Int.mul_le_mul_of_nonneg_left h1 (show (0 : Int) ≤ (x : Int) by omega)
  omega
theorem hexfloatOrder_x {f : Int} (h1 : f ≠ 32) (h2 : f ≠ 64) (a b : Nat) (e : Int) (k : Nat) {w : World} (hw : Wd w) :
    Calls Tryz.prog 5 #[.int .i64 f, U a, U b, .int .i16 e, .int .u8 (k : Int)] w fun en w' => en = .returned (.bool true) ∧ Below w.heap.size w w' := by
  have HF : Hid (f ≠ 32 ∧ f ≠ 64) := ⟨h1, h2⟩
  have HW : Hid (Wd w) := hw
  clear h1 h2 hw
  go_enter Tryz.func5, Tryz.ntmps5
  go_wp2_with fail
  refine (awake10 HW.out).mono ?_
  rintro e w1 ⟨rfl, hb1⟩
  have HB : Hid (Below w.heap.size w w1) := hb1
  clear hb1
  go_wp2_with fail
  refine (formats_no HF.out.1 HF.out.2 _).mono ?_
  rintro e w2 ⟨rfl, rfl⟩
  go_wp2_with fail
  go_ret
  exact ⟨rfl, HB.out⟩
theorem hexfloatOrder_i {f p m le : Int} {S I H sd Q : Nat} {Be : Int} (h : Hf f p m le S I H sd Be Q) (hf : f = 32 ∨ f = 64) {a b : Nat} {e : Int} {k : Nat} (ha : a < B64) (hb : b < B64) (he : -32768 ≤ e ∧ e ≤ 32767) (hk : k ≤ 255) {w : World} (hw : Wd w) :
    Calls Tryz.prog 5 #[.int .i64 f, U a, U b, .int .i16 e, .int .u8 (k : Int)] w fun en w' => en = .returned (.bool true) ∧ Below w.heap.size w w' := by
  have HF : Hid (Hf f p m le S I H sd Be Q ∧ (f = 32 ∨ f = 64)) := ⟨h, hf⟩
  have HW : Hid (Wd w) := hw
  have HX : Hid (a < B64 ∧ b < B64 ∧ (-32768 ≤ e ∧ e ≤ 32767) ∧ k ≤ 255) := ⟨ha, hb, he, hk⟩
  clear h hf hw ha hb he hk
  go_enter Tryz.func5, Tryz.ntmps5
  go_wp2_with fail
  refine (awake10 HW.out).mono ?_
  rintro en w1 ⟨rfl, hb1⟩
  have HB : Hid (Below w.heap.size w w1) := hb1
  clear hb1
  go_wp2_with fail
  refine (formats_yes HF.out.2 _).mono ?_
  rintro en w2 ⟨rfl, rfl⟩
  have hwe : wrap64 e = e := by have := HX.out; simp only [wrap64]; omega
  go_wp2_with fail
  refine (itoa_c e (by have := HX.out; omega) (by have := HX.out; omega) _ (HW.out.below HB.out).p).mono ?_
  rintro en v1 ⟨rfl, hb1⟩
  have HB1 : Hid (Below w.heap.size w v1) := Below.on HB.out hb1
  obtain ⟨E, hE⟩ : ∃ E, E = Lib.itoa e := ⟨_, rfl⟩
  have HE : Hid (E = Lib.itoa e ∧ E.length ≤ 1003) := ⟨hE, by rw [hE]; exact itoa_sh (by have := HX.out; omega) (by have := HX.out; omega)⟩
  rw [← hE]
  clear hE hb1 hwe
  have hc1 : ∀ W, (Op.stringOp .add ⟨#[112]⟩ (bs E)).run Tryz.prog W = .ok (.string (bs ([112] ++ E))) W := fun W => cat_run [112] E W (by have h1 : [(112 : UInt8)].length = 1 := rfl; have := HE.out; omega)
  have hb1 : ¬ ((⟨#[112]⟩ : ByteArray).size + ((bs E) : ByteArray).size > 9223372036854775807) := by show ¬ ((bs [112]).size + (bs E).size > _); rw [bs_size, bs_size]; have h1 : [(112 : UInt8)].length = 1 := rfl; have := HE.out; omega
  go_wp2_with fail
  obtain ⟨x, hx⟩ : ∃ x, x = min a b := ⟨_, rfl⟩
  obtain ⟨y, hy⟩ : ∃ y, y = max a b := ⟨_, rfl⟩
  have HXY : Hid (x ≤ y ∧ x < B64 ∧ y < B64) := by have := HX.out; exact ⟨by omega, by omega, by omega⟩
  have hmn : min (a : Int) (b : Int) = (x : Int) := by omega
  have hmx : max (a : Int) (b : Int) = (y : Int) := by omega
  rw [hmn]
  clear hx hy
  refine (fmt16 HXY.out.2.1 (HW.out.below HB1.out).t).mono ?_
  rintro en vxa ⟨rfl, hb⟩
  have HBxa : Hid (Below w.heap.size w vxa) := Below.on HB1.out hb
  obtain ⟨Dx, hD⟩ : ∃ D, D = hexL 16 x := ⟨_, rfl⟩
  have HDx : Hid (Dx = hexL 16 x ∧ Dx.length ≤ 16) := ⟨hD, by rw [hD]; exact hexL_len 16 _⟩
  rw [← hD]
  clear hD hb
  have hc2 : ∀ W, (Op.stringOp .add ⟨#[48, 120]⟩ (bs Dx)).run Tryz.prog W = .ok (.string (bs ([48, 120] ++ Dx))) W := fun W => cat_run [48, 120] Dx W (by have h1 : [(48 : UInt8), 120].length = 2 := rfl; have := HDx.out; omega)
  have hb2 : ¬ ((⟨#[48, 120]⟩ : ByteArray).size + ((bs Dx) : ByteArray).size > 9223372036854775807) := by show ¬ ((bs [48, 120]).size + (bs Dx).size > _); rw [bs_size, bs_size]; have h1 : [(48 : UInt8), 120].length = 2 := rfl; have := HDx.out; omega
  have hc3 : ∀ W, (Op.stringOp .add (bs (48 :: 120 :: Dx)) (bs (112 :: E))).run Tryz.prog W = .ok (.string (bs ((48 :: 120 :: Dx) ++ (112 :: E)))) W := fun W => cat_run (48 :: 120 :: Dx) (112 :: E) W (by have := HDx.out; have := HE.out; simp only [List.length_cons]; omega)
  have hb3 : ¬ (((bs (48 :: 120 :: Dx)) : ByteArray).size + ((bs (112 :: E)) : ByteArray).size > 9223372036854775807) := by show ¬ ((bs (48 :: 120 :: Dx)).size + (bs (112 :: E)).size > _); rw [bs_size, bs_size]; have := HDx.out; have := HE.out; simp only [List.length_cons]; omega
  go_wp2_with fail
  have hpx : parseF le sd Be S I Q (48 :: 120 :: (Dx ++ 112 :: E)) = (rnp le sd Be S I (x : Int) e, 0) := by have h := hxT_plain (le := le) (sd := sd) (Be := Be) (S := S) (I := I) (Q := Q) (x := x) (e := e) HXY.out.2.1 (by have := HX.out; omega); unfold hxT at h; rw [← HDx.out.1, ← HE.out.1] at h; exact h
  obtain ⟨X, hX⟩ : ∃ X, X = rnp le sd Be S I (x : Int) e := ⟨_, rfl⟩
  rw [← hX] at hpx
  have HXX := hm9 hX
  clear hX hc2 hc3 hb2 hb3
  refine (HF.out.1.parse _ (HW.out.below HBxa.out) hpx).mono ?_
  rintro en v3 ⟨rfl, hb⟩
  have HB3 : Hid (Below w.heap.size w v3) := Below.on HBxa.out hb
  clear hb hpx
  go_wp2_with fail
  refine (fmt16 HXY.out.2.2 (HW.out.below HB3.out).t).mono ?_
  rintro en vya ⟨rfl, hb⟩
  have HBya : Hid (Below w.heap.size w vya) := Below.on HB3.out hb
  obtain ⟨Dy, hD⟩ : ∃ D, D = hexL 16 y := ⟨_, rfl⟩
  have HDy : Hid (Dy = hexL 16 y ∧ Dy.length ≤ 16) := ⟨hD, by rw [hD]; exact hexL_len 16 _⟩
  rw [← hD]
  clear hD hb
  have hc2 : ∀ W, (Op.stringOp .add ⟨#[48, 120]⟩ (bs Dy)).run Tryz.prog W = .ok (.string (bs ([48, 120] ++ Dy))) W := fun W => cat_run [48, 120] Dy W (by have h1 : [(48 : UInt8), 120].length = 2 := rfl; have := HDy.out; omega)
  have hb2 : ¬ ((⟨#[48, 120]⟩ : ByteArray).size + ((bs Dy) : ByteArray).size > 9223372036854775807) := by show ¬ ((bs [48, 120]).size + (bs Dy).size > _); rw [bs_size, bs_size]; have h1 : [(48 : UInt8), 120].length = 2 := rfl; have := HDy.out; omega
  have hc3 : ∀ W, (Op.stringOp .add (bs (48 :: 120 :: Dy)) (bs (112 :: E))).run Tryz.prog W = .ok (.string (bs ((48 :: 120 :: Dy) ++ (112 :: E)))) W := fun W => cat_run (48 :: 120 :: Dy) (112 :: E) W (by have := HDy.out; have := HE.out; simp only [List.length_cons]; omega)
  have hb3 : ¬ (((bs (48 :: 120 :: Dy)) : ByteArray).size + ((bs (112 :: E)) : ByteArray).size > 9223372036854775807) := by show ¬ ((bs (48 :: 120 :: Dy)).size + (bs (112 :: E)).size > _); rw [bs_size, bs_size]; have := HDy.out; have := HE.out; simp only [List.length_cons]; omega
  go_wp2_with fail
  have hpy : parseF le sd Be S I Q (48 :: 120 :: (Dy ++ 112 :: E)) = (rnp le sd Be S I (y : Int) e, 0) := by have h := hxT_plain (le := le) (sd := sd) (Be := Be) (S := S) (I := I) (Q := Q) (x := y) (e := e) HXY.out.2.2 (by have := HX.out; omega); unfold hxT at h; rw [← HDy.out.1, ← HE.out.1] at h; exact h
  obtain ⟨Y, hY⟩ : ∃ X, X = rnp le sd Be S I (y : Int) e := ⟨_, rfl⟩
  rw [← hY] at hpy
  have HYY := hm9 hY
  clear hY hc2 hc3 hb2 hb3
  refine (HF.out.1.parse _ (HW.out.below HBya.out) hpy).mono ?_
  rintro en v4 ⟨rfl, hb⟩
  have HB4 : Hid (Below w.heap.size w v4) := Below.on HBya.out hb
  clear hb hpy
  go_wp2_with fail
  refine (fmt16 HXY.out.2.1 (HW.out.below HB4.out).t).mono ?_
  rintro en vza ⟨rfl, hb⟩
  have HBza : Hid (Below w.heap.size w vza) := Below.on HB4.out hb
  obtain ⟨Dz, hD⟩ : ∃ D, D = hexL 16 x := ⟨_, rfl⟩
  have HDz : Hid (Dz = hexL 16 x ∧ Dz.length ≤ 16) := ⟨hD, by rw [hD]; exact hexL_len 16 _⟩
  rw [← hD]
  clear hD hb
  have hc2 : ∀ W, (Op.stringOp .add ⟨#[48, 120]⟩ (bs Dz)).run Tryz.prog W = .ok (.string (bs ([48, 120] ++ Dz))) W := fun W => cat_run [48, 120] Dz W (by have h1 : [(48 : UInt8), 120].length = 2 := rfl; have := HDz.out; omega)
  have hb2 : ¬ ((⟨#[48, 120]⟩ : ByteArray).size + ((bs Dz) : ByteArray).size > 9223372036854775807) := by show ¬ ((bs [48, 120]).size + (bs Dz).size > _); rw [bs_size, bs_size]; have h1 : [(48 : UInt8), 120].length = 2 := rfl; have := HDz.out; omega
  have hs2 : wrap64 (wrap64 e + (k : Int)) = e + (k : Int) := by have := HX.out; simp only [wrap64]; omega
  have hc4 : ∀ W, (Op.stringOp .add (bs (48 :: 120 :: Dz)) ⟨#[112]⟩).run Tryz.prog W = .ok (.string (bs ((48 :: 120 :: Dz) ++ [112]))) W := fun W => cat_run (48 :: 120 :: Dz) [112] W (by have h1 : [(112 : UInt8)].length = 1 := rfl; have := HDz.out; simp only [List.length_cons] at h1 ⊢; omega)
  have hb4 : ¬ (((bs (48 :: 120 :: Dz)) : ByteArray).size + (⟨#[112]⟩ : ByteArray).size > 9223372036854775807) := by show ¬ ((bs (48 :: 120 :: Dz)).size + (bs [112]).size > _); rw [bs_size, bs_size]; have h1 : [(112 : UInt8)].length = 1 := rfl; have := HDz.out; simp only [List.length_cons] at h1 ⊢; omega
  go_wp2_with fail
  rw [show wrap64 (wrap64 e + wrap64 (k : Int)) = e + (k : Int) by have := HX.out; simp only [wrap64]; omega]
  refine (itoa_c (e + (k : Int)) (by have := HX.out; omega) (by have := HX.out; omega) _ (HW.out.below HBza.out).p).mono ?_
  rintro en v5 ⟨rfl, hb5⟩
  have HB5 : Hid (Below w.heap.size w v5) := Below.on HBza.out hb5
  obtain ⟨F, hF⟩ : ∃ F, F = Lib.itoa (e + (k : Int)) := ⟨_, rfl⟩
  have HFF : Hid (F = Lib.itoa (e + (k : Int)) ∧ F.length ≤ 1003) := ⟨hF, by rw [hF]; exact itoa_sh (by have := HX.out; omega) (by have := HX.out; omega)⟩
  rw [← hF]
  clear hF hb5 hs2 hc2 hb2 hc4 hb4
  have hc5 : ∀ W, (Op.stringOp .add (bs (48 :: 120 :: (Dz ++ [112]))) (bs F)).run Tryz.prog W = .ok (.string (bs ((48 :: 120 :: (Dz ++ [112])) ++ F))) W := fun W => cat_run (48 :: 120 :: (Dz ++ [112])) F W (by have := HDz.out; have := HFF.out; simp only [List.length_cons, List.length_append, List.length_nil]; omega)
  have hb5 : ¬ (((bs (48 :: 120 :: (Dz ++ [112]))) : ByteArray).size + ((bs F) : ByteArray).size > 9223372036854775807) := by show ¬ ((bs (48 :: 120 :: (Dz ++ [112]))).size + (bs F).size > _); rw [bs_size, bs_size]; have := HDz.out; have := HFF.out; simp only [List.length_cons, List.length_append, List.length_nil]; omega
  have hpz : parseF le sd Be S I Q (48 :: 120 :: (Dz ++ 112 :: F)) = (rnp le sd Be S I (x : Int) (e + (k : Int)), 0) := by have h := hxT_plain (le := le) (sd := sd) (Be := Be) (S := S) (I := I) (Q := Q) (x := x) (e := e + (k : Int)) HXY.out.2.1 (by have := HX.out; omega); unfold hxT at h; rw [← HDz.out.1, ← HFF.out.1] at h; exact h
  have hor := order_ok HF.out.1.j (x := x) (y := y) (e := e) k (by have := HX.out; omega) HXY.out.1
  rw [← HXX.out, ← HYY.out] at hor
  obtain ⟨Z, hZ⟩ : ∃ X, X = rnp le sd Be S I (x : Int) (e + (k : Int)) := ⟨_, rfl⟩
  rw [← hZ] at hpz hor
  clear hZ
  have ho1 : (X : Int) ≤ (Y : Int) := by omega
  have ho2 : (X : Int) ≤ (Z : Int) := by omega
  clear hor
  go_wp2_with fail
  refine (HF.out.1.parse _ (HW.out.below HB5.out) hpz).mono ?_
  rintro en v6 ⟨rfl, hb⟩
  have HB6 : Hid (Below w.heap.size w v6) := Below.on HB5.out hb
  clear hb hpz
  go_wp2_with fail
  go_ret
  exact ⟨rfl, HB6.out⟩
theorem hexfloatOrder_w (f : Int) {a b : Nat} {e : Int} {k : Nat} (ha : a < B64) (hb : b < B64) (he : -32768 ≤ e ∧ e ≤ 32767) (hk : k ≤ 255) {w : World} (hw : Wd w) : Calls Tryz.prog 5 #[.int .i64 f, U a, U b, .int .i16 e, .int .u8 (k : Int)] w fun en w' => en = .returned (.bool true) ∧ Below w.heap.size w w' := by
  by_cases h1 : f = 32
  · subst h1; exact hexfloatOrder_i hf_32 (.inl rfl) ha hb he hk hw
  by_cases h2 : f = 64
  · subst h2; exact hexfloatOrder_i hf_64 (.inr rfl) ha hb he hk hw
  exact hexfloatOrder_x h1 h2 a b e k hw
def JnR (H I : Nat) (l : Int) (man : Nat) (ex : Int) (s : Nat) : Prop := s < I ∧ man * 2 ^ (ex - l).toNat = vs H s * 2 ^ (l - ex).toNat
theorem JnR.uniq {H I : Nat} {l : Int} {man : Nat} {ex : Int} {s t : Nat} (hH : 0 < H) (h : JnR H I l man ex s) (k : JnR H I l man ex t) : s = t := by
  have h1 : vs H s * 2 ^ (l - ex).toNat = vs H t * 2 ^ (l - ex).toNat := h.2.symm.trans k.2
  have h2 : vs H s = vs H t := Nat.eq_of_mul_eq_mul_right (Nat.two_pow_pos _) h1
  rcases Nat.lt_trichotomy s t with h3 | h3 | h3
  · have := vs_mono hH h3; omega
  · exact h3
  · have := vs_mono hH h3; omega
def JA (S H I : Nat) (l : Int) (neg : Bool) (man : Nat) (ex : Int) (r : Nat) (er : Int) : Prop :=
  (er = 0 ∧ ∃ s, JnR H I l man ex s ∧ r = if neg then S + s else s) ∨ (er = 5 ∧ r = 0 ∧ ∀ s, ¬ JnR H I l man ex s)
theorem JA.uniq {S H I : Nat} {l : Int} {neg : Bool} {man : Nat} {ex : Int} {r r' : Nat} {er er' : Int} (hH : 0 < H) (h : JA S H I l neg man ex r er) (k : JA S H I l neg man ex r' er') : r = r' ∧ er = er' := by
  rcases h with ⟨h1, s, h2, h3⟩ | ⟨h1, h2, h3⟩ <;> rcases k with ⟨k1, t, k2, k3⟩ | ⟨k1, k2, k3⟩
  · obtain rfl := h2.uniq hH k2
    exact ⟨h3.trans k3.symm, h1.trans k1.symm⟩
  · exact absurd h2 (k3 s)
  · exact absurd k2 (h3 t)
  · exact ⟨h2.trans k2.symm, h1.trans k1.symm⟩
theorem sz_parts {H : Nat} (hp : 0 < H) (z : Nat) : ∃ q mn, q = z / H - 1 ∧ z = q * H + mn ∧ vs H z = mn * 2 ^ q ∧ mn < 2 * H ∧ (q = 0 ∨ H ≤ mn) := by
  have h1 := Nat.div_add_mod z H
  have h2 := Nat.mod_lt z hp
  rw [Nat.mul_comm] at h1
  refine ⟨z / H - 1, z - (z / H - 1) * H, rfl, ?_⟩
  obtain ⟨q, hq⟩ : ∃ q, q = z / H - 1 := ⟨_, rfl⟩
  have hv : vs H z = (z - q * H) * 2 ^ q := by unfold vs; rw [← hq]
  rw [hv, ← hq]
  by_cases h3 : z / H ≤ 1
  · have hq0 : q = 0 := by omega
    have h4 : z / H * H ≤ 1 * H := Nat.mul_le_mul_right _ h3
    rw [hq0, Nat.zero_mul]
    exact ⟨by omega, rfl, by omega, .inl rfl⟩
  · have h5 : q + 1 = z / H := by omega
    have h6 : q * H + H = z / H * H := by rw [← h5, Nat.add_mul, Nat.one_mul]
    exact ⟨by omega, rfl, by omega, .inr (by omega)⟩
theorem vs_of {H q mn : Nat} (hp : 0 < H) (h2 : mn < 2 * H) (hq : q = 0 ∨ H ≤ mn) : vs H (q * H + mn) = mn * 2 ^ q := by
  have h1 : (q * H + mn) / H - 1 = q := by
    rw [Nat.mul_comm, Nat.mul_add_div hp]
    have : mn / H < 2 := by rw [Nat.div_lt_iff_lt_mul hp]; exact h2
    rcases hq with rfl | h3
    · omega
    · have : 1 ≤ mn / H := (Nat.le_div_iff_mul_le hp).2 (by omega)
      omega
  unfold vs
  rw [h1, Nat.add_sub_cancel_left]
theorem jn_none {H I sd mo t L n : Nat} {l Be ex : Int} (hs : H = 2 ^ sd) (hn : Be = l + sd + n) (hI : I = (n + 1) * H) (h1n : 1 ≤ n) (ho : mo % 2 = 1) (hL : 2 ^ (L - 1) ≤ mo) (hL0 : 1 ≤ L) (h : ex + t < max (ex + t + L - 1 - sd) l ∨ Be ≤ ex + t + L - 1) (s : Nat) : ¬ JnR H I l (mo * 2 ^ t) ex s := by
  rintro ⟨h1, h2⟩
  have hp : 0 < H := by rw [hs]; exact Nat.two_pow_pos _
  obtain ⟨q, mn, -, h3, h4, h5, h6⟩ := sz_parts hp s
  rw [h4, Nat.mul_assoc, Nat.mul_assoc, ← Nat.pow_add, ← Nat.pow_add] at h2
  have h7 : q + (l - ex).toNat ≤ t + (ex - l).toNat := by
    rcases Nat.lt_or_ge (t + (ex - l).toNat) (q + (l - ex).toNat) with e | e
    · exfalso
      obtain ⟨k, hk⟩ : ∃ k, q + (l - ex).toNat = k + 1 + (t + (ex - l).toNat) := ⟨q + (l - ex).toNat - 1 - (t + (ex - l).toNat), by omega⟩
      rw [hk, Nat.pow_add 2 (k + 1), ← Nat.mul_assoc] at h2
      have h8 := Nat.eq_of_mul_eq_mul_right (Nat.two_pow_pos _) h2
      rw [Nat.pow_succ, ← Nat.mul_assoc] at h8
      omega
    · exact e
  obtain ⟨k, hk⟩ : ∃ k, t + (ex - l).toNat = k + (q + (l - ex).toNat) := ⟨t + (ex - l).toNat - (q + (l - ex).toNat), by omega⟩
  rw [hk, Nat.pow_add 2 k, ← Nat.mul_assoc] at h2
  have h8 := Nat.eq_of_mul_eq_mul_right (Nat.two_pow_pos _) h2
  have h9 : 2 ^ (L - 1 + k) < 2 ^ (sd + 1) := by
    rw [Nat.pow_add]
    have := Nat.mul_le_mul_right (2 ^ k) hL
    rw [Nat.pow_succ 2 sd, ← hs]
    omega
  have h10 := (Nat.pow_lt_pow_iff_right (by omega : 1 < 2)).1 h9
  rcases h with h | h
  · omega
  · have h11 : n ≤ q := by omega
    have h12 : H ≤ mn := by
      rcases h6 with h6 | h6
      · omega
      · exact h6
    have h13 : n * H ≤ q * H := Nat.mul_le_mul_right _ h11
    rw [hI, Nat.add_mul, Nat.one_mul] at h1
    omega
theorem jn_some {H I sd mo t L n k q : Nat} {l Be ex : Int} (hs : H = 2 ^ sd) (hn : Be = l + sd + n) (hI : I = (n + 1) * H) (h1n : 1 ≤ n) (h0 : mo < 2 ^ L) (hL : 2 ^ (L - 1) ≤ mo) (hL0 : 1 ≤ L) (hu : l + (q : Int) = max (ex + t + L - 1 - sd) l) (hk : ex + t = l + (q : Int) + (k : Int)) (ht : ex + t + L - 1 < Be) : JnR H I l (mo * 2 ^ t) ex (q * H + mo * 2 ^ k) ∧ mo * 2 ^ k < 2 * H ∧ q + 1 ≤ n := by
  have hp : 0 < H := by rw [hs]; exact Nat.two_pow_pos _
  have h1 : L + k ≤ sd + 1 := by omega
  have h2 : mo * 2 ^ k < 2 * H := by
    have h3 := Nat.mul_lt_mul_of_pos_right h0 (Nat.two_pow_pos k)
    rw [← Nat.pow_add] at h3
    have h4 : 2 ^ (L + k) ≤ 2 ^ (sd + 1) := Nat.pow_le_pow_right (by decide) h1
    rw [Nat.pow_succ 2 sd, ← hs] at h4
    omega
  have h3 : q = 0 ∨ H ≤ mo * 2 ^ k := by
    by_cases hq : q = 0
    · exact .inl hq
    · refine .inr ?_
      have h4 : sd = L - 1 + k := by omega
      rw [hs, h4, Nat.pow_add]
      exact Nat.mul_le_mul_right _ hL
  have h4 : q + 1 ≤ n := by omega
  refine ⟨⟨?_, ?_⟩, h2, h4⟩
  · have : (q + 1) * H ≤ n * H := Nat.mul_le_mul_right _ h4
    rw [hI, Nat.add_mul, Nat.one_mul]
    rw [Nat.add_mul, Nat.one_mul] at this
    omega
  · rw [vs_of hp h2 h3, Nat.mul_assoc, Nat.mul_assoc, Nat.mul_assoc, ← Nat.pow_add, ← Nat.pow_add, ← Nat.pow_add, show t + (ex - l).toNat = k + (q + (l - ex).toNat) by omega]
structure Jsp (man t mo L : Nat) : Prop where
  tz : qTzIs man t
  t6 : t < 64
  ma : mo = man / 2 ^ t
  eq : man = mo * 2 ^ t
  od : mo % 2 = 1
  lb : bl_bitsN mo = L
  l1 : 1 ≤ L
  l6 : L ≤ 64
  lt : mo < 2 ^ L
  le : 2 ^ (L - 1) ≤ mo
  m0 : man ≠ 0
  m9 : man < B64
  o9 : mo < B64
theorem jsp_ex {man : Nat} (h0 : man ≠ 0) (h9 : man < B64) : ∃ t mo L, Jsp man t mo L := by
  obtain ⟨htz, ht64⟩ := qctz_is h0 h9
  obtain ⟨t, ht⟩ : ∃ t, t = Lib.ctz 64 man := ⟨_, rfl⟩
  rw [← ht] at htz ht64
  obtain ⟨mo, hmo⟩ : ∃ mo, mo = man / 2 ^ t := ⟨_, rfl⟩
  have hmt : man = mo * 2 ^ t := by
    have := Nat.div_add_mod man (2 ^ t)
    rw [htz.1, Nat.add_zero, ← hmo, Nat.mul_comm] at this
    exact this.symm
  have hmo0 : mo ≠ 0 := by intro h; rw [h, Nat.zero_mul] at hmt; exact h0 hmt
  have ho9 : mo < B64 := by rw [hmo]; exact Nat.lt_of_le_of_lt (Nat.div_le_self _ _) h9
  have hB1 := bl_bitsN_lt mo
  have hB2 := bl_bitsN_le mo hmo0
  have hLp : 1 ≤ bl_bitsN mo := by unfold bl_bitsN; rw [if_neg hmo0]; omega
  refine ⟨t, mo, bl_bitsN mo, htz, ht64, hmo, hmt, by rw [hmo]; exact htz.2, rfl, hLp, ?_, hB1, hB2, h0, h9, ho9⟩
  have : 2 ^ (bl_bitsN mo - 1) < 2 ^ 64 := by rw [B64_eq] at ho9; exact Nat.lt_of_le_of_lt hB2 ho9
  have := (Nat.pow_lt_pow_iff_right (by omega : 1 < 2)).1 this
  omega
theorem jw {a : Int} (h1 : -100000 ≤ a) (h2 : a ≤ 100000) : IntKind.i64.wrap a = a ∧ wrap64 a = a := ⟨by simp [IntKind.wrap, IntKind.signed, IntKind.bits]; omega, by simp only [wrap64]; omega⟩
theorem jw_z {a : Nat} (h : a ≠ 0) : ((a : Int) == 0) = false := by simp; exact h
theorem jw_u {a : Nat} (h : a < 9007199254740992) : IntKind.u64.wrap (a : Int) = (a : Int) := by rw [IntKind.wrap_u64]; omega
theorem jw_un {ex un l lb ex2 s1 top : Int} {t L sd : Nat} (hB : lb = l - 63 ∧ ex2 = ex + t ∧ s1 = ex2 + L ∧ top = s1 - 1) (hu : un = max (ex + t + L - 1 - sd) l) : max (top - sd) l = un := by
  rw [hB.2.2.2, hB.2.2.1, hB.2.1, hu]
theorem jw_b {f p m l : Int} {S I H sd : Nat} {Be : Int} (J : Jm f p m l S I H sd Be) {man t mo L : Nat} (P : Jsp man t mo L) {ex lb ex2 s1 top : Int} (h1 : l - 63 ≤ ex) (h2 : ex < Be) (hB : lb = l - 63 ∧ ex2 = ex + t ∧ s1 = ex2 + L ∧ top = s1 - 1) :
    (-100000 ≤ l - 63 ∧ l - 63 ≤ 100000) ∧ (-100000 ≤ ex + (t : Int) ∧ ex + (t : Int) ≤ 100000) ∧ (-100000 ≤ ex2 + (L : Int) ∧ ex2 + (L : Int) ≤ 100000) ∧ (-100000 ≤ s1 - 1 ∧ s1 - 1 ≤ 100000) ∧ ¬ ex < lb ∧ -1000000000000 ≤ top ∧ top ≤ 5000 := by
  have hlo := J.pm.lo
  have hbu := J.bu
  have hl6 := P.l6
  have ht6 := P.t6
  clear J P
  omega
theorem jw_k6 {man t mo L k H : Nat} (P : Jsp man t mo L) (hm : mo * 2 ^ k < 2 * H) (h9 : 2 * H ≤ 9007199254740992) : k < 64 := by
  rcases Nat.lt_or_ge k 64 with e | e
  · exact e
  · exfalso
    have h1 : 2 ^ 64 ≤ 2 ^ k := Nat.pow_le_pow_right (by decide) e
    have h2 : 1 * 2 ^ k ≤ mo * 2 ^ k := Nat.mul_le_mul_right _ (by have := P.od; omega)
    have h3 : (2 : Nat) ^ 64 = 18446744073709551616 := by decide
    omega
theorem jw_k {f p m l : Int} {S I H sd : Nat} {Be : Int} (J : Jm f p m l S I H sd Be) {man t mo L : Nat} (P : Jsp man t mo L) {ex lb ex2 s1 top un : Int} {k q : Nat} (_h1 : l - 63 ≤ ex) (h2 : ex < Be) (hB : lb = l - 63 ∧ ex2 = ex + t ∧ s1 = ex2 + L ∧ top = s1 - 1) (hk : ex + t = un + k) (hq : un = l + q) (hq2 : q < 2046 ∧ (q : Int) < Be - l - sd) :
    ¬ ex2 < un ∧ ex2 - un = (k : Int) ∧ -100000 ≤ (k : Int) ∧ (k : Int) ≤ 100000 := by
  have hlo := J.pm.lo
  have hbu := J.bu
  have ht6 := P.t6
  clear J P
  omega
theorem join_lo {f p m l : Int} {S I H sd : Nat} {Be : Int} (J : Jm f p m l S I H sd Be) (neg : Bool) {man : Nat} (h0 : man ≠ 0) (ex : Int) (hx : ex < l - 63) (w : World) :
    Calls Tryz.prog 19 #[.int .i64 f, .bool neg, U man, .int .i64 ex] w fun en w' => en = .returned (.tuple #[.int .u64 0, .int .i64 5]) ∧ Below w.heap.size w w' := by
  have hbw : Below w.heap.size w w := Below.refl _ _
  have HJM : Hid (Jm f p m l S I H sd Be) := J
  have hlo := J.pm.lo
  obtain ⟨lb, hlb⟩ : ∃ e : Int, e = l - 63 := ⟨_, rfl⟩
  have b1 : ((man : Int) == 0) = false := by simp; omega
  have v1 : IntKind.i64.wrap (l - 63) = lb := by rw [hlb]; simp [IntKind.wrap, IntKind.signed, IntKind.bits]; omega
  have v2 : wrap64 (l - 63) = lb := by rw [hlb]; simp only [wrap64]; omega
  have c1 : decide (ex < lb) = true := decide_eq_true (by omega)
  clear J hlo hlb h0 hx
  go_enter Tryz.func19, Tryz.ntmps19
  go_wp2_with fail
  refine (HJM.out.pm.fm.of _).mono ?_
  rintro e v1 ⟨rfl, hb1⟩
  replace hbw := Below.on hbw hb1
  clear hb1
  go_wp2_with fail
  have Xg0 : Hid (B3q (v1.alloc (.cells #[.int .i64 p, .int .i64 m, .int .i64 l] 50)) v1.heap.size (.int .i64 p) (.int .i64 m) (.int .i64 l)) := B3q.new v1 _ _ _ _
  have hbn : Below v1.heap.size v1 (v1.alloc (.cells #[.int .i64 p, .int .i64 m, .int .i64 l] 50)) := below1 v1 _
  generalize v1.alloc (.cells #[.int .i64 p, .int .i64 m, .int .i64 l] 50) = Wg at *
  have HGg : Hid (w.heap.size ≤ v1.heap.size) := hbw.size
  replace hbw := Below.on hbw hbn
  clear hbn
  generalize v1.heap.size = gg at *
  have Xg := Xg0
  clear Xg0
  obtain ⟨cg0, cg1, cg2, fg0, fg1, fg2⟩ := Xg.out
  have hneg : gg < Wg.heap.size := World.block_lt_of_cell? Wg _ cg0
  go_wp2_with fail
  clear cg0 cg1 cg2 fg0 fg1 fg2 hneg
  go_ret2
  exact ⟨rfl, hbw⟩
theorem join_hi {f p m l : Int} {S I H sd : Nat} {Be : Int} (J : Jm f p m l S I H sd Be) (neg : Bool) {man : Nat} (h0 : man ≠ 0) (ex : Int) (hx : l - 63 ≤ ex) (hx2 : Be ≤ ex) (w : World) :
    Calls Tryz.prog 19 #[.int .i64 f, .bool neg, U man, .int .i64 ex] w fun en w' => en = .returned (.tuple #[.int .u64 0, .int .i64 5]) ∧ Below w.heap.size w w' := by
  have hbw : Below w.heap.size w w := Below.refl _ _
  have HJM : Hid (Jm f p m l S I H sd Be) := J
  have hlo := J.pm.lo
  obtain ⟨lb, hlb⟩ : ∃ e : Int, e = l - 63 := ⟨_, rfl⟩
  have b1 : ((man : Int) == 0) = false := by simp; omega
  have v1 : IntKind.i64.wrap (l - 63) = lb := by rw [hlb]; simp [IntKind.wrap, IntKind.signed, IntKind.bits]; omega
  have v2 : wrap64 (l - 63) = lb := by rw [hlb]; simp only [wrap64]; omega
  have c1 : decide (ex < lb) = false := decide_eq_false (by omega)
  have c2 : decide (Be ≤ ex) = true := decide_eq_true hx2
  clear J hlo hlb h0 hx hx2
  go_enter Tryz.func19, Tryz.ntmps19
  go_wp2_with fail
  refine (HJM.out.pm.fm.of _).mono ?_
  rintro e v1 ⟨rfl, hb1⟩
  replace hbw := Below.on hbw hb1
  clear hb1
  go_wp2_with fail
  have Xg0 : Hid (B3q (v1.alloc (.cells #[.int .i64 p, .int .i64 m, .int .i64 l] 50)) v1.heap.size (.int .i64 p) (.int .i64 m) (.int .i64 l)) := B3q.new v1 _ _ _ _
  have hbn : Below v1.heap.size v1 (v1.alloc (.cells #[.int .i64 p, .int .i64 m, .int .i64 l] 50)) := below1 v1 _
  generalize v1.alloc (.cells #[.int .i64 p, .int .i64 m, .int .i64 l] 50) = Wg at *
  have HGg : Hid (w.heap.size ≤ v1.heap.size) := hbw.size
  replace hbw := Below.on hbw hbn
  clear hbn
  generalize v1.heap.size = gg at *
  have Xg := Xg0
  clear Xg0
  refine (HJM.out.be _).mono ?_
  rintro e v2 ⟨rfl, hb2⟩
  replace Xg : Hid _ := Xg.out.below hb2
  replace hbw := Below.on hbw hb2
  clear hb2
  obtain ⟨cg0, cg1, cg2, fg0, fg1, fg2⟩ := Xg.out
  have hneg : gg < v2.heap.size := World.block_lt_of_cell? v2 _ cg0
  go_wp2_with fail
  clear cg0 cg1 cg2 fg0 fg1 fg2 hneg
  go_ret2
  exact ⟨rfl, hbw⟩
theorem join_u {f p m l : Int} {S I H sd : Nat} {Be : Int} (J : Jm f p m l S I H sd Be) (neg : Bool) {man t mo L : Nat} (P : Jsp man t mo L) (ex un : Int) (h1 : l - 63 ≤ ex) (h2 : ex < Be) (hu : un = max (ex + t + L - 1 - sd) l) (h3 : ex + t < un) (w : World) (hT : qTab w) :
    Calls Tryz.prog 19 #[.int .i64 f, .bool neg, U man, .int .i64 ex] w fun en w' => en = .returned (.tuple #[.int .u64 0, .int .i64 5]) ∧ Below w.heap.size w w' := by
  obtain ⟨lb, ex2, s1, top, hB⟩ : ∃ lb ex2 s1 top : Int, lb = l - 63 ∧ ex2 = ex + t ∧ s1 = ex2 + L ∧ top = s1 - 1 := ⟨_, _, _, _, rfl, rfl, rfl, rfl⟩
  have hC := jw_b J P h1 h2 hB
  have hun : max (top - sd) l = un := jw_un hB hu
  have hbw : Below w.heap.size w w := Below.refl _ _
  have HJM : Hid (Jm f p m l S I H sd Be) := J
  have TB : Hid (qTab w) := hT
  have b1 : ((man : Int) == 0) = false := jw_z P.m0
  have v1 : IntKind.i64.wrap (l - 63) = lb := by rw [hB.1]; exact (jw hC.1.1 hC.1.2).1
  have v2 : wrap64 (l - 63) = lb := by rw [hB.1]; exact (jw hC.1.1 hC.1.2).2
  have a1 : (man : Int) / 2 ^ t = (mo : Int) := by rw [P.ma]; simp
  have a2 : IntKind.i64.wrap (ex + (t : Int)) = ex2 := by rw [hB.2.1]; exact (jw hC.2.1.1 hC.2.1.2).1
  have a3 : IntKind.i64.wrap (ex2 + (L : Int)) = s1 := by rw [hB.2.2.1]; exact (jw hC.2.2.1.1 hC.2.2.1.2).1
  have a4 : IntKind.i64.wrap (s1 - 1) = top := by rw [hB.2.2.2]; exact (jw hC.2.2.2.1.1 hC.2.2.2.1.2).1
  have w2 : wrap64 (ex + (t : Int)) = ex2 := by rw [hB.2.1]; exact (jw hC.2.1.1 hC.2.1.2).2
  have w3 : wrap64 (ex2 + (L : Int)) = s1 := by rw [hB.2.2.1]; exact (jw hC.2.2.1.1 hC.2.2.1.2).2
  have w4 : wrap64 (s1 - 1) = top := by rw [hB.2.2.2]; exact (jw hC.2.2.2.1.1 hC.2.2.2.1.2).2
  have ht64 : t < 64 := P.t6
  have c1 : decide (ex < lb) = false := decide_eq_false hC.2.2.2.2.1
  have c2 : decide (Be ≤ ex) = false := decide_eq_false (Int.not_le.2 h2)
  have HTP : Hid (-1000000000000 ≤ top ∧ top ≤ 5000 ∧ max (top - sd) l = un) := ⟨hC.2.2.2.2.2.1, hC.2.2.2.2.2.2, hun⟩
  have HMO : Hid (mo < B64 ∧ bl_bitsN mo = L ∧ man ≠ 0 ∧ man < B64 ∧ qTzIs man t) := ⟨P.o9, P.lb, P.m0, P.m9, P.tz⟩
  have c3 : decide (ex2 < un) = true := decide_eq_true (by rw [hB.2.1]; exact h3)
  clear J hT hB hC hun P h1 h2 hu h3
  go_enter Tryz.func19, Tryz.ntmps19
  go_wp2_with fail
  refine (HJM.out.pm.fm.of _).mono ?_
  rintro e v1 ⟨rfl, hb1⟩
  replace hbw := Below.on hbw hb1
  clear hb1
  go_wp2_with fail
  have Xg0 : Hid (B3q (v1.alloc (.cells #[.int .i64 p, .int .i64 m, .int .i64 l] 50)) v1.heap.size (.int .i64 p) (.int .i64 m) (.int .i64 l)) := B3q.new v1 _ _ _ _
  have hbn : Below v1.heap.size v1 (v1.alloc (.cells #[.int .i64 p, .int .i64 m, .int .i64 l] 50)) := below1 v1 _
  generalize v1.alloc (.cells #[.int .i64 p, .int .i64 m, .int .i64 l] 50) = Wg at *
  have HGg : Hid (w.heap.size ≤ v1.heap.size) := hbw.size
  replace hbw := Below.on hbw hbn
  clear hbn
  generalize v1.heap.size = gg at *
  have Xg := Xg0
  clear Xg0
  refine (HJM.out.be _).mono ?_
  rintro e v2 ⟨rfl, hb2⟩
  replace Xg : Hid _ := Xg.out.below hb2
  replace hbw := Below.on hbw hb2
  clear hb2
  obtain ⟨cg0, cg1, cg2, fg0, fg1, fg2⟩ := Xg.out
  have hneg : gg < v2.heap.size := World.block_lt_of_cell? v2 _ cg0
  go_wp2_with fail
  clear cg0 cg1 cg2 fg0 fg1 fg2 hneg
  refine (qtz_any HMO.out.2.2.1 HMO.out.2.2.2.1 HMO.out.2.2.2.2 (TB.out.below hbw)).mono ?_
  rintro e2 v3 ⟨rfl, hw⟩
  obtain rfl := hw.symm
  clear hw
  obtain ⟨cg0, cg1, cg2, fg0, fg1, fg2⟩ := Xg.out
  have hneg : gg < v2.heap.size := World.block_lt_of_cell? v2 _ cg0
  go_wp2_with fail
  clear cg0 cg1 cg2 fg0 fg1 fg2 hneg
  refine (bl_len_any mo _ HMO.out.1).mono ?_
  rintro e2 v3 ⟨rfl, hw⟩
  obtain rfl := hw.symm
  clear hw
  rw [HMO.out.2.1]
  obtain ⟨cg0, cg1, cg2, fg0, fg1, fg2⟩ := Xg.out
  have hneg : gg < v2.heap.size := World.block_lt_of_cell? v2 _ cg0
  go_wp2_with fail
  clear cg0 cg1 cg2 fg0 fg1 fg2 hneg
  refine (HJM.out.un top _ HTP.out.1 HTP.out.2.1).mono ?_
  rintro e v4 ⟨rfl, hb4⟩
  rw [HTP.out.2.2]
  replace Xg : Hid _ := Xg.out.below hb4
  replace hbw := Below.on hbw hb4
  clear hb4
  obtain ⟨cg0, cg1, cg2, fg0, fg1, fg2⟩ := Xg.out
  have hneg : gg < v4.heap.size := World.block_lt_of_cell? v4 _ cg0
  go_wp2_with fail
  clear cg0 cg1 cg2 fg0 fg1 fg2 hneg
  go_ret2
  exact ⟨rfl, hbw⟩
theorem join_t {f p m l : Int} {S I H sd : Nat} {Be : Int} (J : Jm f p m l S I H sd Be) (neg : Bool) {man t mo L : Nat} (P : Jsp man t mo L) (ex un : Int) (h1 : l - 63 ≤ ex) (h2 : ex < Be) (hu : un = max (ex + t + L - 1 - sd) l) (h3 : un ≤ ex + t) (h4 : Be ≤ ex + t + L - 1) (w : World) (hT : qTab w) :
    Calls Tryz.prog 19 #[.int .i64 f, .bool neg, U man, .int .i64 ex] w fun en w' => en = .returned (.tuple #[.int .u64 0, .int .i64 5]) ∧ Below w.heap.size w w' := by
  obtain ⟨lb, ex2, s1, top, hB⟩ : ∃ lb ex2 s1 top : Int, lb = l - 63 ∧ ex2 = ex + t ∧ s1 = ex2 + L ∧ top = s1 - 1 := ⟨_, _, _, _, rfl, rfl, rfl, rfl⟩
  have hC := jw_b J P h1 h2 hB
  have hun : max (top - sd) l = un := jw_un hB hu
  have hbw : Below w.heap.size w w := Below.refl _ _
  have HJM : Hid (Jm f p m l S I H sd Be) := J
  have TB : Hid (qTab w) := hT
  have b1 : ((man : Int) == 0) = false := jw_z P.m0
  have v1 : IntKind.i64.wrap (l - 63) = lb := by rw [hB.1]; exact (jw hC.1.1 hC.1.2).1
  have v2 : wrap64 (l - 63) = lb := by rw [hB.1]; exact (jw hC.1.1 hC.1.2).2
  have a1 : (man : Int) / 2 ^ t = (mo : Int) := by rw [P.ma]; simp
  have a2 : IntKind.i64.wrap (ex + (t : Int)) = ex2 := by rw [hB.2.1]; exact (jw hC.2.1.1 hC.2.1.2).1
  have a3 : IntKind.i64.wrap (ex2 + (L : Int)) = s1 := by rw [hB.2.2.1]; exact (jw hC.2.2.1.1 hC.2.2.1.2).1
  have a4 : IntKind.i64.wrap (s1 - 1) = top := by rw [hB.2.2.2]; exact (jw hC.2.2.2.1.1 hC.2.2.2.1.2).1
  have w2 : wrap64 (ex + (t : Int)) = ex2 := by rw [hB.2.1]; exact (jw hC.2.1.1 hC.2.1.2).2
  have w3 : wrap64 (ex2 + (L : Int)) = s1 := by rw [hB.2.2.1]; exact (jw hC.2.2.1.1 hC.2.2.1.2).2
  have w4 : wrap64 (s1 - 1) = top := by rw [hB.2.2.2]; exact (jw hC.2.2.2.1.1 hC.2.2.2.1.2).2
  have ht64 : t < 64 := P.t6
  have c1 : decide (ex < lb) = false := decide_eq_false hC.2.2.2.2.1
  have c2 : decide (Be ≤ ex) = false := decide_eq_false (Int.not_le.2 h2)
  have HTP : Hid (-1000000000000 ≤ top ∧ top ≤ 5000 ∧ max (top - sd) l = un) := ⟨hC.2.2.2.2.2.1, hC.2.2.2.2.2.2, hun⟩
  have HMO : Hid (mo < B64 ∧ bl_bitsN mo = L ∧ man ≠ 0 ∧ man < B64 ∧ qTzIs man t) := ⟨P.o9, P.lb, P.m0, P.m9, P.tz⟩
  have c3 : decide (ex2 < un) = false := decide_eq_false (by rw [hB.2.1]; exact Int.not_lt.2 h3)
  have c4 : decide (Be ≤ top) = true := decide_eq_true (by rw [hB.2.2.2, hB.2.2.1, hB.2.1]; exact h4)
  clear J hT hB hC hun P h1 h2 hu h3 h4
  go_enter Tryz.func19, Tryz.ntmps19
  go_wp2_with fail
  refine (HJM.out.pm.fm.of _).mono ?_
  rintro e v1 ⟨rfl, hb1⟩
  replace hbw := Below.on hbw hb1
  clear hb1
  go_wp2_with fail
  have Xg0 : Hid (B3q (v1.alloc (.cells #[.int .i64 p, .int .i64 m, .int .i64 l] 50)) v1.heap.size (.int .i64 p) (.int .i64 m) (.int .i64 l)) := B3q.new v1 _ _ _ _
  have hbn : Below v1.heap.size v1 (v1.alloc (.cells #[.int .i64 p, .int .i64 m, .int .i64 l] 50)) := below1 v1 _
  generalize v1.alloc (.cells #[.int .i64 p, .int .i64 m, .int .i64 l] 50) = Wg at *
  have HGg : Hid (w.heap.size ≤ v1.heap.size) := hbw.size
  replace hbw := Below.on hbw hbn
  clear hbn
  generalize v1.heap.size = gg at *
  have Xg := Xg0
  clear Xg0
  refine (HJM.out.be _).mono ?_
  rintro e v2 ⟨rfl, hb2⟩
  replace Xg : Hid _ := Xg.out.below hb2
  replace hbw := Below.on hbw hb2
  clear hb2
  obtain ⟨cg0, cg1, cg2, fg0, fg1, fg2⟩ := Xg.out
  have hneg : gg < v2.heap.size := World.block_lt_of_cell? v2 _ cg0
  go_wp2_with fail
  clear cg0 cg1 cg2 fg0 fg1 fg2 hneg
  refine (qtz_any HMO.out.2.2.1 HMO.out.2.2.2.1 HMO.out.2.2.2.2 (TB.out.below hbw)).mono ?_
  rintro e2 v3 ⟨rfl, hw⟩
  obtain rfl := hw.symm
  clear hw
  obtain ⟨cg0, cg1, cg2, fg0, fg1, fg2⟩ := Xg.out
  have hneg : gg < v2.heap.size := World.block_lt_of_cell? v2 _ cg0
  go_wp2_with fail
  clear cg0 cg1 cg2 fg0 fg1 fg2 hneg
  refine (bl_len_any mo _ HMO.out.1).mono ?_
  rintro e2 v3 ⟨rfl, hw⟩
  obtain rfl := hw.symm
  clear hw
  rw [HMO.out.2.1]
  obtain ⟨cg0, cg1, cg2, fg0, fg1, fg2⟩ := Xg.out
  have hneg : gg < v2.heap.size := World.block_lt_of_cell? v2 _ cg0
  go_wp2_with fail
  clear cg0 cg1 cg2 fg0 fg1 fg2 hneg
  refine (HJM.out.un top _ HTP.out.1 HTP.out.2.1).mono ?_
  rintro e v4 ⟨rfl, hb4⟩
  rw [HTP.out.2.2]
  replace Xg : Hid _ := Xg.out.below hb4
  replace hbw := Below.on hbw hb4
  clear hb4
  obtain ⟨cg0, cg1, cg2, fg0, fg1, fg2⟩ := Xg.out
  have hneg : gg < v4.heap.size := World.block_lt_of_cell? v4 _ cg0
  go_wp2_with fail
  clear cg0 cg1 cg2 fg0 fg1 fg2 hneg
  refine (HJM.out.be _).mono ?_
  rintro e v5 ⟨rfl, hb5⟩
  replace Xg : Hid _ := Xg.out.below hb5
  replace hbw := Below.on hbw hb5
  clear hb5
  obtain ⟨cg0, cg1, cg2, fg0, fg1, fg2⟩ := Xg.out
  have hneg : gg < v5.heap.size := World.block_lt_of_cell? v5 _ cg0
  go_wp2_with fail
  clear cg0 cg1 cg2 fg0 fg1 fg2 hneg
  go_ret2
  exact ⟨rfl, hbw⟩
theorem join_k {f p m l : Int} {S I H sd : Nat} {Be : Int} (J : Jm f p m l S I H sd Be) (neg : Bool) {man t mo L : Nat} (P : Jsp man t mo L) (ex un : Int) (h1 : l - 63 ≤ ex) (h2 : ex < Be) (hu : un = max (ex + t + L - 1 - sd) l) (q k z : Nat) (hq : un = l + q) (hk : ex + t = un + k) (h4 : ex + t + L - 1 < Be) (hm : mo * 2 ^ k < 2 * H) (hq2 : q < 2046 ∧ (q : Int) < Be - l - sd) (hz : z = q * H + mo * 2 ^ k ∧ z < S) (w : World) (hT : qTab w) :
    Calls Tryz.prog 19 #[.int .i64 f, .bool neg, U man, .int .i64 ex] w fun en w' => en = .returned (.tuple #[U (if neg then S + z else z), .int .i64 0]) ∧ Below w.heap.size w w' := by
  obtain ⟨lb, ex2, s1, top, hB⟩ : ∃ lb ex2 s1 top : Int, lb = l - 63 ∧ ex2 = ex + t ∧ s1 = ex2 + L ∧ top = s1 - 1 := ⟨_, _, _, _, rfl, rfl, rfl, rfl⟩
  have hC := jw_b J P h1 h2 hB
  have hun : max (top - sd) l = un := jw_un hB hu
  have hD := jw_k J P h1 h2 hB hk hq hq2
  have h9 := J.pm.h9
  have hbw : Below w.heap.size w w := Below.refl _ _
  have HJM : Hid (Jm f p m l S I H sd Be) := J
  have TB : Hid (qTab w) := hT
  have b1 : ((man : Int) == 0) = false := jw_z P.m0
  have v1 : IntKind.i64.wrap (l - 63) = lb := by rw [hB.1]; exact (jw hC.1.1 hC.1.2).1
  have v2 : wrap64 (l - 63) = lb := by rw [hB.1]; exact (jw hC.1.1 hC.1.2).2
  have a1 : (man : Int) / 2 ^ t = (mo : Int) := by rw [P.ma]; simp
  have a2 : IntKind.i64.wrap (ex + (t : Int)) = ex2 := by rw [hB.2.1]; exact (jw hC.2.1.1 hC.2.1.2).1
  have a3 : IntKind.i64.wrap (ex2 + (L : Int)) = s1 := by rw [hB.2.2.1]; exact (jw hC.2.2.1.1 hC.2.2.1.2).1
  have a4 : IntKind.i64.wrap (s1 - 1) = top := by rw [hB.2.2.2]; exact (jw hC.2.2.2.1.1 hC.2.2.2.1.2).1
  have w2 : wrap64 (ex + (t : Int)) = ex2 := by rw [hB.2.1]; exact (jw hC.2.1.1 hC.2.1.2).2
  have w3 : wrap64 (ex2 + (L : Int)) = s1 := by rw [hB.2.2.1]; exact (jw hC.2.2.1.1 hC.2.2.1.2).2
  have w4 : wrap64 (s1 - 1) = top := by rw [hB.2.2.2]; exact (jw hC.2.2.2.1.1 hC.2.2.2.1.2).2
  have ht64 : t < 64 := P.t6
  have c1 : decide (ex < lb) = false := decide_eq_false hC.2.2.2.2.1
  have c2 : decide (Be ≤ ex) = false := decide_eq_false (Int.not_le.2 h2)
  have HTP : Hid (-1000000000000 ≤ top ∧ top ≤ 5000 ∧ max (top - sd) l = un) := ⟨hC.2.2.2.2.2.1, hC.2.2.2.2.2.2, hun⟩
  have HMO : Hid (mo < B64 ∧ bl_bitsN mo = L ∧ man ≠ 0 ∧ man < B64 ∧ qTzIs man t) := ⟨P.o9, P.lb, P.m0, P.m9, P.tz⟩
  have c3 : decide (ex2 < un) = false := decide_eq_false hD.1
  have c4 : decide (Be ≤ top) = false := decide_eq_false (by rw [hB.2.2.2, hB.2.2.1, hB.2.1]; exact Int.not_le.2 h4)
  have a5 : IntKind.i64.wrap (ex2 - un) = (k : Int) := by rw [hD.2.1]; exact (jw hD.2.2.1 hD.2.2.2).1
  have w5 : wrap64 (ex2 - un) = (k : Int) := by rw [hD.2.1]; exact (jw hD.2.2.1 hD.2.2.2).2
  have hk64 : k < 64 := jw_k6 P hm J.pm.h9
  obtain ⟨mn, hmn⟩ : ∃ mn, mn = mo * 2 ^ k := ⟨_, rfl⟩
  rw [← hmn] at hm hz
  have a6 : IntKind.u64.wrap ((mo : Int) * 2 ^ k) = (mn : Int) := by
    have hyc : ((mo : Int) * 2 ^ k) = (mn : Int) := by rw [hmn]; simp
    rw [hyc]; exact jw_u (Nat.lt_of_lt_of_le hm h9)
  have HSZ : Hid (un = l + q ∧ q < 2046 ∧ (q : Int) < Be - l - sd ∧ mn ≤ 2 * H ∧ q * H + mn = z ∧ z < S) := ⟨hq, hq2.1, hq2.2, Nat.le_of_lt hm, hz.1.symm, hz.2⟩
  obtain ⟨r, hr⟩ : ∃ r, r = (if neg then S + z else z) := ⟨_, rfl⟩
  rw [← hr]
  have HR : Hid ((if neg then S + z else z) = r) := hr.symm
  clear J hT hB hC hun P h1 h2 hu hq hk h4 hm hq2 hz h9 hmn hr hD
  go_enter Tryz.func19, Tryz.ntmps19
  go_wp2_with fail
  refine (HJM.out.pm.fm.of _).mono ?_
  rintro e v1 ⟨rfl, hb1⟩
  replace hbw := Below.on hbw hb1
  clear hb1
  go_wp2_with fail
  have Xg0 : Hid (B3q (v1.alloc (.cells #[.int .i64 p, .int .i64 m, .int .i64 l] 50)) v1.heap.size (.int .i64 p) (.int .i64 m) (.int .i64 l)) := B3q.new v1 _ _ _ _
  have hbn : Below v1.heap.size v1 (v1.alloc (.cells #[.int .i64 p, .int .i64 m, .int .i64 l] 50)) := below1 v1 _
  generalize v1.alloc (.cells #[.int .i64 p, .int .i64 m, .int .i64 l] 50) = Wg at *
  have HGg : Hid (w.heap.size ≤ v1.heap.size) := hbw.size
  replace hbw := Below.on hbw hbn
  clear hbn
  generalize v1.heap.size = gg at *
  have Xg := Xg0
  clear Xg0
  refine (HJM.out.be _).mono ?_
  rintro e v2 ⟨rfl, hb2⟩
  replace Xg : Hid _ := Xg.out.below hb2
  replace hbw := Below.on hbw hb2
  clear hb2
  obtain ⟨cg0, cg1, cg2, fg0, fg1, fg2⟩ := Xg.out
  have hneg : gg < v2.heap.size := World.block_lt_of_cell? v2 _ cg0
  go_wp2_with fail
  clear cg0 cg1 cg2 fg0 fg1 fg2 hneg
  refine (qtz_any HMO.out.2.2.1 HMO.out.2.2.2.1 HMO.out.2.2.2.2 (TB.out.below hbw)).mono ?_
  rintro e2 v3 ⟨rfl, hw⟩
  obtain rfl := hw.symm
  clear hw
  obtain ⟨cg0, cg1, cg2, fg0, fg1, fg2⟩ := Xg.out
  have hneg : gg < v2.heap.size := World.block_lt_of_cell? v2 _ cg0
  go_wp2_with fail
  clear cg0 cg1 cg2 fg0 fg1 fg2 hneg
  refine (bl_len_any mo _ HMO.out.1).mono ?_
  rintro e2 v3 ⟨rfl, hw⟩
  obtain rfl := hw.symm
  clear hw
  rw [HMO.out.2.1]
  obtain ⟨cg0, cg1, cg2, fg0, fg1, fg2⟩ := Xg.out
  have hneg : gg < v2.heap.size := World.block_lt_of_cell? v2 _ cg0
  go_wp2_with fail
  clear cg0 cg1 cg2 fg0 fg1 fg2 hneg
  refine (HJM.out.un top _ HTP.out.1 HTP.out.2.1).mono ?_
  rintro e v4 ⟨rfl, hb4⟩
  rw [HTP.out.2.2]
  replace Xg : Hid _ := Xg.out.below hb4
  replace hbw := Below.on hbw hb4
  clear hb4
  obtain ⟨cg0, cg1, cg2, fg0, fg1, fg2⟩ := Xg.out
  have hneg : gg < v4.heap.size := World.block_lt_of_cell? v4 _ cg0
  go_wp2_with fail
  clear cg0 cg1 cg2 fg0 fg1 fg2 hneg
  refine (HJM.out.be _).mono ?_
  rintro e v5 ⟨rfl, hb5⟩
  replace Xg : Hid _ := Xg.out.below hb5
  replace hbw := Below.on hbw hb5
  clear hb5
  obtain ⟨cg0, cg1, cg2, fg0, fg1, fg2⟩ := Xg.out
  have hneg : gg < v5.heap.size := World.block_lt_of_cell? v5 _ cg0
  go_wp2_with fail
  clear cg0 cg1 cg2 fg0 fg1 fg2 hneg
  obtain ⟨Wr, hWr⟩ : ∃ W1, W1 = v5.drew := ⟨_, rfl⟩
  have hbd : Below v5.heap.size v5 Wr := by rw [hWr]; exact bDrew1 (Below.refl _ _)
  replace Xg : Hid _ := Xg.out.below hbd
  replace hbw := Below.on hbw hbd
  clear hbd
  have HJ : Hid ((fun W' : World => W'.cell? ⟨gg, 0, none⟩ = some (.int .i64 p) ∧ W'.cell? ⟨gg, 1, none⟩ = some (.int .i64 m) ∧ W'.cell? ⟨gg, 2, none⟩ = some (.int .i64 l)) Wr) := ⟨Xg.out.c0, Xg.out.c1, Xg.out.c2⟩
  refine wp_region_J (fun W' => W'.cell? ⟨gg, 0, none⟩ = some (.int .i64 p) ∧ W'.cell? ⟨gg, 1, none⟩ = some (.int .i64 m) ∧ W'.cell? ⟨gg, 2, none⟩ = some (.int .i64 l)) (by kernel_rfl) ?_
  rw [← hWr]
  clear hWr
  refine wpJ_tq 0 rfl HJ.out ?_
  refine wpJ_tq 1 rfl HJ.out ?_
  refine wpJ_tq 2 rfl HJ.out ?_
  refine wpJ_tq 3 rfl HJ.out ?_
  refine wpJ_tq 4 rfl HJ.out ?_
  go_simp
  refine wpJ_tq 5 rfl HJ.out ?_
  refine wpJ_tq 6 rfl HJ.out ?_
  refine wpJ_tq 7 rfl HJ.out ?_
  refine wpJ_tq 8 rfl HJ.out ?_
  refine wpJ_on 9 rfl fun KJ hK => ?_
  go_simp
  refine (HJM.out.sz mn q un _ HSZ.out.1 HSZ.out.2.1 HSZ.out.2.2.1 HSZ.out.2.2.2.1).mono ?_
  rintro e v6 ⟨rfl, hb6⟩
  rw [HSZ.out.2.2.2.2.1]
  replace Xg : Hid _ := Xg.out.below hb6
  replace hbw := Below.on hbw hb6
  clear hb6
  refine hK _ _ ⟨Xg.out.c0, Xg.out.c1, Xg.out.c2⟩ ?_
  clear hK
  refine wpJ_on 10 rfl fun KJ hK => ?_
  go_simp
  refine (HJM.out.pm.fm.sgn neg z _ HSZ.out.2.2.2.2.2).mono ?_
  rintro e v7 ⟨rfl, hb7⟩
  rw [HR.out]
  replace Xg : Hid _ := Xg.out.below hb7
  replace hbw := Below.on hbw hb7
  clear hb7
  clear HJ
  have HJ : Hid ((fun W' : World => W'.cell? ⟨gg, 0, none⟩ = some (.int .i64 p) ∧ W'.cell? ⟨gg, 1, none⟩ = some (.int .i64 m) ∧ W'.cell? ⟨gg, 2, none⟩ = some (.int .i64 l)) v7) := ⟨Xg.out.c0, Xg.out.c1, Xg.out.c2⟩
  refine hK _ _ HJ.out ?_
  clear hK
  refine wpJ_tq 11 rfl HJ.out ?_
  refine wpJ_tq 12 rfl HJ.out ?_
  refine wpJ_done (by kernel_rfl) ?_ _
  clear HJ
  go_wp2_with fail
  go_ret2
  exact ⟨rfl, hbw⟩
theorem join_all {f p m l : Int} {S I H sd : Nat} {Be : Int} (J : Jm f p m l S I H sd Be) {n : Nat} (hn : Be = l + sd + n) (hI : I = (n + 1) * H) (h1n : 1 ≤ n ∧ n ≤ 2046) (neg : Bool) {man : Nat} (hm9 : man < B64) (ex : Int) (w : World) (hT : qTab w) :
    Calls Tryz.prog 19 #[.int .i64 f, .bool neg, U man, .int .i64 ex] w fun en w' => ∃ r er, en = .returned (.tuple #[U r, .int .i64 er]) ∧ JA S H I l neg man ex r er ∧ Below w.heap.size w w' := by
  have hp := J.pm.hp
  have hlt := J.pm.fm.lt
  by_cases h0 : man = 0
  · subst h0
    refine (join_z J neg ex w).mono fun en w' ⟨h1, h2⟩ => ⟨_, _, h1, .inl ⟨rfl, 0, ⟨?_, ?_⟩, ?_⟩, h2⟩
    · have := J.pm.fm.pos; omega
    · rw [vs_zero, Nat.zero_mul, Nat.zero_mul]
    · cases neg <;> rfl
  · obtain ⟨t, mo, L, P⟩ := jsp_ex h0 hm9
    have hno : ∀ s, (ex + t < max (ex + t + L - 1 - sd) l ∨ Be ≤ ex + t + L - 1) → ¬ JnR H I l man ex s := fun s h => by
      rw [P.eq]
      exact jn_none J.hs hn hI h1n.1 P.od P.le P.l1 h s
    have ht6 := P.t6
    have hl1 := P.l1
    by_cases h1 : ex < l - 63
    · exact (join_lo J neg h0 ex h1 w).mono fun en w' ⟨h2, h3⟩ => ⟨0, 5, h2, .inr ⟨rfl, rfl, fun s => hno s (.inl (by omega))⟩, h3⟩
    by_cases h2 : Be ≤ ex
    · exact (join_hi J neg h0 ex (by omega) h2 w).mono fun en w' ⟨h2, h3⟩ => ⟨0, 5, h2, .inr ⟨rfl, rfl, fun s => hno s (.inr (by omega))⟩, h3⟩
    by_cases h3 : ex + t < max (ex + t + L - 1 - sd) l
    · exact (join_u J neg P ex _ (by omega) (by omega) rfl h3 w hT).mono fun en w' ⟨h2, h4⟩ => ⟨0, 5, h2, .inr ⟨rfl, rfl, fun s => hno s (.inl h3)⟩, h4⟩
    by_cases h4 : Be ≤ ex + t + L - 1
    · exact (join_t J neg P ex _ (by omega) (by omega) rfl (by omega) h4 w hT).mono fun en w' ⟨h2, h5⟩ => ⟨0, 5, h2, .inr ⟨rfl, rfl, fun s => hno s (.inr h4)⟩, h5⟩
    · obtain ⟨q, hq⟩ : ∃ q : Nat, l + (q : Int) = max (ex + t + L - 1 - sd) l := ⟨(max (ex + t + L - 1 - sd) l - l).toNat, by omega⟩
      obtain ⟨k, hk⟩ : ∃ k : Nat, ex + t = l + (q : Int) + (k : Int) := ⟨(ex + t - (l + q)).toNat, by omega⟩
      obtain ⟨h5, h6, h7⟩ := jn_some J.hs hn hI h1n.1 P.lt P.le P.l1 hq hk (by omega)
      refine (join_k J neg P ex (l + q) (by omega) (by omega) hq q k _ rfl hk (by omega) h6 ⟨by omega, by omega⟩ ⟨rfl, Nat.lt_trans h5.1 hlt⟩ w hT).mono fun en w' ⟨h2, h8⟩ => ⟨_, _, h2, .inl ⟨rfl, _, ?_, rfl⟩, h8⟩
      rw [P.eq]
      exact h5
theorem join_xx (f : Int) (h1 : f ≠ 32) (h2 : f ≠ 64) (neg : Bool) (man : Nat) (ex : Int) (w : World) :
    Calls Tryz.prog 19 #[.int .i64 f, .bool neg, U man, .int .i64 ex] w fun en w' => en = .returned (.tuple #[.int .u64 0, .int .i64 1]) ∧ Below w.heap.size w w' := by
  have H : Hid (f ≠ 32 ∧ f ≠ 64) := ⟨h1, h2⟩
  have hbw : Below w.heap.size w w := Below.refl _ _
  clear h1 h2
  go_enter Tryz.func19, Tryz.ntmps19
  go_wp2_with fail
  refine (of_x f H.out.1 H.out.2 _).mono ?_
  rintro e v1 ⟨rfl, hb1⟩
  replace hbw := Below.on hbw hb1
  clear hb1
  go_wp2_with fail
  go_ret2
  refine ⟨rfl, ?_⟩
  first | exact hbw | exact Below.on hbw (below1 _ _)
theorem parse_x {f : Int} (h1 : f ≠ 32) (h2 : f ≠ 64) (s : ByteArray) (w : World) :
    Calls Tryz.prog 12 #[.int .i64 f, .string s] w fun en w' => en = .returned (.tuple #[U 0, .int .i64 1]) ∧ Below w.heap.size w w' := by
  have H : Hid (f ≠ 32 ∧ f ≠ 64) := ⟨h1, h2⟩
  clear h1 h2
  have hmf : ∀ (fn : Fn) (first cap : Array Value) (w : World), (Instr.makeFunc fn first cap).run Tryz.prog w = .ok (.func fn first cap) w := fun _ _ _ _ => rfl
  go_enter_defers Tryz.func12, Tryz.ntmps12
  go_wp2_with fail
  obtain ⟨W0, hW0⟩ : ∃ W0, W0 = (w.alloc (.cells #[.int .u64 0] 23)).alloc (.cells #[.int .i64 0] 26) := ⟨_, rfl⟩
  have hb0 : Below w.heap.size w W0 := by rw [hW0]; exact below2 w _ _
  have XB : Hid (B1t W0 w.heap.size (.int .u64 0)) := by rw [hW0]; exact (B1t.new w _ _).below (below1 _ _)
  have XE : Hid (B1t W0 (w.heap.size + 1) (.int .i64 0)) := by rw [hW0]; have h := B1t.new (w.alloc (.cells #[.int .u64 0] 23)) 26 (.int .i64 0); rwa [show (w.alloc (.cells #[.int .u64 0] 23)).heap.size = w.heap.size + 1 by simp] at h
  obtain ⟨gb, hgb⟩ : ∃ gb, gb = w.heap.size := ⟨_, rfl⟩
  obtain ⟨ge, hge⟩ : ∃ ge, ge = w.heap.size + 1 := ⟨_, rfl⟩
  rw [← hW0]
  rw [← hge]
  rw [← hge] at XE
  rw [← hgb] at XB
  rw [← hgb]
  have HN : Hid (gb ≠ ge ∧ gb = w.heap.size ∧ w.heap.size ≤ gb ∧ w.heap.size ≤ ge) := ⟨by omega, hgb, by omega, by omega⟩
  have HB : Hid (Below w.heap.size w W0) := hb0
  clear hW0 hb0 hgb hge
  refine (of_x f H.out.1 H.out.2 _).mono ?_
  rintro e V1 ⟨rfl, hb1⟩
  have XB1 : Hid (B1t V1 gb (.int .u64 0)) := XB.out.below hb1
  have XE1 : Hid (B1t V1 ge (.int .i64 0)) := XE.out.below hb1
  have HB1 : Hid (Below w.heap.size w V1) := Below.on HB.out hb1
  clear XB XE HB hb1
  obtain ⟨ce, fe⟩ := XE1.out
  obtain ⟨cb, fb⟩ := XB1.out
  have lte : ge < V1.heap.size := XE1.out.lt
  have ltb : gb < V1.heap.size := XB1.out.lt
  have n1 : gb ≠ ge := HN.out.1
  have n2 : ge ≠ gb := Ne.symm n1
  go_wp2_with fail
  obtain ⟨V2, hV2⟩ : ∃ W9, W9 = ((V1.setCell ⟨ge, 0, none⟩ (.int .i64 1)).alloc (.cells #[.int .i64 0, .int .i64 0, .int .i64 0] 50)) := ⟨_, rfl⟩
  have XB2 : Hid (B1t V2 gb (.int .u64 0)) := by rw [hV2]; exact (XB1.out.setOff HN.out.1).below (below1 _ _)
  have XE2 : Hid (B1t V2 ge (.int .i64 1)) := by rw [hV2]; exact (XE1.out.put _).below (below1 _ _)
  have HB2 : Hid (Below w.heap.size w V2) := by rw [hV2]; exact Below.on (bSet HB1.out _ _ _ HN.out.2.2.2) (below1 _ _)
  rw [← hV2]
  clear hV2 ce fe cb fb lte ltb XB1 XE1 HB1
  obtain ⟨V3, hV3⟩ : ∃ W1, W1 = V2.drew := ⟨_, rfl⟩
  have hbd : Below V2.heap.size V2 V3 := by rw [hV3]; exact bDrew1 (Below.refl _ _)
  have XB3 : Hid (B1t V3 gb (.int .u64 0)) := XB2.out.below hbd
  have XE3 : Hid (B1t V3 ge (.int .i64 1)) := XE2.out.below hbd
  have HB3 : Hid (Below w.heap.size w V3) := Below.on HB2.out hbd
  have HJ : Hid ((fun W' : World => W'.cell? ⟨ge, 0, none⟩ = some (.int .i64 1)) V3) := XE3.out.c0
  refine wp_region_J (fun W' => W'.cell? ⟨ge, 0, none⟩ = some (.int .i64 1)) (by kernel_rfl) ?_
  rw [← hV3]
  clear hV3 hbd XB2 XE2 HB2
  refine wpJ_take (i := 0) (v := ?vq) rfl (by kernel_rfl) (by kernel_rfl) (by kernel_rfl) (fun _ _ _ h => putP 16 (by decide) (by decide) h) (by kernel_rfl) ?hyq HJ.out ?restq
  case hyq => (intro W' hJ; have j0 := hJ; go_simp; first | done | with_reducible rfl)
  obtain ⟨ce, fe⟩ := XE3.out
  obtain ⟨cb, fb⟩ := XB3.out
  have lte : ge < V3.heap.size := XE3.out.lt
  have ltb : gb < V3.heap.size := XB3.out.lt
  refine wpJ_on 1 rfl fun KJ hK => ?_
  go_simp
  have HJ2 : Hid ((fun W' : World => W'.cell? ⟨ge, 0, none⟩ = some (.int .i64 1)) (V3.setCell ⟨gb, 0, none⟩ (.int .u64 0))) := by show _ = _; go_simp
  refine hK _ _ HJ2.out ?_
  clear hK
  refine wpJ_on 2 rfl fun KJ hK => ?_
  go_simp
  have HJ3 : Hid ((fun W' : World => W'.cell? ⟨ge, 0, none⟩ = some (.int .i64 1)) ((V3.setCell ⟨gb, 0, none⟩ (.int .u64 0)).setCell ⟨ge, 0, none⟩ (.int .i64 1))) := by show _ = _; go_simp
  refine hK _ _ HJ3.out ?_
  clear hK
  refine wpJ_done (by kernel_rfl) ?_ _
  clear HJ HJ2 HJ3
  go_wp2_with fail
  refine ⟨_, res_P rfl rfl (((XB3.out.put _).setOff n1).below (Below.refl _ _)) ((XE3.out.setOff n2).put _), rfl, bSet (bSet HB3.out _ _ _ HN.out.2.2.1) _ _ _ HN.out.2.2.2⟩
theorem joins_ok {f p m le : Int} {S I H sd Q : Nat} {Be : Int} (h : Hf f p m le S I H sd Be Q) {man r : Nat} {ex er : Int} {neg : Bool} (hx : -40000 ≤ ex) (hj : JA S H I le neg man ex r er) (h0 : er = 0) :
    r = sgq S neg (rnp le sd Be S I (man : Int) ex) := by
  rcases hj with ⟨_, s, ⟨h1, h2⟩, h3⟩ | ⟨h1, _⟩
  · have hlo := h.j.jm.pm.lo
    have hR : RNz H le I (dv (vs H s : Int) le) s := RNz.exact h.j.jm.pm.hp (by omega) (Nat.le_of_lt h1)
    have hv : dv (man : Int) ex = dv (vs H s : Int) le := by
      rcases Int.le_total le ex with h5 | h5
      · rw [dv_shift (z := (man : Int)) h5 (by omega), ← Int.natCast_mul, h2, show (le - ex).toNat = 0 by omega, Nat.pow_zero, Nat.mul_one]
      · rw [dv_shift (z := (vs H s : Int)) h5 (by omega), ← Int.natCast_mul, ← h2, show (ex - le).toNat = 0 by omega, Nat.pow_zero, Nat.mul_one]
    rw [← hv] at hR
    rw [rnp_eq h.j (by omega) (by omega) hR, h3]; rfl
  · rw [h0] at h1; cases h1
theorem hexfloatJoins_x {f : Int} (h1 : f ≠ 32) (h2 : f ≠ 64) {neg : Bool} {man : Nat} {e : Int} (hm : man < B64) (he : -32768 ≤ e ∧ e ≤ 32767) {w : World} (hw : Wd w) :
    Calls Tryz.prog 6 #[.int .i64 f, .bool neg, U man, .int .i16 e] w fun en w' => en = .returned (.bool true) ∧ Below w.heap.size w w' := by
  have HF : Hid (f ≠ 32 ∧ f ≠ 64) := ⟨h1, h2⟩
  clear h1 h2
  have HW : Hid (Wd w) := hw
  have HX : Hid (man < B64 ∧ (-32768 ≤ e ∧ e ≤ 32767)) := ⟨hm, he⟩
  have hwe : wrap64 e = e := by simp only [wrap64]; omega
  clear hw hm he
  go_enter Tryz.func6, Tryz.ntmps6
  go_wp2_with fail
  refine (awake10 HW.out).mono ?_
  rintro en w1 ⟨rfl, hb1⟩
  have HB : Hid (Below w.heap.size w w1) := hb1
  clear hb1
  go_wp2_with fail
  rw [hwe]
  refine (join_xx f HF.out.1 HF.out.2 neg man e _).mono ?_
  rintro en w2 ⟨rfl, hb2⟩
  have HB2 : Hid (Below w.heap.size w w2) := Below.on HB.out hb2
  clear hb2
  go_wp2_with fail
  refine (fmt16 HX.out.1 (HW.out.below HB2.out).t).mono ?_
  rintro en w3 ⟨rfl, hb⟩
  have HB3 : Hid (Below w.heap.size w w3) := Below.on HB2.out hb
  obtain ⟨D, hD⟩ : ∃ D, D = hexL 16 man := ⟨_, rfl⟩
  have HD : Hid (D = hexL 16 man ∧ D.length ≤ 16) := ⟨hD, by rw [hD]; exact hexL_len 16 _⟩
  rw [← hD]
  clear hD hb
  have hc1 : ∀ W, (Op.stringOp .add ⟨#[48, 120]⟩ (bs D)).run Tryz.prog W = .ok (.string (bs ([48, 120] ++ D))) W := fun W => cat_run [48, 120] D W (by have h1 : [(48 : UInt8), 120].length = 2 := rfl; have := HD.out; omega)
  have hb1 : ¬ ((⟨#[48, 120]⟩ : ByteArray).size + ((bs D) : ByteArray).size > 9223372036854775807) := by show ¬ ((bs [48, 120]).size + (bs D).size > _); rw [bs_size, bs_size]; have h1 : [(48 : UInt8), 120].length = 2 := rfl; have := HD.out; omega
  have hc2 : ∀ W, (Op.stringOp .add (bs (48 :: 120 :: D)) ⟨#[112]⟩).run Tryz.prog W = .ok (.string (bs ((48 :: 120 :: D) ++ [112]))) W := fun W => cat_run (48 :: 120 :: D) [112] W (by have h1 : [(112 : UInt8)].length = 1 := rfl; have := HD.out; simp only [List.length_cons] at h1 ⊢; omega)
  have hb2 : ¬ (((bs (48 :: 120 :: D)) : ByteArray).size + (⟨#[112]⟩ : ByteArray).size > 9223372036854775807) := by show ¬ ((bs (48 :: 120 :: D)).size + (bs [112]).size > _); rw [bs_size, bs_size]; have h1 : [(112 : UInt8)].length = 1 := rfl; have := HD.out; simp only [List.length_cons] at h1 ⊢; omega
  go_wp2_with fail
  rw [hwe]
  refine (itoa_c e (by have := HX.out; omega) (by have := HX.out; omega) _ (HW.out.below HB3.out).p).mono ?_
  rintro en w4 ⟨rfl, hb⟩
  have HB4 : Hid (Below w.heap.size w w4) := Below.on HB3.out hb
  obtain ⟨E, hE⟩ : ∃ E, E = Lib.itoa e := ⟨_, rfl⟩
  have HE : Hid (E = Lib.itoa e ∧ E.length ≤ 1003) := ⟨hE, by rw [hE]; exact itoa_sh (by have := HX.out; omega) (by have := HX.out; omega)⟩
  rw [← hE]
  clear hE hb hc1 hb1 hc2 hb2
  have hc3 : ∀ W, (Op.stringOp .add (bs (48 :: 120 :: (D ++ [112]))) (bs E)).run Tryz.prog W = .ok (.string (bs ((48 :: 120 :: (D ++ [112])) ++ E))) W := fun W => cat_run (48 :: 120 :: (D ++ [112])) E W (by have := HD.out; have := HE.out; simp only [List.length_cons, List.length_append, List.length_nil]; omega)
  have hb3 : ¬ (((bs (48 :: 120 :: (D ++ [112]))) : ByteArray).size + ((bs E) : ByteArray).size > 9223372036854775807) := by show ¬ ((bs (48 :: 120 :: (D ++ [112]))).size + (bs E).size > _); rw [bs_size, bs_size]; have := HD.out; have := HE.out; simp only [List.length_cons, List.length_append, List.length_nil]; omega
  have hc4 : ∀ W, (Op.stringOp .add ⟨#[45]⟩ (bs (48 :: 120 :: (D ++ 112 :: E)))).run Tryz.prog W = .ok (.string (bs ([45] ++ (48 :: 120 :: (D ++ 112 :: E))))) W := fun W => cat_run [45] (48 :: 120 :: (D ++ 112 :: E)) W (by have h1 : [(45 : UInt8)].length = 1 := rfl; have := HD.out; have := HE.out; simp only [List.length_cons, List.length_append] at h1 ⊢; omega)
  have hb4 : ¬ ((⟨#[45]⟩ : ByteArray).size + ((bs (48 :: 120 :: (D ++ 112 :: E))) : ByteArray).size > 9223372036854775807) := by show ¬ ((bs [45]).size + (bs (48 :: 120 :: (D ++ 112 :: E))).size > _); rw [bs_size, bs_size]; have h1 : [(45 : UInt8)].length = 1 := rfl; have := HD.out; have := HE.out; simp only [List.length_cons, List.length_append] at h1 ⊢; omega
  cases neg
  · go_wp2_with fail
    refine (parse_x HF.out.1 HF.out.2 _ _).mono ?_
    rintro en w5 ⟨rfl, hb⟩
    have HB5 : Hid (Below w.heap.size w w5) := Below.on HB4.out hb
    clear hb
    go_wp2_with fail
    refine (formats_no HF.out.1 HF.out.2 _).mono ?_
    rintro en w6 ⟨rfl, rfl⟩
    go_wp2_with fail
    go_ret
    exact ⟨rfl, HB5.out⟩
  · go_wp2_with fail
    refine (parse_x HF.out.1 HF.out.2 _ _).mono ?_
    rintro en w5 ⟨rfl, hb⟩
    have HB5 : Hid (Below w.heap.size w w5) := Below.on HB4.out hb
    clear hb
    go_wp2_with fail
    refine (formats_no HF.out.1 HF.out.2 _).mono ?_
    rintro en w6 ⟨rfl, rfl⟩
    go_wp2_with fail
    go_ret
    exact ⟨rfl, HB5.out⟩
theorem hexfloatJoins_i {f p m le : Int} {S I H sd Q : Nat} {Be : Int} (h : Hf f p m le S I H sd Be Q) (hf : f = 32 ∨ f = 64) {nn : Nat} (hn1 : Be = le + sd + nn) (hn2 : I = (nn + 1) * H) (hn3 : 1 ≤ nn ∧ nn ≤ 2046) {neg : Bool} {man : Nat} {e : Int} (hm : man < B64) (he : -32768 ≤ e ∧ e ≤ 32767) {w : World} (hw : Wd w) :
    Calls Tryz.prog 6 #[.int .i64 f, .bool neg, U man, .int .i16 e] w fun en w' => en = .returned (.bool true) ∧ Below w.heap.size w w' := by
  have HF : Hid (Hf f p m le S I H sd Be Q ∧ (f = 32 ∨ f = 64) ∧ Be = le + sd + nn ∧ I = (nn + 1) * H ∧ (1 ≤ nn ∧ nn ≤ 2046)) := ⟨h, hf, hn1, hn2, hn3⟩
  clear h hf hn1 hn2 hn3
  have HW : Hid (Wd w) := hw
  have HX : Hid (man < B64 ∧ (-32768 ≤ e ∧ e ≤ 32767)) := ⟨hm, he⟩
  have hwe : wrap64 e = e := by simp only [wrap64]; omega
  clear hw hm he
  go_enter Tryz.func6, Tryz.ntmps6
  go_wp2_with fail
  refine (awake10 HW.out).mono ?_
  rintro en w1 ⟨rfl, hb1⟩
  have HB : Hid (Below w.heap.size w w1) := hb1
  clear hb1
  go_wp2_with fail
  rw [hwe]
  refine (join_all HF.out.1.j.jm HF.out.2.2.1 HF.out.2.2.2.1 HF.out.2.2.2.2 neg HX.out.1 e _ (HW.out.below HB.out).t).mono ?_
  rintro en w2 ⟨r, er, rfl, hja, hb2⟩
  have HJA : Hid (er = 0 → r = sgq S neg (rnp le sd Be S I (man : Int) e)) := fun h => joins_ok HF.out.1 (by have := HX.out; omega) hja h
  clear hja
  have HB2 : Hid (Below w.heap.size w w2) := Below.on HB.out hb2
  clear hb2
  go_wp2_with fail
  refine (fmt16 HX.out.1 (HW.out.below HB2.out).t).mono ?_
  rintro en w3 ⟨rfl, hb⟩
  have HB3 : Hid (Below w.heap.size w w3) := Below.on HB2.out hb
  obtain ⟨D, hD⟩ : ∃ D, D = hexL 16 man := ⟨_, rfl⟩
  have HD : Hid (D = hexL 16 man ∧ D.length ≤ 16) := ⟨hD, by rw [hD]; exact hexL_len 16 _⟩
  rw [← hD]
  clear hD hb
  have hc1 : ∀ W, (Op.stringOp .add ⟨#[48, 120]⟩ (bs D)).run Tryz.prog W = .ok (.string (bs ([48, 120] ++ D))) W := fun W => cat_run [48, 120] D W (by have h1 : [(48 : UInt8), 120].length = 2 := rfl; have := HD.out; omega)
  have hb1 : ¬ ((⟨#[48, 120]⟩ : ByteArray).size + ((bs D) : ByteArray).size > 9223372036854775807) := by show ¬ ((bs [48, 120]).size + (bs D).size > _); rw [bs_size, bs_size]; have h1 : [(48 : UInt8), 120].length = 2 := rfl; have := HD.out; omega
  have hc2 : ∀ W, (Op.stringOp .add (bs (48 :: 120 :: D)) ⟨#[112]⟩).run Tryz.prog W = .ok (.string (bs ((48 :: 120 :: D) ++ [112]))) W := fun W => cat_run (48 :: 120 :: D) [112] W (by have h1 : [(112 : UInt8)].length = 1 := rfl; have := HD.out; simp only [List.length_cons] at h1 ⊢; omega)
  have hb2 : ¬ (((bs (48 :: 120 :: D)) : ByteArray).size + (⟨#[112]⟩ : ByteArray).size > 9223372036854775807) := by show ¬ ((bs (48 :: 120 :: D)).size + (bs [112]).size > _); rw [bs_size, bs_size]; have h1 : [(112 : UInt8)].length = 1 := rfl; have := HD.out; simp only [List.length_cons] at h1 ⊢; omega
  go_wp2_with fail
  rw [hwe]
  refine (itoa_c e (by have := HX.out; omega) (by have := HX.out; omega) _ (HW.out.below HB3.out).p).mono ?_
  rintro en w4 ⟨rfl, hb⟩
  have HB4 : Hid (Below w.heap.size w w4) := Below.on HB3.out hb
  obtain ⟨E, hE⟩ : ∃ E, E = Lib.itoa e := ⟨_, rfl⟩
  have HE : Hid (E = Lib.itoa e ∧ E.length ≤ 1003) := ⟨hE, by rw [hE]; exact itoa_sh (by have := HX.out; omega) (by have := HX.out; omega)⟩
  rw [← hE]
  clear hE hb hc1 hb1 hc2 hb2
  have hc3 : ∀ W, (Op.stringOp .add (bs (48 :: 120 :: (D ++ [112]))) (bs E)).run Tryz.prog W = .ok (.string (bs ((48 :: 120 :: (D ++ [112])) ++ E))) W := fun W => cat_run (48 :: 120 :: (D ++ [112])) E W (by have := HD.out; have := HE.out; simp only [List.length_cons, List.length_append, List.length_nil]; omega)
  have hb3 : ¬ (((bs (48 :: 120 :: (D ++ [112]))) : ByteArray).size + ((bs E) : ByteArray).size > 9223372036854775807) := by show ¬ ((bs (48 :: 120 :: (D ++ [112]))).size + (bs E).size > _); rw [bs_size, bs_size]; have := HD.out; have := HE.out; simp only [List.length_cons, List.length_append, List.length_nil]; omega
  have hc4 : ∀ W, (Op.stringOp .add ⟨#[45]⟩ (bs (48 :: 120 :: (D ++ 112 :: E)))).run Tryz.prog W = .ok (.string (bs ([45] ++ (48 :: 120 :: (D ++ 112 :: E))))) W := fun W => cat_run [45] (48 :: 120 :: (D ++ 112 :: E)) W (by have h1 : [(45 : UInt8)].length = 1 := rfl; have := HD.out; have := HE.out; simp only [List.length_cons, List.length_append] at h1 ⊢; omega)
  have hb4 : ¬ ((⟨#[45]⟩ : ByteArray).size + ((bs (48 :: 120 :: (D ++ 112 :: E))) : ByteArray).size > 9223372036854775807) := by show ¬ ((bs [45]).size + (bs (48 :: 120 :: (D ++ 112 :: E))).size > _); rw [bs_size, bs_size]; have h1 : [(45 : UInt8)].length = 1 := rfl; have := HD.out; have := HE.out; simp only [List.length_cons, List.length_append] at h1 ⊢; omega
  have hpp : parseF le sd Be S I Q ((if neg then [45] else []) ++ (48 :: 120 :: (D ++ 112 :: E))) = (sgq S neg (rnp le sd Be S I (man : Int) e), 0) := by have h := hxT_parse (le := le) (sd := sd) (Be := Be) (S := S) (I := I) (Q := Q) (x := man) (e := e) HX.out.1 (by have := HX.out; omega) neg; unfold hxT at h; rw [← HD.out.1, ← HE.out.1] at h; exact h
  obtain ⟨X, hX⟩ : ∃ X, X = sgq S neg (rnp le sd Be S I (man : Int) e) := ⟨_, rfl⟩
  rw [← hX] at hpp HJA
  have HPP := hm9 hpp
  clear hX hpp
  cases neg
  · go_wp2_with fail
    refine (HF.out.1.parse (48 :: 120 :: (D ++ 112 :: E)) (HW.out.below HB4.out) HPP.out).mono ?_
    rintro en w5 ⟨rfl, hb⟩
    have HB5 : Hid (Below w.heap.size w w5) := Below.on HB4.out hb
    clear hb
    go_wp2_with fail
    by_cases h0 : er = 0
    · obtain rfl := h0
      obtain rfl := HJA.out rfl
      refine (formats_yes HF.out.2.1 _).mono ?_
      rintro en w6 ⟨rfl, rfl⟩
      go_wp2_with fail
      go_ret
      exact ⟨rfl, HB5.out⟩
    · have hnb : (er != 0) = true := by simp [h0]
      have hnc : (er == 0) = false := by simp [h0]
      refine (formats_yes HF.out.2.1 _).mono ?_
      rintro en w6 ⟨rfl, rfl⟩
      go_wp2_with fail
      go_ret
      exact ⟨rfl, HB5.out⟩
  · go_wp2_with fail
    refine (HF.out.1.parse (45 :: 48 :: 120 :: (D ++ 112 :: E)) (HW.out.below HB4.out) HPP.out).mono ?_
    rintro en w5 ⟨rfl, hb⟩
    have HB5 : Hid (Below w.heap.size w w5) := Below.on HB4.out hb
    clear hb
    go_wp2_with fail
    by_cases h0 : er = 0
    · obtain rfl := h0
      obtain rfl := HJA.out rfl
      refine (formats_yes HF.out.2.1 _).mono ?_
      rintro en w6 ⟨rfl, rfl⟩
      go_wp2_with fail
      go_ret
      exact ⟨rfl, HB5.out⟩
    · have hnb : (er != 0) = true := by simp [h0]
      have hnc : (er == 0) = false := by simp [h0]
      refine (formats_yes HF.out.2.1 _).mono ?_
      rintro en w6 ⟨rfl, rfl⟩
      go_wp2_with fail
      go_ret
      exact ⟨rfl, HB5.out⟩
theorem hexfloatJoins_w (f : Int) (neg : Bool) {man : Nat} {e : Int} (hm : man < B64) (he : -32768 ≤ e ∧ e ≤ 32767) {w : World} (hw : Wd w) : Calls Tryz.prog 6 #[.int .i64 f, .bool neg, U man, .int .i16 e] w fun en w' => en = .returned (.bool true) ∧ Below w.heap.size w w' := by
  by_cases h1 : f = 32
  · subst h1; exact hexfloatJoins_i hf_32 (.inl rfl) (nn := 254) (by decide) (by decide) (by decide) hm he hw
  by_cases h2 : f = 64
  · subst h2; exact hexfloatJoins_i hf_64 (.inr rfl) (nn := 2046) (by decide) (by decide) (by decide) hm he hw
  exact hexfloatJoins_x h1 h2 hm he hw
theorem byte1p {w : World} {g : Nat} {c : UInt8} (h : w.cell? ⟨g, 0, none⟩ = some (.int .u8 (c.toNat : Int))) :
    (convert 74 9 (.slice (some ⟨g, 0, none⟩) 1 1)).run Tryz.prog w = .ok (.string (bs [c])) w :=
  run_convert_bytes_back (P := Tryz.prog) w 74 9 5 ⟨g, 0, none⟩ 1 [c] Tryz.underlying74 Tryz.underlying5 Tryz.underlying9 (fun j hj => by
    obtain rfl : j = 0 := by have : j < 1 := hj; omega
    exact h)
theorem hexd_w {c : UInt8} : (48 ≤ (c.toNat : Int) ∧ (c.toNat : Int) ≤ 57 ∧ hexd c = true) ∨ (97 ≤ (c.toNat : Int) ∧ (c.toNat : Int) ≤ 102 ∧ hexd c = true) ∨ (65 ≤ (c.toNat : Int) ∧ (c.toNat : Int) ≤ 70 ∧ hexd c = true) ∨ ((c.toNat : Int) < 48 ∧ hexd c = false) ∨ (57 < (c.toNat : Int) ∧ (c.toNat : Int) < 65 ∧ hexd c = false) ∨ (70 < (c.toNat : Int) ∧ (c.toNat : Int) < 97 ∧ hexd c = false) ∨ (102 < (c.toNat : Int) ∧ hexd c = false) := by
  have h : ∀ n, n < 256 → (48 ≤ n ∧ n ≤ 57 ∧ hexdN n = true) ∨ (97 ≤ n ∧ n ≤ 102 ∧ hexdN n = true) ∨ (65 ≤ n ∧ n ≤ 70 ∧ hexdN n = true) ∨ (n < 48 ∧ hexdN n = false) ∨ (57 < n ∧ n < 65 ∧ hexdN n = false) ∨ (70 < n ∧ n < 97 ∧ hexdN n = false) ∨ (102 < n ∧ hexdN n = false) := by decide +kernel
  have h1 := h c.toNat c.toNat_lt
  unfold hexd
  rcases h1 with ⟨h1, h2, h3⟩ | ⟨h1, h2, h3⟩ | ⟨h1, h2, h3⟩ | ⟨h1, h3⟩ | ⟨h1, h2, h3⟩ | ⟨h1, h2, h3⟩ | ⟨h1, h3⟩
  · exact .inl ⟨by omega, by omega, h3⟩
  · exact .inr (.inl ⟨by omega, by omega, h3⟩)
  · exact .inr (.inr (.inl ⟨by omega, by omega, h3⟩))
  · exact .inr (.inr (.inr (.inl ⟨by omega, h3⟩)))
  · exact .inr (.inr (.inr (.inr (.inl ⟨by omega, by omega, h3⟩))))
  · exact .inr (.inr (.inr (.inr (.inr (.inl ⟨by omega, by omega, h3⟩)))))
  · exact .inr (.inr (.inr (.inr (.inr (.inr ⟨by omega, h3⟩)))))
theorem hexes_c (l : List UInt8) (hl : l.length ≤ 140737488351232) (w : World) :
    Calls Tryz.prog 15 #[.string (bs l)] w fun en w' => en = .returned (.bool (l.all hexd)) ∧ w' = w := by
  have hs : (bs l).size = l.length := bs_size l
  have HG : Hid (∀ (i : Nat) (h : i < (bs l).size), ((bs l)[i]'h) = l.getD i 0) := by intro i h; show l[i] = _; rw [List.getD_eq_getElem?_getD, List.getElem?_eq_getElem h]; rfl
  go_enter Tryz.func15, Tryz.ntmps15
  go_wp2_with fail
  go_loopg [3] l.length (fun gk iv wr => ∃ i : Nat, i + gk = l.length ∧ iv = .int .i64 i ∧ (∀ j, j < i → hexd (l.getD j 0) = true) ∧ wr = w)
  case atStart => exact ⟨0, by omega, rfl, fun j hj => absurd hj (Nat.not_lt_zero _), rfl⟩
  case round =>
    obtain ⟨i, hig, rfl, hkn, rfl⟩ := hrel
    cases gk with
    | zero =>
      obtain rfl : i = l.length := by omega
      have hall : l.all hexd = true := List.all_eq_true.2 (fun x hx => by
        obtain ⟨j, hj, he⟩ := List.getElem_of_mem hx
        have h := hkn j hj
        rw [List.getD_eq_getElem?_getD, List.getElem?_eq_getElem hj] at h
        rw [← he]; exact h)
      have hnl : ¬ (l.length : Int) < (l.length : Int) := by omega
      clear hkn hig
      go_wp2_with fail
      go_ret
      exact ⟨rfl, rfl⟩
    | succ g =>
      have hil : (i : Int) < (l.length : Int) := by omega
      have hi0 : (0 : Int) ≤ (i : Int) := by omega
      have hiK : i < (bs l).size := by omega
      have hgi := HG.out i hiK
      have wi : wrap64 ((i : Int) + 1) = ((i + 1 : Nat) : Int) := by simp only [wrap64]; omega
      have HD : Hid (∀ d, d = l.getD i 0 → hexd d = true → ∀ j, j < i + 1 → hexd (l.getD j 0) = true) := by
        intro d hd h j hj
        rcases Nat.lt_or_ge j i with h2 | h2
        · exact hkn j h2
        · obtain rfl : j = i := by omega
          rw [← hd]; exact h
      have HE : Hid (∀ d, d = l.getD i 0 → hexd d = false → l.all hexd = false) := by
        intro d hd h
        cases ha : l.all hexd with
        | false => rfl
        | true =>
          have h2 := List.all_eq_true.1 ha (l.getD i 0) (by rw [List.getD_eq_getElem?_getD, List.getElem?_eq_getElem (by omega : i < l.length)]; exact List.getElem_mem _)
          rw [← hd, h] at h2; cases h2
      obtain ⟨d, hd⟩ : ∃ d, d = l.getD i 0 := ⟨_, rfl⟩
      rw [← hd] at hgi
      have HDD : Hid (d = l.getD i 0) := hd
      have hgn : ((((bs l)[i]'hiK).toNat : Nat) : Int) = (d.toNat : Int) := by rw [hgi]
      clear hkn hd hgi
      rcases hexd_w (c := d) with ⟨h1, h2, h3⟩ | ⟨h1, h2, h3⟩ | ⟨h1, h2, h3⟩ | ⟨h1, h3⟩ | ⟨h1, h2, h3⟩ | ⟨h1, h2, h3⟩ | ⟨h1, h3⟩
      · have H3 := hm9 h3
        clear h3
        have p1 : (48 : Int) ≤ (d.toNat : Int) := by omega
        have p2 : (d.toNat : Int) ≤ 57 := by omega
        have q1 : ¬ (97 : Int) ≤ (d.toNat : Int) := by omega
        have q2 : (d.toNat : Int) ≤ 102 := by omega
        have r1 : ¬ (65 : Int) ≤ (d.toNat : Int) := by omega
        have r2 : (d.toNat : Int) ≤ 70 := by omega
        clear h1 h2
        go_wp2_with fail
        go_roundg g
        case measure => omega
        case rel => exact ⟨i + 1, by omega, by go_num, HD.out d HDD.out H3.out, rfl⟩
      · have H3 := hm9 h3
        clear h3
        have p1 : (48 : Int) ≤ (d.toNat : Int) := by omega
        have p2 : ¬ (d.toNat : Int) ≤ 57 := by omega
        have q1 : (97 : Int) ≤ (d.toNat : Int) := by omega
        have q2 : (d.toNat : Int) ≤ 102 := by omega
        have r1 : (65 : Int) ≤ (d.toNat : Int) := by omega
        have r2 : ¬ (d.toNat : Int) ≤ 70 := by omega
        clear h1 h2
        go_wp2_with fail
        go_roundg g
        case measure => omega
        case rel => exact ⟨i + 1, by omega, by go_num, HD.out d HDD.out H3.out, rfl⟩
      · have H3 := hm9 h3
        clear h3
        have p1 : (48 : Int) ≤ (d.toNat : Int) := by omega
        have p2 : ¬ (d.toNat : Int) ≤ 57 := by omega
        have q1 : ¬ (97 : Int) ≤ (d.toNat : Int) := by omega
        have q2 : (d.toNat : Int) ≤ 102 := by omega
        have r1 : (65 : Int) ≤ (d.toNat : Int) := by omega
        have r2 : (d.toNat : Int) ≤ 70 := by omega
        clear h1 h2
        go_wp2_with fail
        go_roundg g
        case measure => omega
        case rel => exact ⟨i + 1, by omega, by go_num, HD.out d HDD.out H3.out, rfl⟩
      · have H3 := hm9 h3
        clear h3
        have p1 : ¬ (48 : Int) ≤ (d.toNat : Int) := by omega
        have p2 : (d.toNat : Int) ≤ 57 := by omega
        have q1 : ¬ (97 : Int) ≤ (d.toNat : Int) := by omega
        have q2 : (d.toNat : Int) ≤ 102 := by omega
        have r1 : ¬ (65 : Int) ≤ (d.toNat : Int) := by omega
        have r2 : (d.toNat : Int) ≤ 70 := by omega
        clear h1
        go_wp2_with fail
        go_ret
        exact ⟨by rw [HE.out d HDD.out H3.out]; rfl, rfl⟩
      · have H3 := hm9 h3
        clear h3
        have p1 : (48 : Int) ≤ (d.toNat : Int) := by omega
        have p2 : ¬ (d.toNat : Int) ≤ 57 := by omega
        have q1 : ¬ (97 : Int) ≤ (d.toNat : Int) := by omega
        have q2 : (d.toNat : Int) ≤ 102 := by omega
        have r1 : ¬ (65 : Int) ≤ (d.toNat : Int) := by omega
        have r2 : (d.toNat : Int) ≤ 70 := by omega
        clear h1 h2
        go_wp2_with fail
        go_ret
        exact ⟨by rw [HE.out d HDD.out H3.out]; rfl, rfl⟩
      · have H3 := hm9 h3
        clear h3
        have p1 : (48 : Int) ≤ (d.toNat : Int) := by omega
        have p2 : ¬ (d.toNat : Int) ≤ 57 := by omega
        have q1 : ¬ (97 : Int) ≤ (d.toNat : Int) := by omega
        have q2 : (d.toNat : Int) ≤ 102 := by omega
        have r1 : (65 : Int) ≤ (d.toNat : Int) := by omega
        have r2 : ¬ (d.toNat : Int) ≤ 70 := by omega
        clear h1 h2
        go_wp2_with fail
        go_ret
        exact ⟨by rw [HE.out d HDD.out H3.out]; rfl, rfl⟩
      · have H3 := hm9 h3
        clear h3
        have p1 : (48 : Int) ≤ (d.toNat : Int) := by omega
        have p2 : ¬ (d.toNat : Int) ≤ 57 := by omega
        have q1 : (97 : Int) ≤ (d.toNat : Int) := by omega
        have q2 : ¬ (d.toNat : Int) ≤ 102 := by omega
        have r1 : (65 : Int) ≤ (d.toNat : Int) := by omega
        have r2 : ¬ (d.toNat : Int) ≤ 70 := by omega
        clear h1
        go_wp2_with fail
        go_ret
        exact ⟨by rw [HE.out d HDD.out H3.out]; rfl, rfl⟩
def upcN (n : Nat) : Nat := if 97 ≤ n ∧ n ≤ 102 then n - 32 else n
def upc (c : UInt8) : UInt8 := UInt8.ofNat (upcN c.toNat)
theorem upc_to (c : UInt8) : (upc c).toNat = upcN c.toNat := by
  unfold upc
  rw [UInt8.toNat_ofNat']
  refine Nat.mod_eq_of_lt ?_
  have := c.toNat_lt
  unfold upcN
  split <;> omega
theorem upc_hex {c : UInt8} (h : hexd c = true) : hexd (upc c) = true ∧ hexv (upc c) = hexv c := by
  have h1 : ∀ n, n < 256 → hexdN n = true → hexdN (upcN n) = true ∧ hexvN (upcN n) = hexvN n := by decide +kernel
  have h2 := h1 c.toNat c.toNat_lt h
  unfold hexd hexv
  rw [upc_to]
  exact h2
theorem hexF_up : ∀ (l : List UInt8) (n : Nat), (∀ c ∈ l, hexd c = true) → hexF n (l.map upc) = hexF n l
  | [], _, _ => rfl
  | c :: l, n, h => by
    show hexF (16 * n + hexv (upc c)) (l.map upc) = hexF (16 * n + hexv c) l
    rw [(upc_hex (h c (List.mem_cons_self ..))).2]
    exact hexF_up l _ (fun d hd => h d (List.mem_cons_of_mem _ hd))
theorem take_up (l : List UInt8) (i : Nat) (h : i < l.length) : (l.take i).map upc ++ [upc (l.getD i 0)] = (l.take (i + 1)).map upc := by
  rw [List.take_succ_eq_append_getElem h, List.map_append, List.getD_eq_getElem?_getD, List.getElem?_eq_getElem h]; rfl
theorem upper_c (l : List UInt8) (hl : l.length ≤ 10000) (w : World) :
    Calls Tryz.prog 17 #[.string (bs l)] w fun en w' => en = .returned (.string (bs (l.map upc))) ∧ Below w.heap.size w w' := by
  have hs : (bs l).size = l.length := bs_size l
  have HL : Hid (l.length ≤ 10000) := hl
  have HG : Hid (∀ (i : Nat) (h : i < (bs l).size), ((bs l)[i]'h) = l.getD i 0) := by intro i h; show l[i] = _; rw [List.getD_eq_getElem?_getD, List.getElem?_eq_getElem h]; rfl
  go_enter Tryz.func17, Tryz.ntmps17
  go_wp2_with fail
  go_loopg [3, 4] l.length (fun gk tv iv wr => ∃ i : Nat, i + gk = l.length ∧ tv = .string (bs ((l.take i).map upc)) ∧ iv = .int .i64 i ∧ Below w.heap.size w wr)
  case atStart => exact ⟨0, by omega, rfl, rfl, Below.refl _ _⟩
  case round =>
    obtain ⟨i, hig, rfl, rfl, hbw⟩ := hrel
    have HB : Hid (Below w.heap.size w wr) := hbw
    clear hbw
    cases gk with
    | zero =>
      obtain rfl : i = l.length := by omega
      rw [List.take_length]
      have hnl : ¬ (l.length : Int) < (l.length : Int) := by omega
      clear hig
      go_wp2_with fail
      go_ret
      exact ⟨rfl, HB.out⟩
    | succ g =>
      have hil : (i : Int) < (l.length : Int) := by omega
      have hi0 : (0 : Int) ≤ (i : Int) := by omega
      have hiK : i < (bs l).size := by omega
      have hgi := HG.out i hiK
      have wi : wrap64 ((i : Int) + 1) = ((i + 1 : Nat) : Int) := by have := HL.out; simp only [wrap64]; omega
      have HT := hm9 (take_up l i (by omega))
      obtain ⟨d, hd⟩ : ∃ d, d = l.getD i 0 := ⟨_, rfl⟩
      rw [← hd] at hgi HT
      have hgn : ((((bs l)[i]'hiK).toNat : Nat) : Int) = (d.toNat : Int) := by rw [hgi]
      obtain ⟨u, hu⟩ : ∃ u, u = (l.take i).map upc := ⟨_, rfl⟩
      rw [← hu] at HT
      rw [← hu]
      have HUL : Hid (u.length ≤ 10000) := by rw [hu, List.length_map, List.length_take]; have := HL.out; show _ ≤ _; omega
      have hca : ∀ W, (Op.stringOp .add (bs u) (bs [upc d])).run Tryz.prog W = .ok (.string (bs (u ++ [upc d]))) W := fun W => cat_run u [upc d] W (by have := HUL.out; show _ + 1 ≤ _; omega)
      have hba : ¬ ((bs u).size + (bs [upc d]).size > 9223372036854775807) := by rw [bs_size, bs_size]; have := HUL.out; show ¬ (_ + 1 > _); omega
      have HUP := hm9 (upc_to d)
      clear hd hgi hu
      by_cases hc : 97 ≤ d.toNat ∧ d.toNat ≤ 102
      · have q1 : (97 : Int) ≤ (d.toNat : Int) := by omega
        have q2 : (d.toNat : Int) ≤ 102 := by omega
        have w1 : IntKind.u8.wrap ((d.toNat : Int) - 97) = (d.toNat : Int) - 97 := by simp [IntKind.wrap, IntKind.signed, IntKind.bits]; omega
        have w2 : IntKind.u8.wrap ((d.toNat : Int) - 97 + 65) = ((upc d).toNat : Int) := by rw [HUP.out]; unfold upcN; rw [if_pos hc]; simp [IntKind.wrap, IntKind.signed, IntKind.bits]; omega
        clear hc
        have hcv := byte1p (w := wr.alloc (.cells #[.int .u8 ((upc d).toNat : Int)] 5)) (g := wr.heap.size) (c := upc d) (World.cell?_alloc_new ..)
        go_wp2_with fail
        go_roundg g
        case measure => omega
        case rel => exact ⟨i + 1, by omega, by rw [HT.out], by go_num, Below.on HB.out (below1 _ _)⟩
      · have HN := hm9 hc
        have hud : (upc d).toNat = d.toNat := by rw [HUP.out]; unfold upcN; rw [if_neg hc]
        have hcv : (convert 74 9 (.slice (some ⟨wr.heap.size, 0, none⟩) 1 1)).run Tryz.prog (wr.alloc (.cells #[.int .u8 (d.toNat : Int)] 5)) = .ok (.string (bs [upc d])) (wr.alloc (.cells #[.int .u8 (d.toNat : Int)] 5)) := byte1p (by rw [hud]; exact World.cell?_alloc_new ..)
        by_cases hc1 : 97 ≤ d.toNat
        · have q1 : (97 : Int) ≤ (d.toNat : Int) := by omega
          have q2 : ¬ (d.toNat : Int) ≤ 102 := by omega
          clear hc hc1 hud
          go_wp2_with fail
          go_roundg g
          case measure => omega
          case rel => exact ⟨i + 1, by omega, by rw [HT.out], by go_num, Below.on HB.out (below1 _ _)⟩
        · have q1 : ¬ (97 : Int) ≤ (d.toNat : Int) := by omega
          clear hc hc1 hud
          go_wp2_with fail
          go_roundg g
          case measure => omega
          case rel => exact ⟨i + 1, by omega, by rw [HT.out], by go_num, Below.on HB.out (below1 _ _)⟩
end Go.Proofs.YthoolgbofmnghaaGreatDoor
