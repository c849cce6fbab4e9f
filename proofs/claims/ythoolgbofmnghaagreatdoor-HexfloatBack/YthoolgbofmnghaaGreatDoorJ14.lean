import Derived.WalkSmall
import Derived.Laws.Concat
import Derived.Test.YthoolgbofmnghaaGreatDoorJ13
import Derived.Test.YthoolgbofmnghaaGreatDoorJ12
namespace Go.Proofs.YthoolgbofmnghaaGreatDoor
open Go.RowKit Go.Shelf
set_option maxRecDepth 20000
set_option maxHeartbeats 0
theorem formats_yes {f : Int} (hf : f = 32 ∨ f = 64) (w : World) : Calls Tryz.prog 10 #[.int .i64 f] w fun en w' => en = .returned (.bool true) ∧ w' = w := by
  rcases hf with rfl | rfl
  · go_enter Tryz.func10, Tryz.ntmps10
    go_wp2_with fail
    go_ret
    exact ⟨rfl, rfl⟩
  · go_enter Tryz.func10, Tryz.ntmps10
    go_wp2_with fail
    go_ret
    exact ⟨rfl, rfl⟩
theorem formats_no {f : Int} (h1 : f ≠ 32) (h2 : f ≠ 64) (w : World) : Calls Tryz.prog 10 #[.int .i64 f] w fun en w' => en = .returned (.bool false) ∧ w' = w := by
  have hd : (f == 32 || f == 64) = false := by simp [h1, h2]
  go_enter Tryz.func10, Tryz.ntmps10
  go_wp2_with fail
  go_ret
  exact ⟨rfl, rfl⟩
theorem tw_app {p A r : List UInt8} (hA : ∀ c ∈ A, c ∈ p) (hr : ∀ c t, r = c :: t → c ∉ p) : (A ++ r).takeWhile (p.contains ·) = A ∧ Lib.trimLeftS (A ++ r) p = r := by
  have hA' : ∀ c ∈ A, p.contains c = true := fun c hc => List.contains_iff_mem.2 (hA c hc)
  have h2 : r.takeWhile (p.contains ·) = [] ∧ r.dropWhile (p.contains ·) = r := by
    cases r with
    | nil => exact ⟨rfl, rfl⟩
    | cons c t =>
      have h3 : p.contains c = false := by
        cases h : p.contains c with
        | false => rfl
        | true => exact absurd (List.contains_iff_mem.1 h) (hr c t rfl)
      rw [List.takeWhile_cons, List.dropWhile_cons, h3]
      exact ⟨rfl, rfl⟩
  unfold Lib.trimLeftS
  rw [List.takeWhile_append_of_pos hA', List.dropWhile_append_of_pos hA', h2.1, h2.2, List.append_nil]
  exact ⟨rfl, rfl⟩
theorem pre_same (p r : List UInt8) : Lib.hasPrefix (p ++ r) p = true := List.isPrefixOf_iff_prefix.2 (List.prefix_append _ _)
theorem takes_same (p : List UInt8) (ps : List (List UInt8)) (r : List UInt8) : takesF (p :: ps) (p ++ r) = some r := by
  unfold takesF; rw [if_pos (pre_same p r), List.drop_left]
theorem takes_snd {p q r : List UInt8} (ps : List (List UInt8)) (h : Lib.hasPrefix (q ++ r) p = false) : takesF (p :: q :: ps) (q ++ r) = some r := by
  unfold takesF; rw [if_neg (by rw [h]; decide)]; exact takes_same q ps r
theorem pre_ne {c d : UInt8} {l p : List UInt8} (h : c ≠ d) : Lib.hasPrefix (c :: l) (d :: p) = false := by
  unfold Lib.hasPrefix
  rw [List.isPrefixOf_cons_cons, show (d == c) = false by simpa using (Ne.symm h)]; rfl
theorem takes_not {c d : UInt8} {r : List UInt8} (h : c ≠ d) : takesF [[d]] (c :: r) = none := by
  unfold takesF; rw [if_neg (by rw [pre_ne h]; decide)]; rfl
theorem hexs_mem {c : UInt8} (h : hexd c = true) : c ∈ hexs := by
  have h1 : ∀ n, n < 256 → hexdN n = true → UInt8.ofNat n ∈ hexs := by decide +kernel
  have h2 := h1 c.toNat c.toNat_lt h
  rwa [UInt8.ofNat_toNat] at h2
theorem digs_plain {A r : List UInt8} {c : UInt8} (hA : ∀ c ∈ A, hexd c = true) (hc : c ∉ hexs) (h46 : c ≠ 46) : digsF hexs (A ++ c :: r) = (A, 0, c :: r) := by
  obtain ⟨h1, h2⟩ := tw_app (p := hexs) (A := A) (r := c :: r) (fun c hc => hexs_mem (hA c hc)) (by rintro d t ⟨rfl⟩; exact hc)
  unfold digsF
  rw [h2, takes_not h46, h1]
theorem digs_point {A B r : List UInt8} {c : UInt8} (hA : ∀ c ∈ A, hexd c = true) (hB : ∀ c ∈ B, hexd c = true) (hc : c ∉ hexs) : digsF hexs (A ++ 46 :: (B ++ c :: r)) = (A ++ B, B.length, c :: r) := by
  obtain ⟨h1, h2⟩ := tw_app (p := hexs) (A := A) (r := 46 :: (B ++ c :: r)) (fun c hc => hexs_mem (hA c hc)) (by rintro d t ⟨rfl⟩; decide)
  obtain ⟨h3, h4⟩ := tw_app (p := hexs) (A := B) (r := c :: r) (fun c hc => hexs_mem (hB c hc)) (by rintro d t ⟨rfl⟩; exact hc)
  unfold digsF
  rw [h2, show (46 : UInt8) :: (B ++ c :: r) = [46] ++ (B ++ c :: r) from rfl, takes_same [46] [] _]
  show (_, _, _) = _
  rw [show ([46] : List UInt8) ++ (B ++ c :: r) = 46 :: (B ++ c :: r) from rfl, h1, h3, h4]
def ExT (E : List UInt8) (n : Int) : Prop := (expF E).1 ≠ [] ∧ (expF E).2.1 = n ∧ (expF E).2.2 = []
theorem numF_plain {x p : UInt8} {A E : List UInt8} {n : Int} (hx : x = 120 ∨ x = 88) (hp : p = 112 ∨ p = 80) (hA : ∀ c ∈ A, hexd c = true) (hA0 : A ≠ []) (hE : ExT E n) :
    numF (48 :: x :: (A ++ p :: E)) = some (Lib.trimLeftS A [48], 0, n) := by
  have h1 : takesF [[48, 120], [48, 88]] (48 :: x :: (A ++ p :: E)) = some (A ++ p :: E) := by
    rcases hx with rfl | rfl
    · exact takes_same [48, 120] [[48, 88]] _
    · refine takes_snd (p := [48, 120]) (q := [48, 88]) [] ?_
      unfold Lib.hasPrefix; rfl
  have h2 : digsF hexs (A ++ p :: E) = (A, 0, p :: E) := digs_plain hA (by rcases hp with rfl | rfl <;> decide) (by rcases hp with rfl | rfl <;> decide)
  have h3 : takesF [[112], [80]] (p :: E) = some E := by
    rcases hp with rfl | rfl
    · exact takes_same [112] [[80]] _
    · exact takes_snd (p := [112]) (q := [80]) [] (pre_ne (by decide))
  rw [numF_s h1 (by rw [h2]; exact hA0) (by rw [h2]; exact h3), if_neg hE.1, if_pos hE.2.2, h2, hE.2.1]
theorem numF_point {x p : UInt8} {A B E : List UInt8} {n : Int} (hx : x = 120 ∨ x = 88) (hp : p = 112 ∨ p = 80) (hA : ∀ c ∈ A, hexd c = true) (hB : ∀ c ∈ B, hexd c = true) (hA0 : A ++ B ≠ []) (hE : ExT E n) :
    numF (48 :: x :: (A ++ 46 :: (B ++ p :: E))) = some (Lib.trimLeftS (A ++ B) [48], B.length, n) := by
  have h1 : takesF [[48, 120], [48, 88]] (48 :: x :: (A ++ 46 :: (B ++ p :: E))) = some (A ++ 46 :: (B ++ p :: E)) := by
    rcases hx with rfl | rfl
    · exact takes_same [48, 120] [[48, 88]] _
    · refine takes_snd (p := [48, 120]) (q := [48, 88]) [] ?_
      unfold Lib.hasPrefix; rfl
  have h2 : digsF hexs (A ++ 46 :: (B ++ p :: E)) = (A ++ B, B.length, p :: E) := digs_point hA hB (by rcases hp with rfl | rfl <;> decide)
  have h3 : takesF [[112], [80]] (p :: E) = some E := by
    rcases hp with rfl | rfl
    · exact takes_same [112] [[80]] _
    · exact takes_snd (p := [112]) (q := [80]) [] (pre_ne (by decide))
  rw [numF_s h1 (by rw [h2]; exact hA0) (by rw [h2]; exact h3), if_neg hE.1, if_pos hE.2.2, h2, hE.2.1]
theorem farF_snoc (n : Nat) (l : List UInt8) (c : UInt8) : farF n (l ++ [c]) = min (10 * farF n l + (c.toNat - 48)) 100000 := by
  induction l generalizing n with
  | nil => rfl
  | cons d l ih => exact ih _
theorem decc {d : Nat} (h : d < 10) : (UInt8.ofNat (48 + d)).toNat = 48 + d ∧ UInt8.ofNat (48 + d) ∈ decs := by
  obtain rfl | rfl | rfl | rfl | rfl | rfl | rfl | rfl | rfl | rfl : d = 0 ∨ d = 1 ∨ d = 2 ∨ d = 3 ∨ d = 4 ∨ d = 5 ∨ d = 6 ∨ d = 7 ∨ d = 8 ∨ d = 9 := by omega
  all_goals exact ⟨rfl, by decide⟩
theorem dec_read (u : Nat) : farF 0 (Lib.decDigits u) = min u 100000 ∧ (∀ c ∈ Lib.decDigits u, c ∈ decs) ∧ Lib.decDigits u ≠ [] := by
  induction u using Nat.strongRecOn with
  | ind u ih =>
    rw [Lib.decDigits]
    split
    · rename_i h
      refine ⟨?_, ?_, by simp⟩
      · show min (10 * 0 + ((UInt8.ofNat (48 + u)).toNat - 48)) 100000 = _
        rw [(decc h).1]; congr 1; omega
      · intro c hc; rw [List.mem_singleton] at hc; rw [hc]; exact (decc h).2
    · rename_i h
      obtain ⟨i1, i2, i3⟩ := ih (u / 10) (by omega)
      refine ⟨?_, ?_, by simp⟩
      · rw [farF_snoc, i1, (decc (Nat.mod_lt u (by decide))).1]; omega
      · intro c hc
        rw [List.mem_append] at hc
        rcases hc with hc | hc
        · exact i2 c hc
        · rw [List.mem_singleton] at hc; rw [hc]; exact (decc (Nat.mod_lt u (by decide))).2
theorem exp_plain {E : List UInt8} (hE : ∀ c ∈ E, c ∈ decs) (h0 : E ≠ []) : ExT E (farF 0 E : Nat) ∧ ExT (45 :: E) (-((farF 0 E : Nat) : Int)) ∧ ExT (43 :: E) (farF 0 E : Nat) := by
  obtain ⟨h1, h2⟩ := tw_app (p := decs) (A := E) (r := []) hE (by rintro d t ⟨⟩)
  rw [List.append_nil] at h1 h2
  have hm0 : minusF E = (false, E) := by
    cases E with
    | nil => rfl
    | cons c r =>
      have hc := hE c (List.mem_cons_self ..)
      unfold minusF
      rw [if_neg (by rw [pre_ne (by rintro rfl; revert hc; decide)]; decide), if_neg (by rw [pre_ne (by rintro rfl; revert hc; decide)]; decide)]
  have hm1 : minusF (45 :: E) = (true, E) := by unfold minusF; rw [if_neg (by rw [pre_ne (by decide)]; decide), if_pos (show Lib.hasPrefix (45 :: E) [45] = true from pre_same [45] E)]; rfl
  have hm2 : minusF (43 :: E) = (false, E) := by unfold minusF; rw [if_pos (show Lib.hasPrefix (43 :: E) [43] = true from pre_same [43] E)]; rfl
  refine ⟨?_, ?_, ?_⟩
  · unfold ExT expF; rw [hm0]; refine ⟨?_, ?_, h2⟩
    · show E.takeWhile (decs.contains ·) ≠ []; rw [h1]; exact h0
    · show ((farF 0 (E.takeWhile (decs.contains ·)) : Nat) : Int) = _; rw [h1]
  · unfold ExT expF; rw [hm1]; refine ⟨?_, ?_, h2⟩
    · show E.takeWhile (decs.contains ·) ≠ []; rw [h1]; exact h0
    · show -((farF 0 (E.takeWhile (decs.contains ·)) : Nat) : Int) = _; rw [h1]
  · unfold ExT expF; rw [hm2]; refine ⟨?_, ?_, h2⟩
    · show E.takeWhile (decs.contains ·) ≠ []; rw [h1]; exact h0
    · show ((farF 0 (E.takeWhile (decs.contains ·)) : Nat) : Int) = _; rw [h1]
theorem exp_itoa {n : Int} (h0 : -100000 ≤ n) (h1 : n ≤ 100000) : ExT (Lib.itoa n) n ∧ (0 ≤ n → ExT (43 :: Lib.itoa n) n) := by
  unfold Lib.itoa
  split
  · rename_i h
    obtain ⟨a1, a2, a3⟩ := dec_read n.natAbs
    have hx := (exp_plain a2 a3).2.1
    rw [a1, show (-((min n.natAbs 100000 : Nat) : Int)) = n by omega] at hx
    exact ⟨hx, fun h2 => by omega⟩
  · rename_i h
    obtain ⟨a1, a2, a3⟩ := dec_read n.toNat
    have hx := (exp_plain a2 a3).1
    have hy := (exp_plain a2 a3).2.2
    rw [a1, show ((min n.toNat 100000 : Nat) : Int) = n by omega] at hx hy
    exact ⟨hx, fun _ => hy⟩
theorem hexF_n (n : Nat) (b : List UInt8) : hexF n b = n * 16 ^ b.length + hexF 0 b := by
  induction b generalizing n with
  | nil => show n = n * 1 + 0; omega
  | cons c b ih =>
    show hexF (16 * n + hexv c) b = n * 16 ^ (b.length + 1) + hexF (16 * 0 + hexv c) b
    rw [ih (16 * n + hexv c), ih (16 * 0 + hexv c), Nat.pow_succ, Nat.mul_zero, Nat.zero_add, Nat.add_mul, show 16 * n * 16 ^ b.length = n * (16 ^ b.length * 16) by rw [Nat.mul_comm 16 n, Nat.mul_assoc, Nat.mul_comm 16]]
    omega
theorem hxc_v {d : Nat} (h : d < 16) : hexv (UInt8.ofNat (hxc d)) = d ∧ hexd (UInt8.ofNat (hxc d)) = true := by
  have h1 : ∀ d, d < 16 → hexv (UInt8.ofNat (hxc d)) = d ∧ hexd (UInt8.ofNat (hxc d)) = true := by decide +kernel
  exact h1 d h
theorem hexL_in : ∀ (f x : Nat), ∀ c ∈ hexL f x, hexd c = true
  | 0, _, c, h => by cases h
  | f + 1, x, c, h => by
    have h1 : c ∈ (if x < 16 then [UInt8.ofNat (hxc x)] else hexL f (x / 16) ++ [UInt8.ofNat (hxc (x % 16))]) := h
    split at h1
    · rename_i hx; rw [List.mem_singleton] at h1; rw [h1]; exact (hxc_v hx).2
    · rw [List.mem_append] at h1
      rcases h1 with h1 | h1
      · exact hexL_in f _ c h1
      · rw [List.mem_singleton] at h1; rw [h1]; exact (hxc_v (Nat.mod_lt _ (by decide))).2
theorem hexL_val : ∀ (f x : Nat), x < 16 ^ f → hexF 0 (hexL f x) = x
  | 0, x, h => by have : x < 1 := h; show 0 = x; omega
  | f + 1, x, h => by
    show hexF 0 (if x < 16 then [UInt8.ofNat (hxc x)] else hexL f (x / 16) ++ [UInt8.ofNat (hxc (x % 16))]) = x
    split
    · rename_i hx; show 16 * 0 + hexv _ = x; rw [(hxc_v hx).1]; omega
    · rw [hexF_app, hexL_val f _ (by rw [Nat.pow_succ] at h; omega)]
      show 16 * (x / 16) + hexv _ = x
      rw [(hxc_v (Nat.mod_lt _ (by decide))).1]; omega
theorem rnp_eq {f p m l : Int} {S I H sd : Nat} {Be : Int} (J : Jn f p m l S I H sd Be) {x e : Int} {Z : Nat} (hx : 0 ≤ x) (he : -4194304 ≤ e) (h : RNz H l I (dv x e) Z) : rnp l sd Be S I x e = Z := by
  obtain ⟨Y, _, h2, h3, _⟩ := rnp_is J x e he
  rw [show ((x.natAbs : Nat) : Int) = x by omega] at h2
  rw [h3, if_neg (by omega)]
  exact h2.uniq h
theorem parseF_of {le : Int} {sd : Nat} {Be : Int} {S I Q : Nat} {l r ds : List UInt8} {be : Nat} {ex : Int} {neg : Bool} (hl : l.length ≤ 4000) (hm : minusF l = (neg, r)) (hn : numF r = some (ds, be, ex)) :
    parseF le sd Be S I Q l = (sgq S neg (rnp le sd Be S I (hexF 0 ds : Int) (ex - 4 * ((be : Nat) : Int))), 0) := by
  have h1 : l ≠ [110, 97, 110] := by
    rintro rfl
    have h2 : minusF [110, 97, 110] = (false, [110, 97, 110]) := by decide +kernel
    rw [h2] at hm
    cases hm
    have h3 : numF [110, 97, 110] = none := by decide +kernel
    rw [h3] at hn; cases hn
  have h2 : (minusF l).2 ≠ [105, 110, 102] := by
    rw [hm]
    rintro rfl
    have h3 : numF [105, 110, 102] = none := by decide +kernel
    rw [h3] at hn; cases hn
  rw [parseF_num (by omega) h1 h2 (by rw [hm]; exact hn), hm]
theorem minus_0 (r : List UInt8) : minusF (48 :: r) = (false, 48 :: r) := by
  unfold minusF
  rw [if_neg (by rw [pre_ne (by decide)]; decide), if_neg (by rw [pre_ne (by decide)]; decide)]
theorem minus_s (neg : Bool) (r : List UInt8) : minusF ((if neg then [45] else []) ++ 48 :: r) = (neg, 48 :: r) := by
  cases neg
  · exact minus_0 r
  · exact minus_m (48 :: r)
theorem trimR_split (l : List UInt8) (c : UInt8) : ∃ k, l = Lib.trimRightB l c ++ List.replicate k c := by
  have h := List.takeWhile_append_dropWhile (p := (· == c)) (l := l.reverse)
  refine ⟨(l.reverse.takeWhile (· == c)).length, ?_⟩
  have h2 : l = (l.reverse.dropWhile (· == c)).reverse ++ (l.reverse.takeWhile (· == c)).reverse := by rw [← List.reverse_append, h, List.reverse_reverse]
  have h3 : (l.reverse.takeWhile (· == c)).reverse = List.replicate (l.reverse.takeWhile (· == c)).length c := by
    rw [List.eq_replicate_iff]
    refine ⟨List.length_reverse, fun b hb => ?_⟩
    rw [List.mem_reverse] at hb
    have := List.all_eq_true.1 (List.all_takeWhile (p := (· == c)) (l := l.reverse)) b hb
    simpa using this
  unfold Lib.trimRightB
  rw [← h3]
  exact h2
theorem hexF_zeros (n k : Nat) : hexF n (List.replicate k 48) = n * 16 ^ k := by
  induction k generalizing n with
  | zero => show n = n * 1; omega
  | succ k ih =>
    rw [List.replicate_succ]
    show hexF (16 * n + hexv 48) (List.replicate k 48) = _
    rw [ih, show hexv 48 = 0 by decide, Nat.pow_succ, Nat.add_zero, Nat.mul_comm 16 n, Nat.mul_assoc, Nat.mul_comm 16]
theorem frF_val {x : Nat} (hx : x < 16 ^ 16) : ∃ k, (frF x).length + k = 16 ∧ hexF 0 (frF x) * 16 ^ k = x ∧ ∀ c ∈ frF x, hexd c = true := by
  have hl := hexL_len 16 x
  obtain ⟨k, hk⟩ := trimR_split (List.replicate (16 - (hexL 16 x).length) 48 ++ hexL 16 x) 48
  have hlen := congrArg List.length hk
  rw [List.length_append, List.length_append, List.length_replicate, List.length_replicate] at hlen
  have hv := congrArg (hexF 0) hk
  rw [hexF_app, hexF_app, hexF_zeros, hexF_zeros, Nat.zero_mul, hexL_val 16 x hx] at hv
  refine ⟨k, ?_, ?_, ?_⟩
  · unfold frF; omega
  · unfold frF; exact hv.symm
  · intro c hc
    have h2 : c ∈ List.replicate (16 - (hexL 16 x).length) 48 ++ hexL 16 x := by rw [hk]; exact List.mem_append_left _ hc
    rw [List.mem_append] at h2
    rcases h2 with h2 | h2
    · rw [(List.mem_replicate.1 h2).2]; decide
    · exact hexL_in _ _ c h2
theorem dv_cong {x y : Int} {a b : Int} (k : Nat) (ha : -4194304 ≤ a) (hb : -4194304 ≤ b) (hab : b = a + k) (h : x = y * ((2 ^ k : Nat) : Int)) : dv x a = dv y b := by
  rw [hab, dv_up k ha, h]
theorem sixteen (k : Nat) : (16 : Nat) ^ k = 2 ^ (4 * k) := by rw [show (16 : Nat) = 2 ^ 4 by decide, ← Nat.pow_mul]
theorem itoa_short {n : Int} (h0 : -3000 ≤ n) (h1 : n ≤ 3000) : (Lib.itoa n).length ≤ 302 := by
  unfold Lib.itoa
  split
  · rw [List.length_cons, Lib.decDigits_length]; have := ndig_le n.natAbs; omega
  · rw [Lib.decDigits_length]; have := ndig_le n.toNat; omega
theorem exF_num {man : Nat} {exp : Int} (h0 : man ≠ 0) (h1 : man < B64) (he : -2000 ≤ exp ∧ exp ≤ 2000) :
    ∃ r ds be ex, exF man exp = 48 :: r ∧ numF (48 :: r) = some (ds, be, ex) ∧ dv (hexF 0 ds : Int) (ex - 4 * ((be : Nat) : Int)) = dv (man : Int) exp ∧ -4194304 ≤ ex - 4 * ((be : Nat) : Int) ∧ r.length ≤ 500 := by
  have hb1 := bitsN_le64 h1
  have hb2 := bitsN_posX h0
  obtain ⟨t, ht⟩ : ∃ t, t = bitsN man - 1 := ⟨_, rfl⟩
  have hlo : 2 ^ t ≤ man := by rw [ht]; exact bitsN_le man h0
  have hhi : man < 2 ^ (t + 1) := by rw [ht, show bitsN man - 1 + 1 = bitsN man by omega]; exact bitsN_lt man
  obtain ⟨y, hy⟩ : ∃ y, y = man * 2 ^ (64 - t) % B64 := ⟨_, rfl⟩
  have hyB : y < 16 ^ 16 := by rw [hy]; exact Nat.mod_lt _ (by decide)
  have hp : 2 ^ t * 2 ^ (64 - t) = B64 := by rw [← Nat.pow_add, show t + (64 - t) = 64 by omega]; rfl
  have hy2 : B64 + y = man * 2 ^ (64 - t) := by
    have a1 : B64 ≤ man * 2 ^ (64 - t) := by rw [← hp]; exact Nat.mul_le_mul_right _ hlo
    have a2 : man * 2 ^ (64 - t) < B64 + B64 := by
      rw [show B64 + B64 = 2 ^ (t + 1) * 2 ^ (64 - t) by rw [Nat.pow_succ, Nat.mul_assoc, Nat.mul_comm 2, ← Nat.mul_assoc, hp]; omega]
      exact Nat.mul_lt_mul_of_pos_right hhi (Nat.two_pow_pos _)
    rw [hy, Nat.mod_eq_sub_mod a1, Nat.mod_eq_of_lt (by omega)]; omega
  obtain ⟨k, hk1, hk2, hk3⟩ := frF_val hyB
  have hdg : dgF man = frF y := by unfold dgF; rw [← ht, hy]
  obtain ⟨q, hq⟩ : ∃ q, q = frF y := ⟨_, rfl⟩
  rw [← hq] at hk1 hk2 hk3 hdg
  obtain ⟨n, hn⟩ : ∃ n : Int, n = exp + (t : Int) := ⟨_, rfl⟩
  have hE : ExT (sgT n) n := by
    have h := exp_itoa (n := n) (by omega) (by omega)
    unfold sgT
    split
    · exact h.1
    · exact h.2 (by omega)
  have hsl : (sgT n).length ≤ 400 := by
    have h := itoa_short (n := n) (by omega) (by omega)
    unfold sgT
    split <;> (try rw [List.length_cons]) <;> omega
  have hval : dv (hexF 0 (49 :: q) : Int) (n - 4 * ((q.length : Nat) : Int)) = dv (man : Int) exp := by
    have e1 : hexF 0 (49 :: q) * 16 ^ k = man * 2 ^ (64 - t) := by
      show hexF (16 * 0 + hexv 49) q * 16 ^ k = _
      rw [hexF_n, Nat.add_mul, hk2, show 16 * 0 + hexv 49 = 1 by decide, Nat.one_mul, ← Nat.pow_add, hk1, ← hy2]; rfl
    have e2 : (hexF 0 (49 :: q) * 2 ^ (4 * k) : Nat) = man * 2 ^ (64 - t) := by rw [← sixteen]; exact e1
    have c1 : dv (((hexF 0 (49 :: q) * 2 ^ (4 * k) : Nat) : Int)) (n - 64) = dv (hexF 0 (49 :: q) : Int) (n - 4 * ((q.length : Nat) : Int)) :=
      dv_cong (4 * k) (by omega) (by omega) (by omega) (by rw [Int.natCast_mul])
    have c2 : dv (((man * 2 ^ (64 - t) : Nat) : Int)) (n - 64) = dv (man : Int) exp :=
      dv_cong (64 - t) (by omega) (by omega) (by omega) (by rw [Int.natCast_mul])
    rw [← c1, e2, c2]
  by_cases hq0 : q = []
  · refine ⟨120 :: ([49] ++ 112 :: sgT n), [49], 0, n, ?_, ?_, ?_, by omega, ?_⟩
    · unfold exF; rw [if_neg h0, hdg, if_pos hq0, ← ht, hn]; rfl
    · have h := numF_plain (x := 120) (p := 112) (A := [49]) (.inl rfl) (.inl rfl) (by decide) (by decide) hE
      rw [h]; rfl
    · rw [hq0] at hval; exact hval
    · simp only [List.length_cons, List.length_append, List.length_nil]; omega
  · refine ⟨120 :: ([49] ++ 46 :: (q ++ 112 :: sgT n)), 49 :: q, q.length, n, ?_, ?_, hval, by omega, ?_⟩
    · unfold exF; rw [if_neg h0, hdg, if_neg hq0, ← ht, hn]; simp
    · have h := numF_point (x := 120) (p := 112) (A := [49]) (B := q) (.inl rfl) (.inl rfl) (by decide) hk3 (by simp) hE
      rw [h]; rfl
    · simp only [List.length_cons, List.length_append, List.length_nil]; omega
theorem vs_dv {H z : Nat} {le : Int} (hl : -4194303 ≤ le) : dv ((z - (z / H - 1) * H : Nat) : Int) (le + ((z / H - 1 : Nat) : Int)) = dv (vs H z : Int) le := by
  rw [dv_up _ (by omega)]
  unfold vs
  rw [Int.natCast_mul]
theorem back_ok {f p m le : Int} {S I H sd Q : Nat} {Be : Int} (h : Hf f p m le S I H sd Be Q) {b : Nat} (hb : b < 2 * S) :
    (I < b % S ∧ printF le H S I b = [110, 97, 110] ∧ parseF le sd Be S I Q [110, 97, 110] = (Q, 0)) ∨ (b % S ≤ I ∧ parseF le sd Be S I Q (printF le H S I b) = (b, 0)) := by
  have hlt := h.j.jm.pm.fm.lt
  by_cases hn : I < b % S
  · exact .inl ⟨hn, if_pos hn, parseF_nan (by decide) rfl⟩
  right
  refine ⟨by omega, ?_⟩
  obtain ⟨z, hz⟩ : ∃ z, z = b % S := ⟨_, rfl⟩
  obtain ⟨neg, hneg⟩ : ∃ neg, neg = decide (S ≤ b) := ⟨_, rfl⟩
  have hbz : sgq S neg z = b := by
    unfold sgq
    by_cases hs : S ≤ b
    · rw [hneg, decide_eq_true hs, if_pos rfl, hz, Nat.mod_eq_sub_mod hs, Nat.mod_eq_of_lt (by omega)]; omega
    · rw [hneg, decide_eq_false hs, if_neg (by decide), hz, Nat.mod_eq_of_lt (by omega)]
  have hsg : (if S ≤ b then [45] else [] : List UInt8) = if neg then [45] else [] := by rw [hneg]; by_cases hs : S ≤ b <;> simp [hs]
  rw [← hz] at hn
  unfold printF
  rw [← hz, if_neg hn, hsg]
  by_cases hi : z = I
  · rw [if_pos hi]
    cases neg
    · rw [parseF_inf (by decide) (by decide) (by decide +kernel), ← hbz, hi]; rfl
    · rw [parseF_inf (by decide) (by decide) (by decide +kernel), ← hbz, hi]; rfl
  rw [if_neg hi]
  have hst := h.j.jm.pm.st z (by omega)
  have hlo := h.j.jm.pm.lo
  have hle := h.j.jm.pm.fm.le
  obtain ⟨mn, hmn⟩ : ∃ mn, mn = z - (z / H - 1) * H := ⟨_, rfl⟩
  obtain ⟨ex, hex⟩ : ∃ ex : Int, ex = le + ((z / H - 1 : Nat) : Int) := ⟨_, rfl⟩
  have hv := vs_dv (H := H) (z := z) (le := le) (by omega)
  rw [← hmn, ← hex] at hv ⊢
  have hmB : mn < B64 := Nat.lt_of_le_of_lt (by rw [hmn]; exact Nat.sub_le _ _) (Nat.lt_of_lt_of_le (by omega : z < S) (Nat.le_trans hle (by decide)))
  have hex2 : -2000 ≤ ex ∧ ex ≤ 2000 := ⟨by omega, by omega⟩
  have hRZ : RNz H le I (dv (vs H z : Int) le) z := RNz.exact h.j.jm.pm.hp (by omega) (by omega)
  by_cases hm0 : mn = 0
  · have hE0 : exF mn ex = [48, 120, 48, 112, 43, 48] := by unfold exF; rw [if_pos hm0]
    have hnum : numF [48, 120, 48, 112, 43, 48] = some ([], 0, 0) := by decide +kernel
    rw [hE0, parseF_of (neg := neg) (r := [48, 120, 48, 112, 43, 48]) (by cases neg <;> decide) (minus_s neg _) hnum]
    have hr : rnp le sd Be S I (hexF 0 [] : Int) (0 - 4 * ((0 : Nat) : Int)) = z := by
      refine rnp_eq h.j (by decide) (by decide) ?_
      rw [hm0] at hv
      rw [← hv] at hRZ
      have e1 : dv ((0 : Nat) : Int) ex = dv ((hexF 0 [] : Nat) : Int) (0 - 4 * ((0 : Nat) : Int)) := by
        show 0 * _ = 0 * _
        rw [Int.zero_mul, Int.zero_mul]
      rwa [e1] at hRZ
    rw [hr, hbz]
  · obtain ⟨r, ds, be, en, h1, h2, h3, h4, h5⟩ := exF_num hm0 hmB hex2
    rw [h1, parseF_of (neg := neg) (r := 48 :: r) (by cases neg <;> simp only [if_true, if_false, List.length_append, List.length_cons, List.length_nil, Bool.false_eq_true] <;> omega) (minus_s neg _) h2]
    have hr : rnp le sd Be S I (hexF 0 ds : Int) (en - 4 * ((be : Nat) : Int)) = z := by
      refine rnp_eq h.j (Int.natCast_nonneg _) h4 ?_
      rwa [h3, hv]
    rw [hr, hbz]
theorem clsof_bd {f : Int} {b : Nat} {er : Int} (hB : Bad f b er) (he : er ≠ 0) (w : World) :
    Calls Tryz.prog 13 #[.int .i64 f, U b] w fun en w' => en = .returned (.tuple #[.int .i64 0, .int .i64 er]) ∧ Below w.heap.size w w' := by
  have hbw : Below w.heap.size w w := Below.refl _ _
  have HB : Hid (Bad f b er) := hB
  have e1 : (er == 0) = false := by simp [he]
  have e2 : (er != 0) = true := by simp [he]
  clear hB he
  go_enter Tryz.func13, Tryz.ntmps13
  go_wp2_with fail
  refine (HB.out _).mono ?_
  rintro e v1 ⟨rfl, hb1⟩
  replace hbw := Below.on hbw hb1
  clear hb1
  go_wp2_with fail
  go_ret2
  exact ⟨rfl, Below.on hbw (below1 _ _)⟩
theorem print_bad {f : Int} {b : Nat} {er : Int} (hB : Bad f b er) (he : er ≠ 0) (w : World) :
    Calls Tryz.prog 11 #[.int .i64 f, U b] w fun en w' => en = .returned (.tuple #[.string ⟨#[]⟩, .int .i64 er]) ∧ Below w.heap.size w w' := by
  have HB : Hid (Bad f b er ∧ er ≠ 0) := ⟨hB, he⟩
  have e1 : (er == 0) = false := by simp [he]
  have e2 : (er != 0) = true := by simp [he]
  clear hB he
  go_enter Tryz.func11, Tryz.ntmps11
  go_wp2_with fail
  refine (clsof_bd HB.out.1 HB.out.2 _).mono ?_
  rintro e w2 ⟨rfl, hb2⟩
  have HB2 : Hid (Below w.heap.size w w2) := hb2
  clear hb2
  go_wp2_with fail
  go_ret2
  exact ⟨rfl, HB2.out⟩
theorem hexfloatBack_e {f : Int} {b : Nat} {er : Int} (hB : Bad f b er) (he : er ≠ 0) (hx : (f ≠ 32 ∧ f ≠ 64) ∨ (f = 32 ∧ 4294967296 ≤ b)) {w : World} (hw : Wd w) :
    Calls Tryz.prog 3 #[.int .i64 f, U b] w fun en w' => en = .returned (.bool true) ∧ Below w.heap.size w w' := by
  have HB : Hid (Bad f b er ∧ er ≠ 0) := ⟨hB, he⟩
  have HW : Hid (Wd w) := hw
  have e1 : (er == 0) = false := by simp [he]
  have e2 : (er != 0) = true := by simp [he]
  clear hB he hw
  go_enter Tryz.func3, Tryz.ntmps3
  go_wp2_with fail
  refine (awake10 HW.out).mono ?_
  rintro e w1 ⟨rfl, hb1⟩
  have HB1 : Hid (Below w.heap.size w w1) := hb1
  clear hb1
  go_wp2_with fail
  rcases hx with ⟨h1, h2⟩ | ⟨rfl, h1⟩
  · refine (formats_no h1 h2 _).mono ?_
    rintro e w2 ⟨rfl, rfl⟩
    go_wp2_with fail
    refine (print_bad HB.out.1 HB.out.2 _).mono ?_
    rintro e w3 ⟨rfl, hb3⟩
    have HB3 : Hid (Below w.heap.size w w3) := Below.on HB1.out hb3
    clear hb3
    go_wp2_with fail
    go_ret
    exact ⟨rfl, HB3.out⟩
  · refine (formats_yes (.inl rfl) _).mono ?_
    rintro e w2 ⟨rfl, rfl⟩
    have h2 : (4294967296 : Int) ≤ (b : Int) := by omega
    go_wp2_with fail
    refine (print_bad HB.out.1 HB.out.2 _).mono ?_
    rintro e w3 ⟨rfl, hb3⟩
    have HB3 : Hid (Below w.heap.size w w3) := Below.on HB1.out hb3
    clear hb3
    go_wp2_with fail
    go_ret
    exact ⟨rfl, HB3.out⟩
theorem hexfloatBack_32 {b : Nat} (hb : b < 2 * 2147483648) {w : World} (hw : Wd w) :
    Calls Tryz.prog 3 #[.int .i64 32, U b] w fun en w' => en = .returned (.bool true) ∧ Below w.heap.size w w' := by
  have HX : Hid (b < 2 * 2147483648) := hb
  have HW : Hid (Wd w) := hw
  clear hb hw
  go_enter Tryz.func3, Tryz.ntmps3
  go_wp2_with fail
  refine (awake10 HW.out).mono ?_
  rintro e w1 ⟨rfl, hb1⟩
  have HB1 : Hid (Below w.heap.size w w1) := hb1
  clear hb1
  go_wp2_with fail
  refine (formats_yes (.inl rfl) _).mono ?_
  rintro e w2 ⟨rfl, rfl⟩
  have h2 : decide ((4294967296 : Int) ≤ (b : Int)) = false := decide_eq_false (by have := HX.out; omega)
  go_wp2_with fail
  obtain ⟨t, ht⟩ : ∃ t, printF (-149) 8388608 2147483648 2139095040 b = t := ⟨_, rfl⟩
  refine (hf_32.print HX.out (HW.out.below HB1.out) ht).mono ?_
  rintro e w3 ⟨rfl, hb3⟩
  have HB3 : Hid (Below w.heap.size w w3) := Below.on HB1.out hb3
  have HK := hm9 (back_ok hf_32 HX.out)
  rw [ht] at HK
  clear hb3 ht HB1
  go_wp2_with fail
  obtain ⟨c, g, hp, hc⟩ : ∃ c : Nat, ∃ g : Int, parseF (-149) 23 128 2147483648 2139095040 2143289345 t = (c, g) ∧ g = 0 ∧ ((2139095040 < b % 2147483648 ∧ t = [110, 97, 110] ∧ c = 2143289345) ∨ (b % 2147483648 ≤ 2139095040 ∧ c = b)) := by
    rcases HK.out with ⟨h1, h2, h3⟩ | ⟨h1, h2⟩
    · exact ⟨_, _, h2 ▸ h3, rfl, .inl ⟨h1, h2, rfl⟩⟩
    · exact ⟨_, _, h2, rfl, .inr ⟨h1, rfl⟩⟩
  obtain ⟨rfl, hc⟩ := hc
  have HC := hm9 hc
  clear hc HK
  refine (hf_32.parse t (HW.out.below HB3.out) hp).mono ?_
  rintro e w4 ⟨rfl, hb4⟩
  have HB4 : Hid (Below w.heap.size w w4) := Below.on HB3.out hb4
  clear hb4 hp HB3
  go_wp2_with fail
  refine (hf_32.j.cl b _ HX.out).mono ?_
  rintro e w5 ⟨rfl, hb5⟩
  have HB5 : Hid (Below w.heap.size w w5) := Below.on HB4.out hb5
  clear hb5 HB4
  obtain ⟨z, hz⟩ : ∃ z, z = b % 2147483648 := ⟨_, rfl⟩
  rw [← hz]
  rw [← hz] at HC
  obtain ⟨d, hd⟩ : ∃ d, d = clsN 8388608 2139095040 z := ⟨_, rfl⟩
  have HD : Hid (d = 4 ↔ 2139095040 < z) := by rw [hd]; exact (cls4 (by decide) (by decide)).1
  rw [← hd]
  clear hz hd
  go_wp2_with fail
  refine (quiet_32 _).mono ?_
  rintro e w6 ⟨rfl, hb6⟩
  have HB6 : Hid (Below w.heap.size w w6) := Below.on HB5.out hb6
  clear hb6 HB5
  rcases HC.out with ⟨h1, rfl, rfl⟩ | ⟨h1, rfl⟩
  · obtain rfl := HD.out.2 h1
    have hs1 : ((bs [110, 97, 110]).toList == [110, 97, 110]) = true := by rw [bs_eqL]; exact decide_eq_true rfl
    clear h1 HC HD
    go_wp2_with fail
    go_ret
    exact ⟨rfl, HB6.out⟩
  · have hd4 : ¬ d = 4 := fun h => by have := HD.out.1 h; omega
    have hd5 : (d == 4) = false := by simpa using hd4
    clear h1 HC HD
    go_wp2_with fail
    go_ret
    exact ⟨rfl, HB6.out⟩
theorem hexfloatBack_64 {b : Nat} (hb : b < 2 * 9223372036854775808) {w : World} (hw : Wd w) :
    Calls Tryz.prog 3 #[.int .i64 64, U b] w fun en w' => en = .returned (.bool true) ∧ Below w.heap.size w w' := by
  have HX : Hid (b < 2 * 9223372036854775808) := hb
  have HW : Hid (Wd w) := hw
  clear hb hw
  go_enter Tryz.func3, Tryz.ntmps3
  go_wp2_with fail
  refine (awake10 HW.out).mono ?_
  rintro e w1 ⟨rfl, hb1⟩
  have HB1 : Hid (Below w.heap.size w w1) := hb1
  clear hb1
  go_wp2_with fail
  refine (formats_yes (.inr rfl) _).mono ?_
  rintro e w2 ⟨rfl, rfl⟩
  go_wp2_with fail
  obtain ⟨t, ht⟩ : ∃ t, printF (-1074) 4503599627370496 9223372036854775808 9218868437227405312 b = t := ⟨_, rfl⟩
  refine (hf_64.print HX.out (HW.out.below HB1.out) ht).mono ?_
  rintro e w3 ⟨rfl, hb3⟩
  have HB3 : Hid (Below w.heap.size w w3) := Below.on HB1.out hb3
  have HK := hm9 (back_ok hf_64 HX.out)
  rw [ht] at HK
  clear hb3 ht HB1
  go_wp2_with fail
  obtain ⟨c, g, hp, hc⟩ : ∃ c : Nat, ∃ g : Int, parseF (-1074) 52 1024 9223372036854775808 9218868437227405312 9221120237041090561 t = (c, g) ∧ g = 0 ∧ ((9218868437227405312 < b % 9223372036854775808 ∧ t = [110, 97, 110] ∧ c = 9221120237041090561) ∨ (b % 9223372036854775808 ≤ 9218868437227405312 ∧ c = b)) := by
    rcases HK.out with ⟨h1, h2, h3⟩ | ⟨h1, h2⟩
    · exact ⟨_, _, h2 ▸ h3, rfl, .inl ⟨h1, h2, rfl⟩⟩
    · exact ⟨_, _, h2, rfl, .inr ⟨h1, rfl⟩⟩
  obtain ⟨rfl, hc⟩ := hc
  have HC := hm9 hc
  clear hc HK
  refine (hf_64.parse t (HW.out.below HB3.out) hp).mono ?_
  rintro e w4 ⟨rfl, hb4⟩
  have HB4 : Hid (Below w.heap.size w w4) := Below.on HB3.out hb4
  clear hb4 hp HB3
  go_wp2_with fail
  refine (hf_64.j.cl b _ HX.out).mono ?_
  rintro e w5 ⟨rfl, hb5⟩
  have HB5 : Hid (Below w.heap.size w w5) := Below.on HB4.out hb5
  clear hb5 HB4
  obtain ⟨z, hz⟩ : ∃ z, z = b % 9223372036854775808 := ⟨_, rfl⟩
  rw [← hz]
  rw [← hz] at HC
  obtain ⟨d, hd⟩ : ∃ d, d = clsN 4503599627370496 9218868437227405312 z := ⟨_, rfl⟩
  have HD : Hid (d = 4 ↔ 9218868437227405312 < z) := by rw [hd]; exact (cls4 (by decide) (by decide)).1
  rw [← hd]
  clear hz hd
  go_wp2_with fail
  refine (quiet_64 _).mono ?_
  rintro e w6 ⟨rfl, hb6⟩
  have HB6 : Hid (Below w.heap.size w w6) := Below.on HB5.out hb6
  clear hb6 HB5
  rcases HC.out with ⟨h1, rfl, rfl⟩ | ⟨h1, rfl⟩
  · obtain rfl := HD.out.2 h1
    have hs1 : ((bs [110, 97, 110]).toList == [110, 97, 110]) = true := by rw [bs_eqL]; exact decide_eq_true rfl
    clear h1 HC HD
    go_wp2_with fail
    go_ret
    exact ⟨rfl, HB6.out⟩
  · have hd4 : ¬ d = 4 := fun h => by have := HD.out.1 h; omega
    have hd5 : (d == 4) = false := by simpa using hd4
    clear h1 HC HD
    go_wp2_with fail
    go_ret
    exact ⟨rfl, HB6.out⟩
theorem hexfloatBack_w {f : Int} {b : Nat} {w : World} (hb : b < B64) (hw : Wd w) : Calls Tryz.prog 3 #[.int .i64 f, U b] w fun en w' => en = .returned (.bool true) ∧ Below w.heap.size w w' := by
  by_cases h1 : f = 32
  · subst h1
    rcases Nat.lt_or_ge b 4294967296 with h | h
    · exact hexfloatBack_32 h hw
    · exact hexfloatBack_e (fun w => patternOf_32_big b hb h w) (by decide) (.inr ⟨rfl, h⟩) hw
  by_cases h2 : f = 64
  · subst h2; exact hexfloatBack_64 hb hw
  · exact hexfloatBack_e (fun w => patternOf_x f h1 h2 b w) (by decide) (.inl ⟨h1, h2⟩) hw
end Go.Proofs.YthoolgbofmnghaaGreatDoor
