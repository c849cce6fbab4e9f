import Derived.Test.YtilceolgfahhoaaJ10
import Derived.Test.YtilceolgfahhoaaJ9
import Derived.Deep.RegionWith
import Derived.Test.YtilceolgfahhoaaMem
import Derived.Laws.ResultCell
import Derived.Deep.DeepCutAuto
import Derived.ArgAppend
import Derived.Maps.AppendAt
import Derived.Deep.DeepAppendWide
namespace Go.Proofs.Ytilceolgfahhoaa
open Go.RowKit Go.Shelf
set_option maxRecDepth 20000
set_option maxHeartbeats 0
def PrIs (its : List It) (us : List Nat) (f : Int) : Prop := ((∃ t ∈ its, formB t.xs = false) ∧ us = [] ∧ f = 2) ∨ ((∀ t ∈ its, formB t.xs = true) ∧ DocIs (prodI its) us f)
theorem DocIs.inj2 {v : Nat} {us us' : List Nat} {f f' : Int} (h : DocIs v us f) (k : DocIs v us' f') : us = us' ∧ f = f' := by
  rcases h with ⟨h1, h2, rfl⟩ | ⟨h1, rfl, rfl⟩ <;> rcases k with ⟨k1, k2, rfl⟩ | ⟨k1, rfl, rfl⟩
  · exact ⟨h2.inj B64_one k2, rfl⟩
  · omega
  · omega
  · exact ⟨rfl, rfl⟩
theorem PrIs.inj {its : List It} {us us' : List Nat} {f f' : Int} (h : PrIs its us f) (k : PrIs its us' f') : us = us' ∧ f = f' := by
  rcases h with ⟨⟨t, h1, h2⟩, rfl, rfl⟩ | ⟨h1, h2⟩ <;> rcases k with ⟨⟨u, k1, k2⟩, rfl, rfl⟩ | ⟨k1, k2⟩
  · exact ⟨rfl, rfl⟩
  · rw [k1 t h1] at h2; cases h2
  · rw [h1 u k1] at k2; cases k2
  · exact h2.inj2 k2
theorem bad_ex {its : List It} (h : ¬ ∀ t ∈ its, formB t.xs = true) : ∃ t ∈ its, formB t.xs = false := by
  induction its with
  | nil => exact absurd (fun t ht => by cases ht) h
  | cons a l ih =>
    cases e : formB a.xs with
    | false => exact ⟨a, by simp, e⟩
    | true =>
      obtain ⟨t, ht, h2⟩ := ih (fun hl => h (fun t ht => by rcases List.mem_cons.1 ht with rfl | h1; exact e; exact hl t h1))
      exact ⟨t, by simp [ht], h2⟩
theorem all_snoc {its : List It} {k : Nat} (hk : k < its.length) (h : ∀ i (hi : i < its.length), i < k → formB its[i].xs = true) (hf : formB its[k].xs = true) : ∀ i (hi : i < its.length), i < k + 1 → formB its[i].xs = true := by
  intro i hi h1
  rcases Nat.lt_or_ge i k with h2 | h2
  · exact h i hi h2
  · obtain rfl : i = k := by omega
    exact hf
theorem not_all {its : List It} {N : Nat} (hl : its.length = N) (hb : ∃ t ∈ its, formB t.xs = false) (h : ∀ i (hi : i < its.length), i < N → formB its[i].xs = true) : False := by
  obtain ⟨t, ht, h2⟩ := hb
  obtain ⟨i, hi, rfl⟩ := List.getElem_of_mem ht
  rw [h i hi (by omega)] at h2
  cases h2
theorem product_bad {P : Option Addr} {N C : Nat} {its : List It} {w : World} (h : LsA w P N C its) (hbad : ∃ t ∈ its, formB t.xs = false) :
    Calls Try.prog 29 #[.slice P N C] w fun en w' => en = .returned (.tuple #[.slice none 0 0, .int .i64 2]) ∧ Below w.heap.size w w' := by
  have H : Hid (LsA w P N C its) := h
  have HLN : Hid (its.length = N) := h.len
  have HBD : Hid (∃ t ∈ its, formB t.xs = false) := hbad
  have cap := h.cap; have big := h.big
  unfold maxLen at big
  clear h hbad
  go_enter Try.func29, Try.ntmps29
  go_wp2_with fail
  go_loopg [4, 12] N (fun gk nv iv wr => ∃ (k : Nat) (b : Bool), k + gk = N ∧ iv = .int .i64 k ∧ nv = .bool b ∧ (∀ i (hi : i < its.length), i < k → formB its[i].xs = true) ∧ Below w.heap.size w wr)
  case atStart => exact ⟨0, false, by omega, rfl, rfl, fun i _ hi => by omega, Below.refl _ _⟩
  case round =>
    obtain ⟨k, b, hkg, rfl, rfl, hfs, hbw⟩ := hrel
    have HFS : Hid (∀ i (hi : i < its.length), i < k → formB its[i].xs = true) := hfs
    clear hfs
    cases gk with
    | zero =>
      obtain rfl : k = N := by omega
      exact absurd (not_all HLN.out HBD.out HFS.out) id
    | succ gg =>
      have hk : k < its.length := by rw [HLN.out]; omega
      obtain ⟨gs, off, rfl, hc⟩ := H.out.cells.resolve_left (by omega)
      have hcx := (hbw.cell (p := ⟨gs, off + k, none⟩) (World.block_lt_of_cell? w _ (hc k hk))).trans (hc k hk)
      have hAt := H.out.ats its[k] (List.getElem_mem hk)
      have AT : Hid (At wr its[k].p its[k].n its[k].c its[k].xs ∧ its[k].n ≤ 17592186044416 ∧ its[k].a = valB B64 its[k].xs) := ⟨hAt.1.below hbw, hAt.2⟩
      obtain ⟨fb, hfb⟩ : ∃ x, x = formB its[k].xs := ⟨_, rfl⟩
      have HFB : Hid (fb = formB its[k].xs) := hfb
      have HF2 : Hid (fb = true → ∀ i (hi : i < its.length), i < k + 1 → formB its[i].xs = true) := fun he => all_snoc hk HFS.out (by rw [← HFB.out, he])
      clear hfb HFS
      have hkk : (k : Int) < (N : Int) := by omega
      have hn17 := hAt.2.1
      clear hc hAt
      generalize its[k].p = tp at *
      generalize its[k].n = tn at *
      generalize its[k].c = tc at *
      generalize its[k].xs = txs at *
      generalize its[k].a = ta at *
      go_wp2_with fail
      refine (form_any AT.out.1).mono ?_
      rintro e w' ⟨rfl, hw⟩
      obtain rfl := hw.symm
      clear hw
      rw [← HFB.out]
      cases fb
      · go_wp2_with fail
        go_ret2
        exact ⟨rfl, hbw⟩
      · cases b
        · by_cases ht0 : tn = 0
          · subst ht0
            go_wp2_with fail
            go_roundg gg
            case measure => omega
            case rel => exact ⟨k + 1, true, by omega, by go_num, rfl, HF2.out (by simp), hbw⟩
          · have ht0' : ((tn : Int) == 0) = false := by simp; omega
            go_wp2_with fail
            go_roundg gg
            case measure => omega
            case rel => exact ⟨k + 1, false, by omega, by go_num, rfl, HF2.out (by simp), hbw⟩
        · go_wp2_with fail
          go_roundg gg
          case measure => omega
          case rel => exact ⟨k + 1, true, by omega, by go_num, rfl, HF2.out (by simp), hbw⟩
def bsum : List It → Nat
  | [] => 0
  | t :: ts => (bitsN t.a - 1) + bsum ts
theorem bsum_append (xs ys : List It) : bsum (xs ++ ys) = bsum xs + bsum ys := by
  induction xs with
  | nil => simp [bsum]
  | cons x xs ih => simp only [List.cons_append, bsum, ih, Nat.add_assoc]
theorem bsum_take (its : List It) (k : Nat) : bsum (its.take k) ≤ bsum its := by
  have h := bsum_append (its.take k) (its.drop k)
  rw [List.take_append_drop] at h
  omega
theorem bsum_succ {its : List It} {k : Nat} (h : k < its.length) : bsum (its.take (k + 1)) = bsum (its.take k) + (bitsN its[k].a - 1) := by
  rw [take_succ_it its k h, bsum_append]
  simp [bsum]
theorem pow_bsum {l : List It} (h : ∀ t ∈ l, 0 < t.a) : 2 ^ bsum l ≤ prodI l := by
  induction l with
  | nil => simp [bsum, prodI]
  | cons t ts ih =>
    simp only [bsum, prodI]
    rw [Nat.pow_add]
    exact Nat.mul_le_mul (bitsN_le _ (by have := h t (by simp); omega)) (ih (fun u hu => h u (by simp [hu])))
theorem prod_pow {l : List It} (h : ∀ t ∈ l, 0 < t.a) : prodI l ≤ 2 ^ (2 * bsum l) := by
  induction l with
  | nil => simp [bsum, prodI]
  | cons t ts ih =>
    simp only [bsum, prodI]
    rw [Nat.mul_add, Nat.pow_add]
    refine Nat.mul_le_mul ?_ (ih (fun u hu => h u (by simp [hu])))
    have h1 := bitsN_lt t.a
    have h0 := h t (by simp)
    rcases Nat.lt_or_ge (bitsN t.a) 2 with h2 | h2
    · have h3 : t.a < 2 ^ 1 := Nat.lt_of_lt_of_le h1 (Nat.pow_le_pow_right (by decide) (by omega))
      have h4 := Nat.two_pow_pos (2 * (bitsN t.a - 1))
      omega
    · exact Nat.le_trans (Nat.le_of_lt h1) (Nat.pow_le_pow_right (by decide) (by omega))
theorem prod_take {its : List It} (k : Nat) (h : ∀ t ∈ its, 0 < t.a) : prodI (its.take k) ≤ 2 ^ (2 * bsum its) :=
  Nat.le_trans (prod_pow (fun t ht => h t (List.mem_of_mem_take ht))) (Nat.pow_le_pow_right (by decide) (Nat.mul_le_mul_left _ (bsum_take its k)))
theorem prod_len {zs : List Nat} {v S : Nat} (h : Nf B32 zs v) (hv : v ≤ 2 ^ (2 * S)) (hS : S ≤ 524288) : zs.length ≤ 40000 := by
  obtain ⟨k, hk⟩ : ∃ k, k = 40000 := ⟨_, rfl⟩
  rw [← hk]
  refine (h.len_le (by decide)).2 (Nat.lt_of_le_of_lt hv ?_)
  rw [show B32 = 2 ^ 32 from rfl, ← Nat.pow_mul]
  exact Nat.pow_lt_pow_right (by decide) (by omega)
theorem lim_bsum {its : List It} (h : ∀ t ∈ its, 0 < t.a) (hb : 524288 ≤ bsum its) : LIM ≤ prodI its := by
  obtain ⟨E, hE⟩ : ∃ E, E = 524288 := ⟨_, rfl⟩
  rw [LIM_tw E hE]
  exact Nat.le_trans (Nat.pow_le_pow_right (by decide) (by omega)) (pow_bsum h)
theorem bits_lim {xs : List Nat} (hd : Dig B64 xs) (hf : formB xs = true) : bitsN (valB B64 xs) ≤ 524288 := by
  have h1 := (nf_of_form hd hf).lim.1 ((formB_iff _).1 hf).1
  rcases Nat.eq_zero_or_pos (valB B64 xs) with h0 | h0
  · rw [h0, bitsN_zero]; omega
  · rcases Nat.lt_or_ge 524288 (bitsN (valB B64 xs)) with e | e
    · exfalso
      have h2 := bitsN_le (valB B64 xs) (by omega)
      obtain ⟨E, hE⟩ : ∃ E, E = 524288 := ⟨_, rfl⟩
      rw [LIM_tw E hE] at h1
      have h3 : (2:Nat) ^ E ≤ 2 ^ (bitsN (valB B64 xs) - 1) := Nat.pow_le_pow_right (by decide) (by omega)
      omega
    · exact e
def BS (its : List It) (k b : Nat) : Prop := (1 ≤ b ∧ b ≤ 524288 ∧ b = 1 + bsum (its.take k)) ∨ (524288 < b ∧ b ≤ 1048577 ∧ 524288 ≤ bsum (its.take k))
theorem BS.add {its : List It} {k b bb : Nat} (h : BS its k b) (hb : b ≤ 524288) (h4 : bb ≤ 524288) (h1 : bsum (its.take (k + 1)) = bsum (its.take k) + (bb - 1)) : BS its (k + 1) (b + (bb - 1)) := by
  unfold BS at h ⊢
  rw [h1]
  omega
theorem BS.skip {its : List It} {k b bb : Nat} (h : BS its k b) (hb : ¬ b ≤ 524288) (h1 : bsum (its.take (k + 1)) = bsum (its.take k) + (bb - 1)) : BS its (k + 1) b := by
  unfold BS at h ⊢
  rw [h1]
  omega
theorem form_pos {xs : List Nat} {n : Nat} (hd : Dig B64 xs) (hf : formB xs = true) (hl : xs.length = n) (h : n ≠ 0) : 0 < valB B64 xs := by
  rcases Nat.eq_zero_or_pos (valB B64 xs) with h0 | h0
  · have h1 := ((nf_of_form hd hf).zero_iff B64_one).2 h0
    rw [h1] at hl
    exact absurd hl.symm h
  · exact h0
theorem bits_pos {a : Nat} (h : 0 < a) : 1 ≤ bitsN a := by
  rcases Nat.eq_zero_or_pos (bitsN a) with h0 | h0
  · have h1 := bitsN_lt a
    rw [h0] at h1
    omega
  · exact h0
theorem docprod_bad {P : Option Addr} {N C : Nat} {its : List It} {w : World} (h : LsA w P N C its) (hbad : ∃ t ∈ its, formB t.xs = false) :
    Calls Try.prog 24 #[.slice P N C] w fun en w' => en = .returned (.tuple #[.slice none 0 0, .int .i64 2]) ∧ Below w.heap.size w w' := by
  have H : Hid (LsA w P N C its) := h
  have HLN : Hid (its.length = N) := h.len
  have HBD : Hid (_) := hbad
  have cap := h.cap; have big := h.big
  unfold maxLen at big
  clear h hbad
  go_enter Try.func24, Try.ntmps24
  go_wp2_with fail
  go_loopg [4] N (fun gk iv wr => ∃ (k : Nat), k + gk = N ∧ iv = .int .i64 k ∧ (∀ i (hi : i < its.length), i < k → formB its[i].xs = true) ∧ Below w.heap.size w wr)
  case atStart => exact ⟨0, by omega, rfl, fun i _ hi => by omega, Below.refl _ _⟩
  case round =>
    obtain ⟨k, hkg, rfl, hfs, hbw⟩ := hrel
    have HFS : Hid (∀ i (hi : i < its.length), i < k → formB its[i].xs = true) := hfs
    clear hfs
    cases gk with
    | zero =>
      obtain rfl : k = N := by omega
      exact absurd (not_all HLN.out HBD.out HFS.out) id
    | succ gg =>
      have hk : k < its.length := by rw [HLN.out]; omega
      obtain ⟨gs, off, rfl, hc⟩ := H.out.cells.resolve_left (by omega)
      have hcx := (hbw.cell (p := ⟨gs, off + k, none⟩) (World.block_lt_of_cell? w _ (hc k hk))).trans (hc k hk)
      have hAt := H.out.ats its[k] (List.getElem_mem hk)
      have AT : Hid (At wr its[k].p its[k].n its[k].c its[k].xs ∧ its[k].n ≤ 17592186044416 ∧ its[k].a = valB B64 its[k].xs) := ⟨hAt.1.below hbw, hAt.2⟩
      obtain ⟨fb, hfb⟩ : ∃ x, x = formB its[k].xs := ⟨_, rfl⟩
      have HFB : Hid (fb = formB its[k].xs) := hfb
      have HF2 : Hid (fb = true → ∀ i (hi : i < its.length), i < k + 1 → formB its[i].xs = true) := fun he => all_snoc hk HFS.out (by rw [← HFB.out, he])
      clear hfb HFS
      have hkk : (k : Int) < (N : Int) := by omega
      have hk0 : (0 : Int) ≤ (k : Int) ∧ (k : Int) < (N : Int) := by omega
      have hn17 := hAt.2.1
      clear hc hAt
      generalize its[k].p = tp at *
      generalize its[k].n = tn at *
      generalize its[k].c = tc at *
      generalize its[k].xs = txs at *
      generalize its[k].a = ta at *
      go_wp2_with fail
      refine (docform_any AT.out.1).mono ?_
      rintro e w' ⟨rfl, hw⟩
      obtain rfl := hw.symm
      clear hw
      rw [← HFB.out]
      cases fb
      · go_wp2_with fail
        go_ret2
        exact ⟨rfl, hbw⟩
      · go_wp2_with fail
        go_roundg gg
        case measure => omega
        case rel => exact ⟨k + 1, by omega, by go_num, HF2.out (by simp), hbw⟩
structure ScrL (w : World) (P : Option Addr) (N C : Nat) (its : List Op5) : Prop where
  scr : Scr w P N C its
  ls : ∀ t ∈ its, ∃ js, LsA w t.pl t.nl t.cl js ∧ t.nl ≤ 5864062014805
theorem ScrL.below {w w' : World} {P : Option Addr} {N C : Nat} {its : List Op5} (h : ScrL w P N C its) (hb : Below w.heap.size w w') : ScrL w' P N C its :=
  ⟨h.scr.below hb, fun t ht => by obtain ⟨js, h1, h2⟩ := h.ls t ht; exact ⟨js, h1.below hb, h2⟩⟩
def NewA (B : Nat) (w : World) (p : Option Addr) (m c : Nat) (us : List Nat) : Prop := At w p m c us ∧ (m = 0 ∨ ∃ g, p = some ⟨g, 0, none⟩ ∧ B ≤ g)
theorem NewA.below {B : Nat} {w w' : World} {p : Option Addr} {m c : Nat} {us : List Nat} (h : NewA B w p m c us) (hb : Below w.heap.size w w') : NewA B w' p m c us := ⟨h.1.below hb, h.2⟩
theorem NewA.mono {B B' : Nat} {w : World} {p : Option Addr} {m c : Nat} {us : List Nat} (h : NewA B w p m c us) (hB : B' ≤ B) : NewA B' w p m c us :=
  ⟨h.1, h.2.imp id (fun ⟨g, e, k⟩ => ⟨g, e, Nat.le_trans hB k⟩)⟩
theorem NewA.empty (B : Nat) (w : World) : NewA B w none 0 0 [] := ⟨At.empty _ none 0 (by decide), .inl rfl⟩
theorem rtoldN {p : Option Addr} {n c : Nat} {zs : List Nat} {v : Nat} {w : World} (h : At32 w p n c zs) (hx : Nf B32 zs v) (hn : n ≤ 35184372088832) :
    Calls Try.prog 44 #[.slice p n c] w fun e w' => ∃ q k N us f, e = .returned (.tuple #[.slice q k N, .int .i64 f]) ∧ NewA w.heap.size w' q k N us ∧ DocIs v us f ∧ Below w.heap.size w w' := by
  have HL : Hid (zs.length = n) := h.len
  have HX : Hid (Nf B32 zs v) := hx
  have HA : Hid (At32 w p n c zs) := h
  obtain ⟨J, hJ⟩ : ∃ J, J = 16384 := ⟨_, rfl⟩
  have HJ : Hid (J = 16384) := hJ
  clear hx h hJ
  by_cases hlt : n ≤ 16384
  · have hd : ¬ 16384 < n := by omega
    go_enter Try.func44, Try.ntmps44
    go_wp2_with fail
    refine (rto_any HA.out hn).mono ?_
    rintro e w1 ⟨g, k, N, us, rfl, hg, hA, hN, hb⟩
    have HA1 : Hid (NewA w.heap.size w1 (some ⟨g, 0, none⟩) k N us) := ⟨hA, .inr ⟨g, rfl, hg⟩⟩
    have HN : Hid (Nf B64 us v) := by rw [HX.out.val] at hN; exact hN
    clear hA hN
    go_wp2_with fail
    go_ret2
    exact ⟨_, k, N, us, 0, rfl, HA1.out, .inl ⟨by rw [LIM_32 HJ.out]; exact nf32_lt HX.out (by rw [HL.out, HJ.out]; exact hlt), HN.out, rfl⟩, hb⟩
  · have hd : 16384 < n := by omega
    go_enter Try.func44, Try.ntmps44
    go_wp2_with fail
    go_ret2
    exact ⟨none, 0, 0, [], 5, rfl, NewA.empty _ _, .inr ⟨by rw [LIM_32 HJ.out]; exact nf32_ge HX.out (by rw [HL.out, HJ.out]; exact hd), rfl, rfl⟩, Below.refl _ _⟩
theorem productN {p q : Option Addr} {n m c d : Nat} {xs ys : List Nat} {a b : Nat} {w : World} (h : At32 w p n c xs) (k : At32 w q m d ys) (hx : Nf B32 xs a) (hy : Nf B32 ys b) (hn : n ≤ 16384) (hm : m ≤ 16384) :
    Calls Try.prog 34 #[.slice p n c, .slice q m d] w fun e w' => ∃ p' m' N' us f, e = .returned (.tuple #[.slice p' m' N', .int .i64 f]) ∧ NewA w.heap.size w' p' m' N' us ∧ DocIs (a * b) us f ∧ Below w.heap.size w w' := by
  have za := nf32_zero hx h.len
  have zb := nf32_zero hy k.len
  have HA : Hid (At32 w p n c xs) := h
  have HB : Hid (At32 w q m d ys) := k
  have HX : Hid (Nf B32 xs a) := hx
  have HY : Hid (Nf B32 ys b) := hy
  have hla := bits_len32 hx h.len
  have hlb := bits_len32 hy k.len
  clear h k hx hy
  rcases Nat.eq_zero_or_pos n with hn0 | hn0
  · subst hn0
    have h0 : Hid (a * b = 0) := by show _ = _; rw [za.1 rfl, Nat.zero_mul]
    clear za zb hla hlb
    go_enter Try.func34, Try.ntmps34
    go_wp2_with fail
    go_ret2
    exact ⟨none, 0, 0, [], 0, rfl, NewA.empty _ _, .inl ⟨by rw [h0.out]; exact LIM_pos, by rw [h0.out]; exact nf_nil, rfl⟩, Below.refl _ _⟩
  · have hne : ((n : Int) == 0) = false := by simp; omega
    rcases Nat.eq_zero_or_pos m with hm0 | hm0
    · subst hm0
      have h0 : Hid (a * b = 0) := by show _ = _; rw [zb.1 rfl, Nat.mul_zero]
      clear za zb hla hlb
      go_enter Try.func34, Try.ntmps34
      go_wp2_with fail
      go_ret2
      exact ⟨none, 0, 0, [], 0, rfl, NewA.empty _ _, .inl ⟨by rw [h0.out]; exact LIM_pos, by rw [h0.out]; exact nf_nil, rfl⟩, Below.refl _ _⟩
    · have hme : ((m : Int) == 0) = false := by simp; omega
      have ha0 : a ≠ 0 := fun e => by have := za.2 e; omega
      have hb0 : b ≠ 0 := fun e => by have := zb.2 e; omega
      have HA0 : Hid (a ≠ 0) := ha0
      have HB0 : Hid (b ≠ 0) := hb0
      obtain ⟨Ba, hBa⟩ : ∃ Ba, Ba = bitsN a := ⟨_, rfl⟩
      obtain ⟨Bb, hBb⟩ : ∃ Bb, Bb = bitsN b := ⟨_, rfl⟩
      have hp1 : 1 ≤ Ba := by rw [hBa]; unfold bitsN; rw [if_neg ha0]; omega
      have hp2 : 1 ≤ Bb := by rw [hBb]; unfold bitsN; rw [if_neg hb0]; omega
      rw [← hBa] at hla
      rw [← hBb] at hlb
      have hla' : Ba ≤ 524288 := by omega
      have hlb' : Bb ≤ 524288 := by omega
      obtain ⟨T, hT⟩ : ∃ T, T = Ba + Bb - 1 := ⟨_, rfl⟩
      have hsT : (Ba : Int) + (Bb : Int) - 1 = (T : Int) := by omega
      have HT : Hid (T = bitsN a + bitsN b - 1) := by rw [← hBa, ← hBb]; exact hT
      have hTb : T ≤ 1048576 := by omega
      have HBa : Hid (Ba = bitsN a) := hBa
      have HBb : Hid (Bb = bitsN b) := hBb
      clear za zb hla hlb ha0 hb0 hBa hBb hT
      go_enter Try.func34, Try.ntmps34
      go_wp2_with fail
      refine (rbits_any HA.out HX.out (by omega)).mono ?_
      rintro e w1 ⟨rfl, hw⟩
      rw [← HBa.out]
      obtain rfl := hw.symm
      clear hw
      go_wp2_with fail
      refine (rbits_any HB.out HY.out (by omega)).mono ?_
      rintro e w1 ⟨rfl, hw⟩
      rw [← HBb.out]
      obtain rfl := hw.symm
      clear hw
      go_wp2_with fail
      refine (least_any T (by omega) w).mono ?_
      rintro e w1 ⟨rfl, hw⟩
      obtain rfl := hw.symm
      clear hw
      obtain ⟨L, hL⟩ : ∃ L, L = (T + 63) / 64 := ⟨_, rfl⟩
      rw [← hL]
      have HL : Hid (L = (T + 63) / 64) := hL
      clear hL
      by_cases hc : 8192 < L
      · have hci : (8192 : Int) < (L : Int) := by omega
        go_wp2_with fail
        go_ret2
        exact ⟨none, 0, 0, [], 5, rfl, NewA.empty _ _, .inr ⟨bits_mul HA0.out HB0.out (by have h1 := HL.out; have h2 := HT.out; omega), rfl, rfl⟩, Below.refl _ _⟩
      · have hci : ¬ (8192 : Int) < (L : Int) := by omega
        go_wp2_with fail
        refine (rmul_any HA.out HB.out HX.out HY.out (by omega) (by omega)).mono ?_
        rintro e w1 ⟨p1, m1, z1, rfl, hA1, hN1, hl1, hb1⟩
        have HA1 : Hid (At32 w1 p1 m1 m1 z1) := hA1
        have HN1 : Hid (Nf B32 z1 (a * b)) := hN1
        clear hA1 hN1
        go_wp2_with fail
        refine (rtoldN HA1.out HN1.out (by omega)).mono ?_
        rintro e w2 ⟨p2, m2, N2, us, f2, rfl, hA2, hD2, hb2⟩
        have HA2 : Hid (NewA w.heap.size w2 p2 m2 N2 us) := NewA.mono hA2 (by first | exact hbw.size | exact hbw'.size | exact hbw1.size | exact hbw2.size | exact hbw3.size | exact hbw4.size | exact hbw5.size | exact hbw6.size | exact hbw7.size | exact hbw8.size | exact hbw9.size | exact hb1.size | exact hb2.size | exact hb3.size | exact hb4.size | exact hb5.size | exact hb6.size | exact hb7.size | exact hb8.size | exact hb9.size | exact hbwq.size | exact hbwf.size | exact hbwf2.size | exact HB1.out.size | exact HB2.out.size | exact HB3.out.size | exact HB4.out.size | exact HB5.out.size | exact HB6.out.size | exact HB7.out.size | exact HB8.out.size | exact Nat.le_refl _)
        have HD2 : Hid (DocIs (a * b) us f2) := hD2
        have hbw := Below.on hb1 hb2
        clear hA2 hD2 hb1 hb2
        go_wp2_with fail
        go_ret2
        exact ⟨p2, m2, N2, us, f2, rfl, HA2.out, HD2.out, hbw⟩

theorem docmulN {p q : Option Addr} {n m c d : Nat} {xs ys : List Nat} {w : World} (h : At w p n c xs) (k : At w q m d ys) :
    Calls Try.prog 20 #[.slice p n c, .slice q m d] w fun e w' => ∃ p' m' N' us f, e = .returned (.tuple #[.slice p' m' N', .int .i64 f]) ∧ NewA w.heap.size w' p' m' N' us ∧ MulIs xs ys us f ∧ Below w.heap.size w w' := by
  have HA : Hid (At w p n c xs) := h
  have HB : Hid (At w q m d ys) := k
  clear h k
  cases hx : formB xs
  · have HF : Hid ((formB xs && formB ys) = false) := by show _ = _; rw [hx]; rfl
    go_enter Try.func20, Try.ntmps20
    go_wp2_with fail
    refine (docform_any HA.out).mono ?_
    rintro e w1 ⟨rfl, hw⟩
    rw [hx]
    obtain rfl := hw.symm
    clear hw
    go_wp2_with fail
    go_ret2
    exact ⟨none, 0, 0, [], 2, rfl, NewA.empty _ _, .inl ⟨HF.out, rfl, rfl⟩, Below.refl _ _⟩
  · cases hy : formB ys
    · have HF : Hid ((formB xs && formB ys) = false) := by show _ = _; rw [hx, hy]; rfl
      go_enter Try.func20, Try.ntmps20
      go_wp2_with fail
      refine (docform_any HA.out).mono ?_
      rintro e w1 ⟨rfl, hw⟩
      rw [hx]
      obtain rfl := hw.symm
      clear hw
      go_wp2_with fail
      refine (docform_any HB.out).mono ?_
      rintro e w1 ⟨rfl, hw⟩
      rw [hy]
      obtain rfl := hw.symm
      clear hw
      go_wp2_with fail
      go_ret2
      exact ⟨none, 0, 0, [], 2, rfl, NewA.empty _ _, .inl ⟨HF.out, rfl, rfl⟩, Below.refl _ _⟩
    · have HFX : Hid (formB xs = true) := hx
      have HFY : Hid (formB ys = true) := hy
      have hn : n ≤ 8192 := by have := form_len hx; rw [HA.out.len] at this; exact this
      have hm : m ≤ 8192 := by have := form_len hy; rw [HB.out.len] at this; exact this
      go_enter Try.func20, Try.ntmps20
      go_wp2_with fail
      refine (docform_any HA.out).mono ?_
      rintro e w1 ⟨rfl, hw⟩
      rw [hx]
      obtain rfl := hw.symm
      clear hw
      go_wp2_with fail
      refine (docform_any HB.out).mono ?_
      rintro e w1 ⟨rfl, hw⟩
      rw [hy]
      obtain rfl := hw.symm
      clear hw hx hy
      go_wp2_with fail
      refine (from_any HA.out (by omega)).mono ?_
      rintro e w1 ⟨g1, z1, rfl, hg1, hk1, hn1, hl1, hb1⟩
      have A1 : Hid (At32 w1 (some ⟨g1, 0, none⟩) z1.length z1.length z1) := hk1.at_ hn1.dig rfl (by unfold maxLen; omega)
      have N1 : Hid (Nf B32 z1 (valB B64 xs)) := hn1
      have B1 : Hid (At w1 q m d ys) := HB.out.below hb1
      obtain ⟨l1, hl1e⟩ : ∃ l1, l1 = z1.length := ⟨_, rfl⟩
      rw [← hl1e] at A1 hl1 ⊢
      clear hk1 hn1 hg1 hl1e
      go_wp2_with fail
      refine (from_any B1.out (by omega)).mono ?_
      rintro e w2 ⟨g2, z2, rfl, hg2, hk2, hn2, hl2, hb2⟩
      have A2 : Hid (At32 w2 (some ⟨g2, 0, none⟩) z2.length z2.length z2) := hk2.at_ hn2.dig rfl (by unfold maxLen; omega)
      have N2 : Hid (Nf B32 z2 (valB B64 ys)) := hn2
      have A1' : Hid (At32 w2 (some ⟨g1, 0, none⟩) l1 l1 z1) := A1.out.below hb2
      have hbw := Below.on hb1 hb2
      obtain ⟨l2, hl2e⟩ : ∃ l2, l2 = z2.length := ⟨_, rfl⟩
      rw [← hl2e] at A2 hl2 ⊢
      clear hk2 hn2 hg2 hl2e A1 hb1 hb2 B1
      go_wp2_with fail
      refine (productN A1'.out A2.out N1.out N2.out (by omega) (by omega)).mono ?_
      rintro e w3 ⟨p3, m3, N3, us, f3, rfl, hA3, hD3, hb3⟩
      have HA3 : Hid (NewA w.heap.size w3 p3 m3 N3 us) := NewA.mono hA3 (by first | exact hbw.size | exact hbw'.size | exact hbw1.size | exact hbw2.size | exact hbw3.size | exact hbw4.size | exact hbw5.size | exact hbw6.size | exact hbw7.size | exact hbw8.size | exact hbw9.size | exact hb1.size | exact hb2.size | exact hb3.size | exact hb4.size | exact hb5.size | exact hb6.size | exact hb7.size | exact hb8.size | exact hb9.size | exact hbwq.size | exact hbwf.size | exact hbwf2.size | exact HB1.out.size | exact HB2.out.size | exact HB3.out.size | exact HB4.out.size | exact HB5.out.size | exact HB6.out.size | exact HB7.out.size | exact HB8.out.size | exact Nat.le_refl _)
      have HD3 : Hid (MulIs xs ys us f3) := by
        rcases hD3 with ⟨h1, h2, h3⟩ | ⟨h1, h2, h3⟩
        · exact .inr (.inl ⟨HFX.out, HFY.out, h1, h2, h3⟩)
        · exact .inr (.inr ⟨HFX.out, HFY.out, h1, h2, h3⟩)
      have hbw3 := Below.on hbw hb3
      clear hA3 hD3 hbw hb3
      go_wp2_with fail
      go_ret2
      exact ⟨p3, m3, N3, us, f3, rfl, HA3.out, HD3.out, hbw3⟩

theorem docsqrN {p : Option Addr} {n c : Nat} {xs : List Nat} {w : World} (h : At w p n c xs) :
    Calls Try.prog 21 #[.slice p n c] w fun e w' => ∃ p' m' N' us f, e = .returned (.tuple #[.slice p' m' N', .int .i64 f]) ∧ NewA w.heap.size w' p' m' N' us ∧ MulIs xs xs us f ∧ Below w.heap.size w w' := by
  go_enter Try.func21, Try.ntmps21
  go_wp2_with fail
  refine (docmulN h h).mono ?_
  rintro e w1 ⟨p1, m1, N1, us, f1, rfl, hA, hM, hb⟩
  have HA : Hid (NewA w.heap.size w1 p1 m1 N1 us) := NewA.mono hA (by first | exact hbw.size | exact hbw'.size | exact hbw1.size | exact hbw2.size | exact hbw3.size | exact hbw4.size | exact hbw5.size | exact hbw6.size | exact hbw7.size | exact hbw8.size | exact hbw9.size | exact hb1.size | exact hb2.size | exact hb3.size | exact hb4.size | exact hb5.size | exact hb6.size | exact hb7.size | exact hb8.size | exact hb9.size | exact hbwq.size | exact hbwf.size | exact hbwf2.size | exact HB1.out.size | exact HB2.out.size | exact HB3.out.size | exact HB4.out.size | exact HB5.out.size | exact HB6.out.size | exact HB7.out.size | exact HB8.out.size | exact Nat.le_refl _)
  have HM : Hid (MulIs xs xs us f1) := hM
  clear hA hM
  go_wp2_with fail
  go_ret2
  exact ⟨p1, m1, N1, us, f1, rfl, HA.out, HM.out, hb⟩
theorem powerN {p : Option Addr} {n c : Nat} {xs : List Nat} {a : Nat} {w : World} (h : At32 w p n c xs) (hx : Nf B32 xs a) (hn : n ≤ 16384) (ha : 2 ≤ a) (t : Nat) (ht : 1 ≤ t) (ht2 : t ≤ 524288) :
    Calls Try.prog 41 #[.slice p n c, .int .i64 t] w fun e w' => ∃ p' m' N' us f, e = .returned (.tuple #[.slice p' m' N', .int .i64 f]) ∧ NewA w.heap.size w' p' m' N' us ∧ DocIs (a ^ t) us f ∧ Below w.heap.size w w' := by
  have HA : Hid (At32 w p n c xs) := h
  have HX : Hid (Nf B32 xs a) := hx
  have HA2 : Hid (2 ≤ a) := ha
  clear h hx ha
  go_enter Try.func41, Try.ntmps41
  go_wp2_with fail
  refine (rword1 w).mono ?_
  rintro e w1 ⟨g1, rfl, hA1, hb1⟩
  have A1 : Hid (At32 w1 (some ⟨g1, 0, none⟩) 1 1 [1]) := hA1
  have HA1 : Hid (At32 w1 p n c xs) := HA.out.below hb1
  clear hA1
  go_wp2_with fail
  go_loopg [7] 62 (fun gk tv wr => ∃ k : Nat, k + gk = 62 ∧ tv = .int .i64 k ∧ Hid (2 ^ k ≤ t) ∧ wr = w1)
  case atStart => exact ⟨0, by omega, rfl, by show _ ≤ _; simpa using ht, rfl⟩
  case round =>
    obtain ⟨k, hkg, rfl, HK, hwr⟩ := hrel
    obtain rfl := hwr.symm
    clear hwr
    have hk19 : k ≤ 19 := by
      rcases Nat.lt_or_ge 19 k with e | e
      · exfalso
        have h1 : (2:Nat) ^ 20 ≤ 2 ^ k := Nat.pow_le_pow_right (by decide) (by omega)
        have h2 := HK.out
        omega
      · exact e
    obtain ⟨S, hS⟩ : ∃ S, S = t / 2 ^ (k + 1) := ⟨_, rfl⟩
    have hSI : (t : Int) / 2 ^ (k + 1) = (S : Int) := by rw [hS]; norm_cast
    have HS : Hid (S = t / 2 ^ (k + 1)) := hS
    clear hS
    have hk62 : (k : Int) < 62 := by omega
    by_cases hS0 : S = 0
    · subst hS0
      have HT0 : Hid (t / 2 ^ (k + 1) = 0) := HS.out.symm
      clear HS HK
      go_wp2_with fail
      go_loopg [6, 8] (k + 1) (fun gj pv iv wr => ∃ (pp : Option Addr) (mm cc : Nat) (zs : List Nat) (z : Int), pv = .slice pp mm cc ∧ iv = .int .i64 z ∧ z = (gj : Int) - 1 ∧ gj ≤ k + 1 ∧ mm ≤ 16384 ∧ Hid (At32 wr pp mm cc zs ∧ Nf B32 zs (a ^ (t / 2 ^ gj)) ∧ a ^ (t / 2 ^ gj) < LIM) ∧ Below w.heap.size w wr)
      case atStart => exact ⟨_, 1, 1, [1], (k : Int), rfl, rfl, by omega, Nat.le_refl _, by omega, ⟨A1.out, by rw [HT0.out, Nat.pow_zero]; exact nf32_one, by rw [HT0.out, Nat.pow_zero]; exact LIM_one⟩, hb1⟩
      case round =>
        obtain ⟨pp, mm, cc, zs, z, rfl, rfl, hz, hgk1, hmm, HR, hbw⟩ := hrel
        cases gk with
        | zero =>
          obtain rfl : z = -1 := by omega
          have AP : Hid (At32 wr pp mm cc zs) := HR.out.1
          have NP : Hid (Nf B32 zs (a ^ t)) := by have := HR.out.2.1; rw [Nat.pow_zero, Nat.div_one] at this; exact this
          clear hz HR hSI HT0
          go_wp2_with fail
          refine (rtoldN AP.out NP.out (by omega)).mono ?_
          rintro e w5 ⟨p5, m5, N5, us, f5, rfl, hA5, hD5, hb5⟩
          have A5 : Hid (NewA w.heap.size w5 p5 m5 N5 us) := NewA.mono hA5 (by first | exact hbw.size | exact hbw'.size | exact hbw1.size | exact hbw2.size | exact hbw3.size | exact hbw4.size | exact hbw5.size | exact hbw6.size | exact hbw7.size | exact hbw8.size | exact hbw9.size | exact hb1.size | exact hb2.size | exact hb3.size | exact hb4.size | exact hb5.size | exact hb6.size | exact hb7.size | exact hb8.size | exact hb9.size | exact hbwq.size | exact hbwf.size | exact hbwf2.size | exact HB1.out.size | exact HB2.out.size | exact HB3.out.size | exact HB4.out.size | exact HB5.out.size | exact HB6.out.size | exact HB7.out.size | exact HB8.out.size | exact Nat.le_refl _)
          have D5 : Hid (DocIs (a ^ t) us f5) := hD5
          have hbw5 := Below.on hbw hb5
          clear hA5 hD5 hb5
          go_wp2_with fail
          go_ret2
          exact ⟨p5, m5, N5, us, f5, rfl, A5.out, D5.out, hbw5⟩
        | succ j =>
          obtain rfl : z = (j : Int) := by omega
          have AP : Hid (At32 wr pp mm cc zs) := HR.out.1
          obtain ⟨M, hM⟩ : ∃ M, M = t / 2 ^ (j + 1) := ⟨_, rfl⟩
          have NP : Hid (Nf B32 zs (a ^ M)) := by rw [hM]; exact HR.out.2.1
          have LP : Hid (a ^ M < LIM) := by rw [hM]; exact HR.out.2.2
          obtain ⟨S2, hS2⟩ : ∃ S2, S2 = t / 2 ^ j := ⟨_, rfl⟩
          have hS2I : (t : Int) / 2 ^ j = (S2 : Int) := by rw [hS2]; norm_cast
          have h2M : S2 / 2 = M := by rw [hS2, hM, Nat.div_div_eq_div_mul, Nat.pow_succ]
          have hS2t : S2 ≤ t := by rw [hS2]; exact Nat.div_le_self _ _
          have HS2 : Hid (S2 = t / 2 ^ j ∧ S2 / 2 = M ∧ S2 ≤ t) := ⟨hS2, h2M, hS2t⟩
          have hjI : (0 : Int) ≤ (j : Int) := by omega
          have hj20 : j ≤ 20 := by omega
          have HAr : Hid (At32 wr p n c xs) := HA.out.below hbw
          clear hz HR hSI HT0 hM hS2 h2M hS2t
          go_wp2_with fail
          refine (productN AP.out AP.out NP.out NP.out hmm hmm).mono ?_
          rintro e wq ⟨pq, mq, Nq, us, fq, rfl, hAq, hDq, hbq⟩
          have hbwq := Below.on hbw hbq
          rcases hDq with ⟨hlq, hnq, rfl⟩ | ⟨hlq, rfl, rfl⟩
          · have AQ : Hid (At wq pq mq Nq us ) := hAq.1
            have NQ : Hid (Nf B64 us (a ^ M * a ^ M)) := hnq
            have LQ : Hid (a ^ M * a ^ M < LIM) := hlq
            have hmq : mq ≤ 8192 := by rw [← hAq.1.len]; exact hnq.lim.2 hlq
            have HAQ : Hid (At32 wq p n c xs) := HAr.out.below hbq
            clear hAq hnq hlq hbq hbw HAr AP NP LP
            go_wp2_with fail
            refine (from_any AQ.out (by omega)).mono ?_
            rintro e wf ⟨gf, zf, rfl, hgf, hkf, hnf, hlf, hbf⟩
            have AF : Hid (At32 wf (some ⟨gf, 0, none⟩) zf.length zf.length zf) := hkf.at_ hnf.dig rfl (by unfold maxLen; omega)
            have NF : Hid (Nf B32 zf (a ^ M * a ^ M)) := by rw [NQ.out.val] at hnf; exact hnf
            obtain ⟨lf, hlfe⟩ : ∃ lf, lf = zf.length := ⟨_, rfl⟩
            rw [← hlfe] at AF hlf ⊢
            have hlf2 : lf ≤ 16384 := by omega
            have HAF : Hid (At32 wf p n c xs) := HAQ.out.below hbf
            have hbwf := Below.on hbwq hbf
            clear hkf hnf hgf hlfe hbf hbwq AQ NQ HAQ hlf
            have hand := and_one_i64 S2 (by have := HS2.out.2.2; omega)
            obtain ⟨bt, hbt⟩ : ∃ bt, bt = S2 % 2 := ⟨_, rfl⟩
            rw [← hbt] at hand
            have HBT : Hid (bt = S2 % 2) := hbt
            rcases (show bt = 0 ∨ bt = 1 by omega) with hb0 | hb0
            · subst hb0
              have HFIN : Hid (a ^ (t / 2 ^ j) = a ^ M * a ^ M) := by
                have h1 := HS2.out; have h2 := HBT.out
                show _ = _
                rw [← Nat.pow_add, ← h1.1]
                congr 1; omega
              clear hbt HBT
              go_wp2_with fail
              go_roundg j
              case measure => omega
              case rel => exact ⟨_, lf, lf, zf, (j : Int) - 1, rfl, rfl, rfl, by omega, hlf2, ⟨AF.out, by rw [HFIN.out]; exact NF.out, by rw [HFIN.out]; exact LQ.out⟩, hbwf⟩
            · subst hb0
              have HFIN : Hid (a ^ (t / 2 ^ j) = a ^ M * a ^ M * a) := by
                have h1 := HS2.out; have h2 := HBT.out
                show _ = _
                rw [← Nat.pow_add, ← Nat.pow_succ, ← h1.1]
                congr 1; omega
              have HLE : Hid (t / 2 ^ j ≤ t) := Nat.div_le_self _ _
              clear hbt HBT
              go_wp2_with fail
              refine (productN AF.out HAF.out NF.out HX.out hlf2 hn).mono ?_
              rintro e wq2 ⟨pq2, mq2, Nq2, us2, fq2, rfl, hAq, hDq, hbq⟩
              have hbwq := Below.on hbwf hbq
              rcases hDq with ⟨hlq, hnq, rfl⟩ | ⟨hlq, rfl, rfl⟩
              · have AQ : Hid (At wq2 pq2 mq2 Nq2 us2 ) := hAq.1
                have NQ : Hid (Nf B64 us2 (a ^ M * a ^ M * a)) := hnq
                have LQ2 : Hid (a ^ M * a ^ M * a < LIM) := hlq
                have hmq2 : mq2 ≤ 8192 := by rw [← hAq.1.len]; exact hnq.lim.2 hlq
                clear hAq hnq hlq hbq hbwf AF NF HAF
                go_wp2_with fail
                refine (from_any AQ.out (by omega)).mono ?_
                rintro e wf2 ⟨gf2, zf2, rfl, hgf, hkf, hnf, hlf, hbf⟩
                have AF2 : Hid (At32 wf2 (some ⟨gf2, 0, none⟩) zf2.length zf2.length zf2) := hkf.at_ hnf.dig rfl (by unfold maxLen; omega)
                have NF2 : Hid (Nf B32 zf2 (a ^ M * a ^ M * a)) := by rw [NQ.out.val] at hnf; exact hnf
                obtain ⟨lf2, hlfe⟩ : ∃ lf2, lf2 = zf2.length := ⟨_, rfl⟩
                rw [← hlfe] at AF2 hlf ⊢
                have hlf22 : lf2 ≤ 16384 := by omega
                have hbwf2 := Below.on hbwq hbf
                clear hkf hnf hgf hlfe hbf hbwq AQ NQ hlf
                go_wp2_with fail
                go_roundg j
                case measure => omega
                case rel => exact ⟨_, lf2, lf2, zf2, (j : Int) - 1, rfl, rfl, rfl, by omega, hlf22, ⟨AF2.out, by rw [HFIN.out]; exact NF2.out, by rw [HFIN.out]; exact LQ2.out⟩, hbwf2⟩
              · have HLQ : Hid (LIM ≤ a ^ t) := by
                  show _ ≤ _
                  rw [← HFIN.out] at hlq
                  exact pow_mono_lim (by have := HA2.out; omega) hlq HLE.out
                clear hAq hlq hbq hbwf AF NF HAF
                go_wp2_with fail
                go_ret2
                exact ⟨none, 0, 0, [], 5, rfl, NewA.empty _ _, .inr ⟨HLQ.out, rfl, rfl⟩, hbwq⟩
          · have HLQ : Hid (LIM ≤ a ^ t) := by
              show _ ≤ _
              rw [← Nat.pow_add] at hlq
              have h1 := HS2.out
              have h2 := HA2.out
              exact pow_mono_lim (by omega) hlq (by omega)
            clear hAq hlq hbq hbw HAr AP NP LP
            go_wp2_with fail
            go_ret2
            exact ⟨none, 0, 0, [], 5, rfl, NewA.empty _ _, .inr ⟨HLQ.out, rfl, rfl⟩, hbwq⟩
    · have hSp : (0 : Int) < (S : Int) := by omega
      have HK1 : Hid (2 ^ (k + 1) ≤ t) := by
        have h1 := HS.out
        show _ ≤ _
        rcases Nat.lt_or_ge t (2 ^ (k + 1)) with e | e
        · rw [Nat.div_eq_of_lt e] at h1; exact absurd h1 hS0
        · exact e
      clear HS hS0
      go_wp2_with fail
      go_roundg (gk - 1)
      case measure => omega
      case rel => exact ⟨k + 1, by omega, by go_num, HK1, rfl⟩

theorem docpowN {p : Option Addr} {n c : Nat} {xs : List Nat} {w : World} (h : At w p n c xs) (t : Int) (ht : t ≤ 9223372036854775807) :
    Calls Try.prog 22 #[.slice p n c, .int .i64 t] w fun e w' => ∃ p' m' N' us f, e = .returned (.tuple #[.slice p' m' N', .int .i64 f]) ∧ NewA w.heap.size w' p' m' N' us ∧ PowIs xs t us f ∧ Below w.heap.size w w' := by
  have HA : Hid (At w p n c xs) := h
  clear h
  rcases Int.lt_or_le t 0 with h0 | h0
  · go_enter Try.func22, Try.ntmps22
    go_wp2_with fail
    go_ret2
    exact ⟨none, 0, 0, [], 1, rfl, NewA.empty _ _, .inl ⟨h0, rfl, rfl⟩, Below.refl _ _⟩
  · have hneg : decide (t < 0) = false := decide_eq_false (by omega)
    cases hf : formB xs
    · go_enter Try.func22, Try.ntmps22
      go_wp2_with fail
      refine (docform_any HA.out).mono ?_
      rintro e w1 ⟨rfl, hw⟩
      rw [hf]
      obtain rfl := hw.symm
      clear hw
      go_wp2_with fail
      go_ret2
      exact ⟨none, 0, 0, [], 2, rfl, NewA.empty _ _, .inr (.inl ⟨h0, hf, rfl, rfl⟩), Below.refl _ _⟩
    · have HF : Hid (formB xs = true) := hf
      have hn : n ≤ 8192 := by have := form_len hf; rw [HA.out.len] at this; exact this
      obtain ⟨T, rfl⟩ := Int.eq_ofNat_of_zero_le h0
      by_cases hT : T = 0
      · subst hT
        go_enter Try.func22, Try.ntmps22
        go_wp2_with fail
        refine (docform_any HA.out).mono ?_
        rintro e w1 ⟨rfl, hw⟩
        rw [hf]
        obtain rfl := hw.symm
        clear hw
        go_wp2_with fail
        refine (from_any HA.out (by omega)).mono ?_
        rintro e w1 ⟨g1, z1, rfl, hg1, hk1, hn1, hl1, hb1⟩
        have A1 : Hid (At32 w1 (some ⟨g1, 0, none⟩) z1.length z1.length z1) := hk1.at_ hn1.dig rfl (by unfold maxLen; omega)
        have N1 : Hid (Nf B32 z1 (valB B64 xs)) := hn1
        obtain ⟨l1, hl1e⟩ : ∃ l1, l1 = z1.length := ⟨_, rfl⟩
        have hz1 := nf32_zero hn1 hl1e.symm
        rw [← hl1e] at A1 hl1 ⊢
        obtain ⟨v, hv⟩ : ∃ v, v = valB B64 xs := ⟨_, rfl⟩
        rw [← hv] at N1 hz1
        have HV : Hid (v = valB B64 xs) := hv
        clear hk1 hn1 hg1 hl1e hv
        go_wp2_with fail
        refine (rword1 w1).mono ?_
        rintro e w5 ⟨g5, rfl, hA5, hb5⟩
        have A5 : Hid (At32 w5 (some ⟨g5, 0, none⟩) 1 1 [1]) := hA5
        have hbw5 := Below.on hb1 hb5
        clear hA5 hb5
        go_wp2_with fail
        refine (rto_any A5.out (by omega)).mono ?_
        rintro e w6 ⟨g6, k6, N6, us, rfl, hg6, hA6, hN6, hb6⟩
        have A6 : Hid (NewA w.heap.size w6 (some ⟨g6, 0, none⟩) k6 N6 us) := ⟨hA6, .inr ⟨g6, rfl, Nat.le_trans (by first | exact hbw.size | exact hbw'.size | exact hbw1.size | exact hbw2.size | exact hbw3.size | exact hbw4.size | exact hbw5.size | exact hbw6.size | exact hbw7.size | exact hbw8.size | exact hbw9.size | exact hb1.size | exact hb2.size | exact hb3.size | exact hb4.size | exact hb5.size | exact hb6.size | exact hb7.size | exact hb8.size | exact hb9.size | exact hbwq.size | exact hbwf.size | exact hbwf2.size | exact HB1.out.size | exact HB2.out.size | exact HB3.out.size | exact HB4.out.size | exact HB5.out.size | exact HB6.out.size | exact HB7.out.size | exact HB8.out.size | exact Nat.le_refl _) hg6⟩⟩
        obtain rfl : us = [1] := (by rw [nf32_one.val] at hN6; exact hN6.inj B64_one (nf_one (by decide) (by decide)))
        have hbw6 := Below.on hbw5 hb6
        clear hA6 hN6 hb6 hbw5 hg6
        go_wp2_with fail
        go_ret2
        exact ⟨_, k6, N6, [1], 0, rfl, A6.out, .inr (.inr ⟨by omega, HF.out, by rw [show ((0 : Nat) : Int).toNat = 0 from rfl, Nat.pow_zero]; exact doc_one⟩), hbw6⟩
      · have hT0 : ((T : Int) == 0) = false := by simp; omega
        have hTp : 1 ≤ T := by omega
        go_enter Try.func22, Try.ntmps22
        go_wp2_with fail
        refine (docform_any HA.out).mono ?_
        rintro e w1 ⟨rfl, hw⟩
        rw [hf]
        obtain rfl := hw.symm
        clear hw
        go_wp2_with fail
        refine (from_any HA.out (by omega)).mono ?_
        rintro e w1 ⟨g1, z1, rfl, hg1, hk1, hn1, hl1, hb1⟩
        have A1 : Hid (At32 w1 (some ⟨g1, 0, none⟩) z1.length z1.length z1) := hk1.at_ hn1.dig rfl (by unfold maxLen; omega)
        have N1 : Hid (Nf B32 z1 (valB B64 xs)) := hn1
        obtain ⟨l1, hl1e⟩ : ∃ l1, l1 = z1.length := ⟨_, rfl⟩
        have hz1 := nf32_zero hn1 hl1e.symm
        rw [← hl1e] at A1 hl1 ⊢
        obtain ⟨v, hv⟩ : ∃ v, v = valB B64 xs := ⟨_, rfl⟩
        rw [← hv] at N1 hz1
        have HV : Hid (v = valB B64 xs) := hv
        clear hk1 hn1 hg1 hl1e hv
        go_wp2_with fail
        refine (rword1 w1).mono ?_
        rintro e w2 ⟨g2, rfl, hA2, hb2⟩
        have A2 : Hid (At32 w2 (some ⟨g2, 0, none⟩) 1 1 [1]) := hA2
        have A1' : Hid (At32 w2 (some ⟨g1, 0, none⟩) l1 l1 z1) := A1.out.below hb2
        have hbw := Below.on hb1 hb2
        clear hA2 A1 hb1 hb2
        go_wp2_with fail
        refine (rcmp_any A1'.out A2.out N1.out nf32_one).mono ?_
        rintro e w3 ⟨rfl, r3, rfl⟩
        have A3 : Hid (At32 (w2.drewN r3) (some ⟨g1, 0, none⟩) l1 l1 z1) := A1'.out.drewN r3
        have hbw3 : Below w.heap.size w (w2.drewN r3) := bDrewN hbw r3
        clear A1' hbw A2
        have hcm := cmpN_one v
        by_cases hv1 : v = 1
        · rw [decide_eq_true hv1] at hcm
          go_wp2_with fail
          refine (rword1 (w2.drewN r3)).mono ?_
          rintro e w5 ⟨g5, rfl, hA5, hb5⟩
          have A5 : Hid (At32 w5 (some ⟨g5, 0, none⟩) 1 1 [1]) := hA5
          have hbw5 := Below.on hbw3 hb5
          clear hA5 hb5
          go_wp2_with fail
          refine (rto_any A5.out (by omega)).mono ?_
          rintro e w6 ⟨g6, k6, N6, us, rfl, hg6, hA6, hN6, hb6⟩
          have A6 : Hid (NewA w.heap.size w6 (some ⟨g6, 0, none⟩) k6 N6 us) := ⟨hA6, .inr ⟨g6, rfl, Nat.le_trans (by first | exact hbw.size | exact hbw'.size | exact hbw1.size | exact hbw2.size | exact hbw3.size | exact hbw4.size | exact hbw5.size | exact hbw6.size | exact hbw7.size | exact hbw8.size | exact hbw9.size | exact hb1.size | exact hb2.size | exact hb3.size | exact hb4.size | exact hb5.size | exact hb6.size | exact hb7.size | exact hb8.size | exact hb9.size | exact hbwq.size | exact hbwf.size | exact hbwf2.size | exact HB1.out.size | exact HB2.out.size | exact HB3.out.size | exact HB4.out.size | exact HB5.out.size | exact HB6.out.size | exact HB7.out.size | exact HB8.out.size | exact Nat.le_refl _) hg6⟩⟩
          obtain rfl : us = [1] := (by rw [nf32_one.val] at hN6; exact hN6.inj B64_one (nf_one (by decide) (by decide)))
          have hbw6 := Below.on hbw5 hb6
          clear hA6 hN6 hb6 hbw5 hg6
          go_wp2_with fail
          go_ret2
          exact ⟨_, k6, N6, [1], 0, rfl, A6.out, .inr (.inr ⟨by omega, HF.out, by rw [← HV.out, hv1, Nat.one_pow]; exact doc_one⟩), hbw6⟩
        · rw [decide_eq_false hv1] at hcm
          by_cases hl0 : l1 = 0
          · have HV0 : Hid (v = 0) := hz1.1 hl0
            subst hl0
            clear hz1 hv1
            go_wp2_with fail
            go_ret2
            exact ⟨none, 0, 0, [], 0, rfl, NewA.empty _ _, .inr (.inr ⟨by omega, HF.out, by rw [← HV.out, HV0.out, show ((T : Int)).toNat = T from rfl, Nat.zero_pow (by omega)]; exact .inl ⟨LIM_pos, nf_nil, rfl⟩⟩), hbw3⟩
          · have hl0' : ((l1 : Int) == 0) = false := by simp; omega
            have hv2 : 2 ≤ v := by
              rcases Nat.eq_zero_or_pos v with e | e
              · exact absurd (hz1.2 e) hl0
              · omega
            have HV2 : Hid (2 ≤ v) := hv2
            clear hv1 hv2 hz1
            by_cases hbig : 524288 < T
            · have hbi : (524288 : Int) < (T : Int) := by omega
              go_wp2_with fail
              go_ret2
              exact ⟨none, 0, 0, [], 5, rfl, NewA.empty _ _, .inr (.inr ⟨by omega, HF.out, .inr ⟨by rw [← HV.out]; exact two_pow_lim (t := T) HV2.out rfl (.inr hbig), rfl, rfl⟩⟩), hbw3⟩
            · have hbi : ¬ (524288 : Int) < (T : Int) := by omega
              go_wp2_with fail
              refine (rbits_any A3.out N1.out (by omega)).mono ?_
              rintro e w4 ⟨rfl, hw⟩
              obtain rfl := hw.symm
              clear hw
              obtain ⟨b, hb⟩ : ∃ b, b = bitsN v := ⟨_, rfl⟩
              rw [← hb]
              have HB : Hid (b = bitsN v) := hb
              have hbl : b ≤ 524288 := by rw [hb]; have := bits_len32 N1.out A3.out.len; omega
              have hb1 : 1 ≤ b := by rw [hb]; have := HV2.out; unfold bitsN; rw [if_neg (by omega)]; omega
              obtain ⟨b1, hb1e⟩ : ∃ b1, b1 = b - 1 := ⟨_, rfl⟩
              have hsub : (b : Int) - 1 = (b1 : Int) := by omega
              obtain ⟨M, hM⟩ : ∃ M, M = b1 * T := ⟨_, rfl⟩
              have hmulI : (b1 : Int) * (T : Int) = (M : Int) := by rw [hM]; simp
              have hMb : M ≤ 524288 * 524288 := by rw [hM]; exact Nat.mul_le_mul (by omega) (by omega)
              obtain ⟨M1, hM1⟩ : ∃ M1, M1 = M + 1 := ⟨_, rfl⟩
              have hM1I : (M : Int) + 1 = (M1 : Int) := by omega
              have HM1 : Hid (M1 = (b - 1) * T + 1) := by show _ = _; rw [hM1, hM, hb1e]
              have hM1b : M1 ≤ 1000000000000 := by omega
              clear hb hb1e hM hM1
              go_wp2_with fail
              refine (least_any M1 hM1b _).mono ?_
              rintro e w4 ⟨rfl, hw⟩
              obtain rfl := hw.symm
              clear hw
              obtain ⟨L, hL⟩ : ∃ L, L = (M1 + 63) / 64 := ⟨_, rfl⟩
              rw [← hL]
              have HL : Hid (L = (M1 + 63) / 64) := hL
              clear hL
              by_cases hc : 8192 < L
              · have hci : (8192 : Int) < (L : Int) := by omega
                go_wp2_with fail
                go_ret2
                exact ⟨none, 0, 0, [], 5, rfl, NewA.empty _ _, .inr (.inr ⟨by omega, HF.out, .inr ⟨by rw [← HV.out]; exact two_pow_lim (t := T) HV2.out HB.out (.inl (by have h1 := HL.out; have h2 := HM1.out; omega)), rfl, rfl⟩⟩), hbw3⟩
              · have hci : ¬ (8192 : Int) < (L : Int) := by omega
                go_wp2_with fail
                refine (powerN A3.out N1.out (by omega) HV2.out T (by omega) (by omega)).mono ?_
                rintro e w5 ⟨p5, m5, N5, us, f5, rfl, hA5, hD5, hb5⟩
                have A5 : Hid (NewA w.heap.size w5 p5 m5 N5 us) := NewA.mono hA5 (by first | exact hbw.size | exact hbw'.size | exact hbw1.size | exact hbw2.size | exact hbw3.size | exact hbw4.size | exact hbw5.size | exact hbw6.size | exact hbw7.size | exact hbw8.size | exact hbw9.size | exact hb1.size | exact hb2.size | exact hb3.size | exact hb4.size | exact hb5.size | exact hb6.size | exact hb7.size | exact hb8.size | exact hb9.size | exact hbwq.size | exact hbwf.size | exact hbwf2.size | exact HB1.out.size | exact HB2.out.size | exact HB3.out.size | exact HB4.out.size | exact HB5.out.size | exact HB6.out.size | exact HB7.out.size | exact HB8.out.size | exact Nat.le_refl _)
                have D5 : Hid (DocIs (v ^ T) us f5) := hD5
                have hbw5 := Below.on hbw3 hb5
                clear hA5 hD5 hb5
                go_wp2_with fail
                go_ret2
                exact ⟨p5, m5, N5, us, f5, rfl, A5.out, .inr (.inr ⟨by omega, HF.out, by rw [← HV.out]; exact D5.out⟩), hbw5⟩
theorem docpartsN {p q : Option Addr} {n m c d : Nat} {xs ys : List Nat} {w : World} (h : At w p n c xs) (k : At w q m d ys) (t : Int) (ht : -9223372036854775808 ≤ t ∧ t ≤ 9223372036854775807) :
    Calls Try.prog 23 #[.slice p n c, .slice q m d, .int .i64 t] w fun e w' => ∃ p1 m1 N1 u1 p2 m2 N2 u2 p3 m3 N3 u3 f, e = .returned (.tuple #[.slice p1 m1 N1, .slice p2 m2 N2, .slice p3 m3 N3, .int .i64 f]) ∧ NewA w.heap.size w' p1 m1 N1 u1 ∧ NewA w.heap.size w' p2 m2 N2 u2 ∧ NewA w.heap.size w' p3 m3 N3 u3 ∧ PartsIs xs ys t u1 u2 u3 f ∧ Below w.heap.size w w' := by
  have HA : Hid (At w p n c xs) := h
  have HB : Hid (At w q m d ys) := k
  clear h k
  rcases Int.lt_or_le t 1 with h0 | h0
  · have h1 : decide (t < 1) = true := decide_eq_true h0
    go_enter Try.func23, Try.ntmps23
    go_wp2_with fail
    refine bodyPost_ret (results_tmp4 rfl _ _ _) rfl ?_
    exact ⟨none, 0, 0, [], none, 0, 0, [], none, 0, 0, [], 1, rfl, NewA.empty _ _, NewA.empty _ _, NewA.empty _ _, .inl ⟨.inl h0, rfl, rfl, rfl, rfl⟩, Below.refl _ _⟩
  · have h1 : decide (t < 1) = false := decide_eq_false (by omega)
    rcases Int.lt_or_le 8192 t with h2 | h2
    · have h3 : decide (8192 < t) = true := decide_eq_true h2
      go_enter Try.func23, Try.ntmps23
      go_wp2_with fail
      refine bodyPost_ret (results_tmp4 rfl _ _ _) rfl ?_
      exact ⟨none, 0, 0, [], none, 0, 0, [], none, 0, 0, [], 1, rfl, NewA.empty _ _, NewA.empty _ _, NewA.empty _ _, .inl ⟨.inr h2, rfl, rfl, rfl, rfl⟩, Below.refl _ _⟩
    · have h3 : decide (8192 < t) = false := decide_eq_false (by omega)
      have HT : Hid (¬ (t < 1 ∨ 8192 < t)) := by show ¬ _; omega
      cases hx : formB xs
      · have HF : Hid ((formB xs && formB ys) = false) := by show _ = _; rw [hx]; rfl
        go_enter Try.func23, Try.ntmps23
        go_wp2_with fail
        refine (docform_any HA.out).mono ?_
        rintro e w1 ⟨rfl, hw⟩
        rw [hx]
        obtain rfl := hw.symm
        clear hw
        go_wp2_with fail
        refine bodyPost_ret (results_tmp4 rfl _ _ _) rfl ?_
        exact ⟨none, 0, 0, [], none, 0, 0, [], none, 0, 0, [], 2, rfl, NewA.empty _ _, NewA.empty _ _, NewA.empty _ _, .inr (.inl ⟨HT.out, HF.out, rfl, rfl, rfl, rfl⟩), Below.refl _ _⟩
      · cases hy : formB ys
        · have HF : Hid ((formB xs && formB ys) = false) := by show _ = _; rw [hx, hy]; rfl
          go_enter Try.func23, Try.ntmps23
          go_wp2_with fail
          refine (docform_any HA.out).mono ?_
          rintro e w1 ⟨rfl, hw⟩
          rw [hx]
          obtain rfl := hw.symm
          clear hw
          go_wp2_with fail
          refine (docform_any HB.out).mono ?_
          rintro e w1 ⟨rfl, hw⟩
          rw [hy]
          obtain rfl := hw.symm
          clear hw
          go_wp2_with fail
          refine bodyPost_ret (results_tmp4 rfl _ _ _) rfl ?_
          exact ⟨none, 0, 0, [], none, 0, 0, [], none, 0, 0, [], 2, rfl, NewA.empty _ _, NewA.empty _ _, NewA.empty _ _, .inr (.inl ⟨HT.out, HF.out, rfl, rfl, rfl, rfl⟩), Below.refl _ _⟩
        · have HFF : Hid ((formB xs && formB ys) = true) := by show _ = _; rw [hx, hy]; rfl
          obtain ⟨T, hT⟩ := Int.eq_ofNat_of_zero_le (show 0 ≤ t by omega)
          subst hT
          have hn : n ≤ 8192 := by have := form_len hx; rw [HA.out.len] at this; exact this
          have hm : m ≤ 8192 := by have := form_len hy; rw [HB.out.len] at this; exact this
          obtain ⟨S, hS⟩ : ∃ S, S = 64 * T := ⟨_, rfl⟩
          have hSI : 64 * (T : Int) = (S : Int) := by omega
          have HS : Hid (S = 64 * T) := hS
          have hT1 : 1 ≤ T := by omega
          have hT2 : T ≤ 8192 := by omega
          have hSb : S ≤ 524288 := by omega
          clear hS
          go_enter Try.func23, Try.ntmps23
          go_wp2_with fail
          refine (docform_any HA.out).mono ?_
          rintro e w1 ⟨rfl, hw⟩
          rw [hx]
          obtain rfl := hw.symm
          clear hw
          go_wp2_with fail
          refine (docform_any HB.out).mono ?_
          rintro e w1 ⟨rfl, hw⟩
          rw [hy]
          obtain rfl := hw.symm
          clear hw
          go_wp2_with fail
          clear hx hy
          refine (from_any HA.out (by omega)).mono ?_
          rintro e w1 ⟨g1, z1, rfl, hg1, hk1, hn1, hl1, hb1⟩
          have A1 : Hid (At32 w1 (some ⟨g1, 0, none⟩) z1.length z1.length z1) := hk1.at_ hn1.dig rfl (by unfold maxLen; omega)
          have N1 : Hid (Nf B32 z1 (valB B64 xs)) := hn1
          obtain ⟨l1, hle1⟩ : ∃ l1, l1 = z1.length := ⟨_, rfl⟩
          rw [← hle1] at A1 hl1 ⊢
          have hll1 : l1 ≤ 16384 := by omega
          replace HB : Hid _ := HB.out.below hb1
          have hbw := hb1
          clear hk1 hn1 hg1 hle1 hb1 hl1
          go_wp2_with fail
          refine (from_any HB.out (by omega)).mono ?_
          rintro e w2 ⟨g2, z2, rfl, hg2, hk2, hn2, hl2, hb2⟩
          have A2 : Hid (At32 w2 (some ⟨g2, 0, none⟩) z2.length z2.length z2) := hk2.at_ hn2.dig rfl (by unfold maxLen; omega)
          have N2 : Hid (Nf B32 z2 (valB B64 ys)) := hn2
          obtain ⟨l2, hle2⟩ : ∃ l2, l2 = z2.length := ⟨_, rfl⟩
          rw [← hle2] at A2 hl2 ⊢
          have hll2 : l2 ≤ 16384 := by omega
          replace HB : Hid _ := HB.out.below hb2
          replace A1 : Hid _ := A1.out.below hb2
          replace hbw := Below.on hbw hb2
          clear hk2 hn2 hg2 hle2 hb2 hl2
          go_wp2_with fail
          refine (rlow64 A1.out N1.out (by omega) T hT1 hT2 S HS.out).mono ?_
          rintro e w3 ⟨p3, m3, z3, rfl, hA3, hN3, hm3, hb3⟩
          have A3 : Hid (At32 w3 p3 m3 m3 z3) := hA3
          have N3 : Hid (Nf B32 z3 (valB B64 xs % B64 ^ T)) := hN3
          replace A1 : Hid _ := A1.out.below hb3
          replace A2 : Hid _ := A2.out.below hb3
          replace hbw := Below.on hbw hb3
          clear hA3 hN3 hb3
          go_wp2_with fail
          refine (rshr64 A1.out N1.out (by omega) T hT1 hT2 S HS.out).mono ?_
          rintro e w4 ⟨p4, m4, z4, rfl, hA4, hN4, hm4, hb4⟩
          have A4 : Hid (At32 w4 p4 m4 m4 z4) := hA4
          have N4 : Hid (Nf B32 z4 (valB B64 xs / B64 ^ T)) := hN4
          replace A1 : Hid _ := A1.out.below hb4
          replace A2 : Hid _ := A2.out.below hb4
          replace A3 : Hid _ := A3.out.below hb4
          replace hbw := Below.on hbw hb4
          clear hA4 hN4 hb4
          go_wp2_with fail
          refine (rlow64 A2.out N2.out (by omega) T hT1 hT2 S HS.out).mono ?_
          rintro e w5 ⟨p5, m5, z5, rfl, hA5, hN5, hm5, hb5⟩
          have A5 : Hid (At32 w5 p5 m5 m5 z5) := hA5
          have N5 : Hid (Nf B32 z5 (valB B64 ys % B64 ^ T)) := hN5
          replace A2 : Hid _ := A2.out.below hb5
          replace A3 : Hid _ := A3.out.below hb5
          replace A4 : Hid _ := A4.out.below hb5
          replace hbw := Below.on hbw hb5
          clear hA5 hN5 hb5
          go_wp2_with fail
          refine (rshr64 A2.out N2.out (by omega) T hT1 hT2 S HS.out).mono ?_
          rintro e w6 ⟨p6, m6, z6, rfl, hA6, hN6, hm6, hb6⟩
          have A6 : Hid (At32 w6 p6 m6 m6 z6) := hA6
          have N6 : Hid (Nf B32 z6 (valB B64 ys / B64 ^ T)) := hN6
          replace A2 : Hid _ := A2.out.below hb6
          replace A3 : Hid _ := A3.out.below hb6
          replace A4 : Hid _ := A4.out.below hb6
          replace A5 : Hid _ := A5.out.below hb6
          replace hbw := Below.on hbw hb6
          clear hA6 hN6 hb6
          go_wp2_with fail
          refine (productN A3.out A5.out N3.out N5.out (by omega) (by omega)).mono ?_
          rintro e w7 ⟨p7, m7, N7, u7, f7, rfl, hA7, hD7, hb7⟩
          have A7 : Hid (NewA w.heap.size w7 p7 m7 N7 u7) := NewA.mono hA7 (by first | exact hbw.size | exact hbw'.size | exact hbw1.size | exact hbw2.size | exact hbw3.size | exact hbw4.size | exact hbw5.size | exact hbw6.size | exact hbw7.size | exact hbw8.size | exact hbw9.size | exact hb1.size | exact hb2.size | exact hb3.size | exact hb4.size | exact hb5.size | exact hb6.size | exact hb7.size | exact hb8.size | exact hb9.size | exact hbwq.size | exact hbwf.size | exact hbwf2.size | exact HB1.out.size | exact HB2.out.size | exact HB3.out.size | exact HB4.out.size | exact HB5.out.size | exact HB6.out.size | exact HB7.out.size | exact HB8.out.size | exact Nat.le_refl _)
          have D7 : Hid (DocIs ((valB B64 xs % B64 ^ T) * (valB B64 ys % B64 ^ T)) u7 f7) := hD7
          replace A3 : Hid _ := A3.out.below hb7
          replace A4 : Hid _ := A4.out.below hb7
          replace A5 : Hid _ := A5.out.below hb7
          replace A6 : Hid _ := A6.out.below hb7
          replace hbw := Below.on hbw hb7
          clear hA7 hD7 hb7
          go_wp2_with fail
          refine (productN A4.out A6.out N4.out N6.out (by omega) (by omega)).mono ?_
          rintro e w8 ⟨p8, m8, N8, u8, f8, rfl, hA8, hD8, hb8⟩
          have A8 : Hid (NewA w.heap.size w8 p8 m8 N8 u8) := NewA.mono hA8 (by first | exact hbw.size | exact hbw'.size | exact hbw1.size | exact hbw2.size | exact hbw3.size | exact hbw4.size | exact hbw5.size | exact hbw6.size | exact hbw7.size | exact hbw8.size | exact hbw9.size | exact hb1.size | exact hb2.size | exact hb3.size | exact hb4.size | exact hb5.size | exact hb6.size | exact hb7.size | exact hb8.size | exact hb9.size | exact hbwq.size | exact hbwf.size | exact hbwf2.size | exact HB1.out.size | exact HB2.out.size | exact HB3.out.size | exact HB4.out.size | exact HB5.out.size | exact HB6.out.size | exact HB7.out.size | exact HB8.out.size | exact Nat.le_refl _)
          have D8 : Hid (DocIs ((valB B64 xs / B64 ^ T) * (valB B64 ys / B64 ^ T)) u8 f8) := hD8
          replace A3 : Hid _ := A3.out.below hb8
          replace A4 : Hid _ := A4.out.below hb8
          replace A5 : Hid _ := A5.out.below hb8
          replace A6 : Hid _ := A6.out.below hb8
          replace A7 : Hid (NewA w.heap.size w8 p7 m7 N7 u7) := A7.out.below hb8
          replace hbw := Below.on hbw hb8
          clear hA8 hD8 hb8
          go_wp2_with fail
          refine (rmul_any A3.out A6.out N3.out N6.out (by omega) (by omega)).mono ?_
          rintro e w9 ⟨p9, m9, z9, rfl, hA9, hN9, hm9, hb9⟩
          have A9 : Hid (At32 w9 p9 m9 m9 z9) := hA9
          have N9 : Hid (Nf B32 z9 ((valB B64 xs % B64 ^ T) * (valB B64 ys / B64 ^ T))) := hN9
          replace A3 : Hid _ := A3.out.below hb9
          replace A4 : Hid _ := A4.out.below hb9
          replace A5 : Hid _ := A5.out.below hb9
          replace A6 : Hid _ := A6.out.below hb9
          replace A7 : Hid (NewA w.heap.size w9 p7 m7 N7 u7) := A7.out.below hb9
          replace A8 : Hid (NewA w.heap.size w9 p8 m8 N8 u8) := A8.out.below hb9
          replace hbw := Below.on hbw hb9
          clear hA9 hN9 hb9
          go_wp2_with fail
          refine (rmul_any A4.out A5.out N4.out N5.out (by omega) (by omega)).mono ?_
          rintro e w10 ⟨p10, m10, z10, rfl, hA10, hN10, hm10, hb10⟩
          have A10 : Hid (At32 w10 p10 m10 m10 z10) := hA10
          have N10 : Hid (Nf B32 z10 ((valB B64 xs / B64 ^ T) * (valB B64 ys % B64 ^ T))) := hN10
          replace A3 : Hid _ := A3.out.below hb10
          replace A4 : Hid _ := A4.out.below hb10
          replace A5 : Hid _ := A5.out.below hb10
          replace A6 : Hid _ := A6.out.below hb10
          replace A7 : Hid (NewA w.heap.size w10 p7 m7 N7 u7) := A7.out.below hb10
          replace A8 : Hid (NewA w.heap.size w10 p8 m8 N8 u8) := A8.out.below hb10
          replace A9 : Hid _ := A9.out.below hb10
          replace hbw := Below.on hbw hb10
          clear hA10 hN10 hb10
          go_wp2_with fail
          clear A3 A4 A5 A6
          refine (radd_any A9.out A10.out N9.out N10.out (by omega) (by omega)).mono ?_
          rintro e w11 ⟨p11, m11, z11, rfl, hA11, hN11, hb11⟩
          have A11 : Hid (At32 w11 p11 m11 m11 z11) := hA11
          have N11 : Hid (Nf B32 z11 ((valB B64 xs % B64 ^ T) * (valB B64 ys / B64 ^ T) + (valB B64 xs / B64 ^ T) * (valB B64 ys % B64 ^ T))) := hN11
          replace A7 : Hid (NewA w.heap.size w11 p7 m7 N7 u7) := A7.out.below hb11
          replace A8 : Hid (NewA w.heap.size w11 p8 m8 N8 u8) := A8.out.below hb11
          replace A9 : Hid _ := A9.out.below hb11
          replace A10 : Hid _ := A10.out.below hb11
          replace hbw := Below.on hbw hb11
          have hm11 : m11 ≤ 35184372088832 := by
            have h4 := nf32_lt N9.out (K := 32768) (by rw [A9.out.len]; omega)
            have h5 := nf32_lt N10.out (K := 32768) (by rw [A10.out.len]; omega)
            rcases Nat.lt_or_ge 32769 m11 with e | e
            · exfalso
              obtain ⟨J, hJ⟩ : ∃ J, J = 32768 := ⟨_, rfl⟩
              have h6 := nf32_ge N11.out (K := J + 1) (by rw [A11.out.len]; omega)
              rw [← hJ] at h4 h5
              rw [Nat.pow_succ] at h6
              have : B32 ^ J * 2 ≤ B32 ^ J * B32 := Nat.mul_le_mul_left _ (by decide)
              omega
            · omega
          clear hA11 hN11 hb11 A9 A10
          go_wp2_with fail
          refine (rtoldN A11.out N11.out hm11).mono ?_
          rintro e w12 ⟨p12, m12, N12, u12, f12, rfl, hA12, hD12, hb12⟩
          have A12 : Hid (NewA w.heap.size w12 p12 m12 N12 u12) := NewA.mono hA12 (by first | exact hbw.size | exact hbw'.size | exact hbw1.size | exact hbw2.size | exact hbw3.size | exact hbw4.size | exact hbw5.size | exact hbw6.size | exact hbw7.size | exact hbw8.size | exact hbw9.size | exact hb1.size | exact hb2.size | exact hb3.size | exact hb4.size | exact hb5.size | exact hb6.size | exact hb7.size | exact hb8.size | exact hb9.size | exact hbwq.size | exact hbwf.size | exact hbwf2.size | exact HB1.out.size | exact HB2.out.size | exact HB3.out.size | exact HB4.out.size | exact HB5.out.size | exact HB6.out.size | exact HB7.out.size | exact HB8.out.size | exact Nat.le_refl _)
          have D12 : Hid (DocIs ((valB B64 xs % B64 ^ T) * (valB B64 ys / B64 ^ T) + (valB B64 xs / B64 ^ T) * (valB B64 ys % B64 ^ T)) u12 f12) := hD12
          replace A7 : Hid (NewA w.heap.size w12 p7 m7 N7 u7) := A7.out.below hb12
          replace A8 : Hid (NewA w.heap.size w12 p8 m8 N8 u8) := A8.out.below hb12
          replace hbw := Below.on hbw hb12
          clear hA12 hD12 hb12 A11
          rcases D7.out with ⟨a7, b7, rfl⟩ | ⟨a7, _, rfl⟩
          · rcases D8.out with ⟨a8, b8, rfl⟩ | ⟨a8, _, rfl⟩
            · rcases D12.out with ⟨a9, b9, rfl⟩ | ⟨a9, _, rfl⟩
              · have HH : Hid (((valB B64 xs % B64 ^ T) * (valB B64 ys % B64 ^ T)) < LIM ∧ ((valB B64 xs % B64 ^ T) * (valB B64 ys / B64 ^ T) + (valB B64 xs / B64 ^ T) * (valB B64 ys % B64 ^ T)) < LIM ∧ ((valB B64 xs / B64 ^ T) * (valB B64 ys / B64 ^ T)) < LIM ∧ Nf B64 u7 ((valB B64 xs % B64 ^ T) * (valB B64 ys % B64 ^ T)) ∧ Nf B64 u12 ((valB B64 xs % B64 ^ T) * (valB B64 ys / B64 ^ T) + (valB B64 xs / B64 ^ T) * (valB B64 ys % B64 ^ T)) ∧ Nf B64 u8 ((valB B64 xs / B64 ^ T) * (valB B64 ys / B64 ^ T))) := ⟨a7, a9, a8, b7, b9, b8⟩
                clear a7 a8 a9 b7 b8 b9
                go_wp2_with fail
                refine bodyPost_ret (results_tmp4 rfl _ _ _) rfl ?_
                exact ⟨p7, m7, N7, u7, p12, m12, N12, u12, p8, m8, N8, u8, 0, rfl, A7.out, A12.out, A8.out, .inr (.inr ⟨HT.out, HFF.out, _, _, _, rfl, rfl, rfl, .inl ⟨HH.out.1, HH.out.2.1, HH.out.2.2.1, HH.out.2.2.2.1, HH.out.2.2.2.2.1, HH.out.2.2.2.2.2, rfl⟩⟩), hbw⟩
              · have HH : Hid (LIM ≤ (valB B64 xs % B64 ^ T) * (valB B64 ys / B64 ^ T) + (valB B64 xs / B64 ^ T) * (valB B64 ys % B64 ^ T)) := a9
                clear a7 a8 a9 b7 b8
                go_wp2_with fail
                refine bodyPost_ret (results_tmp4 rfl _ _ _) rfl ?_
                exact ⟨none, 0, 0, [], none, 0, 0, [], none, 0, 0, [], 5, rfl, NewA.empty _ _, NewA.empty _ _, NewA.empty _ _, .inr (.inr ⟨HT.out, HFF.out, _, _, _, rfl, rfl, rfl, .inr ⟨.inr (.inl HH.out), rfl, rfl, rfl, rfl⟩⟩), hbw⟩
            · have HH : Hid (LIM ≤ (valB B64 xs / B64 ^ T) * (valB B64 ys / B64 ^ T)) := a8
              clear a7 a8 b7
              go_wp2_with fail
              refine bodyPost_ret (results_tmp4 rfl _ _ _) rfl ?_
              exact ⟨none, 0, 0, [], none, 0, 0, [], none, 0, 0, [], 5, rfl, NewA.empty _ _, NewA.empty _ _, NewA.empty _ _, .inr (.inr ⟨HT.out, HFF.out, _, _, _, rfl, rfl, rfl, .inr ⟨.inr (.inr HH.out), rfl, rfl, rfl, rfl⟩⟩), hbw⟩
          · have HH : Hid (LIM ≤ (valB B64 xs % B64 ^ T) * (valB B64 ys % B64 ^ T)) := a7
            clear a7
            go_wp2_with fail
            refine bodyPost_ret (results_tmp4 rfl _ _ _) rfl ?_
            exact ⟨none, 0, 0, [], none, 0, 0, [], none, 0, 0, [], 5, rfl, NewA.empty _ _, NewA.empty _ _, NewA.empty _ _, .inr (.inr ⟨HT.out, HFF.out, _, _, _, rfl, rfl, rfl, .inr ⟨.inl HH.out, rfl, rfl, rfl, rfl⟩⟩), hbw⟩

theorem docprodgN {P : Option Addr} {N C : Nat} {its : List It} {w : World} (h : LsA w P N C its) (hbad : ∀ t ∈ its, formB t.xs = true) :
    Calls Try.prog 24 #[.slice P N C] w fun en w' => ∃ q k M us f, en = .returned (.tuple #[.slice q k M, .int .i64 f]) ∧ NewA w.heap.size w' q k M us ∧ DocIs (prodI its) us f ∧ Below w.heap.size w w' := by
  have H : Hid (LsA w P N C its) := h
  have HLN : Hid (its.length = N) := h.len
  have HBD : Hid (_) := hbad
  have cap := h.cap; have big := h.big
  unfold maxLen at big
  clear h hbad
  go_enter Try.func24, Try.ntmps24
  go_wp2_with fail
  go_loopg [4] N (fun gk iv wr => ∃ (k : Nat), k + gk = N ∧ iv = .int .i64 k ∧ Below w.heap.size w wr)
  case atStart => exact ⟨0, by omega, rfl, Below.refl _ _⟩
  case round =>
    obtain ⟨k, hkg, rfl, hbw⟩ := hrel
    cases gk with
    | succ gg =>
      have hk : k < its.length := by rw [HLN.out]; omega
      obtain ⟨gs, off, rfl, hc⟩ := H.out.cells.resolve_left (by omega)
      have hcx := (hbw.cell (p := ⟨gs, off + k, none⟩) (World.block_lt_of_cell? w _ (hc k hk))).trans (hc k hk)
      have hAt := H.out.ats its[k] (List.getElem_mem hk)
      have AT : Hid (At wr its[k].p its[k].n its[k].c its[k].xs ∧ its[k].n ≤ 17592186044416 ∧ its[k].a = valB B64 its[k].xs) := ⟨hAt.1.below hbw, hAt.2⟩
      have hfb := HBD.out its[k] (List.getElem_mem hk)
      have hkk : (k : Int) < (N : Int) := by omega
      have hk0 : (0 : Int) ≤ (k : Int) ∧ (k : Int) < (N : Int) := by omega
      have hn17 := hAt.2.1
      clear hc hAt
      generalize its[k].p = tp at *
      generalize its[k].n = tn at *
      generalize its[k].c = tc at *
      generalize its[k].xs = txs at *
      generalize its[k].a = ta at *
      go_wp2_with fail
      refine (docform_any AT.out.1).mono ?_
      rintro e w' ⟨rfl, hw⟩
      obtain rfl := hw.symm
      clear hw
      rw [hfb]
      go_wp2_with fail
      go_roundg gg
      case measure => omega
      case rel => exact ⟨k + 1, by omega, by go_num, hbw⟩
    | zero =>
      obtain rfl : N = k := by omega
      have hnk : ¬ (N : Int) < (N : Int) := by omega
      go_wp2_with fail
      clear hnk hkg
      have hbw1 := hbw
      clear hbw
      go_loopg [5, 6] N (fun gk bv iv wr => ∃ (k b : Nat), k + gk = N ∧ iv = .int .i64 k ∧ bv = .int .i64 b ∧ BS its k b ∧ (∀ t ∈ its.take k, 0 < t.a) ∧ Below w.heap.size w wr)
      case atStart => exact ⟨0, 1, by omega, rfl, rfl, .inl ⟨by omega, by omega, rfl⟩, fun t ht => by simp at ht, hbw1⟩
      case round =>
        obtain ⟨k, b, hkg, rfl, rfl, hbs, hpos, hbw⟩ := hrel
        clear hbw1
        have HBS : Hid (BS its k b ∧ ∀ t ∈ its.take k, 0 < t.a) := ⟨hbs, hpos⟩
        have hb9 : b ≤ 1048577 := by rcases hbs with h | h <;> omega
        clear hbs hpos
        cases gk with
        | succ gg =>
          have hk : k < its.length := by rw [HLN.out]; omega
          obtain ⟨gs, off, rfl, hc⟩ := H.out.cells.resolve_left (by omega)
          have hcx := (hbw.cell (p := ⟨gs, off + k, none⟩) (World.block_lt_of_cell? w _ (hc k hk))).trans (hc k hk)
          have hAt := H.out.ats its[k] (List.getElem_mem hk)
          have AT : Hid (At wr its[k].p its[k].n its[k].c its[k].xs ∧ its[k].n ≤ 17592186044416 ∧ its[k].a = valB B64 its[k].xs) := ⟨hAt.1.below hbw, hAt.2⟩
          have hfb := HBD.out its[k] (List.getElem_mem hk)
          obtain ⟨bb, hbb⟩ : ∃ x, x = bitsN its[k].a := ⟨_, rfl⟩
          have HZ : Hid (its[k].a = 0 → prodI its = 0) := fun h0 => prodI_zero (List.getElem_mem hk) h0
          have HST : Hid (0 < its[k].a → (∀ t ∈ its.take (k + 1), 0 < t.a) ∧ bsum (its.take (k + 1)) = bsum (its.take k) + (bb - 1)) := fun h0 => ⟨fun t ht => by rw [take_succ_it its k hk] at ht; rcases List.mem_append.1 ht with h | h; exact HBS.out.2 t h; rw [List.mem_singleton.1 h]; exact h0, by rw [bsum_succ hk, hbb]⟩
          have HBB : Hid (bb = bitsN its[k].a ∧ bb ≤ 524288) := ⟨hbb, by rw [hbb, (H.out.ats its[k] (List.getElem_mem hk)).2.2]; exact bits_lim (H.out.ats its[k] (List.getElem_mem hk)).1.dig hfb⟩
          have HFB : Hid (formB its[k].xs = true) := hfb
          clear hbb hfb
          have hkk : (k : Int) < (N : Int) := by omega
          have hk0 : (0 : Int) ≤ (k : Int) ∧ (k : Int) < (N : Int) := by omega
          have hn17 := hAt.2.1
          clear hc hAt
          generalize its[k].p = tp at *
          generalize its[k].n = tn at *
          generalize its[k].c = tc at *
          generalize its[k].xs = txs at *
          generalize its[k].a = ta at *
          by_cases ht0 : tn = 0
          · subst ht0
            have HA0 : Hid (ta = 0) := by have h1 := AT.out.1.len; rw [List.length_eq_zero_iff] at h1; show ta = 0; rw [AT.out.2.2, h1]; rfl
            go_wp2_with fail
            go_ret2
            exact ⟨none, 0, 0, [], 0, rfl, NewA.empty _ _, by rw [HZ.out HA0.out]; exact .inl ⟨Nat.lt_trans Nat.zero_lt_one one_lim, Nf.nil _, rfl⟩, hbw⟩
          · have ht0' : ((tn : Int) == 0) = false := by simp; omega
            have HA0 : Hid (0 < ta) := by rw [AT.out.2.2]; exact form_pos AT.out.1.dig HFB.out AT.out.1.len ht0
            have hbp : 1 ≤ bb := by rw [HBB.out.1]; exact bits_pos HA0.out
            by_cases hb : b ≤ 524288
            · have hb1 : decide ((b : Int) ≤ 524288) = true := decide_eq_true (by omega)
              have hb2 : decide (b ≤ 524288) = true := decide_eq_true hb
              go_wp2_with fail
              refine (from_any AT.out.1 hn17).mono ?_
              rintro e v1 ⟨g1, zs, rfl, hg1, hblk, hnf, hzl, hb1x⟩
              have A1 : Hid (At32 v1 (some ⟨g1, 0, none⟩) zs.length zs.length zs ∧ Nf B32 zs ta ∧ zs.length ≤ 2 * tn) := ⟨hblk.at_ hnf.dig rfl (by unfold maxLen; omega), by rw [AT.out.2.2]; exact hnf, hzl⟩
              clear hblk hnf hzl hg1
              replace hbw := Below.on hbw hb1x
              clear hb1x
              go_wp2_with fail
              refine (rbits_any A1.out.1 A1.out.2.1 (by have := A1.out.2.2; omega)).mono ?_
              rintro e w' ⟨rfl, hw⟩
              obtain rfl := hw.symm
              clear hw
              rw [← HBB.out.1]
              have wx : wrap64 ((bb : Int) - 1) = ((bb - 1 : Nat) : Int) := by have := HBB.out.2; simp only [wrap64]; omega
              have wy : wrap64 ((b : Int) + ((bb - 1 : Nat) : Int)) = ((b + (bb - 1) : Nat) : Int) := by have := HBB.out.2; simp only [wrap64]; omega
              have HB5 : Hid (b ≤ 524288) := hb
              clear hb1 hb2
              go_wp2_with fail
              go_roundg gg
              case measure => omega
              case rel =>
                have h1 := HST.out HA0.out
                have h2 := HBS.out.1
                have h3 := HB5.out
                have h4 := HBB.out.2
                refine ⟨k + 1, b + (bb - 1), by omega, by go_num, by rw [wy], h2.add h3 h4 h1.2, h1.1, hbw⟩
            · have hb1 : decide ((b : Int) ≤ 524288) = false := decide_eq_false (by omega)
              have hb2 : decide (b ≤ 524288) = false := decide_eq_false hb
              have HB5 : Hid (¬ b ≤ 524288) := hb
              go_wp2_with fail
              go_roundg gg
              case measure => omega
              case rel =>
                have h1 := HST.out HA0.out
                have h2 := HBS.out.1
                have h3 := HB5.out
                refine ⟨k + 1, b, by omega, by go_num, rfl, h2.skip h3 h1.2, h1.1, hbw⟩
        | zero =>
          obtain rfl : N = k := by omega
          have hnk : ¬ (N : Int) < (N : Int) := by omega
          have HP : Hid (∀ t ∈ its, 0 < t.a) := by have h := HBS.out.2; rw [List.take_of_length_le (by rw [HLN.out]; exact Nat.le_refl _)] at h; exact h
          have HS : Hid (BS its N b) := HBS.out.1
          clear HBS
          go_wp2_with fail
          clear hnk hkg
          refine (least_any b (by omega) _).mono ?_
          rintro e w' ⟨rfl, hw⟩
          obtain rfl := hw.symm
          clear hw
          by_cases hb : b ≤ 524288
          · obtain ⟨L, hL⟩ : ∃ L, L = (b + 63) / 64 := ⟨_, rfl⟩
            rw [← hL]
            have hl1 : decide ((8192 : Int) < (L : Int)) = false := decide_eq_false (by omega)
            have hl2 : decide (8192 < L) = false := decide_eq_false (by omega)
            have HS2 : Hid (bsum its ≤ 524288) := by have h := HS.out; unfold BS at h; rw [List.take_of_length_le (by rw [HLN.out]; exact Nat.le_refl _)] at h; show bsum its ≤ 524288; omega
            clear hL HS hb hb9
            go_wp2_with fail
            clear hl1 hl2
            refine (rword 1 (by decide) _).mono ?_
            rintro e v1 ⟨g1, zs, rfl, hzl, hA, hN, hb1⟩
            have A1 : Hid (At32 v1 (some ⟨g1, 0, none⟩) zs.length zs.length zs ∧ Nf B32 zs 1 ∧ zs.length ≤ 40000) := ⟨hA, hN, by omega⟩
            clear hA hN hzl
            replace hbw := Below.on hbw hb1
            clear hb1
            go_wp2_with fail
            have hbw1 := hbw
            clear hbw
            go_loopg [7, 8] N (fun gk pv iv wr => ∃ (k : Nat) (p : Option Addr) (m : Nat) (zs : List Nat), k + gk = N ∧ iv = .int .i64 k ∧ pv = .slice p m m ∧ At32 wr p m m zs ∧ Nf B32 zs (prodI (its.take k)) ∧ m ≤ 40000 ∧ Below w.heap.size w wr)
            case atStart => exact ⟨0, _, _, zs, by omega, rfl, rfl, A1.out.1, A1.out.2.1, A1.out.2.2, hbw1⟩
            case round =>
              obtain ⟨k, p, m, zs, hkg, rfl, rfl, hA, hN, hm, hbw⟩ := hrel
              clear A1 hbw1
              have AP : Hid (At32 wr p m m zs) := hA
              have HN : Hid (Nf B32 zs (prodI (its.take k)) ∧ m ≤ 40000) := ⟨hN, hm⟩
              clear hA hN hm
              cases gk with
              | succ gg =>
                have hk : k < its.length := by rw [HLN.out]; omega
                obtain ⟨gs, off, rfl, hc⟩ := H.out.cells.resolve_left (by omega)
                have hcx := (hbw.cell (p := ⟨gs, off + k, none⟩) (World.block_lt_of_cell? w _ (hc k hk))).trans (hc k hk)
                have hAt := H.out.ats its[k] (List.getElem_mem hk)
                have AT : Hid (At wr its[k].p its[k].n its[k].c its[k].xs ∧ its[k].n ≤ 17592186044416 ∧ its[k].a = valB B64 its[k].xs) := ⟨hAt.1.below hbw, hAt.2⟩
                have HPS : Hid (prodI (its.take (k + 1)) = prodI (its.take k) * its[k].a) := by show _ = _; rw [take_succ_it its k hk, prodI_append]; simp [prodI]
                have HPL : Hid (prodI (its.take (k + 1)) ≤ 2 ^ (2 * bsum its)) := prod_take (k + 1) HP.out
                have HT8 : Hid (its[k].n ≤ 8192) := by have h := ((formB_iff _).1 (HBD.out its[k] (List.getElem_mem hk))).1; have h2 := (H.out.ats its[k] (List.getElem_mem hk)).1.len; show _ ≤ _; omega
                have hkk : (k : Int) < (N : Int) := by omega
                have hk0 : (0 : Int) ≤ (k : Int) ∧ (k : Int) < (N : Int) := by omega
                have hn17 := hAt.2.1
                clear hc hAt
                generalize its[k].p = tp at *
                generalize its[k].n = tn at *
                generalize its[k].c = tc at *
                generalize its[k].xs = txs at *
                generalize its[k].a = ta at *
                go_wp2_with fail
                refine (from_any AT.out.1 hn17).mono ?_
                rintro e v1 ⟨g1, ds, rfl, hg1, hblk, hnf, hzl, hb1⟩
                have A1 : Hid (At32 v1 (some ⟨g1, 0, none⟩) ds.length ds.length ds) := hblk.at_ hnf.dig rfl (by unfold maxLen; omega)
                have N1 : Hid (Nf B32 ds ta ∧ ds.length ≤ 2 * tn) := ⟨by rw [AT.out.2.2]; exact hnf, hzl⟩
                clear hblk hnf hzl hg1
                replace AP : Hid _ := AP.out.below hb1
                replace hbw := Below.on hbw hb1
                clear hb1
                go_wp2_with fail
                refine (rword 1 (by decide) _).mono ?_
                rintro e v2 ⟨g2, os, rfl, hzl, hA, hN, hb2⟩
                have A2 : Hid (At32 v2 (some ⟨g2, 0, none⟩) os.length os.length os) := hA
                have N2 : Hid (Nf B32 os 1) := hN
                clear hA hN hzl
                replace AP : Hid _ := AP.out.below hb2
                replace A1 : Hid _ := A1.out.below hb2
                replace hbw := Below.on hbw hb2
                clear hb2
                go_wp2_with fail
                refine (rcmp_any A1.out A2.out N1.out.1 N2.out).mono ?_
                rintro e v3 ⟨rfl, r3, hw3⟩
                have hb3 : Below v2.heap.size v2 v3 := by rw [hw3]; exact bDrewN (Below.refl _ _) r3
                clear hw3
                replace AP : Hid _ := AP.out.below hb3
                replace A1 : Hid _ := A1.out.below hb3
                replace A2 : Hid _ := A2.out.below hb3
                replace hbw := Below.on hbw hb3
                clear hb3
                by_cases hc1 : ta = 1
                · have hcc : cmpN ta 1 = 0 := by rw [hc1]; rfl
                  rw [hcc]
                  have HPE : Hid (prodI (its.take (k + 1)) = prodI (its.take k)) := by show _ = _; rw [HPS.out, hc1, Nat.mul_one]
                  clear hc1 hcc
                  go_wp2_with fail
                  go_roundg gg
                  case measure => omega
                  case rel => exact ⟨k + 1, p, m, zs, by omega, by go_num, rfl, AP.out, by rw [HPE.out]; exact HN.out.1, HN.out.2, hbw⟩
                · obtain ⟨cc, hcc⟩ : ∃ x, x = cmpN ta 1 := ⟨_, rfl⟩
                  have hne : (cc != 0) = true := by rw [hcc]; unfold cmpN; split <;> first | decide | (split <;> first | decide | omega)
                  rw [← hcc]
                  clear hcc hc1
                  go_wp2_with fail
                  refine (rmul_any AP.out A1.out HN.out.1 N1.out.1 (by have := HN.out.2; omega) (by have := N1.out.2; have := HT8.out; omega)).mono ?_
                  rintro e v4 ⟨p4, m4, us, rfl, hA, hN, hml, hb4⟩
                  rw [← HPS.out] at hN
                  have HM4 : Hid (At32 v4 p4 m4 m4 us ∧ Nf B32 us (prodI (its.take (k + 1))) ∧ m4 ≤ 40000) := ⟨hA, hN, by rw [← hA.len]; exact prod_len hN HPL.out HS2.out⟩
                  clear hA hN hml
                  replace AP : Hid _ := AP.out.below hb4
                  replace A1 : Hid _ := A1.out.below hb4
                  replace A2 : Hid _ := A2.out.below hb4
                  replace hbw := Below.on hbw hb4
                  clear hb4
                  go_wp2_with fail
                  go_roundg gg
                  case measure => omega
                  case rel => exact ⟨k + 1, p4, m4, us, by omega, by go_num, rfl, HM4.out.1, HM4.out.2.1, HM4.out.2.2, hbw⟩
              | zero =>
                obtain rfl : N = k := by omega
                have hnk : ¬ (N : Int) < (N : Int) := by omega
                have HN2 : Hid (Nf B32 zs (prodI its)) := by have h := HN.out.1; rw [List.take_of_length_le (by rw [HLN.out]; exact Nat.le_refl _)] at h; exact h
                go_wp2_with fail
                clear hnk hkg
                refine (rtoldN AP.out HN2.out (by have := HN.out.2; omega)).mono ?_
                rintro e v5 ⟨q5, k5, N5, us, f5, rfl, hA, hD, hb5⟩
                have HF : Hid (NewA w.heap.size v5 q5 k5 N5 us ∧ DocIs (prodI its) us f5) := ⟨NewA.mono hA (by first | exact hbw.size | exact hbw'.size | exact hbw1.size | exact hbw2.size | exact hbw3.size | exact hbw4.size | exact hbw5.size | exact hbw6.size | exact hbw7.size | exact hbw8.size | exact hbw9.size | exact hb1.size | exact hb2.size | exact hb3.size | exact hb4.size | exact hb5.size | exact hb6.size | exact hb7.size | exact hb8.size | exact hb9.size | exact hbwq.size | exact hbwf.size | exact hbwf2.size | exact HB1.out.size | exact HB2.out.size | exact HB3.out.size | exact HB4.out.size | exact HB5.out.size | exact HB6.out.size | exact HB7.out.size | exact HB8.out.size | exact Nat.le_refl _), hD⟩
                clear hA hD
                replace hbw := Below.on hbw hb5
                clear hb5
                go_wp2_with fail
                go_ret2
                exact ⟨q5, k5, N5, us, f5, rfl, HF.out.1, HF.out.2, hbw⟩
          · obtain ⟨L, hL⟩ : ∃ L, L = (b + 63) / 64 := ⟨_, rfl⟩
            rw [← hL]
            have hl1 : decide ((8192 : Int) < (L : Int)) = true := decide_eq_true (by omega)
            have hl2 : decide (8192 < L) = true := decide_eq_true (by omega)
            have HS2 : Hid (LIM ≤ prodI its) := by have h := HS.out; unfold BS at h; rw [List.take_of_length_le (by rw [HLN.out]; exact Nat.le_refl _)] at h; exact lim_bsum HP.out (by omega)
            clear hL HS hb hb9
            go_wp2_with fail
            go_ret2
            exact ⟨none, 0, 0, [], 5, rfl, NewA.empty _ _, .inr ⟨HS2.out, rfl, rfl⟩, hbw⟩
theorem docprodN {P : Option Addr} {N C : Nat} {its : List It} {w : World} (h : LsA w P N C its) :
    Calls Try.prog 24 #[.slice P N C] w fun en w' => ∃ q k M us f, en = .returned (.tuple #[.slice q k M, .int .i64 f]) ∧ NewA w.heap.size w' q k M us ∧ PrIs its us f ∧ Below w.heap.size w w' := by
  by_cases hf : ∀ t ∈ its, formB t.xs = true
  · refine (docprodgN h hf).mono ?_
    rintro e w' ⟨q, k, M, us, f, rfl, hA, hD, hb⟩
    exact ⟨q, k, M, us, f, rfl, hA, .inr ⟨hf, hD⟩, hb⟩
  · refine (docprod_bad h (bad_ex hf)).mono ?_
    rintro e w' ⟨rfl, hb⟩
    exact ⟨none, 0, 0, [], 2, rfl, NewA.empty _ _, .inl ⟨bad_ex hf, rfl, rfl⟩, hb⟩
end Go.Proofs.Ytilceolgfahhoaa
namespace Go.Proofs.Ytilceolgfahhoaa
open Go.RowKit
set_option maxRecDepth 20000
set_option maxHeartbeats 0
variable {P : Program} {md : Region.Mode} {ops : Array Oper} {Q : Exit → Act → World → Prop} {J : World → Prop}

def wpJ (P : Program) (md : Region.Mode) (ops : Array Oper) (Q : Exit → Act → World → Prop) (J : World → Prop) : Nat → Array Bool → Act → World → Prop
  | 0, listed, a, w => Region.ready md ops listed = [] ∧ Q .normal a w
  | fuel + 1, listed, a, w =>
    (Region.ready md ops listed = [] → Q .normal a w) ∧
    ∀ i ∈ Region.ready md ops listed, wpOp P ops Q i (fun a' w' => J w' ∧ wpJ P md ops Q J fuel (listed.setIfInBounds i true) a' w') a w
theorem wpJ_any : ∀ (fuel : Nat) (listed : Array Bool) (a : Act) (w : World), wpJ P md ops Q J fuel listed a w → wpAny P md ops Q fuel listed a w
  | 0, _, _, _, h => h
  | fuel + 1, _, _, _, h => ⟨h.1, fun i hi => wpOp_mono (fun a' w' h' => wpJ_any fuel _ a' w' h'.2) (h.2 i hi)⟩

def YieldsJ (P : Program) (ops : Array Oper) (J : World → Prop) (o : Oper) (v : Value) (a : Act) : Prop :=
  (Region.wanted o (yielded ops a.tmps) = true ∧ ∀ w, J w → (execOp a.eval o).run P w = .ok (.value v) w) ∨ (Region.wanted o (yielded ops a.tmps) = false ∧ v = undef)
theorem YieldsJ.wpOp {i : Nat} {o : Oper} {v : Value} {a : Act} (hi : ops[i]? = some o) (hy : YieldsJ P ops J o v a)
    {K : Act → World → Prop} {w : World} (hJ : J w) (h : K (a.put o.dst v) w) : wpOp P ops Q i K a w := by
  unfold Go.wpOp
  simp only [hi]
  rcases hy with ⟨hw, hv⟩ | ⟨hw, rfl⟩
  · simp only [hw, if_true, Oper.wp, hv w hJ, Oper.upon]
    exact .inl h
  · simp only [hw]
    exact h
theorem YieldsJ.of_same {o : Oper} {v : Value} {a a' : Act} (hy : YieldsJ P ops J o v a) (he : execOp a'.eval o = execOp a.eval o)
    (hw : Region.wanted o (yielded ops a'.tmps) = Region.wanted o (yielded ops a.tmps)) : YieldsJ P ops J o v a' := by
  unfold YieldsJ at *
  rw [he, hw]
  exact hy
theorem wpOpJ_put {j : Nat} {oi oj : Oper} {v : Value} (hj : ops[j]? = some oj) (hap : oi.apart ops oj = true)
    (hsi : ∀ cs b, oi.op ≠ .select cs b) (hsj : ∀ cs b, oj.op ≠ .select cs b)
    (hQ : ∀ c a w, Q (.panic c) (a.put oi.dst v) w → Q (.panic c) a w) {K : Act → World → Prop} {a : Act} {w : World}
    (hy : YieldsJ P ops J oi v a) (h : wpOp P ops Q j K (a.put oi.dst v) w) :
    wpOp P ops Q j (fun a' w' => YieldsJ P ops J oi v a' ∧ K (a'.put oi.dst v) w') a w := by
  obtain ⟨h1, h2, h3⟩ := Oper.apart_spec hap
  have keep : ∀ (a : Act), YieldsJ P ops J oi v a → ∀ u, YieldsJ P ops J oi v (a.put oj.dst u) := fun a hy u =>
    hy.of_same (execOp_put oi hsi a oj.dst u h3) (wanted_put oi a oj.dst u h3)
  have keepD : ∀ d, YieldsJ P ops J oi v { a with defers := d :: a.defers } := fun d => hy.of_same rfl rfl
  unfold wpOp at *
  simp only [hj] at *
  rw [wanted_put oj a oi.dst v h1] at h
  split
  · rename_i hw
    simp only [hw, if_true] at h
    rcases h with h | ⟨hasks, hlets⟩
    case inr => exact .inr ⟨by unfold Oper.asks at *; rw [execOp_put oj hsj a oi.dst v h1] at hasks; exact hasks, hlets⟩
    refine .inl ?_
    unfold Oper.wp at *
    rw [execOp_put oj hsj a oi.dst v h1] at h
    generalize (execOp a.eval oj).run P w = r at *
    cases r with
    | ok n w' =>
      cases n <;> simp only [Oper.upon] at h ⊢
      case value u => exact ⟨keep a hy u, by rw [← Act.put_comm a v u h2]; exact h⟩
      case skip => exact ⟨keep a hy _, by rw [← Act.put_comm a v undef h2]; exact h⟩
      case defer d =>
        refine ⟨keep _ (keepD d) _, ?_⟩
        rw [← Act.put_comm _ v undef h2, ← Act.put_defers]
        exact h
      case enter f args =>
        refine Calls.mono h fun e w'' he => ?_
        cases e with
        | returned u => exact ⟨keep a hy u, by rw [← Act.put_comm a v u h2]; exact he⟩
        | panicked c => exact hQ _ _ _ he
        | outgrown => exact he
      case row row args => exact Rows.mono h fun u w'' he => ⟨keep a hy u, by rw [← Act.put_comm a v u h2]; exact he⟩
    | halt x w' =>
      cases x <;> simp only [Oper.upon] at h ⊢
      case panic u => exact hQ _ _ _ h
  · rename_i hw
    simp only [hw] at h
    exact ⟨keep a hy _, by rw [← Act.put_comm a v undef h2]; exact h⟩

theorem wpJ_first {i : Nat} {oi : Oper} {v : Value} (hi : ops[i]? = some oi) (hsel : ∀ (j : Nat) (o : Oper) cs b, ops[j]? = some o → o.op ≠ .select cs b)
    (hQ : ∀ c a w, Q (.panic c) (a.put oi.dst v) w → Q (.panic c) a w) :
    ∀ (fuel : Nat) (listed : Array Bool) (a : Act) (w : World),
      (∀ j oj, ops[j]? = some oj → j ≠ i → listed.getD j true = false → (∀ e ∈ oj.after, Region.binds md e = true → e.on ≠ i) → oi.apart ops oj = true) →
      i ∈ Region.ready md ops listed → YieldsJ P ops J oi v a → J w →
      wpJ P md ops Q J fuel (listed.setIfInBounds i true) (a.put oi.dst v) w → wpJ P md ops Q J (fuel + 1) listed a w := by
  intro fuel
  induction fuel with
  | zero =>
    intro listed a w _ hr hy hJ H
    refine ⟨fun h => (by rw [h] at hr; cases hr), fun j hj => ?_⟩
    by_cases hji : j = i
    · subst hji; exact hy.wpOp hi hJ ⟨hJ, H⟩
    · have := ready_mono hj hji
      rw [H.1] at this
      cases this
  | succ fuel ih =>
    intro listed a w hfree hr hy hJ H
    refine ⟨fun h => (by rw [h] at hr; cases hr), fun j hj => ?_⟩
    by_cases hji : j = i
    · subst hji; exact hy.wpOp hi hJ ⟨hJ, H⟩
    · have h1 := H.2 j (ready_mono hj hji)
      obtain ⟨hjun, oj, hoj, hall⟩ := mem_ready.1 hj
      have hnot : ∀ e ∈ oj.after, Region.binds md e = true → e.on ≠ i := fun e he hb heq => by
        have h1 := hall e he hb
        have h0 := (mem_ready.1 hr).1
        rw [heq] at h1
        rcases Nat.lt_or_ge i listed.size with h' | h'
        · simp [h'] at h0 h1; rw [h0] at h1; cases h1
        · simp [Array.getElem?_eq_none h'] at h1
      have h2 := wpOpJ_put hoj (hfree j oj hoj hji hjun hnot) (fun cs b => hsel i oi cs b hi) (fun cs b => hsel j oj cs b hoj) hQ hy h1
      have hfree' : ∀ k ok, ops[k]? = some ok → k ≠ i → (listed.setIfInBounds j true).getD k true = false →
          (∀ e ∈ ok.after, Region.binds md e = true → e.on ≠ i) → oi.apart ops ok = true := fun k ok hk hki hun hno => by
        refine hfree k ok hk hki ?_ hno
        by_cases hjk : j = k
        · subst hjk; exact hjun
        · rw [getD_set_ne true hjk] at hun; exact hun
      refine wpOp_mono (fun a' w' h3 => ⟨h3.2.1, ih (listed.setIfInBounds j true) a' w' hfree' (ready_mono hr (Ne.symm hji)) h3.1 h3.2.1 ?_⟩) h2
      rw [Array.setIfInBounds_comm _ _ hji]
      exact h3.2.2

theorem wpJ_take {i : Nat} {oi : Oper} {v : Value} {fuel : Nat} {listed : Array Bool} {a : Act} {w : World} (hi : ops[i]? = some oi)
    (hs : Region.noSelect ops = true) (hf : Region.free md ops listed i = true) (hr : (Region.ready md ops listed).contains i = true)
    (hQ : ∀ c a w, Q (.panic c) (a.put oi.dst v) w → Q (.panic c) a w) (hw : Region.wanted oi (yielded ops a.tmps) = true)
    (hy : ∀ w, J w → (execOp a.eval oi).run P w = .ok (.value v) w) (hJ : J w)
    (h : wpJ P md ops Q J fuel (listed.setIfInBounds i true) (a.put oi.dst v) w) : wpJ P md ops Q J (fuel + 1) listed a w :=
  wpJ_first hi (Region.noSelect_spec hs) hQ fuel listed a w (Region.free_spec hi hf) (by simpa using hr) (.inl ⟨hw, hy⟩) hJ h
theorem wpJ_tk (i : Nat) {oi : Oper} {v : Value} {fuel : Nat} {listed : Array Bool} {a : Act} {w : World} (hi : ops[i]? = some oi)
    (hy : ∀ w, J w → (execOp a.eval oi).run P w = .ok (.value v) w) (hJ : J w)
    (h : wpJ P md ops Q J fuel (listed.setIfInBounds i true) (a.put oi.dst v) w) (hs : Region.noSelect ops = true := by kernel_rfl) (hf : Region.free md ops listed i = true := by kernel_rfl)
    (hr : (Region.ready md ops listed).contains i = true := by kernel_rfl) (hQ : ∀ c a w, Q (.panic c) (a.put oi.dst v) w → Q (.panic c) a w := by exact fun _ _ _ h => h)
    (hw : Region.wanted oi (yielded ops a.tmps) = true := by kernel_rfl) : wpJ P md ops Q J (fuel + 1) listed a w := wpJ_take hi hs hf hr hQ hw hy hJ h
theorem wpJ_tq (i : Nat) {oi : Oper} {v : Value} {fuel : Nat} {listed : Array Bool} {a : Act} {w : World} (hi : ops[i]? = some oi) (hJ : J w)
    (h : wpJ P md ops Q J fuel (listed.setIfInBounds i true) (a.put oi.dst v) w)
    (hy : ∀ w, J w → (execOp a.eval oi).run P w = .ok (.value v) w := by (intro W' hJ; repeat (obtain ⟨_, hJ⟩ := hJ); go_simp; first | done | with_reducible rfl)) (hs : Region.noSelect ops = true := by kernel_rfl) (hf : Region.free md ops listed i = true := by kernel_rfl)
    (hr : (Region.ready md ops listed).contains i = true := by kernel_rfl) (hQ : ∀ c a w, Q (.panic c) (a.put oi.dst v) w → Q (.panic c) a w := by exact fun _ _ _ h => h)
    (hw : Region.wanted oi (yielded ops a.tmps) = true := by kernel_rfl) : wpJ P md ops Q J (fuel + 1) listed a w := wpJ_take hi hs hf hr hQ hw hy hJ h
theorem wpJ_skip {i : Nat} {oi : Oper} {fuel : Nat} {listed : Array Bool} {a : Act} {w : World} (hi : ops[i]? = some oi)
    (hs : Region.noSelect ops = true) (hf : Region.free md ops listed i = true) (hr : (Region.ready md ops listed).contains i = true)
    (hQ : ∀ c a w, Q (.panic c) (a.put oi.dst undef) w → Q (.panic c) a w) (hw : Region.wanted oi (yielded ops a.tmps) = false) (hJ : J w)
    (h : wpJ P md ops Q J fuel (listed.setIfInBounds i true) (a.put oi.dst undef) w) : wpJ P md ops Q J (fuel + 1) listed a w :=
  wpJ_first hi (Region.noSelect_spec hs) hQ fuel listed a w (Region.free_spec hi hf) (by simpa using hr) (.inr ⟨hw, rfl⟩) hJ h
theorem wpJ_sk (i : Nat) {oi : Oper} {fuel : Nat} {listed : Array Bool} {a : Act} {w : World} (hi : ops[i]? = some oi) (hJ : J w) (h : wpJ P md ops Q J fuel (listed.setIfInBounds i true) (a.put oi.dst undef) w)
    (hs : Region.noSelect ops = true := by kernel_rfl) (hf : Region.free md ops listed i = true := by kernel_rfl) (hr : (Region.ready md ops listed).contains i = true := by kernel_rfl)
    (hQ : ∀ c a w, Q (.panic c) (a.put oi.dst undef) w → Q (.panic c) a w := by exact fun _ _ _ h => h) (hw : Region.wanted oi (yielded ops a.tmps) = false := by kernel_rfl) : wpJ P md ops Q J (fuel + 1) listed a w := wpJ_skip hi hs hf hr hQ hw hJ h
theorem wpJ_one {i : Nat} {o : Oper} {fuel : Nat} {listed : Array Bool} {a : Act} {w : World} (hr : Region.ready md ops listed = [i]) (ho : ops[i]? = some o)
    (hw : Region.wanted o (yielded ops a.tmps) = true)
    (h : ∀ K : Act → World → Prop, (∀ a' w', J w' → wpJ P md ops Q J fuel (listed.setIfInBounds i true) a' w' → K a' w') → Oper.wp P o a w K Q) : wpJ P md ops Q J (fuel + 1) listed a w := by
  refine ⟨fun h => (by rw [hr] at h; cases h), fun j hj => ?_⟩
  rw [hr] at hj
  obtain rfl : j = i := by simpa using hj
  unfold wpOp
  simp only [ho, hw, if_true]
  exact .inl (h _ fun a' w' h1 h2 => ⟨h1, h2⟩)
theorem wpJ_on (i : Nat) {o : Oper} {fuel : Nat} {listed : Array Bool} {a : Act} {w : World} (ho : ops[i]? = some o)
    (h : ∀ K : Act → World → Prop, (∀ a' w', J w' → wpJ P md ops Q J fuel (listed.setIfInBounds i true) a' w' → K a' w') → Oper.wp P o a w K Q) (hr : Region.ready md ops listed = [i] := by kernel_rfl)
    (hw : Region.wanted o (yielded ops a.tmps) = true := by kernel_rfl) : wpJ P md ops Q J (fuel + 1) listed a w := wpJ_one hr ho hw h
theorem wpJ_done {listed : Array Bool} {a : Act} {w : World} (hr : Region.ready md ops listed = []) (h : Q .normal a w) : ∀ fuel, wpJ P md ops Q J fuel listed a w
  | 0 => ⟨hr, h⟩
  | _ + 1 => ⟨fun _ => h, by rw [hr]; simp⟩
theorem wp_region_J (J : World → Prop) {id : Nat} {a : Act} {w : World} (hm : P.follows .mixedOrders = true)
    (h : wpJ P .any ops Q J ops.size (Array.replicate ops.size false) a w.drew) : (Code.region id ops true).wp P Q a w :=
  wp_region_any hm (wpJ_any _ _ _ _ h)
variable {P : Program} {md : Region.Mode} {ops : Array Oper} {Q : Exit → Act → World → Prop} {J : World → Prop} {L : Nat}

def ClosedL (md : Region.Mode) (ops : Array Oper) (listed : Array Bool) : Prop :=
  ∀ (k : Nat) (o : Oper), ops[k]? = some o → listed.getD k false = true → ∀ e ∈ o.after, Region.binds md e = true → listed.getD e.on false = true
theorem ClosedL.step {listed : Array Bool} (h : ClosedL md ops listed) {j : Nat} (hj : j ∈ Region.ready md ops listed) : ClosedL md ops (listed.setIfInBounds j true) := by
  intro k o ho hk e he hb
  obtain ⟨h0, oj, hoj, hall⟩ := mem_ready.1 hj
  by_cases hjk : j = k
  · subst hjk
    rw [hoj] at ho
    obtain rfl := Option.some.inj ho
    exact getD_set_true (hall e he hb)
  · rw [getD_set_ne false hjk] at hk
    exact getD_set_true (h k o ho hk e he hb)
end Go.Proofs.Ytilceolgfahhoaa
namespace Go.Proofs.Ytilceolgfahhoaa
open Go.RowKit Go.Shelf
set_option maxRecDepth 20000
set_option maxHeartbeats 0
def iv (s : Bool) (a : Nat) : Int := if s then -(a : Int) else (a : Int)
abbrev ZV (s : Bool) (p : Option Addr) (n c : Nat) : Value := .agg #[.bool s, .slice p n c]
def AnsI (B : Nat) (w' : World) (e : Ending) (z : Int) : Prop :=
  (z.natAbs < LIM ∧ ∃ p m zs, e = .returned (.tuple #[ZV (decide (z < 0)) p m m, .int .i64 0]) ∧ Own B w' p m zs ∧ Nf B64 zs z.natAbs ∧ m ≤ 8192) ∨
  (LIM ≤ z.natAbs ∧ e = .returned (.tuple #[ZV false none 0 0, .int .i64 5]))
theorem AnsI.ok {B : Nat} {w' : World} {e : Ending} {z : Int} (h : AnsI B w' e z) (hz : z.natAbs < LIM) : ∃ p m zs, e = .returned (.tuple #[ZV (decide (z < 0)) p m m, .int .i64 0]) ∧ Own B w' p m zs ∧ Nf B64 zs z.natAbs ∧ m ≤ 8192 := by
  rcases h with ⟨_, h⟩ | ⟨h, _⟩
  · exact h
  · omega
theorem AnsI.no {B : Nat} {w' : World} {e : Ending} {z : Int} (h : AnsI B w' e z) (hz : LIM ≤ z.natAbs) : e = .returned (.tuple #[ZV false none 0 0, .int .i64 5]) := by
  rcases h with ⟨h, _⟩ | ⟨_, h⟩
  · omega
  · exact h
theorem Num.zero {w : World} {p : Option Addr} {m c : Nat} {xs : List Nat} {a : Nat} (h : Num w p m c xs a) : m = 0 ↔ a = 0 := by
  rw [← h.nf.zero_iff B64_one, ← h.at_.len]
  exact ⟨List.eq_nil_of_length_eq_zero, fun e => by rw [e]; rfl⟩

theorem bSet {B : Nat} {a w : World} (h : Below B a w) (g o : Nat) (v : Value) (hB : B ≤ g) : Below B a (w.setCell ⟨g, o, none⟩ v) :=
  h.trans ((Wr.refl g o 1 w).setCell o ⟨by omega, by omega⟩ v |>.below hB)
theorem below3 (w : World) (o1 o2 o3 : Obj) : Below w.heap.size w (((w.alloc o1).alloc o2).alloc o3) := (below2 w o1 o2).alloc (by simp; omega) o3
theorem bDrew1 {B : Nat} {a w : World} (h : Below B a w) : Below B a w.drew := ⟨h.os, h.tape, h.output, h.size, h.block⟩
structure Box (W : World) (g : Nat) (v0 v1 : Value) : Prop where
  c0 : W.cell? ⟨g, 0, none⟩ = some v0
  c1 : W.cell? ⟨g, 1, none⟩ = some v1
  f0 : W.frozen? ⟨g, 0, none⟩ = false
  f1 : W.frozen? ⟨g, 1, none⟩ = false
theorem Box.below {W W' : World} {g : Nat} {v0 v1 : Value} (h : Box W g v0 v1) (hb : Below W.heap.size W W') : Box W' g v0 v1 := by
  have hl : g < W.heap.size := World.block_lt_of_cell? W _ h.c0
  exact ⟨(hb.cell (p := ⟨g, 0, none⟩) hl).trans h.c0, (hb.cell (p := ⟨g, 1, none⟩) hl).trans h.c1, (hb.frozen (p := ⟨g, 0, none⟩) hl).trans h.f0, (hb.frozen (p := ⟨g, 1, none⟩) hl).trans h.f1⟩
theorem Box.new (w : World) (ty : TypeId) (v0 v1 : Value) : Box (w.alloc (.cells #[v0, v1] ty)) w.heap.size v0 v1 := ⟨by go_simp, by go_simp, by go_simp, by go_simp⟩
def mkN (i j : Nat) : Nat := 11944390636716687360 + (i + 1) * 16777216 + j
theorem mkN_lt {i j : Nat} (hi : i ≤ 1000000) (hj : j < 1000000000000000000) : mkN i j < B64 := by unfold mkN; show _ < 18446744073709551616; omega
structure LQ (w : World) (B go off N : Nat) (p : Nat → Option Addr) (n b : Nat → Nat) (X : Nat → List Nat) : Prop where
  cells : ∀ i, i < N → w.cell? ⟨go, off + i, none⟩ = some (.slice (p i) (n i) (n i))
  addr : ∀ i, i < N → n i = 0 ∨ p i = some ⟨b i, 0, none⟩
  pn : ∀ i, i < N → p i = none → n i = 0
  row : ∀ i, i < N → Row w (b i) 0 (n i) (X i)
  ge : ∀ i, i < N → B ≤ b i
  le : ∀ i, i < N → n i ≤ 17592186044496
  ne : ∀ i, i < N → n i ≠ 0 → b i ≠ go
  dist : ∀ i j, i < N → j < N → i ≠ j → n i ≠ 0 → n j ≠ 0 → b i ≠ b j
theorem row_lt7 {w : World} {g off n : Nat} {xs : List Nat} (h : Row w g off n xs) (hn : n ≠ 0) : g < w.heap.size := World.block_lt_of_cell? w _ (h.cell 0 (by omega))
theorem row_none {w : World} {g off n : Nat} {xs : List Nat} (h : Row w g off n xs) (hn : n = 0) (w' : World) (g' : Nat) : Row w' g' 0 n xs := ⟨h.len, h.dig, fun j hj => by omega, fun j hj => by omega⟩
theorem Row.setNo {w : World} {g n : Nat} {xs : List Nat} (h : Row w g 0 n xs) (g2 o2 : Nat) (v : Value) (hne : g ≠ g2) : Row (w.setCell ⟨g2, o2, none⟩ v) g 0 n xs :=
  ⟨h.len, h.dig, fun j hj => (World.cell?_setCell_other _ _ _ _ (by intro e; exact hne (congrArg Addr.block e).symm)).trans (h.cell j hj), fun j hj => by rw [World.frozen?_setCell]; exact h.frozen j hj⟩
theorem LQ.set {w : World} {B go off N : Nat} {p : Nat → Option Addr} {n b : Nat → Nat} {X : Nat → List Nat} (h : LQ w B go off N p n b X) {i j y : Nat} (hi : i < N) (hj : j < n i) (hy : y < B64) :
    LQ (w.setCell ⟨b i, j, none⟩ (U y)) B go off N p n b (fun k => if k = i then (X i).set j y else X k) := by
  refine ⟨fun k hk => ?_, h.addr, h.pn, fun k hk => ?_, h.ge, h.le, h.ne, h.dist⟩
  · exact (World.cell?_setCell_other _ _ _ _ (by intro e; exact h.ne i hi (by omega) (congrArg Addr.block e))).trans (h.cells k hk)
  · by_cases e : k = i
    · subst e
      rw [if_pos rfl]
      have := (h.row k hk).set j y hj hy
      rw [Nat.zero_add] at this
      exact this
    · rw [if_neg e]
      by_cases h0 : n k = 0
      · exact row_none (h.row k hk) h0 _ _
      · exact (h.row k hk).setNo _ _ _ (h.dist k i hk hi e h0 (by omega))
theorem LQ.below {w w' : World} {B go off N : Nat} {p : Nat → Option Addr} {n b : Nat → Nat} {X : Nat → List Nat} (h : LQ w B go off N p n b X) (hb : Below w.heap.size w w') : LQ w' B go off N p n b X :=
  ⟨fun i hi => (hb.cell (p := ⟨go, off + i, none⟩) (World.block_lt_of_cell? w _ (h.cells i hi))).trans (h.cells i hi), h.addr, h.pn, fun i hi => by
    by_cases h0 : n i = 0
    · exact row_none (h.row i hi) h0 _ _
    · exact (h.row i hi).below hb (row_lt7 (h.row i hi) h0), h.ge, h.le, h.ne, h.dist⟩
def Mkd (n : Nat → Nat) (X : Nat → List Nat) (k : Nat) : Prop := ∀ m, m < n k → (X k).getD m 0 = mkN k m
theorem mkd_succ {n : Nat → Nat} {X : Nat → List Nat} {i : Nat} (h : ∀ k, k < i → Mkd n X k) (h2 : ∀ m, m < n i → (X i).getD m 0 = mkN i m) : ∀ k, k < i + 1 → Mkd n X k := by
  intro k hk
  rcases Nat.lt_or_ge k i with h1 | h1
  · exact h k h1
  · obtain rfl : k = i := by omega
    exact h2
theorem mark_ij (i j : Nat) (hi : i ≤ 1000000) (hj : j < 1000000000000000000) {w : World} :
    Calls Try.prog 26 #[.int .i64 i, .int .i64 j] w fun en w' => en = .returned (U (mkN i j)) ∧ w' = w := by
  have h0 : wrap64 ((i : Int) + 1) = (i : Int) + 1 := by simp only [wrap64]; omega
  have h1 : IntKind.u64.wrap (j : Int) = (j : Int) := by rw [IntKind.wrap_u64]; omega
  have h3 : IntKind.u64.wrap ((i : Int) + 1) = (i : Int) + 1 := by rw [IntKind.wrap_u64]; omega
  go_enter Try.func26, Try.ntmps26
  go_wp2_with fail
  go_ret
  exact ⟨rfl, rfl⟩
theorem wpList_append_full {P : Program} (w : World) {ops : Array Oper} {rest : List Oper} {o : Oper} {a : Act} {Q : Exit → Act → World → Prop}
    (hg : o.guard = none) (s x : Operand) (t : TypeId) (hop : o.op = Op.call { callee := Callee.builtin Builtin.append, args := #[s, x], argTypes := #[t, t] })
    (e : TypeId) (i : TypeInfo) (z : Value) (size bytes : Nat) (h1 : P.underlying t = some (.slice e)) (h2 : P.info? e = some i) (h3 : i.zero = some z) (h4 : i.size = size) (h5 : i.bytes = bytes) (h6 : z.cells.size = size) (h7 : 0 < size)
    (p : Option Addr) (n : Nat) (olds : List Value) (hs : a.eval s = .slice p n n) (hp0 : p = none → n = 0) (hlo : olds.length = n * size) (holds : ∀ b, p = some b → ∀ j u, olds[j]? = some u → w.cell? (b.add j) = some u)
    (ad : Addr) (m c : Nat) (news : List Value) (hx : a.eval x = .slice (some ad) m c) (hn : news.length = m * size) (hc : ∀ j u, news[j]? = some u → w.cell? (ad.add j) = some u) (h1c : ∀ u ∈ news, u.oneCell' = true)
    (hm : 0 < m) (b1 : n + m ≤ maxLen) (b2 : ((n + m) + (n + m) / 4 + 192) * bytes ≤ 281474976710656)
    (hgrow : ∀ v' w', w'.ownsRow w.heap.size e size v' (n + m) (olds ++ news) → w.grownBy w' none → wpList P ops Q rest (a.put o.dst v') w') :
    wpList P ops Q (o :: rest) a w := by
  refine wpList_plain hg fun K hK' => ?_
  have hrun : ∃ v' w', (Builtin.append_ #[t, t] o.type #[.slice p n n, .slice (some ad) m c]).run P w = .ok v' w' ∧ w'.ownsRow w.heap.size e size v' (n + m) (olds ++ news) ∧ w.grownBy w' none := by
    cases p with
    | none =>
      obtain rfl := hp0 rfl
      obtain rfl : olds = [] := List.eq_nil_of_length_eq_zero (by omega)
      obtain ⟨v', w', r1, r2, r3, _⟩ := run_append_own_wide (P := P) w w.heap.size t o.type e i z size bytes h1 h2 h3 h4 h5 h6 h7 (.slice none 0 0) 0 [] ⟨by simp, .inl ⟨rfl, rfl⟩⟩ ad m c news hn hc h1c b1 b2 (Nat.le_refl _)
      exact ⟨v', w', r1, r2, r3⟩
    | some b =>
      subst h4 h5
      have hf : n < n + m := by omega
      have hln : (olds ++ news).length = (n + m) * i.size := by rw [List.length_append, hlo, hn, Nat.add_mul]
      have hg1 := grownCap_ge w (n + m) n e
      have hg2 := grownCap_le_maxLen w (n + m) n e b1
      have hr := run_append_grow (P := P) w t o.type e i z h1 h2 h3 b n n olds hlo (holds b rfl) ad m c news hn hc hf (by unfold maxLen at b1; omega) (growslice_fits_wide hf b2)
      refine ⟨_, _, hr, ⟨hln, .inr ⟨w.heap.size, _, _, rfl, Nat.le_refl _, heap_alloc_new w.drew _, hg1, hg2, ?_, ?_⟩⟩, ⟨rfl, rfl, rfl, by simp, fun k hk _ => _root_.Go.heap_alloc_old w.drew _ hk⟩⟩
      · simp only [Array.size_append, List.size_toArray, size_zeroCells, h6, hlo, hn, ← Nat.add_mul]
        congr 1
        omega
      · rw [Array.toList_append, Array.toList_append, ← hln]
        exact List.take_left
  obtain ⟨v', w', r1, r2, r3⟩ := hrun
  unfold Oper.wp
  simp [execOp, hop, resolve, invoke, builtin, hs, hx, r1, Result.andThen]
  exact hK' _ _ (hgrow v' w' r2 r3)
def mks (i m : Nat) : List Nat := (List.range m).map (mkN i)
theorem mks_len (i m : Nat) : (mks i m).length = m := by simp [mks]
theorem mks_succ (i m : Nat) : mks i (m + 1) = mks i m ++ [mkN i m] := by unfold mks; rw [List.range_succ, List.map_append]; rfl
theorem mks_get {i m j : Nat} (h : j < m) : (mks i m).getD j 0 = mkN i j := by
  unfold mks
  rw [List.getD_eq_getElem?_getD, List.getElem?_map, List.getElem?_range h]
  rfl
theorem mks_eq {xs : List Nat} {i m : Nat} (hl : xs.length = m) (h : ∀ j, j < m → xs.getD j 0 = mkN i j) : xs = mks i m := by
  refine List.ext_getElem (by rw [hl, mks_len]) fun j h1 h2 => ?_
  have e : xs.getD j 0 = (mks i m).getD j 0 := by rw [h j (by omega), mks_get (by omega)]
  rw [List.getD_eq_getElem?_getD, List.getD_eq_getElem?_getD, List.getElem?_eq_getElem h1, List.getElem?_eq_getElem h2] at e
  exact e
theorem mks_dig {i m : Nat} (hi : i ≤ 1000000) (hm : m < 1000000000000000000) : Dig B64 (mks i m) := by
  intro x hx
  obtain ⟨j, hj, rfl⟩ := List.mem_map.1 hx
  exact mkN_lt hi (Nat.lt_trans (List.mem_range.1 hj) hm)
theorem own_ob7 {w : World} {B k : Nat} {e : TypeId} {v : Value} {xs : List Value} (h : w.ownsRow B e 1 v k xs) {b : Nat} (hb : v.ownBlock = some b) : B ≤ b ∧ b < w.heap.size := by
  rcases h.2 with ⟨h2, _⟩ | ⟨g', cap, cur, h2, h3, h4, h5⟩
  · rw [h2] at hb; cases hb
  · rw [h2] at hb
    cases hb
    exact ⟨h3, (Array.getElem?_eq_some_iff.1 h4).1⟩
theorem ownAny7 {w w' : World} {B k : Nat} {e : TypeId} {v : Value} {xs : List Value} (h : w.ownsRow B e 1 v k xs) (hb : Below w.heap.size w w') : w'.ownsRow B e 1 v k xs := by
  refine ⟨h.1, ?_⟩
  rcases h.2 with h2 | ⟨g, cap, cur, h2, h3, h4, h5⟩
  · exact .inl h2
  · have hg : g < w.heap.size := by
      rcases Nat.lt_or_ge g w.heap.size with h6 | h6
      · exact h6
      · rw [Array.getElem?_eq_none h6] at h4; cases h4
    exact .inr ⟨g, cap, cur, h2, h3, (hb.block _ hg).trans h4, h5⟩
theorem own_mono {w : World} {B B' k : Nat} {e : TypeId} {v : Value} {xs : List Value} (h : w.ownsRow B e 1 v k xs) (hB : B' ≤ B) : w.ownsRow B' e 1 v k xs := by
  refine ⟨h.1, ?_⟩
  rcases h.2 with h2 | ⟨g, cap, cur, h2, h3, h4⟩
  · exact .inl h2
  · exact .inr ⟨g, cap, cur, h2, Nat.le_trans hB h3, h4⟩
theorem own_sl7 {w : World} {B k i : Nat} {v : Value} (h : w.ownsRow B 23 1 v (k + 1) (cellsU (mks i (k + 1)))) (hi : i ≤ 1000000) (hk : k + 1 < 1000000000000000000) :
    ∃ g cap, v = .slice (some ⟨g, 0, none⟩) (k + 1) cap ∧ B ≤ g ∧ g < w.heap.size ∧ At w (some ⟨g, 0, none⟩) (k + 1) cap (mks i (k + 1)) := by
  rcases h.2 with ⟨_, h2⟩ | ⟨g, cap, cur, h2, h3, h4, h5, h6, h7, h8⟩
  · omega
  · have hd := mks_dig hi hk
    refine ⟨g, cap, h2, h3, (Array.getElem?_eq_some_iff.1 h4).1, mks_len _ _, h5, h6, hd, .inr ⟨g, 0, rfl, fun jj hj => ?_⟩⟩
    rw [Nat.zero_add, cell_of_row w g jj _ _ _ h4]
    have e1 := cellsU_get (mks i (k + 1)) jj (by rw [mks_len]; exact hj)
    rw [← h8, Nat.mul_one, List.getElem?_take, if_pos hj] at e1
    rw [← Array.getElem?_toList]; exact e1
theorem full_cells {w w' : World} {B go off N i ni : Nat} {p : Nat → Option Addr} {n b : Nat → Nat} {X : Nat → List Nat} {pi : Option Addr} (h : LQ w B go off N p n b X) (hm : Mkd n X i) (hi : i < N) (e1 : ni = n i) (e2 : pi = p i) (hb : Below w.heap.size w w') :
    ∀ c, pi = some c → ∀ j u, (cellsU (mks i ni))[j]? = some u → w'.cell? (c.add j) = some u := by
  intro c hc j u hu
  have hr := h.row i hi
  have ex : X i = mks i (n i) := mks_eq hr.len hm
  have hj : j < n i := by
    rcases Nat.lt_or_ge j (n i) with h1 | h1
    · exact h1
    · rw [List.getElem?_eq_none (by rw [cellsU_length, mks_len, e1]; exact h1)] at hu; cases hu
  have hp := (h.addr i hi).resolve_left (by omega)
  rw [e2, hp] at hc
  cases hc
  have hcl := hr.cell j hj
  rw [Nat.zero_add] at hcl
  have hadd : (⟨b i, 0, none⟩ : Addr).add j = ⟨b i, j, none⟩ := by unfold Addr.add; split <;> simp_all
  rw [hadd, (hb.cell (p := ⟨b i, j, none⟩) (World.block_lt_of_cell? w _ hcl)).trans hcl, ex]
  rw [cellsU_get _ _ (by rw [mks_len, e1]; exact hj), e1] at hu
  exact hu
structure GQ (w : World) (fo : Option Nat) (N : Nat) (Gs : List It) : Prop where
  blk : ∀ q (h : q < Gs.length), ∃ b, Gs[q].p = some ⟨b, 0, none⟩ ∧ some b ≠ fo ∧ b < w.heap.size
  at_ : ∀ q (h : q < Gs.length), At w Gs[q].p Gs[q].n Gs[q].c Gs[q].xs
  mrk : ∀ q (h : q < Gs.length), ∀ m, m < Gs[q].n → Gs[q].xs.getD m 0 = mkN (q % N) m
  le : ∀ q (h : q < Gs.length), Gs[q].n ≤ 17592186044596
theorem GQ.below {w w' : World} {fo : Option Nat} {N : Nat} {Gs : List It} (h : GQ w fo N Gs) (hb : Below w.heap.size w w') : GQ w' fo N Gs :=
  ⟨fun q hq => by obtain ⟨b, h1, h2, h3⟩ := h.blk q hq; exact ⟨b, h1, h2, Nat.lt_of_lt_of_le h3 hb.size⟩, fun q hq => (h.at_ q hq).below hb, h.mrk, h.le⟩
theorem GQ.grow {w w' : World} {fo fo' : Option Nat} {N : Nat} {Gs : List It} (h : GQ w fo N Gs) (hg : w.grownBy w' fo) (hf : fo' = fo ∨ fo' = some w.heap.size) : GQ w' fo' N Gs := by
  refine ⟨fun q hq => ?_, fun q hq => ?_, h.mrk, h.le⟩
  · obtain ⟨b, h1, h2, h3⟩ := h.blk q hq
    refine ⟨b, h1, ?_, Nat.lt_of_lt_of_le h3 hg.size⟩
    rcases hf with e | e <;> rw [e]
    · exact h2
    · intro e2; have := Option.some.inj e2; omega
  · obtain ⟨b, h1, h2, h3⟩ := h.blk q hq
    have h4 := h.at_ q hq
    rw [h1] at h4 ⊢
    exact h4.grow hg h2
theorem GQ.snoc {w : World} {fo : Option Nat} {N : Nat} {Gs : List It} (h : GQ w fo N Gs) (t : It) {b : Nat} (h1 : t.p = some ⟨b, 0, none⟩) (h2 : some b ≠ fo) (h3 : b < w.heap.size) (h4 : At w t.p t.n t.c t.xs) (h5 : ∀ m, m < t.n → t.xs.getD m 0 = mkN (Gs.length % N) m) (h6 : t.n ≤ 17592186044596) : GQ w fo N (Gs ++ [t]) := by
  have key : ∀ q (hq : q < (Gs ++ [t]).length), (∃ hq2 : q < Gs.length, (Gs ++ [t])[q] = Gs[q]) ∨ (q = Gs.length ∧ (Gs ++ [t])[q] = t) := by
    intro q hq
    rcases Nat.lt_or_ge q Gs.length with h7 | h7
    · exact .inl ⟨h7, List.getElem_append_left h7⟩
    · have e : q = Gs.length := by rw [List.length_append, List.length_singleton] at hq; omega
      subst e
      exact .inr ⟨rfl, by simp⟩
  refine ⟨fun q hq => ?_, fun q hq => ?_, fun q hq => ?_, fun q hq => ?_⟩ <;> rcases key q hq with ⟨hq2, e⟩ | ⟨e1, e⟩ <;> rw [e]
  · exact h.blk q hq2
  · exact ⟨b, h1, h2, h3⟩
  · exact h.at_ q hq2
  · exact h4
  · exact h.mrk q hq2
  · rw [e1]; exact h5
  · exact h.le q hq2
  · exact h6
structure EQ7 (w : World) (B : Nat) (p : Option Addr) (n b : Nat) (X : List Nat) : Prop where
  addr : n = 0 ∨ p = some ⟨b, 0, none⟩
  pn : p = none → n = 0
  row : Row w b 0 n X
  ge : B ≤ b
  le : n ≤ 17592186044496
theorem EQ7.lt {w : World} {B : Nat} {p : Option Addr} {n b : Nat} {X : List Nat} (h : EQ7 w B p n b X) (h0 : n ≠ 0) : b < w.heap.size := row_lt7 h.row h0
theorem Row.belowQ {w w' : World} {g n : Nat} {xs : List Nat} (h : Row w g 0 n xs) (hb : Below w.heap.size w w') : Row w' g 0 n xs :=
  ⟨h.len, h.dig, fun j hj => (hb.cell (p := ⟨g, 0 + j, none⟩) (World.block_lt_of_cell? w _ (h.cell j hj))).trans (h.cell j hj), fun j hj => (hb.frozen (p := ⟨g, 0 + j, none⟩) (World.block_lt_of_cell? w _ (h.cell j hj))).trans (h.frozen j hj)⟩
theorem EQ7.below {w w' : World} {B : Nat} {p : Option Addr} {n b : Nat} {X : List Nat} (h : EQ7 w B p n b X) (hb : Below w.heap.size w w') : EQ7 w' B p n b X := ⟨h.addr, h.pn, h.row.belowQ hb, h.ge, h.le⟩
theorem eq_own7 {w : World} {B B1 : Nat} {p : Option Addr} {m : Nat} {zs : List Nat} (h : Own B1 w p m zs) (hB : B ≤ B1) (hm : m ≤ 8192) : ∃ b, EQ7 w B p m b zs ∧ (m ≠ 0 → B1 ≤ b ∧ b < w.heap.size) := by
  by_cases h0 : m = 0
  · subst h0
    exact ⟨B, ⟨.inl rfl, fun _ => rfl, ⟨h.len, h.dig, fun j hj => by omega, fun j hj => by omega⟩, Nat.le_refl _, by omega⟩, fun h => absurd rfl h⟩
  · obtain ⟨g, e, hg, hr⟩ := h.mem.resolve_left h0
    exact ⟨g, ⟨.inr e, fun hp => (by rw [e] at hp; cases hp), hr, by omega, by omega⟩, fun _ => ⟨hg, row_lt7 hr h0⟩⟩
structure EN7 where
  p : Option Addr
  n : Nat
  b : Nat
  X : List Nat
def enD7 : EN7 := ⟨none, 0, 0, []⟩
theorem lq_list {w : World} {B go : Nat} (es : List EN7) (h : ∀ e ∈ es, EQ7 w B e.p e.n e.b e.X) (hc : ∀ i, i < es.length → w.cell? ⟨go, i, none⟩ = some (.slice (es.getD i enD7).p (es.getD i enD7).n (es.getD i enD7).n))
    (hlt : ∀ e ∈ es, e.n ≠ 0 → e.b ≠ go) (hd : es.Pairwise (fun a b => a.n ≠ 0 → b.n ≠ 0 → a.b ≠ b.b)) :
    LQ w B go 0 es.length (fun i => (es.getD i enD7).p) (fun i => (es.getD i enD7).n) (fun i => (es.getD i enD7).b) (fun i => (es.getD i enD7).X) := by
  have hg : ∀ i, (hi : i < es.length) → es.getD i enD7 = es[i] := fun i hi => by rw [List.getD_eq_getElem?_getD, List.getElem?_eq_getElem hi]; rfl
  have he : ∀ i, i < es.length → EQ7 w B (es.getD i enD7).p (es.getD i enD7).n (es.getD i enD7).b (es.getD i enD7).X := fun i hi => by rw [hg i hi]; exact h _ (List.getElem_mem hi)
  have hp := List.pairwise_iff_getElem.1 hd
  refine ⟨fun i hi => by rw [Nat.zero_add]; exact hc i hi, fun i hi => (he i hi).addr, fun i hi => (he i hi).pn, fun i hi => (he i hi).row, fun i hi => (he i hi).ge, fun i hi => (he i hi).le, fun i hi => ?_, fun i j hi hj hne h1 h2 => ?_⟩
  · show (es.getD i enD7).n ≠ 0 → (es.getD i enD7).b ≠ go
    rw [hg i hi]; exact hlt _ (List.getElem_mem hi)
  · simp only [hg i hi, hg j hj] at h1 h2 ⊢
    rcases Nat.lt_or_ge i j with h3 | h3
    · exact hp i j hi hj h3 h1 h2
    · exact fun e => hp j i hj hi (by omega) h2 h1 e.symm
theorem Row.keepQ {w w' : World} {g n : Nat} {xs : List Nat} (h : Row w g 0 n xs) (hb : n ≠ 0 → w'.heap[g]? = w.heap[g]?) : Row w' g 0 n xs :=
  ⟨h.len, h.dig, fun j hj => (World.cell?_of_block (w := w) (hb (by omega))).trans (h.cell j hj), fun j hj => (World.frozen?_of_block (w := w) (hb (by omega))).trans (h.frozen j hj)⟩
theorem EQ7.keep {w w' : World} {B : Nat} {p : Option Addr} {n b : Nat} {X : List Nat} (h : EQ7 w B p n b X) (hb : n ≠ 0 → w'.heap[b]? = w.heap[b]?) : EQ7 w' B p n b X := ⟨h.addr, h.pn, h.row.keepQ hb, h.ge, h.le⟩
theorem EQ7.at_ {w : World} {B : Nat} {p : Option Addr} {n b : Nat} {X : List Nat} (h : EQ7 w B p n b X) : At w p n n X := by
  refine ⟨h.row.len, Nat.le_refl _, by have := h.le; unfold maxLen; omega, h.row.dig, ?_⟩
  rcases h.addr with h0 | h0
  · exact .inl h0
  · exact .inr ⟨b, 0, h0, h.row.cell⟩
structure WA7 (w : World) (p : Option Addr) (n c b : Nat) (xs : List Nat) : Prop where
  at_ : At w p n c xs
  blk : n ≠ 0 → p = some ⟨b, 0, none⟩
theorem WA7.below {w w' : World} {p : Option Addr} {n c b : Nat} {xs : List Nat} (h : WA7 w p n c b xs) (hb : Below w.heap.size w w') : WA7 w' p n c b xs := ⟨h.at_.below hb, h.blk⟩
theorem WA7.lt {w : World} {p : Option Addr} {n c b : Nat} {xs : List Nat} (h : WA7 w p n c b xs) (h0 : n ≠ 0) : b < w.heap.size := by
  obtain ⟨g', off, e, hc⟩ := h.at_.cells.resolve_left h0
  rw [h.blk h0] at e
  simp only [Option.some.injEq, Addr.mk.injEq, and_true] at e
  obtain ⟨rfl, rfl⟩ := e
  exact World.block_lt_of_cell? w _ (hc 0 (by omega))
theorem WA7.keep {w w' : World} {p : Option Addr} {n c b : Nat} {xs : List Nat} (h : WA7 w p n c b xs) (hb : n ≠ 0 → w'.heap[b]? = w.heap[b]?) : WA7 w' p n c b xs := by
  refine ⟨⟨h.at_.len, h.at_.cap, h.at_.big, h.at_.dig, ?_⟩, h.blk⟩
  rcases h.at_.cells with h0 | ⟨g', off, e, hc⟩
  · exact .inl h0
  · by_cases h0 : n = 0
    · exact .inl h0
    · have e2 := e
      rw [h.blk h0] at e2
      simp only [Option.some.injEq, Addr.mk.injEq, and_true] at e2
      obtain ⟨rfl, rfl⟩ := e2
      exact .inr ⟨b, 0, e, fun j hj => (World.cell?_of_block (w := w) (hb h0)).trans (hc j hj)⟩
end Go.Proofs.Ytilceolgfahhoaa
