import Derived.Test.YtmkglkdhnbjjhaaNums
import Derived.Test.YtmkglkdhnbjjhaaMul
import Derived.Deep.LoopGhost
namespace Go.Proofs.Ytmkglkdhnbjjhaa
open Go.RowKit Go.Shelf

theorem Num.zero0 {w : World} {p : Option Addr} {m c : Nat} {xs : List Nat} {a : Nat} (h : Num w p m c xs a) : m = 0 ↔ a = 0 := by
  rw [← h.nf.zero_iff B64_one, ← h.at_.len]
  exact ⟨List.eq_nil_of_length_eq_zero, fun e => by rw [e]; rfl⟩
/-- A natural that a list of lists holds. -/
structure It where
  p : Option Addr
  n : Nat
  c : Nat
  xs : List Nat
  a : Nat
/-- A slice of slices of words that can be read, each a natural in form. -/
structure Lists (w : World) (P : Option Addr) (N C : Nat) (its : List It) : Prop where
  len : its.length = N
  cap : N ≤ C
  big : C ≤ maxLen
  cells : N = 0 ∨ ∃ g off, P = some ⟨g, off, none⟩ ∧ ∀ j (h : j < its.length), w.cell? ⟨g, off + j, none⟩ = some (.slice its[j].p its[j].n its[j].c)
  nums : ∀ t ∈ its, Num w t.p t.n t.c t.xs t.a
theorem Lists.below {w w' : World} {P : Option Addr} {N C : Nat} {its : List It} (h : Lists w P N C its) (hb : Below w.heap.size w w') : Lists w' P N C its := by
  refine ⟨h.len, h.cap, h.big, ?_, fun t ht => (h.nums t ht).below hb⟩
  rcases h.cells with h0 | ⟨g, off, rfl, hc⟩
  · exact .inl h0
  · exact .inr ⟨g, off, rfl, fun j hj => (hb.cell (p := ⟨g, off + j, none⟩) (World.block_lt_of_cell? w _ (hc j hj))).trans (hc j hj)⟩
/-- The product. -/
def prodI : List It → Nat
  | [] => 1
  | t :: ts => t.a * prodI ts
theorem prodI_append (xs ys : List It) : prodI (xs ++ ys) = prodI xs * prodI ys := by
  induction xs with
  | nil => simp [prodI]
  | cons x xs ih => simp only [List.cons_append, prodI, ih, Nat.mul_assoc]
theorem prodI_split (its : List It) (k : Nat) : prodI (its.take k) * prodI (its.drop k) = prodI its := by
  rw [← prodI_append, List.take_append_drop]
theorem Lists.take {w : World} {g off N C : Nat} {its : List It} (h : Lists w (some ⟨g, off, none⟩) N C its) (k : Nat) (hk : k ≤ N) : Lists w (some ⟨g, off, none⟩) k k (its.take k) := by
  have hl := h.len; have hc := h.cap; have hb := h.big
  refine ⟨by rw [List.length_take]; omega, Nat.le_refl _, by omega, ?_, fun t ht => h.nums t (List.mem_of_mem_take ht)⟩
  rcases h.cells with h0 | ⟨g', off', he, hcl⟩
  · exact .inl (by omega)
  · refine .inr ⟨g', off', he, fun j hj => ?_⟩
    have hj2 : j < its.length := by rw [List.length_take] at hj; omega
    rw [hcl j hj2]; simp
theorem Lists.drop {w : World} {g off N C : Nat} {its : List It} (h : Lists w (some ⟨g, off, none⟩) N C its) (k : Nat) (hk : k < N) : Lists w (some ⟨g, off + k, none⟩) (N - k) (C - k) (its.drop k) := by
  have hl := h.len; have hc := h.cap; have hb := h.big
  refine ⟨by rw [List.length_drop]; omega, by omega, by omega, ?_, fun t ht => h.nums t (List.mem_of_mem_drop ht)⟩
  rcases h.cells with h0 | ⟨g', off', he, hcl⟩
  · omega
  · simp only [Option.some.injEq, Addr.mk.injEq, and_true] at he
    obtain ⟨rfl, rfl⟩ := he
    refine .inr ⟨g, off + k, rfl, fun j hj => ?_⟩
    have hj2 : k + j < its.length := by rw [List.length_drop] at hj; omega
    have := hcl (k + j) hj2
    rw [← Nat.add_assoc] at this
    rw [this]; simp
theorem Lists.pos {w : World} {P : Option Addr} {N C : Nat} {its : List It} (_h : Lists w P N C its) (hp : ∀ t ∈ its, 0 < t.a) : 0 < prodI its := by
  clear _h
  induction its with
  | nil => simp [prodI]
  | cons t ts ih => exact Nat.mul_pos (hp t (by simp)) (ih (fun u hu => hp u (by simp [hu])))

theorem wordp_any (v : Nat) (w : World) (hv : v < B64) :
    Calls Try.prog 41 #[U v] w fun e w' => ∃ p m zs, e = .returned (.slice p m m) ∧ Own w.heap.size w' p m zs ∧ Nf B64 zs v ∧ m ≤ 1 ∧ Below w.heap.size w w' := word_any v w hv
theorem one_lim : 1 < LIM := (nf_one (x := 1) (by decide) (by decide)).lim.1 (by simp)
theorem mul_lim_of {a b : Nat} (hb : 0 < b) (h : LIM ≤ a) : LIM ≤ a * b := Nat.le_trans h (Nat.le_mul_of_pos_right _ hb)

set_option maxRecDepth 20000 in
set_option maxHeartbeats 2000000 in
theorem productof_any : ∀ (M N : Nat), N ≤ M → ∀ {P : Option Addr} {C : Nat} {its : List It} {w : World}, Lists w P N C its → (∀ t ∈ its, 0 < t.a) →
    Calls Try.prog 57 #[.slice P N C] w fun e w' => Ans w.heap.size w' e (prodI its) ∧ Below w.heap.size w w' := by
  intro M
  induction M with
  | zero =>
    intro N hN P C its w h hp
    obtain rfl : N = 0 := by omega
    have HP : Hid (prodI its = 1) := by have := List.eq_nil_of_length_eq_zero h.len; show _ = _; rw [this]; rfl
    clear h hp
    go_enter Try.func57, Try.ntmps57
    go_wp2_with fail
    rw [show Value.int IntKind.u64 1 = U 1 from rfl]
    refine (word_any 1 w (by decide)).mono ?_
    rintro e w1 ⟨p1, m1, z1, rfl, o1, n1, l1, hb1⟩
    go_wp2_with fail
    go_ret2
    rw [HP.out]
    exact ⟨.inl ⟨one_lim, p1, m1, z1, rfl, o1, n1, by omega⟩, hb1⟩
  | succ M ih =>
    intro N hN P C its w h hp
    by_cases h0 : N = 0
    · exact (ih 0 (by omega) (h0 ▸ h) hp) |> fun x => by subst h0; exact x
    · obtain ⟨g, off, rfl, hc⟩ := h.cells.resolve_left h0
      have HC : Hid (∀ j (hj : j < its.length), w.cell? ⟨g, off + j, none⟩ = some (.slice its[j].p its[j].n its[j].c)) := hc
      by_cases h1 : N = 1
      · subst h1
        have hl := h.len
        obtain ⟨t, rfl⟩ : ∃ t, its = [t] := by
          match its, hl with
          | [t], _ => exact ⟨t, rfl⟩
        have hc0 : w.cell? ⟨g, off, none⟩ = some (.slice t.p t.n t.c) := hc 0 (by simp)
        have HNM : Hid (Num w t.p t.n t.c t.xs t.a) := h.nums t (by simp)
        have cap := h.cap
        obtain ⟨tp, tn, tc, txs, ta⟩ := t
        have HP : Hid (prodI [(⟨tp, tn, tc, txs, ta⟩ : It)] = ta) := by show _ = _; simp [prodI]
        simp only at hc0 HNM
        clear h hp ih hc HC hl
        go_enter Try.func57, Try.ntmps57
        go_wp2_with fail
        refine (norm_any HNM.out.at_).mono ?_
        rintro e w1 ⟨ha, hb1⟩
        rw [HNM.out.nf.val] at ha
        rcases ha with ⟨hl2, p2, m2, us, rfl, ho, hn2, hm2⟩ | ⟨hl2, _⟩
        · have HN2 : Hid (Nf B64 us ta) := hn2
          clear hl2 hn2
          go_wp2_with fail
          go_ret2
          rw [HP.out]
          exact ⟨.inl ⟨HNM.out.lim, p2, m2, us, rfl, ho, HN2.out, hm2⟩, hb1⟩
        · exact absurd HNM.out.lim (by omega)
      · have hk1 : N / 2 < N := by omega
        have hk0 : 0 < N / 2 := by omega
        obtain ⟨k, hk⟩ : ∃ k, k = N / 2 := ⟨_, rfl⟩
        rw [← hk] at hk1 hk0
        have hT := h.take k (by omega)
        have hD := h.drop k hk1
        have HT : Hid (Lists w (some ⟨g, off, none⟩) k k (its.take k)) := hT
        have HD : Hid (Lists w (some ⟨g, off + k, none⟩) (N - k) (C - k) (its.drop k)) := hD
        have HPT : Hid (∀ t ∈ its.take k, 0 < t.a) := fun t ht => hp t (List.mem_of_mem_take ht)
        have HPD : Hid (∀ t ∈ its.drop k, 0 < t.a) := fun t ht => hp t (List.mem_of_mem_drop ht)
        have HSP : Hid (prodI (its.take k) * prodI (its.drop k) = prodI its) := prodI_split its k
        have HIH : Hid (∀ N, N ≤ M → ∀ {P : Option Addr} {C : Nat} {its : List It} {w : World}, Lists w P N C its → (∀ t ∈ its, 0 < t.a) → Calls Try.prog 57 #[.slice P N C] w fun e w' => Ans w.heap.size w' e (prodI its) ∧ Below w.heap.size w w') := ih
        have hkt : (N : Int).tdiv 2 = (k : Int) := by rw [Int.tdiv_eq_ediv_of_nonneg (by omega)]; omega
        have hkM : k ≤ M := by omega
        have hNM : N - k ≤ M := by omega
        have h0' : ((N : Int) == 0) = false := by simp; omega
        have h1' : ((N : Int) == 1) = false := by simp; omega
        have cap := h.cap; have big := h.big
        unfold maxLen at big
        clear h hp ih hc HC hT hD hk
        go_enter Try.func57, Try.ntmps57
        go_wp2_with fail
        refine (HIH.out k hkM HT.out HPT.out).mono ?_
        rintro e w1 ⟨ha1, hb1⟩
        have HD1 : Hid (Lists w1 (some ⟨g, off + k, none⟩) (N - k) (C - k) (its.drop k)) := HD.out.below hb1
        have hT0 : 0 < prodI (its.take k) := HT.out.pos HPT.out
        have hD0 : 0 < prodI (its.drop k) := HD.out.pos HPD.out
        have HT0 : Hid (0 < prodI (its.take k)) := hT0
        have HD0 : Hid (0 < prodI (its.drop k)) := hD0
        clear HD HT hT0 hD0
        obtain ⟨pt, ept⟩ : ∃ pt, pt = prodI (its.take k) := ⟨_, rfl⟩
        obtain ⟨pd, epd⟩ : ∃ pd, pd = prodI (its.drop k) := ⟨_, rfl⟩
        rw [← ept] at ha1 HT0 HSP
        rw [← epd] at HD0 HSP
        have EPD : Hid (pd = prodI (its.drop k)) := epd
        clear ept epd
        rcases ha1 with ⟨hl1, p1, m1, z1, rfl, o1, n1, l1⟩ | ⟨hl1, rfl⟩
        · have N1 : Hid (Num w1 p1 m1 m1 z1 pt) := Num.of o1 n1 l1
          clear hl1 o1 n1
          go_wp2_with fail
          refine (HIH.out (N - k) hNM HD1.out HPD.out).mono ?_
          rintro e w2 ⟨ha2, hb2⟩
          rw [← EPD.out] at ha2
          have N1' : Hid (Num w2 p1 m1 m1 z1 pt) := N1.out.below hb2
          have hw2 := Below.on hb1 hb2
          have hsz := hw2.size
          rcases ha2 with ⟨hl2, p2, m2, z2, rfl, o2, n2, l2⟩ | ⟨hl2, rfl⟩
          · have N2 : Hid (Num w2 p2 m2 m2 z2 pd) := Num.of o2 n2 l2
            clear hl2 o2 n2 N1 HD1 hb1 hb2
            go_wp2_with fail
            refine (mul_any N1'.out.at_ N2.out.at_ N1'.out.nf N2.out.nf N1'.out.le N2.out.le).mono ?_
            rintro e w3 ⟨ha3, hb3⟩
            have hw3 := Below.on hw2 hb3
            rw [HSP.out] at ha3
            rcases ha3 with ⟨hl3, p3, m3, z3, rfl, o3, n3, l3⟩ | ⟨hl3, rfl⟩
            · have HL3 : Hid (prodI its < LIM) := hl3
              have HN3 : Hid (Nf B64 z3 (prodI its)) := n3
              clear hl3 n3
              go_wp2_with fail
              go_ret2
              exact ⟨.inl ⟨HL3.out, p3, m3, z3, rfl, o3.mono hsz, HN3.out, l3⟩, hw3⟩
            · have HL3 : Hid (LIM ≤ prodI its) := hl3
              clear hl3
              go_wp2_with fail
              go_ret2
              exact ⟨.inr ⟨HL3.out, rfl⟩, hw3⟩
          · have HL3 : Hid (LIM ≤ prodI its) := by rw [← HSP.out, Nat.mul_comm]; exact mul_lim_of HT0.out hl2
            clear hl2 N1 HD1 hb1 hb2
            go_wp2_with fail
            go_ret2
            exact ⟨.inr ⟨HL3.out, rfl⟩, hw2⟩
        · have HL3 : Hid (LIM ≤ prodI its) := by rw [← HSP.out]; exact mul_lim_of HD0.out hl1
          clear hl1
          go_wp2_with fail
          refine (HIH.out (N - k) hNM HD1.out HPD.out).mono ?_
          rintro e w2 ⟨ha2, hb2⟩
          have hw2 := Below.on hb1 hb2
          rcases ha2 with ⟨hl2, p2, m2, z2, rfl, o2, n2, l2⟩ | ⟨hl2, rfl⟩
          · clear hl2 o2 n2 HD1 hb1 hb2
            go_wp2_with fail
            go_ret2
            exact ⟨.inr ⟨HL3.out, rfl⟩, hw2⟩
          · clear hl2 HD1 hb1 hb2
            go_wp2_with fail
            go_ret2
            exact ⟨.inr ⟨HL3.out, rfl⟩, hw2⟩

theorem LIM_tw (k : Nat) (hk : k = 524288) : LIM = 2 ^ k := by
  obtain ⟨j, hj⟩ : ∃ j, j = 8192 := ⟨_, rfl⟩
  rw [LIM_eq j hj, show B64 = 2 ^ 64 from rfl, ← Nat.pow_mul]
  congr 1
  omega
theorem take_succ_it (its : List It) (k : Nat) (h : k < its.length) : its.take (k + 1) = its.take k ++ [its[k]] := List.take_succ_eq_append_getElem h
theorem prodI_zero {its : List It} {t : It} (h : t ∈ its) (h0 : t.a = 0) : prodI its = 0 := by
  induction its with
  | nil => simp at h
  | cons u us ih =>
    simp only [List.mem_cons] at h
    rcases h with rfl | h
    · simp [prodI, h0]
    · simp [prodI, ih h]
theorem prodI_le_take {its : List It} (k : Nat) (hp : ∀ t ∈ its, 0 < t.a) : prodI (its.take k) ≤ prodI its := by
  rw [← prodI_split its k]
  have : 0 < prodI (its.drop k) := by
    have hd : ∀ t ∈ its.drop k, 0 < t.a := fun t ht => hp t (List.mem_of_mem_drop ht)
    generalize its.drop k = ds at *
    induction ds with
    | nil => simp [prodI]
    | cons t ts ih => exact Nat.mul_pos (hd t (by simp)) (ih (fun u hu => hd u (by simp [hu])))
  exact Nat.le_mul_of_pos_right _ this
theorem two_step {its : List It} {k tw bb : Nat} (hk : k < its.length) (h : 2 ^ tw ≤ prodI (its.take k)) (hb : bb = bitsN its[k].a) (h0 : 0 < its[k].a) : 1 ≤ bb ∧ 2 ^ (tw + (bb - 1)) ≤ prodI (its.take (k + 1)) := by
  have h1 := bitsN_le its[k].a (by omega)
  rw [← hb] at h1
  have hb1 : 1 ≤ bb := by
    rcases Nat.eq_zero_or_pos bb with e | e
    · have := bitsN_lt its[k].a
      rw [← hb, e] at this; simp at this; omega
    · exact e
  refine ⟨hb1, ?_⟩
  rw [take_succ_it its k hk, prodI_append, Nat.pow_add]
  exact Nat.mul_le_mul h (by simpa [prodI] using h1)

set_option maxRecDepth 20000 in
set_option maxHeartbeats 2000000 in
theorem product_any {P : Option Addr} {N C : Nat} {its : List It} {w : World} (h : Lists w P N C its) :
    Calls Try.prog 36 #[.slice P N C] w fun e w' => Ans w.heap.size w' e (prodI its) ∧ Below w.heap.size w w' := by
  have H : Hid (Lists w P N C its) := h
  have HLN : Hid (its.length = N) := h.len
  have cap := h.cap; have big := h.big
  unfold maxLen at big
  clear h
  go_enter Try.func36, Try.ntmps36
  go_wp2_with fail
  go_loopg [4, 12] N (fun gk nv iv wr => ∃ (k : Nat) (b : Bool), k + gk = N ∧ iv = .int .i64 k ∧ nv = .bool b ∧ Hid (b = true ↔ ∃ t ∈ its.take k, t.a = 0) ∧ wr = w)
  case atStart => exact ⟨0, false, by omega, rfl, rfl, by show _ ↔ _; simp, rfl⟩
  case round =>
    obtain ⟨k, b, hkg, rfl, rfl, HB, hwr⟩ := hrel
    obtain rfl := hwr.symm
    clear hwr
    cases gk with
    | zero =>
      obtain rfl : k = N := by omega
      have hnk : ¬ (k : Int) < (k : Int) := by omega
      have etk : its.take k = its := List.take_of_length_le (by rw [HLN.out]; omega)
      cases b
      · have HPOS : Hid (∀ t ∈ its, 0 < t.a) := by
          intro t ht
          rcases Nat.eq_zero_or_pos t.a with e | e
          · have := HB.out.2 ⟨t, by rw [etk]; exact ht, e⟩
            simp at this
          · exact e
        clear HB etk
        go_wp2_with fail
        go_loopg [7, 29] k (fun gk2 tv iv wr => ∃ (k2 tw : Nat), k2 + gk2 = k ∧ iv = .int .i64 k2 ∧ tv = .int .i64 tw ∧ tw < 524288 ∧ Hid (2 ^ tw ≤ prodI (its.take k2)) ∧ wr = w)
        case atStart => exact ⟨0, 0, by omega, rfl, rfl, by omega, by show _ ≤ _; simp [prodI], rfl⟩
        case round =>
          obtain ⟨k2, tw, hkg2, rfl, rfl, htw, HT, hwr⟩ := hrel
          obtain rfl := hwr.symm
          clear hwr
          cases gk with
          | zero =>
            obtain rfl : k2 = k := by omega
            clear HT
            go_wp2_with fail
            refine (productof_any k2 k2 (Nat.le_refl _) H.out HPOS.out).mono ?_
            rintro e w1 ⟨ha, hb⟩
            rcases ha with ⟨hl, p1, m1, z1, rfl, o1, n1, l1⟩ | ⟨hl, rfl⟩
            · have HL : Hid (prodI its < LIM) := hl
              have HN : Hid (Nf B64 z1 (prodI its)) := n1
              clear hl n1
              go_wp2_with fail
              go_ret2
              exact ⟨.inl ⟨HL.out, p1, m1, z1, rfl, o1, HN.out, l1⟩, hb⟩
            · have HL : Hid (LIM ≤ prodI its) := hl
              clear hl
              go_wp2_with fail
              go_ret2
              exact ⟨.inr ⟨HL.out, rfl⟩, hb⟩
          | succ gg =>
            have hk2 : k2 < its.length := by rw [HLN.out]; omega
            obtain ⟨g, off, rfl, hc⟩ := H.out.cells.resolve_left (by omega)
            have hcx := hc k2 hk2
            have hnm := H.out.nums its[k2] (List.getElem_mem hk2)
            obtain ⟨bb, ebb⟩ : ∃ bb, bb = bitsN its[k2].a := ⟨_, rfl⟩
            have hst := two_step hk2 HT.out ebb (HPOS.out _ (List.getElem_mem hk2))
            have hb1 := hst.1
            have HST : Hid (2 ^ (tw + (bb - 1)) ≤ prodI (its.take (k2 + 1))) := hst.2
            have hbb : bb ≤ 524288 := by
              rcases Nat.lt_or_ge 524288 bb with e | e
              · exfalso
                have h1 := bitsN_le its[k2].a (by have := HPOS.out _ (List.getElem_mem hk2); omega)
                rw [← ebb] at h1
                have h2 := hnm.lim
                obtain ⟨E, hE⟩ : ∃ E, E = 524288 := ⟨_, rfl⟩
                rw [LIM_tw E hE] at h2
                have h3 : (2:Nat) ^ E ≤ 2 ^ (bb - 1) := Nat.pow_le_pow_right (by decide) (by omega)
                omega
              · exact e
            have EBB : Hid (bb = bitsN its[k2].a) := ebb
            have HNM : Hid (Num w its[k2].p its[k2].n its[k2].c its[k2].xs its[k2].a) := hnm
            have hkk : (k2 : Int) < (k : Int) := by omega
            have hnn := hnm.le
            clear hc hst ebb hnm HT
            generalize its[k2].p = tp at *
            generalize its[k2].n = tn at *
            generalize its[k2].c = tc at *
            generalize its[k2].xs = txs at *
            generalize its[k2].a = ta at *
            go_wp2_with fail
            refine (bits_any HNM.out.at_ (by omega)).mono ?_
            rintro e w' ⟨rfl, hw⟩
            obtain rfl := hw.symm
            clear hw
            rw [HNM.out.nf.val, ← EBB.out]
            by_cases hge : 524288 ≤ tw + (bb - 1)
            · have HL : Hid (LIM ≤ prodI its) := by
                show _ ≤ _
                obtain ⟨E, hE⟩ : ∃ E, E = 524288 := ⟨_, rfl⟩
                rw [LIM_tw E hE]
                exact Nat.le_trans (Nat.le_trans (Nat.pow_le_pow_right (by decide) (by omega)) HST.out) (prodI_le_take _ HPOS.out)
              go_wp2_with fail
              go_ret2
              exact ⟨.inr ⟨HL.out, rfl⟩, Below.refl _ _⟩
            · go_wp2_with fail
              go_roundg gg
              case measure => omega
              case rel => exact ⟨k2 + 1, tw + (bb - 1), by omega, by go_num, by go_num, by omega, HST, rfl⟩
      · have HZ : Hid (prodI its = 0) := by
          obtain ⟨t, ht, h0⟩ := HB.out.1 rfl
          rw [etk] at ht
          exact prodI_zero ht h0
        clear HB etk
        go_wp2_with fail
        go_ret2
        rw [HZ.out]
        exact ⟨ans_zero _ _, Below.refl _ _⟩
    | succ gg =>
      have hk2 : k < its.length := by rw [HLN.out]; omega
      obtain ⟨g, off, rfl, hc⟩ := H.out.cells.resolve_left (by omega)
      have hcx := hc k hk2
      have hnm := H.out.nums its[k] (List.getElem_mem hk2)
      have HB2 : Hid ((b || decide (its[k].n = 0)) = true ↔ ∃ t ∈ its.take (k + 1), t.a = 0) := by
        show _ ↔ _
        rw [take_succ_it its k hk2, Bool.or_eq_true, HB.out, decide_eq_true_iff, hnm.zero0]
        constructor
        · rintro (⟨t, ht, h0⟩ | h0)
          · exact ⟨t, List.mem_append_left _ ht, h0⟩
          · exact ⟨its[k], List.mem_append_right _ (List.mem_singleton.2 rfl), h0⟩
        · rintro ⟨t, ht, h0⟩
          rcases List.mem_append.1 ht with ht | ht
          · exact .inl ⟨t, ht, h0⟩
          · rw [List.mem_singleton.1 ht] at h0; exact .inr h0
      have fx := hnm.nf.form (by rw [hnm.at_.len]; exact hnm.le)
      have HNM : Hid (Num w its[k].p its[k].n its[k].c its[k].xs its[k].a) := hnm
      have hkk : (k : Int) < (N : Int) := by omega
      have hnn := hnm.le
      clear hc hnm HB
      generalize its[k].p = tp at *
      generalize its[k].n = tn at *
      generalize its[k].c = tc at *
      generalize its[k].xs = txs at *
      generalize its[k].a = ta at *
      go_wp2_with fail
      refine (form_true HNM.out.at_ fx).mono ?_
      rintro e w' ⟨rfl, hw⟩
      obtain rfl := hw.symm
      clear hw fx
      cases b
      · by_cases ht0 : tn = 0
        · have HT0 : Hid ((false || decide (tn = 0)) = true) := by show _ = _; simp [ht0]
          subst ht0
          go_wp2_with fail
          go_roundg gg
          case measure => omega
          case rel => exact ⟨k + 1, true, by omega, by go_num, rfl, by have := HB2.out; simp at this; show _ ↔ _; simpa using this, rfl⟩
        · have ht0' : ((tn : Int) == 0) = false := by simp; omega
          go_wp2_with fail
          go_roundg gg
          case measure => omega
          case rel => exact ⟨k + 1, false, by omega, by go_num, rfl, by have := HB2.out; simp [ht0] at this; show _ ↔ _; simpa using this, rfl⟩
      · go_wp2_with fail
        go_roundg gg
        case measure => omega
        case rel => exact ⟨k + 1, true, by omega, by go_num, rfl, by have := HB2.out; simp at this; show _ ↔ _; simpa using this, rfl⟩
end Go.Proofs.Ytmkglkdhnbjjhaa
