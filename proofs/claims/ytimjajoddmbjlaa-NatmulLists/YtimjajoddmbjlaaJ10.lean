import Derived.Test.YtimjajoddmbjlaaJ9
import Derived.Test.YtimjajoddmbjlaaJ8
import Derived.Deep.LoopGhost
import Derived.Deep.DeepAppendRoom
import Derived.Maps.AppendAt
import Derived.OwnWalk
import Derived.Deep.RegionWith
import Derived.Test.YtimjajoddmbjlaaMem
import Derived.Laws.ResultCell
import Derived.Deep.DeepCutAuto
namespace Go.Proofs.Ytimjajoddmbjlaa
open Go.RowKit Go.Shelf
set_option maxRecDepth 20000
set_option maxHeartbeats 0
theorem Num.zero0 {w : World} {p : Option Addr} {m c : Nat} {xs : List Nat} {a : Nat} (h : Num w p m c xs a) : m = 0 ↔ a = 0 := by
  rw [← h.nf.zero_iff B64_one, ← h.at_.len]
  exact ⟨List.eq_nil_of_length_eq_zero, fun e => by rw [e]; rfl⟩
structure It where
  p : Option Addr
  n : Nat
  c : Nat
  xs : List Nat
  a : Nat
structure Lists (w : World) (P : Option Addr) (N C : Nat) (its : List It) : Prop where
  len : its.length = N
  cap : N ≤ C
  big : C ≤ maxLen
  cells : N = 0 ∨ ∃ g off, P = some ⟨g, off, none⟩ ∧ ∀ j (h : j < its.length), w.cell? ⟨g, off + j, none⟩ = some (.slice its[j].p its[j].n its[j].c)
  nums : ∀ t ∈ its, Num w t.p t.n t.c t.xs t.a
theorem Lists.below {w w' : World} {P : Option Addr} {N C : Nat} {its : List It} (h : Lists w P N C its) (hb : Below w.heap.size w w') : Lists w' P N C its := by
  refine ⟨h.len, h.cap, h.big, ?_, fun t ht => (h.nums t ht).below hb⟩
  rcases h.cells with h0 | ⟨g, off, rfl, hc⟩
  · exact .inl h0
  · exact .inr ⟨g, off, rfl, fun j hj => (hb.cell (p := ⟨g, off + j, none⟩) (World.block_lt_of_cell? w _ (hc j hj))).trans (hc j hj)⟩
def prodI : List It → Nat
  | [] => 1
  | t :: ts => t.a * prodI ts
theorem prodI_append (xs ys : List It) : prodI (xs ++ ys) = prodI xs * prodI ys := by
  induction xs with
  | nil => simp [prodI]
  | cons x xs ih => simp only [List.cons_append, prodI, ih, Nat.mul_assoc]
theorem prodI_split (its : List It) (k : Nat) : prodI (its.take k) * prodI (its.drop k) = prodI its := by
  rw [← prodI_append, List.take_append_drop]
theorem Lists.take {w : World} {g off N C : Nat} {its : List It} (h : Lists w (some ⟨g, off, none⟩) N C its) (k : Nat) (hk : k ≤ N) : Lists w (some ⟨g, off, none⟩) k k (its.take k) := by
  have hl := h.len; have hc := h.cap; have hb := h.big
  refine ⟨by rw [List.length_take]; omega, Nat.le_refl _, by omega, ?_, fun t ht => h.nums t (List.mem_of_mem_take ht)⟩
  rcases h.cells with h0 | ⟨g', off', he, hcl⟩
  · exact .inl (by omega)
  · refine .inr ⟨g', off', he, fun j hj => ?_⟩
    have hj2 : j < its.length := by rw [List.length_take] at hj; omega
    rw [hcl j hj2]; simp
theorem Lists.drop {w : World} {g off N C : Nat} {its : List It} (h : Lists w (some ⟨g, off, none⟩) N C its) (k : Nat) (hk : k < N) : Lists w (some ⟨g, off + k, none⟩) (N - k) (C - k) (its.drop k) := by
  have hl := h.len; have hc := h.cap; have hb := h.big
  refine ⟨by rw [List.length_drop]; omega, by omega, by omega, ?_, fun t ht => h.nums t (List.mem_of_mem_drop ht)⟩
  rcases h.cells with h0 | ⟨g', off', he, hcl⟩
  · omega
  · simp only [Option.some.injEq, Addr.mk.injEq, and_true] at he
    obtain ⟨rfl, rfl⟩ := he
    refine .inr ⟨g, off + k, rfl, fun j hj => ?_⟩
    have hj2 : k + j < its.length := by rw [List.length_drop] at hj; omega
    have := hcl (k + j) hj2
    rw [← Nat.add_assoc] at this
    rw [this]; simp
theorem Lists.pos {w : World} {P : Option Addr} {N C : Nat} {its : List It} (_h : Lists w P N C its) (hp : ∀ t ∈ its, 0 < t.a) : 0 < prodI its := by
  clear _h
  induction its with
  | nil => simp [prodI]
  | cons t ts ih => exact Nat.mul_pos (hp t (by simp)) (ih (fun u hu => hp u (by simp [hu])))

theorem one_lim : 1 < LIM := (nf_one (x := 1) (by decide) (by decide)).lim.1 (by simp)
theorem mul_lim_of {a b : Nat} (hb : 0 < b) (h : LIM ≤ a) : LIM ≤ a * b := Nat.le_trans h (Nat.le_mul_of_pos_right _ hb)

theorem productof_any : ∀ (M N : Nat), N ≤ M → ∀ {P : Option Addr} {C : Nat} {its : List It} {w : World}, Lists w P N C its → (∀ t ∈ its, 0 < t.a) →
    Calls Try.prog 21 #[.slice P N C] w fun e w' => Ans w.heap.size w' e (prodI its) ∧ Below w.heap.size w w' := by
  intro M
  induction M with
  | zero =>
    intro N hN P C its w h hp
    obtain rfl : N = 0 := by omega
    have HP : Hid (prodI its = 1) := by have := List.eq_nil_of_length_eq_zero h.len; show _ = _; rw [this]; rfl
    clear h hp
    go_enter Try.func21, Try.ntmps21
    go_wp2_with fail
    rw [show Value.int IntKind.u64 1 = U 1 from rfl]
    refine (word_any 1 w (by decide)).mono ?_
    rintro e w1 ⟨p1, m1, z1, rfl, o1, n1, l1, hb1⟩
    go_wp2_with fail
    go_ret2
    rw [HP.out]
    exact ⟨.inl ⟨one_lim, p1, m1, z1, rfl, o1, n1, by omega⟩, hb1⟩
  | succ M ih =>
    intro N hN P C its w h hp
    by_cases h0 : N = 0
    · exact (ih 0 (by omega) (h0 ▸ h) hp) |> fun x => by subst h0; exact x
    · obtain ⟨g, off, rfl, hc⟩ := h.cells.resolve_left h0
      have HC : Hid (∀ j (hj : j < its.length), w.cell? ⟨g, off + j, none⟩ = some (.slice its[j].p its[j].n its[j].c)) := hc
      by_cases h1 : N = 1
      · subst h1
        have hl := h.len
        obtain ⟨t, rfl⟩ : ∃ t, its = [t] := by
          match its, hl with
          | [t], _ => exact ⟨t, rfl⟩
        have hc0 : w.cell? ⟨g, off, none⟩ = some (.slice t.p t.n t.c) := hc 0 (by simp)
        have HNM : Hid (Num w t.p t.n t.c t.xs t.a) := h.nums t (by simp)
        have cap := h.cap
        obtain ⟨tp, tn, tc, txs, ta⟩ := t
        have HP : Hid (prodI [(⟨tp, tn, tc, txs, ta⟩ : It)] = ta) := by show _ = _; simp [prodI]
        simp only at hc0 HNM
        clear h hp ih hc HC hl
        go_enter Try.func21, Try.ntmps21
        go_wp2_with fail
        refine (norm_any HNM.out.at_).mono ?_
        rintro e w1 ⟨ha, hb1⟩
        rw [HNM.out.nf.val] at ha
        rcases ha with ⟨hl2, p2, m2, us, rfl, ho, hn2, hm2⟩ | ⟨hl2, _⟩
        · have HN2 : Hid (Nf B64 us ta) := hn2
          clear hl2 hn2
          go_wp2_with fail
          go_ret2
          rw [HP.out]
          exact ⟨.inl ⟨HNM.out.lim, p2, m2, us, rfl, ho, HN2.out, hm2⟩, hb1⟩
        · exact absurd HNM.out.lim (by omega)
      · have hk1 : N / 2 < N := by omega
        have hk0 : 0 < N / 2 := by omega
        obtain ⟨k, hk⟩ : ∃ k, k = N / 2 := ⟨_, rfl⟩
        rw [← hk] at hk1 hk0
        have hT := h.take k (by omega)
        have hD := h.drop k hk1
        have HT : Hid (Lists w (some ⟨g, off, none⟩) k k (its.take k)) := hT
        have HD : Hid (Lists w (some ⟨g, off + k, none⟩) (N - k) (C - k) (its.drop k)) := hD
        have HPT : Hid (∀ t ∈ its.take k, 0 < t.a) := fun t ht => hp t (List.mem_of_mem_take ht)
        have HPD : Hid (∀ t ∈ its.drop k, 0 < t.a) := fun t ht => hp t (List.mem_of_mem_drop ht)
        have HSP : Hid (prodI (its.take k) * prodI (its.drop k) = prodI its) := prodI_split its k
        have HIH : Hid (∀ N, N ≤ M → ∀ {P : Option Addr} {C : Nat} {its : List It} {w : World}, Lists w P N C its → (∀ t ∈ its, 0 < t.a) → Calls Try.prog 21 #[.slice P N C] w fun e w' => Ans w.heap.size w' e (prodI its) ∧ Below w.heap.size w w') := ih
        have hkt : (N : Int).tdiv 2 = (k : Int) := by rw [Int.tdiv_eq_ediv_of_nonneg (by omega)]; omega
        have hkM : k ≤ M := by omega
        have hNM : N - k ≤ M := by omega
        have h0' : ((N : Int) == 0) = false := by simp; omega
        have h1' : ((N : Int) == 1) = false := by simp; omega
        have cap := h.cap; have big := h.big
        unfold maxLen at big
        clear h hp ih hc HC hT hD hk
        go_enter Try.func21, Try.ntmps21
        go_wp2_with fail
        refine (HIH.out k hkM HT.out HPT.out).mono ?_
        rintro e w1 ⟨ha1, hb1⟩
        have HD1 : Hid (Lists w1 (some ⟨g, off + k, none⟩) (N - k) (C - k) (its.drop k)) := HD.out.below hb1
        have hT0 : 0 < prodI (its.take k) := HT.out.pos HPT.out
        have hD0 : 0 < prodI (its.drop k) := HD.out.pos HPD.out
        have HT0 : Hid (0 < prodI (its.take k)) := hT0
        have HD0 : Hid (0 < prodI (its.drop k)) := hD0
        clear HD HT hT0 hD0
        obtain ⟨pt, ept⟩ : ∃ pt, pt = prodI (its.take k) := ⟨_, rfl⟩
        obtain ⟨pd, epd⟩ : ∃ pd, pd = prodI (its.drop k) := ⟨_, rfl⟩
        rw [← ept] at ha1 HT0 HSP
        rw [← epd] at HD0 HSP
        have EPD : Hid (pd = prodI (its.drop k)) := epd
        clear ept epd
        rcases ha1 with ⟨hl1, p1, m1, z1, rfl, o1, n1, l1⟩ | ⟨hl1, rfl⟩
        · have N1 : Hid (Num w1 p1 m1 m1 z1 pt) := Num.of o1 n1 l1
          clear hl1 o1 n1
          go_wp2_with fail
          refine (HIH.out (N - k) hNM HD1.out HPD.out).mono ?_
          rintro e w2 ⟨ha2, hb2⟩
          rw [← EPD.out] at ha2
          have N1' : Hid (Num w2 p1 m1 m1 z1 pt) := N1.out.below hb2
          have hw2 := Below.on hb1 hb2
          have hsz := hw2.size
          rcases ha2 with ⟨hl2, p2, m2, z2, rfl, o2, n2, l2⟩ | ⟨hl2, rfl⟩
          · have N2 : Hid (Num w2 p2 m2 m2 z2 pd) := Num.of o2 n2 l2
            clear hl2 o2 n2 N1 HD1 hb1 hb2
            go_wp2_with fail
            refine (mul_any N1'.out.at_ N2.out.at_ N1'.out.nf N2.out.nf N1'.out.le N2.out.le).mono ?_
            rintro e w3 ⟨ha3, hb3⟩
            have hw3 := Below.on hw2 hb3
            rw [HSP.out] at ha3
            rcases ha3 with ⟨hl3, p3, m3, z3, rfl, o3, n3, l3⟩ | ⟨hl3, rfl⟩
            · have HL3 : Hid (prodI its < LIM) := hl3
              have HN3 : Hid (Nf B64 z3 (prodI its)) := n3
              clear hl3 n3
              go_wp2_with fail
              go_ret2
              exact ⟨.inl ⟨HL3.out, p3, m3, z3, rfl, o3.mono hsz, HN3.out, l3⟩, hw3⟩
            · have HL3 : Hid (LIM ≤ prodI its) := hl3
              clear hl3
              go_wp2_with fail
              go_ret2
              exact ⟨.inr ⟨HL3.out, rfl⟩, hw3⟩
          · have HL3 : Hid (LIM ≤ prodI its) := by rw [← HSP.out, Nat.mul_comm]; exact mul_lim_of HT0.out hl2
            clear hl2 N1 HD1 hb1 hb2
            go_wp2_with fail
            go_ret2
            exact ⟨.inr ⟨HL3.out, rfl⟩, hw2⟩
        · have HL3 : Hid (LIM ≤ prodI its) := by rw [← HSP.out]; exact mul_lim_of HD0.out hl1
          clear hl1
          go_wp2_with fail
          refine (HIH.out (N - k) hNM HD1.out HPD.out).mono ?_
          rintro e w2 ⟨ha2, hb2⟩
          have hw2 := Below.on hb1 hb2
          rcases ha2 with ⟨hl2, p2, m2, z2, rfl, o2, n2, l2⟩ | ⟨hl2, rfl⟩
          · clear hl2 o2 n2 HD1 hb1 hb2
            go_wp2_with fail
            go_ret2
            exact ⟨.inr ⟨HL3.out, rfl⟩, hw2⟩
          · clear hl2 HD1 hb1 hb2
            go_wp2_with fail
            go_ret2
            exact ⟨.inr ⟨HL3.out, rfl⟩, hw2⟩

theorem LIM_tw (k : Nat) (hk : k = 524288) : LIM = 2 ^ k := by
  obtain ⟨j, hj⟩ : ∃ j, j = 8192 := ⟨_, rfl⟩
  rw [LIM_eq j hj, show B64 = 2 ^ 64 from rfl, ← Nat.pow_mul]
  congr 1
  omega
theorem take_succ_it (its : List It) (k : Nat) (h : k < its.length) : its.take (k + 1) = its.take k ++ [its[k]] := List.take_succ_eq_append_getElem h
theorem prodI_zero {its : List It} {t : It} (h : t ∈ its) (h0 : t.a = 0) : prodI its = 0 := by
  induction its with
  | nil => simp at h
  | cons u us ih =>
    simp only [List.mem_cons] at h
    rcases h with rfl | h
    · simp [prodI, h0]
    · simp [prodI, ih h]
theorem prodI_le_take {its : List It} (k : Nat) (hp : ∀ t ∈ its, 0 < t.a) : prodI (its.take k) ≤ prodI its := by
  rw [← prodI_split its k]
  have : 0 < prodI (its.drop k) := by
    have hd : ∀ t ∈ its.drop k, 0 < t.a := fun t ht => hp t (List.mem_of_mem_drop ht)
    generalize its.drop k = ds at *
    induction ds with
    | nil => simp [prodI]
    | cons t ts ih => exact Nat.mul_pos (hd t (by simp)) (ih (fun u hu => hd u (by simp [hu])))
  exact Nat.le_mul_of_pos_right _ this
theorem two_step {its : List It} {k tw bb : Nat} (hk : k < its.length) (h : 2 ^ tw ≤ prodI (its.take k)) (hb : bb = bitsN its[k].a) (h0 : 0 < its[k].a) : 1 ≤ bb ∧ 2 ^ (tw + (bb - 1)) ≤ prodI (its.take (k + 1)) := by
  have h1 := bitsN_le its[k].a (by omega)
  rw [← hb] at h1
  have hb1 : 1 ≤ bb := by
    rcases Nat.eq_zero_or_pos bb with e | e
    · have := bitsN_lt its[k].a
      rw [← hb, e] at this; simp at this; omega
    · exact e
  refine ⟨hb1, ?_⟩
  rw [take_succ_it its k hk, prodI_append, Nat.pow_add]
  exact Nat.mul_le_mul h (by simpa [prodI] using h1)

theorem product_any {P : Option Addr} {N C : Nat} {its : List It} {w : World} (h : Lists w P N C its) :
    Calls Try.prog 7 #[.slice P N C] w fun e w' => Ans w.heap.size w' e (prodI its) ∧ Below w.heap.size w w' := by
  have H : Hid (Lists w P N C its) := h
  have HLN : Hid (its.length = N) := h.len
  have cap := h.cap; have big := h.big
  unfold maxLen at big
  clear h
  go_enter Try.func7, Try.ntmps7
  go_wp2_with fail
  go_loopg [4, 12] N (fun gk nv iv wr => ∃ (k : Nat) (b : Bool), k + gk = N ∧ iv = .int .i64 k ∧ nv = .bool b ∧ Hid (b = true ↔ ∃ t ∈ its.take k, t.a = 0) ∧ wr = w)
  case atStart => exact ⟨0, false, by omega, rfl, rfl, by show _ ↔ _; simp, rfl⟩
  case round =>
    obtain ⟨k, b, hkg, rfl, rfl, HB, hwr⟩ := hrel
    obtain rfl := hwr.symm
    clear hwr
    cases gk with
    | zero =>
      obtain rfl : k = N := by omega
      have hnk : ¬ (k : Int) < (k : Int) := by omega
      have etk : its.take k = its := List.take_of_length_le (by rw [HLN.out]; omega)
      cases b
      · have HPOS : Hid (∀ t ∈ its, 0 < t.a) := by
          intro t ht
          rcases Nat.eq_zero_or_pos t.a with e | e
          · have := HB.out.2 ⟨t, by rw [etk]; exact ht, e⟩
            simp at this
          · exact e
        clear HB etk
        go_wp2_with fail
        go_loopg [7, 29] k (fun gk2 tv iv wr => ∃ (k2 tw : Nat), k2 + gk2 = k ∧ iv = .int .i64 k2 ∧ tv = .int .i64 tw ∧ tw < 524288 ∧ Hid (2 ^ tw ≤ prodI (its.take k2)) ∧ wr = w)
        case atStart => exact ⟨0, 0, by omega, rfl, rfl, by omega, by show _ ≤ _; simp [prodI], rfl⟩
        case round =>
          obtain ⟨k2, tw, hkg2, rfl, rfl, htw, HT, hwr⟩ := hrel
          obtain rfl := hwr.symm
          clear hwr
          cases gk with
          | zero =>
            obtain rfl : k2 = k := by omega
            clear HT
            go_wp2_with fail
            refine (productof_any k2 k2 (Nat.le_refl _) H.out HPOS.out).mono ?_
            rintro e w1 ⟨ha, hb⟩
            rcases ha with ⟨hl, p1, m1, z1, rfl, o1, n1, l1⟩ | ⟨hl, rfl⟩
            · have HL : Hid (prodI its < LIM) := hl
              have HN : Hid (Nf B64 z1 (prodI its)) := n1
              clear hl n1
              go_wp2_with fail
              go_ret2
              exact ⟨.inl ⟨HL.out, p1, m1, z1, rfl, o1, HN.out, l1⟩, hb⟩
            · have HL : Hid (LIM ≤ prodI its) := hl
              clear hl
              go_wp2_with fail
              go_ret2
              exact ⟨.inr ⟨HL.out, rfl⟩, hb⟩
          | succ gg =>
            have hk2 : k2 < its.length := by rw [HLN.out]; omega
            obtain ⟨g, off, rfl, hc⟩ := H.out.cells.resolve_left (by omega)
            have hcx := hc k2 hk2
            have hnm := H.out.nums its[k2] (List.getElem_mem hk2)
            obtain ⟨bb, ebb⟩ : ∃ bb, bb = bitsN its[k2].a := ⟨_, rfl⟩
            have hst := two_step hk2 HT.out ebb (HPOS.out _ (List.getElem_mem hk2))
            have hb1 := hst.1
            have HST : Hid (2 ^ (tw + (bb - 1)) ≤ prodI (its.take (k2 + 1))) := hst.2
            have hbb : bb ≤ 524288 := by
              rcases Nat.lt_or_ge 524288 bb with e | e
              · exfalso
                have h1 := bitsN_le its[k2].a (by have := HPOS.out _ (List.getElem_mem hk2); omega)
                rw [← ebb] at h1
                have h2 := hnm.lim
                obtain ⟨E, hE⟩ : ∃ E, E = 524288 := ⟨_, rfl⟩
                rw [LIM_tw E hE] at h2
                have h3 : (2:Nat) ^ E ≤ 2 ^ (bb - 1) := Nat.pow_le_pow_right (by decide) (by omega)
                omega
              · exact e
            have EBB : Hid (bb = bitsN its[k2].a) := ebb
            have HNM : Hid (Num w its[k2].p its[k2].n its[k2].c its[k2].xs its[k2].a) := hnm
            have hkk : (k2 : Int) < (k : Int) := by omega
            have hnn := hnm.le
            clear hc hst ebb hnm HT
            generalize its[k2].p = tp at *
            generalize its[k2].n = tn at *
            generalize its[k2].c = tc at *
            generalize its[k2].xs = txs at *
            generalize its[k2].a = ta at *
            go_wp2_with fail
            refine (bits_any HNM.out.at_ (by omega)).mono ?_
            rintro e w' ⟨rfl, hw⟩
            obtain rfl := hw.symm
            clear hw
            rw [HNM.out.nf.val, ← EBB.out]
            by_cases hge : 524288 ≤ tw + (bb - 1)
            · have HL : Hid (LIM ≤ prodI its) := by
                show _ ≤ _
                obtain ⟨E, hE⟩ : ∃ E, E = 524288 := ⟨_, rfl⟩
                rw [LIM_tw E hE]
                exact Nat.le_trans (Nat.le_trans (Nat.pow_le_pow_right (by decide) (by omega)) HST.out) (prodI_le_take _ HPOS.out)
              go_wp2_with fail
              go_ret2
              exact ⟨.inr ⟨HL.out, rfl⟩, Below.refl _ _⟩
            · go_wp2_with fail
              go_roundg gg
              case measure => omega
              case rel => exact ⟨k2 + 1, tw + (bb - 1), by omega, by go_num, by go_num, by omega, HST, rfl⟩
      · have HZ : Hid (prodI its = 0) := by
          obtain ⟨t, ht, h0⟩ := HB.out.1 rfl
          rw [etk] at ht
          exact prodI_zero ht h0
        clear HB etk
        go_wp2_with fail
        go_ret2
        rw [HZ.out]
        exact ⟨ans_zero _ _, Below.refl _ _⟩
    | succ gg =>
      have hk2 : k < its.length := by rw [HLN.out]; omega
      obtain ⟨g, off, rfl, hc⟩ := H.out.cells.resolve_left (by omega)
      have hcx := hc k hk2
      have hnm := H.out.nums its[k] (List.getElem_mem hk2)
      have HB2 : Hid ((b || decide (its[k].n = 0)) = true ↔ ∃ t ∈ its.take (k + 1), t.a = 0) := by
        show _ ↔ _
        rw [take_succ_it its k hk2, Bool.or_eq_true, HB.out, decide_eq_true_iff, hnm.zero0]
        constructor
        · rintro (⟨t, ht, h0⟩ | h0)
          · exact ⟨t, List.mem_append_left _ ht, h0⟩
          · exact ⟨its[k], List.mem_append_right _ (List.mem_singleton.2 rfl), h0⟩
        · rintro ⟨t, ht, h0⟩
          rcases List.mem_append.1 ht with ht | ht
          · exact .inl ⟨t, ht, h0⟩
          · rw [List.mem_singleton.1 ht] at h0; exact .inr h0
      have fx := hnm.nf.form (by rw [hnm.at_.len]; exact hnm.le)
      have HNM : Hid (Num w its[k].p its[k].n its[k].c its[k].xs its[k].a) := hnm
      have hkk : (k : Int) < (N : Int) := by omega
      have hnn := hnm.le
      clear hc hnm HB
      generalize its[k].p = tp at *
      generalize its[k].n = tn at *
      generalize its[k].c = tc at *
      generalize its[k].xs = txs at *
      generalize its[k].a = ta at *
      go_wp2_with fail
      refine (form_true HNM.out.at_ fx).mono ?_
      rintro e w' ⟨rfl, hw⟩
      obtain rfl := hw.symm
      clear hw fx
      cases b
      · by_cases ht0 : tn = 0
        · have HT0 : Hid ((false || decide (tn = 0)) = true) := by show _ = _; simp [ht0]
          subst ht0
          go_wp2_with fail
          go_roundg gg
          case measure => omega
          case rel => exact ⟨k + 1, true, by omega, by go_num, rfl, by have := HB2.out; simp at this; show _ ↔ _; simpa using this, rfl⟩
        · have ht0' : ((tn : Int) == 0) = false := by simp; omega
          go_wp2_with fail
          go_roundg gg
          case measure => omega
          case rel => exact ⟨k + 1, false, by omega, by go_num, rfl, by have := HB2.out; simp [ht0] at this; show _ ↔ _; simpa using this, rfl⟩
      · go_wp2_with fail
        go_roundg gg
        case measure => omega
        case rel => exact ⟨k + 1, true, by omega, by go_num, rfl, by have := HB2.out; simp at this; show _ ↔ _; simpa using this, rfl⟩
def itv (t : It) : Value := .slice t.p t.n t.c
structure LsA (w : World) (P : Option Addr) (N C : Nat) (its : List It) : Prop where
  len : its.length = N
  cap : N ≤ C
  big : C ≤ maxLen
  cells : N = 0 ∨ ∃ g off, P = some ⟨g, off, none⟩ ∧ ∀ j (h : j < its.length), w.cell? ⟨g, off + j, none⟩ = some (.slice its[j].p its[j].n its[j].c)
  ats : ∀ t ∈ its, At w t.p t.n t.c t.xs ∧ t.n ≤ 17592186044416 ∧ t.a = valB B64 t.xs
theorem LsA.below {w w' : World} {P : Option Addr} {N C : Nat} {its : List It} (h : LsA w P N C its) (hb : Below w.heap.size w w') : LsA w' P N C its := by
  refine ⟨h.len, h.cap, h.big, ?_, fun t ht => ⟨(h.ats t ht).1.below hb, (h.ats t ht).2⟩⟩
  rcases h.cells with h0 | ⟨g, off, rfl, hc⟩
  · exact .inl h0
  · exact .inr ⟨g, off, rfl, fun j hj => (hb.cell (p := ⟨g, off + j, none⟩) (World.block_lt_of_cell? w _ (hc j hj))).trans (hc j hj)⟩
theorem LsA.nums {w : World} {P : Option Addr} {N C : Nat} {its : List It} (h : LsA w P N C its) (hf : ∀ t ∈ its, formB t.xs = true) : Lists w P N C its :=
  ⟨h.len, h.cap, h.big, h.cells, fun t ht => ⟨(h.ats t ht).1, by rw [(h.ats t ht).2.2]; exact nf_of_form (h.ats t ht).1.dig (hf t ht), by rw [← (h.ats t ht).1.len]; exact ((formB_iff _).1 (hf t ht)).1⟩⟩
theorem At.grow {w w' : World} {g n c : Nat} {xs : List Nat} {row : Option Nat} (h : At w (some ⟨g, 0, none⟩) n c xs) (hg : w.grownBy w' row) (hne : some g ≠ row) : At w' (some ⟨g, 0, none⟩) n c xs := by
  refine ⟨h.len, h.cap, h.big, h.dig, ?_⟩
  rcases h.cells with h1 | ⟨g', off, h1, h2⟩
  · exact .inl h1
  · refine .inr ⟨g', off, h1, fun j hj => hg.cell (h2 j hj) ?_⟩
    simp only [Option.some.injEq, Addr.mk.injEq] at h1
    obtain ⟨rfl, _⟩ := h1
    exact hne
theorem Try.infoSl : (Try.prog.info? 24).map (fun i => (i.zero, i.size, i.bytes)) = some (some (.slice none 0 0), 1, 24) := by kernel_rfl
theorem cell_new1 (w : World) (v : Value) (ty : TypeId) : ∀ j u, [v][j]? = some u → (w.alloc (.cells #[v] ty)).cell? ((⟨w.heap.size, 0, none⟩ : Addr).add j) = some u := by
  intro j u h
  match j with
  | 0 => simp at h; subst h; simp [Addr.add]
def Cps (w : World) (g : Nat) (js its : List It) : Prop := js.map It.xs = its.map It.xs ∧ js.map It.a = its.map It.a ∧ ∀ t ∈ js, (∃ b, t.p = some ⟨b, 0, none⟩ ∧ b ≠ g) ∧ At w t.p t.n t.c t.xs ∧ t.n ≤ 17592186044416 ∧ t.a = valB B64 t.xs
theorem Cps.below {w w' : World} {g : Nat} {js its : List It} (h : Cps w g js its) (hb : Below w.heap.size w w') : Cps w' g js its := ⟨h.1, h.2.1, fun t ht => ⟨(h.2.2 t ht).1, (h.2.2 t ht).2.1.below hb, (h.2.2 t ht).2.2⟩⟩
theorem Cps.grow {w w' : World} {g : Nat} {js its : List It} (h : Cps w g js its) (hg : w.grownBy w' (some g)) : Cps w' g js its := ⟨h.1, h.2.1, fun t ht => by
  obtain ⟨⟨b, h1, h2⟩, h3, h4⟩ := h.2.2 t ht
  refine ⟨⟨b, h1, h2⟩, ?_, h4⟩
  rw [h1] at h3 ⊢
  exact h3.grow hg (fun e => h2 (Option.some.inj e))⟩
theorem own_lt {w : World} {B g k N : Nat} {e : TypeId} {xs : List Value} (h : w.ownsRow B e 1 (.slice (some ⟨g, 0, none⟩) k N) k xs) : g < w.heap.size := by
  rcases h.2 with ⟨h2, _⟩ | ⟨g', cap, cur, h2, h3, h4, h5⟩
  · cases h2
  · simp only [Value.slice.injEq, Option.some.injEq, Addr.mk.injEq] at h2
    rw [h2.1.1]
    exact (Array.getElem?_eq_some_iff.1 h4).1
theorem own_ls {w : World} {B g k N : Nat} {js its : List It} (h : w.ownsRow B 24 1 (.slice (some ⟨g, 0, none⟩) k N) k (js.map itv)) (hc : Cps w g js its) (hl : k ≤ N) (hN : N ≤ maxLen) : LsA w (some ⟨g, 0, none⟩) k N js := by
  have hjl : js.length = k := by have := h.1; rw [List.length_map] at this; omega
  refine ⟨hjl, hl, hN, .inr ⟨g, 0, rfl, fun j hj => ?_⟩, fun t ht => (hc.2.2 t ht).2⟩
  rw [Nat.zero_add, h.cellAt j (by omega), List.getElem?_map, List.getElem?_eq_getElem hj]
  rfl
theorem Cps.snoc {w : World} {g : Nat} {js its : List It} {t u : It} (h : Cps w g js its) (hx : t.xs = u.xs) (ha : t.a = u.a) (hp : ∃ b, t.p = some ⟨b, 0, none⟩ ∧ b ≠ g) (hA : At w t.p t.n t.c t.xs ∧ t.n ≤ 17592186044416 ∧ t.a = valB B64 t.xs) : Cps w g (js ++ [t]) (its ++ [u]) := by
  refine ⟨by rw [List.map_append, List.map_append, h.1, List.map_singleton, List.map_singleton, hx], by rw [List.map_append, List.map_append, h.2.1, List.map_singleton, List.map_singleton, ha], fun s hs => ?_⟩
  rcases List.mem_append.1 hs with h1 | h1
  · exact h.2.2 s h1
  · rw [List.mem_singleton.1 h1]; exact ⟨hp, hA⟩
theorem ownB {w w' : World} {B g k N : Nat} {e : TypeId} {xs : List Value} (h : w.ownsRow B e 1 (.slice (some ⟨g, 0, none⟩) k N) k xs) (hb : Below w.heap.size w w') : w'.ownsRow B e 1 (.slice (some ⟨g, 0, none⟩) k N) k xs := by
  refine ⟨h.1, ?_⟩
  rcases h.2 with h2 | ⟨g, cap, cur, h2, h3, h4, h5⟩
  · exact .inl h2
  · have hg : g < w.heap.size := by
      rcases Nat.lt_or_ge g w.heap.size with h6 | h6
      · exact h6
      · rw [Array.getElem?_eq_none h6] at h4; cases h4
    exact .inr ⟨g, cap, cur, h2, h3, (hb.block _ hg).trans h4, h5⟩
theorem lists_ok {P : Option Addr} {N C : Nat} {its : List It} {w : World} (h : LsA w P N C its) (hN : N ≤ 5864062014805) :
    Calls Try.prog 8 #[.slice P N C] w fun en w' => ∃ g js, en = .returned (.slice (some ⟨g, 0, none⟩) N N) ∧ w.heap.size ≤ g ∧ LsA w' (some ⟨g, 0, none⟩) N N js ∧ js.map It.xs = its.map It.xs ∧ js.map It.a = its.map It.a ∧ Below w.heap.size w w' := by
  obtain ⟨i0, hi, hz0, hz1, hz2⟩ := info_parts Try.infoSl
  have H : Hid (LsA w P N C its) := h
  have HLN : Hid (its.length = N) := h.len
  have cap := h.cap; have big := h.big
  unfold maxLen at big
  clear h
  go_enter Try.func8, Try.ntmps8
  go_wp2_with (at_make; refine wpList_make_own _ rfl _ _ 22 rfl w.heap.size 24 i0 (.slice none 0 0) 1 Try.underlying22 hi hz0 hz1 _ _ _ N rfl rfl (by omega) (by rw [hz2]; omega) (by unfold maxLen; omega) (Nat.le_refl _) ?_; intro w1 hown hgrow)
  have hbw : Below w.heap.size w w1 := (Below.refl _ _).grown hgrow (Nat.le_refl _) (fun k hk => by cases hk)
  have OW : Hid (w1.ownsRow w.heap.size 24 1 (.slice (some ⟨w.heap.size, 0, none⟩) 0 N) 0 []) := hown
  obtain ⟨g, hg⟩ : ∃ g, g = w.heap.size := ⟨_, rfl⟩
  have HG : Hid (w.heap.size ≤ g) := by rw [hg]; exact Nat.le_refl _
  rw [← hg] at OW
  rw [← hg]
  have hsz : w.heap.size ≤ w1.heap.size := hgrow.size
  clear hown hgrow
  clear hg hsz
  go_loopg [3, 11] N (fun gk mv iv wr => ∃ (k : Nat) (js : List It), k + gk = N ∧ iv = .int .i64 k ∧ mv = .slice (some ⟨g, 0, none⟩) k N ∧ wr.ownsRow g 24 1 (.slice (some ⟨g, 0, none⟩) k N) k (js.map itv) ∧ Cps wr g js (its.take k) ∧ Below w.heap.size w wr)
  case atStart => exact ⟨0, [], by omega, rfl, rfl, OW.out, ⟨rfl, rfl, fun t h => by cases h⟩, hbw⟩
  case round =>
    obtain ⟨k, js, hkg, rfl, rfl, xo, xc, hbr⟩ := hrel
    clear OW hbw
    have OW : Hid (wr.ownsRow g 24 1 (.slice (some ⟨g, 0, none⟩) k N) k (js.map itv)) := xo
    have CP : Hid (Cps wr g js (its.take k)) := xc
    have hbw := hbr
    clear xo xc hbr
    cases gk with
    | zero =>
      obtain rfl : k = N := by omega
      have hnk : ¬ (k : Int) < (k : Int) := by omega
      go_wp2_with fail
      go_ret
      have CP2 := CP.out
      rw [List.take_of_length_le (by rw [HLN.out]; omega)] at CP2
      exact ⟨g, rfl, HG.out, js, own_ls OW.out CP2 (Nat.le_refl _) (by unfold maxLen; omega), CP2.1, CP2.2.1, hbw⟩
    | succ gg =>
      have hk : k < its.length := by rw [HLN.out]; omega
      obtain ⟨gs, off, rfl, hc⟩ := H.out.cells.resolve_left (by omega)
      have hcx := (hbw.cell (p := ⟨gs, off + k, none⟩) (World.block_lt_of_cell? w _ (hc k hk))).trans (hc k hk)
      have hAt := H.out.ats its[k] (List.getElem_mem hk)
      have AT : Hid (At wr its[k].p its[k].n its[k].c its[k].xs ∧ its[k].n ≤ 17592186044416 ∧ its[k].a = valB B64 its[k].xs) := ⟨hAt.1.below hbw, hAt.2⟩
      have htk : its.take (k + 1) = its.take k ++ [its[k]] := List.take_succ_eq_append_getElem hk
      have HTK : Hid (its.take (k + 1) = its.take k ++ [its[k]]) := htk
      have hkk : (k : Int) < (N : Int) := by omega
      have hn17 := hAt.2.1
      clear hc hAt htk
      obtain ⟨u, hu⟩ : ∃ u, u = its[k] := ⟨_, rfl⟩
      rw [← hu] at AT HTK hcx hn17
      clear hu
      obtain ⟨tp, tn, tc, txs, ta⟩ := u
      simp only at hcx hn17
      go_wp2_with fail
      refine (twin_any AT.out.1 (by omega)).mono ?_
      rintro e v1 ⟨gt, rfl, hgt, hblk, hb1⟩
      have AT1 : Hid (At v1 (some ⟨gt, 0, none⟩) tn tn txs) := hblk.at_ AT.out.1.dig AT.out.1.len (by unfold maxLen; omega)
      have HGT : Hid (gt ≠ g) := by have := own_lt OW.out; show gt ≠ g; omega
      clear hblk hgt
      have OW2 : Hid (v1.ownsRow g 24 1 (.slice (some ⟨g, 0, none⟩) k N) k (js.map itv)) := ownB OW.out hb1
      clear OW
      replace CP : Hid (Cps v1 g js (its.take k)) := CP.out.below hb1
      replace hbw := Below.on hbw hb1
      clear hb1
      have hb6 : Below v1.heap.size v1 (v1.alloc (.cells #[.slice (some ⟨gt, 0, none⟩) tn tn] 24)) := below1 v1 _
      have OWA : Hid ((v1.alloc (.cells #[.slice (some ⟨gt, 0, none⟩) tn tn] 24)).ownsRow g 24 1 (.slice (some ⟨g, 0, none⟩) k N) k (js.map itv)) := ownB OW2.out hb6
      have CPA : Hid (Cps (v1.alloc (.cells #[.slice (some ⟨gt, 0, none⟩) tn tn] 24)) g js (its.take k)) := CP.out.below hb6
      have AT6 : Hid (At (v1.alloc (.cells #[.slice (some ⟨gt, 0, none⟩) tn tn] 24)) (some ⟨gt, 0, none⟩) tn tn txs) := AT1.out.below hb6
      have hbwa := Below.on hbw hb6
      clear hb6 OW2 CP hbw hcx
      go_wp2_with (at_builtin; refine wpList_append_own_spare _ rfl _ _ 22 rfl g 24 i0 1 Try.underlying22 hi hz1 g k N (js.map itv) rfl OWA.out ⟨v1.heap.size, 0, none⟩ 1 1 [.slice (some ⟨gt, 0, none⟩) tn tn] rfl rfl (cell_new1 _ _ _) (by intro u hu; simp at hu; subst hu; rfl) (by omega) ?_; intro w6 hown6 hgr6)
      go_roundg gg
      case measure => omega
      case rel =>
        refine ⟨k + 1, js ++ [⟨some ⟨gt, 0, none⟩, tn, tn, txs, ta⟩], by omega, by go_num, rfl, by rw [List.map_append]; exact hown6, ?_, ?_⟩
        · rw [HTK.out]; exact (CPA.out.grow hgr6).snoc rfl rfl ⟨gt, rfl, HGT.out⟩ ⟨AT6.out.grow hgr6 (fun e => HGT.out (Option.some.inj e)), AT.out.2⟩
        · exact hbwa.grown hgr6 hbwa.size (fun b hb => by cases hb; exact HG.out)
theorem lit_at32w (w : World) (x y : Nat) (hx : x < B32) (hy : y < B32) : At32 (w.alloc (.cells #[V x, V y] 63)) (some ⟨w.heap.size, 0, none⟩) 2 2 [x, y] := by
  refine ⟨rfl, Nat.le_refl _, by decide, ?_, .inr ⟨w.heap.size, 0, rfl, ?_⟩⟩
  · intro z hz
    simp at hz
    rcases hz with rfl | rfl <;> assumption
  · intro j hj
    match j, hj with
    | 0, _ => exact World.cell?_alloc_new ..
    | 1, _ => exact World.cell?_alloc_new ..
theorem rword (x : Nat) (hx : x < B64) (w : World) : Calls Try.prog 29 #[U x] w fun e w' => ∃ g zs, e = .returned (.slice (some ⟨g, 0, none⟩) zs.length zs.length) ∧ zs.length ≤ 2 ∧ At32 w' (some ⟨g, 0, none⟩) zs.length zs.length zs ∧ Nf B32 zs x ∧ Below w.heap.size w w' := by
  obtain ⟨lo, hlo⟩ : ∃ lo, lo = x % B32 := ⟨_, rfl⟩
  obtain ⟨hi, hhi⟩ : ∃ hi, hi = x / B32 := ⟨_, rfl⟩
  have hlb : lo < B32 := by rw [hlo]; exact Nat.mod_lt _ B32_pos
  have hhb : hi < B32 := by rw [hhi]; refine Nat.div_lt_of_lt_mul ?_; rw [B32_two]; exact hx
  have e1 : bits .and .u64 (x : Int) 4294967295 = (lo : Int) := by rw [hlo, B32_eq]; exact and32 x (by rw [← B64_eq]; exact hx)
  have e2 : (x : Int) / 4294967296 = (hi : Int) := by rw [hhi, B32_eq]; exact div32 x
  have e3 : IntKind.u32.wrap (lo : Int) = (lo : Int) := wrap32 lo hlb
  have e4 : IntKind.u32.wrap (hi : Int) = (hi : Int) := wrap32 hi hhb
  have HV : Hid (valB B32 [lo, hi] = x) := by show _ = _; simp only [valB, hlo, hhi]; have := Nat.mod_add_div x B32; omega
  have HLB : Hid (lo < B32 ∧ hi < B32) := ⟨hlb, hhb⟩
  clear hlo hhi hlb hhb
  go_enter Try.func29, Try.ntmps29
  go_wp2_with fail
  refine (rnorm_any (lit_at32w w lo hi HLB.out.1 HLB.out.2) (by omega)).mono ?_
  rintro e w1 ⟨g, rfl, hg, hb, hbl⟩
  have hl := trimL_length_le [lo, hi]
  have hA : At32 w1 (some ⟨g, 0, none⟩) (trimL [lo, hi]).length (trimL [lo, hi]).length (trimL [lo, hi]) := hb.at_ (Dig.trimL (lit_at32w w lo hi HLB.out.1 HLB.out.2).dig) rfl (by unfold maxLen; simp at hl; omega)
  have hN : Nf B32 (trimL [lo, hi]) x := ⟨Dig.trimL (lit_at32w w lo hi HLB.out.1 HLB.out.2).dig, Top_trimL _, by rw [valB_trimL]; exact HV.out⟩
  have HH : Hid (At32 w1 (some ⟨g, 0, none⟩) (trimL [lo, hi]).length (trimL [lo, hi]).length (trimL [lo, hi]) ∧ Nf B32 (trimL [lo, hi]) x ∧ (trimL [lo, hi]).length ≤ 2) := ⟨hA, hN, by simpa using hl⟩
  have hbw := Below.on (below1 w _) hbl
  generalize trimL [lo, hi] = zs at *
  clear hA hN hl hb hbl hg
  go_wp2_with fail
  go_ret
  exact ⟨g, zs, rfl, HH.out.2.2, HH.out.1, HH.out.2.1, hbw⟩
def PrIs (its : List It) (us : List Nat) (f : Int) : Prop := ((∃ t ∈ its, formB t.xs = false) ∧ us = [] ∧ f = 2) ∨ ((∀ t ∈ its, formB t.xs = true) ∧ DocIs (prodI its) us f)
theorem DocIs.inj2 {v : Nat} {us us' : List Nat} {f f' : Int} (h : DocIs v us f) (k : DocIs v us' f') : us = us' ∧ f = f' := by
  rcases h with ⟨h1, h2, rfl⟩ | ⟨h1, rfl, rfl⟩ <;> rcases k with ⟨k1, k2, rfl⟩ | ⟨k1, rfl, rfl⟩
  · exact ⟨h2.inj B64_one k2, rfl⟩
  · omega
  · omega
  · exact ⟨rfl, rfl⟩
theorem PrIs.inj {its : List It} {us us' : List Nat} {f f' : Int} (h : PrIs its us f) (k : PrIs its us' f') : us = us' ∧ f = f' := by
  rcases h with ⟨⟨t, h1, h2⟩, rfl, rfl⟩ | ⟨h1, h2⟩ <;> rcases k with ⟨⟨u, k1, k2⟩, rfl, rfl⟩ | ⟨k1, k2⟩
  · exact ⟨rfl, rfl⟩
  · rw [k1 t h1] at h2; cases h2
  · rw [h1 u k1] at k2; cases k2
  · exact h2.inj2 k2
theorem PrIs.cast {its js : List It} {us : List Nat} {f : Int} (h : PrIs js us f) (hx : js.map It.xs = its.map It.xs) (ha : js.map It.a = its.map It.a) : PrIs its us f := by
  have e1 : ∀ (l : List It), prodI l = (l.map It.a).foldr (· * ·) 1 := fun l => by induction l with | nil => rfl | cons a l ih => simp only [prodI, ih, List.map_cons, List.foldr_cons]
  have e2 : ∀ (l : List It) (b : Bool), (∃ t ∈ l, formB t.xs = b) ↔ ∃ x ∈ l.map It.xs, formB x = b := fun l b => ⟨fun ⟨t, h1, h2⟩ => ⟨t.xs, List.mem_map_of_mem h1, h2⟩, fun ⟨x, h1, h2⟩ => by obtain ⟨t, h3, rfl⟩ := List.mem_map.1 h1; exact ⟨t, h3, h2⟩⟩
  have e3 : ∀ (l : List It) (b : Bool), (∀ t ∈ l, formB t.xs = b) ↔ ∀ x ∈ l.map It.xs, formB x = b := fun l b => by simp
  unfold PrIs at *
  rw [e1, e2, e3, hx, ha, ← e1, ← e2, ← e3] at h
  exact h
theorem bad_ex {its : List It} (h : ¬ ∀ t ∈ its, formB t.xs = true) : ∃ t ∈ its, formB t.xs = false := by
  induction its with
  | nil => exact absurd (fun t ht => by cases ht) h
  | cons a l ih =>
    cases e : formB a.xs with
    | false => exact ⟨a, by simp, e⟩
    | true =>
      obtain ⟨t, ht, h2⟩ := ih (fun hl => h (fun t ht => by rcases List.mem_cons.1 ht with rfl | h1; exact e; exact hl t h1))
      exact ⟨t, by simp [ht], h2⟩
theorem all_snoc {its : List It} {k : Nat} (hk : k < its.length) (h : ∀ i (hi : i < its.length), i < k → formB its[i].xs = true) (hf : formB its[k].xs = true) : ∀ i (hi : i < its.length), i < k + 1 → formB its[i].xs = true := by
  intro i hi h1
  rcases Nat.lt_or_ge i k with h2 | h2
  · exact h i hi h2
  · obtain rfl : i = k := by omega
    exact hf
theorem not_all {its : List It} {N : Nat} (hl : its.length = N) (hb : ∃ t ∈ its, formB t.xs = false) (h : ∀ i (hi : i < its.length), i < N → formB its[i].xs = true) : False := by
  obtain ⟨t, ht, h2⟩ := hb
  obtain ⟨i, hi, rfl⟩ := List.getElem_of_mem ht
  rw [h i hi (by omega)] at h2
  cases h2
theorem product_bad {P : Option Addr} {N C : Nat} {its : List It} {w : World} (h : LsA w P N C its) (hbad : ∃ t ∈ its, formB t.xs = false) :
    Calls Try.prog 7 #[.slice P N C] w fun en w' => en = .returned (.tuple #[.slice none 0 0, .int .i64 2]) ∧ Below w.heap.size w w' := by
  have H : Hid (LsA w P N C its) := h
  have HLN : Hid (its.length = N) := h.len
  have HBD : Hid (∃ t ∈ its, formB t.xs = false) := hbad
  have cap := h.cap; have big := h.big
  unfold maxLen at big
  clear h hbad
  go_enter Try.func7, Try.ntmps7
  go_wp2_with fail
  go_loopg [4, 12] N (fun gk nv iv wr => ∃ (k : Nat) (b : Bool), k + gk = N ∧ iv = .int .i64 k ∧ nv = .bool b ∧ (∀ i (hi : i < its.length), i < k → formB its[i].xs = true) ∧ Below w.heap.size w wr)
  case atStart => exact ⟨0, false, by omega, rfl, rfl, fun i _ hi => by omega, Below.refl _ _⟩
  case round =>
    obtain ⟨k, b, hkg, rfl, rfl, hfs, hbw⟩ := hrel
    have HFS : Hid (∀ i (hi : i < its.length), i < k → formB its[i].xs = true) := hfs
    clear hfs
    cases gk with
    | zero =>
      obtain rfl : k = N := by omega
      exact absurd (not_all HLN.out HBD.out HFS.out) id
    | succ gg =>
      have hk : k < its.length := by rw [HLN.out]; omega
      obtain ⟨gs, off, rfl, hc⟩ := H.out.cells.resolve_left (by omega)
      have hcx := (hbw.cell (p := ⟨gs, off + k, none⟩) (World.block_lt_of_cell? w _ (hc k hk))).trans (hc k hk)
      have hAt := H.out.ats its[k] (List.getElem_mem hk)
      have AT : Hid (At wr its[k].p its[k].n its[k].c its[k].xs ∧ its[k].n ≤ 17592186044416 ∧ its[k].a = valB B64 its[k].xs) := ⟨hAt.1.below hbw, hAt.2⟩
      obtain ⟨fb, hfb⟩ : ∃ x, x = formB its[k].xs := ⟨_, rfl⟩
      have HFB : Hid (fb = formB its[k].xs) := hfb
      have HF2 : Hid (fb = true → ∀ i (hi : i < its.length), i < k + 1 → formB its[i].xs = true) := fun he => all_snoc hk HFS.out (by rw [← HFB.out, he])
      clear hfb HFS
      have hkk : (k : Int) < (N : Int) := by omega
      have hn17 := hAt.2.1
      clear hc hAt
      generalize its[k].p = tp at *
      generalize its[k].n = tn at *
      generalize its[k].c = tc at *
      generalize its[k].xs = txs at *
      generalize its[k].a = ta at *
      go_wp2_with fail
      refine (form_any AT.out.1).mono ?_
      rintro e w' ⟨rfl, hw⟩
      obtain rfl := hw.symm
      clear hw
      rw [← HFB.out]
      cases fb
      · go_wp2_with fail
        go_ret2
        exact ⟨rfl, hbw⟩
      · cases b
        · by_cases ht0 : tn = 0
          · subst ht0
            go_wp2_with fail
            go_roundg gg
            case measure => omega
            case rel => exact ⟨k + 1, true, by omega, by go_num, rfl, HF2.out (by simp), hbw⟩
          · have ht0' : ((tn : Int) == 0) = false := by simp; omega
            go_wp2_with fail
            go_roundg gg
            case measure => omega
            case rel => exact ⟨k + 1, false, by omega, by go_num, rfl, HF2.out (by simp), hbw⟩
        · go_wp2_with fail
          go_roundg gg
          case measure => omega
          case rel => exact ⟨k + 1, true, by omega, by go_num, rfl, HF2.out (by simp), hbw⟩
theorem product_all {P : Option Addr} {N C : Nat} {its : List It} {w : World} (h : LsA w P N C its) :
    Calls Try.prog 7 #[.slice P N C] w fun en w' => ∃ p m us f, en = .returned (.tuple #[.slice p m m, .int .i64 f]) ∧ At w' p m m us ∧ PrIs its us f ∧ Below w.heap.size w w' := by
  by_cases hf : ∀ t ∈ its, formB t.xs = true
  · refine (product_any (h.nums hf)).mono ?_
    rintro e w' ⟨ha, hb⟩
    rcases ha with ⟨h1, p, m, zs, rfl, o1, n1, l1⟩ | ⟨h1, rfl⟩
    · exact ⟨p, m, zs, 0, rfl, o1.at_ l1, .inr ⟨hf, .inl ⟨h1, n1, rfl⟩⟩, hb⟩
    · exact ⟨none, 0, [], 5, rfl, At.empty _ none 0 (Nat.zero_le _), .inr ⟨hf, .inr ⟨h1, rfl, rfl⟩⟩, hb⟩
  · refine (product_bad h (bad_ex hf)).mono ?_
    rintro e w' ⟨rfl, hb⟩
    exact ⟨none, 0, [], 2, rfl, At.empty _ none 0 (Nat.zero_le _), .inl ⟨bad_ex hf, rfl, rfl⟩, hb⟩
def bsum : List It → Nat
  | [] => 0
  | t :: ts => (bitsN t.a - 1) + bsum ts
theorem bsum_append (xs ys : List It) : bsum (xs ++ ys) = bsum xs + bsum ys := by
  induction xs with
  | nil => simp [bsum]
  | cons x xs ih => simp only [List.cons_append, bsum, ih, Nat.add_assoc]
theorem bsum_take (its : List It) (k : Nat) : bsum (its.take k) ≤ bsum its := by
  have h := bsum_append (its.take k) (its.drop k)
  rw [List.take_append_drop] at h
  omega
theorem bsum_succ {its : List It} {k : Nat} (h : k < its.length) : bsum (its.take (k + 1)) = bsum (its.take k) + (bitsN its[k].a - 1) := by
  rw [take_succ_it its k h, bsum_append]
  simp [bsum]
theorem pow_bsum {l : List It} (h : ∀ t ∈ l, 0 < t.a) : 2 ^ bsum l ≤ prodI l := by
  induction l with
  | nil => simp [bsum, prodI]
  | cons t ts ih =>
    simp only [bsum, prodI]
    rw [Nat.pow_add]
    exact Nat.mul_le_mul (bitsN_le _ (by have := h t (by simp); omega)) (ih (fun u hu => h u (by simp [hu])))
theorem prod_pow {l : List It} (h : ∀ t ∈ l, 0 < t.a) : prodI l ≤ 2 ^ (2 * bsum l) := by
  induction l with
  | nil => simp [bsum, prodI]
  | cons t ts ih =>
    simp only [bsum, prodI]
    rw [Nat.mul_add, Nat.pow_add]
    refine Nat.mul_le_mul ?_ (ih (fun u hu => h u (by simp [hu])))
    have h1 := bitsN_lt t.a
    have h0 := h t (by simp)
    rcases Nat.lt_or_ge (bitsN t.a) 2 with h2 | h2
    · have h3 : t.a < 2 ^ 1 := Nat.lt_of_lt_of_le h1 (Nat.pow_le_pow_right (by decide) (by omega))
      have h4 := Nat.two_pow_pos (2 * (bitsN t.a - 1))
      omega
    · exact Nat.le_trans (Nat.le_of_lt h1) (Nat.pow_le_pow_right (by decide) (by omega))
theorem prod_take {its : List It} (k : Nat) (h : ∀ t ∈ its, 0 < t.a) : prodI (its.take k) ≤ 2 ^ (2 * bsum its) :=
  Nat.le_trans (prod_pow (fun t ht => h t (List.mem_of_mem_take ht))) (Nat.pow_le_pow_right (by decide) (Nat.mul_le_mul_left _ (bsum_take its k)))
theorem prod_len {zs : List Nat} {v S : Nat} (h : Nf B32 zs v) (hv : v ≤ 2 ^ (2 * S)) (hS : S ≤ 524288) : zs.length ≤ 40000 := by
  obtain ⟨k, hk⟩ : ∃ k, k = 40000 := ⟨_, rfl⟩
  rw [← hk]
  refine (h.len_le (by decide)).2 (Nat.lt_of_le_of_lt hv ?_)
  rw [show B32 = 2 ^ 32 from rfl, ← Nat.pow_mul]
  exact Nat.pow_lt_pow_right (by decide) (by omega)
theorem lim_bsum {its : List It} (h : ∀ t ∈ its, 0 < t.a) (hb : 524288 ≤ bsum its) : LIM ≤ prodI its := by
  obtain ⟨E, hE⟩ : ∃ E, E = 524288 := ⟨_, rfl⟩
  rw [LIM_tw E hE]
  exact Nat.le_trans (Nat.pow_le_pow_right (by decide) (by omega)) (pow_bsum h)
theorem bits_lim {xs : List Nat} (hd : Dig B64 xs) (hf : formB xs = true) : bitsN (valB B64 xs) ≤ 524288 := by
  have h1 := (nf_of_form hd hf).lim.1 ((formB_iff _).1 hf).1
  rcases Nat.eq_zero_or_pos (valB B64 xs) with h0 | h0
  · rw [h0, bitsN_zero]; omega
  · rcases Nat.lt_or_ge 524288 (bitsN (valB B64 xs)) with e | e
    · exfalso
      have h2 := bitsN_le (valB B64 xs) (by omega)
      obtain ⟨E, hE⟩ : ∃ E, E = 524288 := ⟨_, rfl⟩
      rw [LIM_tw E hE] at h1
      have h3 : (2:Nat) ^ E ≤ 2 ^ (bitsN (valB B64 xs) - 1) := Nat.pow_le_pow_right (by decide) (by omega)
      omega
    · exact e
def BS (its : List It) (k b : Nat) : Prop := (1 ≤ b ∧ b ≤ 524288 ∧ b = 1 + bsum (its.take k)) ∨ (524288 < b ∧ b ≤ 1048577 ∧ 524288 ≤ bsum (its.take k))
theorem BS.add {its : List It} {k b bb : Nat} (h : BS its k b) (hb : b ≤ 524288) (h4 : bb ≤ 524288) (h1 : bsum (its.take (k + 1)) = bsum (its.take k) + (bb - 1)) : BS its (k + 1) (b + (bb - 1)) := by
  unfold BS at h ⊢
  rw [h1]
  omega
theorem BS.skip {its : List It} {k b bb : Nat} (h : BS its k b) (hb : ¬ b ≤ 524288) (h1 : bsum (its.take (k + 1)) = bsum (its.take k) + (bb - 1)) : BS its (k + 1) b := by
  unfold BS at h ⊢
  rw [h1]
  omega
theorem form_pos {xs : List Nat} {n : Nat} (hd : Dig B64 xs) (hf : formB xs = true) (hl : xs.length = n) (h : n ≠ 0) : 0 < valB B64 xs := by
  rcases Nat.eq_zero_or_pos (valB B64 xs) with h0 | h0
  · have h1 := ((nf_of_form hd hf).zero_iff B64_one).2 h0
    rw [h1] at hl
    exact absurd hl.symm h
  · exact h0
theorem bits_pos {a : Nat} (h : 0 < a) : 1 ≤ bitsN a := by
  rcases Nat.eq_zero_or_pos (bitsN a) with h0 | h0
  · have h1 := bitsN_lt a
    rw [h0] at h1
    omega
  · exact h0
theorem docprod_bad {P : Option Addr} {N C : Nat} {its : List It} {w : World} (h : LsA w P N C its) (hbad : ∃ t ∈ its, formB t.xs = false) :
    Calls Try.prog 12 #[.slice P N C] w fun en w' => en = .returned (.tuple #[.slice none 0 0, .int .i64 2]) ∧ Below w.heap.size w w' := by
  have H : Hid (LsA w P N C its) := h
  have HLN : Hid (its.length = N) := h.len
  have HBD : Hid (_) := hbad
  have cap := h.cap; have big := h.big
  unfold maxLen at big
  clear h hbad
  go_enter Try.func12, Try.ntmps12
  go_wp2_with fail
  go_loopg [4] N (fun gk iv wr => ∃ (k : Nat), k + gk = N ∧ iv = .int .i64 k ∧ (∀ i (hi : i < its.length), i < k → formB its[i].xs = true) ∧ Below w.heap.size w wr)
  case atStart => exact ⟨0, by omega, rfl, fun i _ hi => by omega, Below.refl _ _⟩
  case round =>
    obtain ⟨k, hkg, rfl, hfs, hbw⟩ := hrel
    have HFS : Hid (∀ i (hi : i < its.length), i < k → formB its[i].xs = true) := hfs
    clear hfs
    cases gk with
    | zero =>
      obtain rfl : k = N := by omega
      exact absurd (not_all HLN.out HBD.out HFS.out) id
    | succ gg =>
      have hk : k < its.length := by rw [HLN.out]; omega
      obtain ⟨gs, off, rfl, hc⟩ := H.out.cells.resolve_left (by omega)
      have hcx := (hbw.cell (p := ⟨gs, off + k, none⟩) (World.block_lt_of_cell? w _ (hc k hk))).trans (hc k hk)
      have hAt := H.out.ats its[k] (List.getElem_mem hk)
      have AT : Hid (At wr its[k].p its[k].n its[k].c its[k].xs ∧ its[k].n ≤ 17592186044416 ∧ its[k].a = valB B64 its[k].xs) := ⟨hAt.1.below hbw, hAt.2⟩
      obtain ⟨fb, hfb⟩ : ∃ x, x = formB its[k].xs := ⟨_, rfl⟩
      have HFB : Hid (fb = formB its[k].xs) := hfb
      have HF2 : Hid (fb = true → ∀ i (hi : i < its.length), i < k + 1 → formB its[i].xs = true) := fun he => all_snoc hk HFS.out (by rw [← HFB.out, he])
      clear hfb HFS
      have hkk : (k : Int) < (N : Int) := by omega
      have hk0 : (0 : Int) ≤ (k : Int) ∧ (k : Int) < (N : Int) := by omega
      have hn17 := hAt.2.1
      clear hc hAt
      generalize its[k].p = tp at *
      generalize its[k].n = tn at *
      generalize its[k].c = tc at *
      generalize its[k].xs = txs at *
      generalize its[k].a = ta at *
      go_wp2_with fail
      refine (docform_any AT.out.1).mono ?_
      rintro e w' ⟨rfl, hw⟩
      obtain rfl := hw.symm
      clear hw
      rw [← HFB.out]
      cases fb
      · go_wp2_with fail
        go_ret2
        exact ⟨rfl, hbw⟩
      · go_wp2_with fail
        go_roundg gg
        case measure => omega
        case rel => exact ⟨k + 1, by omega, by go_num, HF2.out (by simp), hbw⟩
theorem docprod_good {P : Option Addr} {N C : Nat} {its : List It} {w : World} (h : LsA w P N C its) (hbad : ∀ t ∈ its, formB t.xs = true) :
    Calls Try.prog 12 #[.slice P N C] w fun en w' => ∃ q k M us f, en = .returned (.tuple #[.slice q k M, .int .i64 f]) ∧ At w' q k M us ∧ DocIs (prodI its) us f ∧ Below w.heap.size w w' := by
  have H : Hid (LsA w P N C its) := h
  have HLN : Hid (its.length = N) := h.len
  have HBD : Hid (_) := hbad
  have cap := h.cap; have big := h.big
  unfold maxLen at big
  clear h hbad
  go_enter Try.func12, Try.ntmps12
  go_wp2_with fail
  go_loopg [4] N (fun gk iv wr => ∃ (k : Nat), k + gk = N ∧ iv = .int .i64 k ∧ Below w.heap.size w wr)
  case atStart => exact ⟨0, by omega, rfl, Below.refl _ _⟩
  case round =>
    obtain ⟨k, hkg, rfl, hbw⟩ := hrel
    cases gk with
    | succ gg =>
      have hk : k < its.length := by rw [HLN.out]; omega
      obtain ⟨gs, off, rfl, hc⟩ := H.out.cells.resolve_left (by omega)
      have hcx := (hbw.cell (p := ⟨gs, off + k, none⟩) (World.block_lt_of_cell? w _ (hc k hk))).trans (hc k hk)
      have hAt := H.out.ats its[k] (List.getElem_mem hk)
      have AT : Hid (At wr its[k].p its[k].n its[k].c its[k].xs ∧ its[k].n ≤ 17592186044416 ∧ its[k].a = valB B64 its[k].xs) := ⟨hAt.1.below hbw, hAt.2⟩
      have hfb := HBD.out its[k] (List.getElem_mem hk)
      have hkk : (k : Int) < (N : Int) := by omega
      have hk0 : (0 : Int) ≤ (k : Int) ∧ (k : Int) < (N : Int) := by omega
      have hn17 := hAt.2.1
      clear hc hAt
      generalize its[k].p = tp at *
      generalize its[k].n = tn at *
      generalize its[k].c = tc at *
      generalize its[k].xs = txs at *
      generalize its[k].a = ta at *
      go_wp2_with fail
      refine (docform_any AT.out.1).mono ?_
      rintro e w' ⟨rfl, hw⟩
      obtain rfl := hw.symm
      clear hw
      rw [hfb]
      go_wp2_with fail
      go_roundg gg
      case measure => omega
      case rel => exact ⟨k + 1, by omega, by go_num, hbw⟩
    | zero =>
      obtain rfl : N = k := by omega
      have hnk : ¬ (N : Int) < (N : Int) := by omega
      go_wp2_with fail
      clear hnk hkg
      have hbw1 := hbw
      clear hbw
      go_loopg [5, 6] N (fun gk bv iv wr => ∃ (k b : Nat), k + gk = N ∧ iv = .int .i64 k ∧ bv = .int .i64 b ∧ BS its k b ∧ (∀ t ∈ its.take k, 0 < t.a) ∧ Below w.heap.size w wr)
      case atStart => exact ⟨0, 1, by omega, rfl, rfl, .inl ⟨by omega, by omega, rfl⟩, fun t ht => by simp at ht, hbw1⟩
      case round =>
        obtain ⟨k, b, hkg, rfl, rfl, hbs, hpos, hbw⟩ := hrel
        clear hbw1
        have HBS : Hid (BS its k b ∧ ∀ t ∈ its.take k, 0 < t.a) := ⟨hbs, hpos⟩
        have hb9 : b ≤ 1048577 := by rcases hbs with h | h <;> omega
        clear hbs hpos
        cases gk with
        | succ gg =>
          have hk : k < its.length := by rw [HLN.out]; omega
          obtain ⟨gs, off, rfl, hc⟩ := H.out.cells.resolve_left (by omega)
          have hcx := (hbw.cell (p := ⟨gs, off + k, none⟩) (World.block_lt_of_cell? w _ (hc k hk))).trans (hc k hk)
          have hAt := H.out.ats its[k] (List.getElem_mem hk)
          have AT : Hid (At wr its[k].p its[k].n its[k].c its[k].xs ∧ its[k].n ≤ 17592186044416 ∧ its[k].a = valB B64 its[k].xs) := ⟨hAt.1.below hbw, hAt.2⟩
          have hfb := HBD.out its[k] (List.getElem_mem hk)
          obtain ⟨bb, hbb⟩ : ∃ x, x = bitsN its[k].a := ⟨_, rfl⟩
          have HZ : Hid (its[k].a = 0 → prodI its = 0) := fun h0 => prodI_zero (List.getElem_mem hk) h0
          have HST : Hid (0 < its[k].a → (∀ t ∈ its.take (k + 1), 0 < t.a) ∧ bsum (its.take (k + 1)) = bsum (its.take k) + (bb - 1)) := fun h0 => ⟨fun t ht => by rw [take_succ_it its k hk] at ht; rcases List.mem_append.1 ht with h | h; exact HBS.out.2 t h; rw [List.mem_singleton.1 h]; exact h0, by rw [bsum_succ hk, hbb]⟩
          have HBB : Hid (bb = bitsN its[k].a ∧ bb ≤ 524288) := ⟨hbb, by rw [hbb, (H.out.ats its[k] (List.getElem_mem hk)).2.2]; exact bits_lim (H.out.ats its[k] (List.getElem_mem hk)).1.dig hfb⟩
          have HFB : Hid (formB its[k].xs = true) := hfb
          clear hbb hfb
          have hkk : (k : Int) < (N : Int) := by omega
          have hk0 : (0 : Int) ≤ (k : Int) ∧ (k : Int) < (N : Int) := by omega
          have hn17 := hAt.2.1
          clear hc hAt
          generalize its[k].p = tp at *
          generalize its[k].n = tn at *
          generalize its[k].c = tc at *
          generalize its[k].xs = txs at *
          generalize its[k].a = ta at *
          by_cases ht0 : tn = 0
          · subst ht0
            have HA0 : Hid (ta = 0) := by have h1 := AT.out.1.len; rw [List.length_eq_zero_iff] at h1; show ta = 0; rw [AT.out.2.2, h1]; rfl
            go_wp2_with fail
            go_ret2
            exact ⟨none, 0, 0, [], 0, rfl, At.empty _ none 0 (Nat.zero_le _), by rw [HZ.out HA0.out]; exact .inl ⟨Nat.lt_trans Nat.zero_lt_one one_lim, Nf.nil _, rfl⟩, hbw⟩
          · have ht0' : ((tn : Int) == 0) = false := by simp; omega
            have HA0 : Hid (0 < ta) := by rw [AT.out.2.2]; exact form_pos AT.out.1.dig HFB.out AT.out.1.len ht0
            have hbp : 1 ≤ bb := by rw [HBB.out.1]; exact bits_pos HA0.out
            by_cases hb : b ≤ 524288
            · have hb1 : decide ((b : Int) ≤ 524288) = true := decide_eq_true (by omega)
              have hb2 : decide (b ≤ 524288) = true := decide_eq_true hb
              go_wp2_with fail
              refine (from_any AT.out.1 hn17).mono ?_
              rintro e v1 ⟨g1, zs, rfl, hg1, hblk, hnf, hzl, hb1x⟩
              have A1 : Hid (At32 v1 (some ⟨g1, 0, none⟩) zs.length zs.length zs ∧ Nf B32 zs ta ∧ zs.length ≤ 2 * tn) := ⟨hblk.at_ hnf.dig rfl (by unfold maxLen; omega), by rw [AT.out.2.2]; exact hnf, hzl⟩
              clear hblk hnf hzl hg1
              replace hbw := Below.on hbw hb1x
              clear hb1x
              go_wp2_with fail
              refine (rbits_any A1.out.1 A1.out.2.1 (by have := A1.out.2.2; omega)).mono ?_
              rintro e w' ⟨rfl, hw⟩
              obtain rfl := hw.symm
              clear hw
              rw [← HBB.out.1]
              have wx : wrap64 ((bb : Int) - 1) = ((bb - 1 : Nat) : Int) := by have := HBB.out.2; simp only [wrap64]; omega
              have wy : wrap64 ((b : Int) + ((bb - 1 : Nat) : Int)) = ((b + (bb - 1) : Nat) : Int) := by have := HBB.out.2; simp only [wrap64]; omega
              have HB5 : Hid (b ≤ 524288) := hb
              clear hb1 hb2
              go_wp2_with fail
              go_roundg gg
              case measure => omega
              case rel =>
                have h1 := HST.out HA0.out
                have h2 := HBS.out.1
                have h3 := HB5.out
                have h4 := HBB.out.2
                refine ⟨k + 1, b + (bb - 1), by omega, by go_num, by rw [wy], h2.add h3 h4 h1.2, h1.1, hbw⟩
            · have hb1 : decide ((b : Int) ≤ 524288) = false := decide_eq_false (by omega)
              have hb2 : decide (b ≤ 524288) = false := decide_eq_false hb
              have HB5 : Hid (¬ b ≤ 524288) := hb
              go_wp2_with fail
              go_roundg gg
              case measure => omega
              case rel =>
                have h1 := HST.out HA0.out
                have h2 := HBS.out.1
                have h3 := HB5.out
                refine ⟨k + 1, b, by omega, by go_num, rfl, h2.skip h3 h1.2, h1.1, hbw⟩
        | zero =>
          obtain rfl : N = k := by omega
          have hnk : ¬ (N : Int) < (N : Int) := by omega
          have HP : Hid (∀ t ∈ its, 0 < t.a) := by have h := HBS.out.2; rw [List.take_of_length_le (by rw [HLN.out]; exact Nat.le_refl _)] at h; exact h
          have HS : Hid (BS its N b) := HBS.out.1
          clear HBS
          go_wp2_with fail
          clear hnk hkg
          refine (least_any b (by omega) _).mono ?_
          rintro e w' ⟨rfl, hw⟩
          obtain rfl := hw.symm
          clear hw
          by_cases hb : b ≤ 524288
          · obtain ⟨L, hL⟩ : ∃ L, L = (b + 63) / 64 := ⟨_, rfl⟩
            rw [← hL]
            have hl1 : decide ((8192 : Int) < (L : Int)) = false := decide_eq_false (by omega)
            have hl2 : decide (8192 < L) = false := decide_eq_false (by omega)
            have HS2 : Hid (bsum its ≤ 524288) := by have h := HS.out; unfold BS at h; rw [List.take_of_length_le (by rw [HLN.out]; exact Nat.le_refl _)] at h; show bsum its ≤ 524288; omega
            clear hL HS hb hb9
            go_wp2_with fail
            clear hl1 hl2
            refine (rword 1 (by decide) _).mono ?_
            rintro e v1 ⟨g1, zs, rfl, hzl, hA, hN, hb1⟩
            have A1 : Hid (At32 v1 (some ⟨g1, 0, none⟩) zs.length zs.length zs ∧ Nf B32 zs 1 ∧ zs.length ≤ 40000) := ⟨hA, hN, by omega⟩
            clear hA hN hzl
            replace hbw := Below.on hbw hb1
            clear hb1
            go_wp2_with fail
            have hbw1 := hbw
            clear hbw
            go_loopg [7, 8] N (fun gk pv iv wr => ∃ (k : Nat) (p : Option Addr) (m : Nat) (zs : List Nat), k + gk = N ∧ iv = .int .i64 k ∧ pv = .slice p m m ∧ At32 wr p m m zs ∧ Nf B32 zs (prodI (its.take k)) ∧ m ≤ 40000 ∧ Below w.heap.size w wr)
            case atStart => exact ⟨0, _, _, zs, by omega, rfl, rfl, A1.out.1, A1.out.2.1, A1.out.2.2, hbw1⟩
            case round =>
              obtain ⟨k, p, m, zs, hkg, rfl, rfl, hA, hN, hm, hbw⟩ := hrel
              clear A1 hbw1
              have AP : Hid (At32 wr p m m zs) := hA
              have HN : Hid (Nf B32 zs (prodI (its.take k)) ∧ m ≤ 40000) := ⟨hN, hm⟩
              clear hA hN hm
              cases gk with
              | succ gg =>
                have hk : k < its.length := by rw [HLN.out]; omega
                obtain ⟨gs, off, rfl, hc⟩ := H.out.cells.resolve_left (by omega)
                have hcx := (hbw.cell (p := ⟨gs, off + k, none⟩) (World.block_lt_of_cell? w _ (hc k hk))).trans (hc k hk)
                have hAt := H.out.ats its[k] (List.getElem_mem hk)
                have AT : Hid (At wr its[k].p its[k].n its[k].c its[k].xs ∧ its[k].n ≤ 17592186044416 ∧ its[k].a = valB B64 its[k].xs) := ⟨hAt.1.below hbw, hAt.2⟩
                have HPS : Hid (prodI (its.take (k + 1)) = prodI (its.take k) * its[k].a) := by show _ = _; rw [take_succ_it its k hk, prodI_append]; simp [prodI]
                have HPL : Hid (prodI (its.take (k + 1)) ≤ 2 ^ (2 * bsum its)) := prod_take (k + 1) HP.out
                have HT8 : Hid (its[k].n ≤ 8192) := by have h := ((formB_iff _).1 (HBD.out its[k] (List.getElem_mem hk))).1; have h2 := (H.out.ats its[k] (List.getElem_mem hk)).1.len; show _ ≤ _; omega
                have hkk : (k : Int) < (N : Int) := by omega
                have hk0 : (0 : Int) ≤ (k : Int) ∧ (k : Int) < (N : Int) := by omega
                have hn17 := hAt.2.1
                clear hc hAt
                generalize its[k].p = tp at *
                generalize its[k].n = tn at *
                generalize its[k].c = tc at *
                generalize its[k].xs = txs at *
                generalize its[k].a = ta at *
                go_wp2_with fail
                refine (from_any AT.out.1 hn17).mono ?_
                rintro e v1 ⟨g1, ds, rfl, hg1, hblk, hnf, hzl, hb1⟩
                have A1 : Hid (At32 v1 (some ⟨g1, 0, none⟩) ds.length ds.length ds) := hblk.at_ hnf.dig rfl (by unfold maxLen; omega)
                have N1 : Hid (Nf B32 ds ta ∧ ds.length ≤ 2 * tn) := ⟨by rw [AT.out.2.2]; exact hnf, hzl⟩
                clear hblk hnf hzl hg1
                replace AP : Hid _ := AP.out.below hb1
                replace hbw := Below.on hbw hb1
                clear hb1
                go_wp2_with fail
                refine (rword 1 (by decide) _).mono ?_
                rintro e v2 ⟨g2, os, rfl, hzl, hA, hN, hb2⟩
                have A2 : Hid (At32 v2 (some ⟨g2, 0, none⟩) os.length os.length os) := hA
                have N2 : Hid (Nf B32 os 1) := hN
                clear hA hN hzl
                replace AP : Hid _ := AP.out.below hb2
                replace A1 : Hid _ := A1.out.below hb2
                replace hbw := Below.on hbw hb2
                clear hb2
                go_wp2_with fail
                refine (rcmp_any A1.out A2.out N1.out.1 N2.out).mono ?_
                rintro e v3 ⟨rfl, r3, hw3⟩
                have hb3 : Below v2.heap.size v2 v3 := by rw [hw3]; exact bDrewN (Below.refl _ _) r3
                clear hw3
                replace AP : Hid _ := AP.out.below hb3
                replace A1 : Hid _ := A1.out.below hb3
                replace A2 : Hid _ := A2.out.below hb3
                replace hbw := Below.on hbw hb3
                clear hb3
                by_cases hc1 : ta = 1
                · have hcc : cmpN ta 1 = 0 := by rw [hc1]; rfl
                  rw [hcc]
                  have HPE : Hid (prodI (its.take (k + 1)) = prodI (its.take k)) := by show _ = _; rw [HPS.out, hc1, Nat.mul_one]
                  clear hc1 hcc
                  go_wp2_with fail
                  go_roundg gg
                  case measure => omega
                  case rel => exact ⟨k + 1, p, m, zs, by omega, by go_num, rfl, AP.out, by rw [HPE.out]; exact HN.out.1, HN.out.2, hbw⟩
                · obtain ⟨cc, hcc⟩ : ∃ x, x = cmpN ta 1 := ⟨_, rfl⟩
                  have hne : (cc != 0) = true := by rw [hcc]; unfold cmpN; split <;> first | decide | (split <;> first | decide | omega)
                  rw [← hcc]
                  clear hcc hc1
                  go_wp2_with fail
                  refine (rmul_any AP.out A1.out HN.out.1 N1.out.1 (by have := HN.out.2; omega) (by have := N1.out.2; have := HT8.out; omega)).mono ?_
                  rintro e v4 ⟨p4, m4, us, rfl, hA, hN, hml, hb4⟩
                  rw [← HPS.out] at hN
                  have HM4 : Hid (At32 v4 p4 m4 m4 us ∧ Nf B32 us (prodI (its.take (k + 1))) ∧ m4 ≤ 40000) := ⟨hA, hN, by rw [← hA.len]; exact prod_len hN HPL.out HS2.out⟩
                  clear hA hN hml
                  replace AP : Hid _ := AP.out.below hb4
                  replace A1 : Hid _ := A1.out.below hb4
                  replace A2 : Hid _ := A2.out.below hb4
                  replace hbw := Below.on hbw hb4
                  clear hb4
                  go_wp2_with fail
                  go_roundg gg
                  case measure => omega
                  case rel => exact ⟨k + 1, p4, m4, us, by omega, by go_num, rfl, HM4.out.1, HM4.out.2.1, HM4.out.2.2, hbw⟩
              | zero =>
                obtain rfl : N = k := by omega
                have hnk : ¬ (N : Int) < (N : Int) := by omega
                have HN2 : Hid (Nf B32 zs (prodI its)) := by have h := HN.out.1; rw [List.take_of_length_le (by rw [HLN.out]; exact Nat.le_refl _)] at h; exact h
                go_wp2_with fail
                clear hnk hkg
                refine (rtold_any AP.out HN2.out (by have := HN.out.2; omega)).mono ?_
                rintro e v5 ⟨q5, k5, N5, us, f5, rfl, hA, hD, hb5⟩
                have HF : Hid (At v5 q5 k5 N5 us ∧ DocIs (prodI its) us f5) := ⟨hA, hD⟩
                clear hA hD
                replace hbw := Below.on hbw hb5
                clear hb5
                go_wp2_with fail
                go_ret2
                exact ⟨q5, k5, N5, us, f5, rfl, HF.out.1, HF.out.2, hbw⟩
          · obtain ⟨L, hL⟩ : ∃ L, L = (b + 63) / 64 := ⟨_, rfl⟩
            rw [← hL]
            have hl1 : decide ((8192 : Int) < (L : Int)) = true := decide_eq_true (by omega)
            have hl2 : decide (8192 < L) = true := decide_eq_true (by omega)
            have HS2 : Hid (LIM ≤ prodI its) := by have h := HS.out; unfold BS at h; rw [List.take_of_length_le (by rw [HLN.out]; exact Nat.le_refl _)] at h; exact lim_bsum HP.out (by omega)
            clear hL HS hb hb9
            go_wp2_with fail
            go_ret2
            exact ⟨none, 0, 0, [], 5, rfl, At.empty _ none 0 (Nat.zero_le _), .inr ⟨HS2.out, rfl, rfl⟩, hbw⟩
theorem docprod_all {P : Option Addr} {N C : Nat} {its : List It} {w : World} (h : LsA w P N C its) :
    Calls Try.prog 12 #[.slice P N C] w fun en w' => ∃ q k M us f, en = .returned (.tuple #[.slice q k M, .int .i64 f]) ∧ At w' q k M us ∧ PrIs its us f ∧ Below w.heap.size w w' := by
  by_cases hf : ∀ t ∈ its, formB t.xs = true
  · refine (docprod_good h hf).mono ?_
    rintro e w' ⟨q, k, M, us, f, rfl, hA, hD, hb⟩
    exact ⟨q, k, M, us, f, rfl, hA, .inr ⟨hf, hD⟩, hb⟩
  · refine (docprod_bad h (bad_ex hf)).mono ?_
    rintro e w' ⟨rfl, hb⟩
    exact ⟨none, 0, 0, [], 2, rfl, At.empty _ none 0 (Nat.zero_le _), .inl ⟨bad_ex hf, rfl, rfl⟩, hb⟩
structure ScrL (w : World) (P : Option Addr) (N C : Nat) (its : List Op5) : Prop where
  scr : Scr w P N C its
  ls : ∀ t ∈ its, ∃ js, LsA w t.pl t.nl t.cl js ∧ t.nl ≤ 5864062014805
theorem ScrL.below {w w' : World} {P : Option Addr} {N C : Nat} {its : List Op5} (h : ScrL w P N C its) (hb : Below w.heap.size w w') : ScrL w' P N C its :=
  ⟨h.scr.below hb, fun t ht => by obtain ⟨js, h1, h2⟩ := h.ls t ht; exact ⟨js, h1.below hb, h2⟩⟩
end Go.Proofs.Ytimjajoddmbjlaa
namespace Go.Proofs.Ytimjajoddmbjlaa
open Go.ChangeShapes Go.WideShapes Go.ChangeAt Go.RowKit Go.Deep
set_option maxRecDepth 20000
set_option maxHeartbeats 0
theorem bytesSl : Try.prog.bytesOf 24 = 24 := by kernel_rfl
theorem cellsOfSl : Try.prog.cellsOf 24 = 1 := by kernel_rfl
theorem sized_inner {H : Type} {P : Program} {ts : List TypeId} {ds : List (DataW H)} (h : (DataW.weightsEach P ts ds).all (· ≤ reachBytes) = true) {j : Nat} {t e : TypeId} {y : DataW H} {elems spare : List (DataW H)}
    (ht : ts[j]? = some t) (hd : ds[j]? = some (.slice elems spare)) (hu : P.underlying t = some (.slice e)) (hm : y ∈ elems) :
    (DataW.weightsEach P [e] [y]).all (· ≤ reachBytes) = true := by
  rw [List.all_eq_true]
  intro n hn
  refine List.all_eq_true.1 h n (DataW.weights_mem_each ht hd n ?_)
  simp only [DataW.weights, hu, List.mem_cons, List.mem_append]
  refine .inr (.inl (weightsAll_mem hm n ?_))
  simpa [DataW.weightsEach] using hn

theorem open_ls {H : Type} {enc : TypeId × Value → H} {W : World} {a : Option Addr} {len cap : Nat} {d : DataW H} {ps : List MemPlace} {ts : List TypeId} {ds : List (DataW H)} {j : Nat}
    (h : DataW.Trod enc Try.prog W 0 (fun _ => true) true 22 (.slice a len cap) d ps) (hsz : (DataW.weightsEach Try.prog ts ds).all (· ≤ reachBytes) = true) (ht : ts[j]? = some 22) (hd : ds[j]? = some d) :
    ∃ js, LsA W a len cap js ∧ len ≤ 5864062014805 := by
  obtain ⟨fuel, hf⟩ := h
  rcases DataW.trod_slice Try.underlying22 hf with ⟨hcs, _⟩ | ⟨x, l, c, elems, rest, n, _, hcs, hx, hb, hl, hm, hlen, hel, _, _⟩
  · simp [Value.cells] at hcs
    obtain ⟨rfl, rfl, rfl⟩ := hcs
    exact ⟨[], ⟨rfl, Nat.le_refl _, by decide, .inl rfl, fun t h => by simp at h⟩, by omega⟩
  · simp [Value.cells] at hcs
    obtain ⟨rfl, rfl, rfl⟩ := hcs
    simp only [Prod.mk.injEq] at hx
    obtain ⟨rfl, _⟩ := hx
    have hs := sized_slice hsz ht hd Try.underlying22
    rw [bytesSl] at hs
    simp only [List.length_map, reachBytes] at hs
    obtain ⟨b, off, spot⟩ := x
    have each : ∀ i, i < len → ∃ t : It, W.cell? ((⟨b, off, spot⟩ : Addr).add i) = some (.slice t.p t.n t.c) ∧ At W t.p t.n t.c t.xs ∧ t.n ≤ 17592186044416 ∧ t.a = valB B64 t.xs := by
      intro i hi
      have h1 := hel i hi
      have hie : i < elems.length := by omega
      rw [List.getElem?_eq_getElem hie, Option.bind_eq_some_iff] at h1
      obtain ⟨cs', h2, h3⟩ := h1
      rw [cellsOfSl] at h2
      obtain ⟨_, hlen1, hcell⟩ := World.cells?_some h2
      match cs', hlen1 with
      | [v0], _ =>
        obtain ⟨pa, na, ca, _, rfl, _⟩ := open_fld_at h3
        obtain ⟨xa, A1, bl1⟩ := open_at (a := pa) (len := na) (cap := ca) (d := elems[i].1) (ps := elems[i].2) ⟨_, h3⟩ (sized_inner hsz ht hd Try.underlying22 (List.mem_map_of_mem (List.getElem_mem hie))) (j := 0) rfl rfl
        have e0 := hcell 0 (by omega)
        rw [add_add] at e0
        simp only [Nat.mul_one, Nat.add_zero] at e0
        exact ⟨⟨pa, na, ca, xa, valB B64 xa⟩, e0, A1, bl1, rfl⟩
    have inh : Inhabited It := ⟨⟨none, 0, 0, [], 0⟩⟩
    obtain ⟨q, hq⟩ := choose_lt each
    refine ⟨(List.range len).map q, ⟨by simp, hl, hm, ?_, ?_⟩, by omega⟩
    · by_cases h0 : len = 0
      · exact .inl h0
      · have hs := (hq 0 (by omega)).1
        have hspot : spot = none := by simpa [Addr.add] using World.cell?_spot hs
        subst hspot
        have hadd : ∀ q : Nat, (⟨b, off, none⟩ : Addr).add q = ⟨b, off + q, none⟩ := by intro q; unfold Addr.add; split <;> simp_all
        refine .inr ⟨b, off, rfl, fun i hi => ?_⟩
        have hi' : i < len := by simpa using hi
        have h5 := (hq i hi').1
        simp only [hadd] at h5
        simpa using h5
    · intro t ht
      obtain ⟨i, hi, rfl⟩ := List.mem_map.1 ht
      exact (hq i (List.mem_range.1 hi)).2
end Go.Proofs.Ytimjajoddmbjlaa
namespace Go.Proofs.Ytimjajoddmbjlaa
open Go.RowKit
set_option maxRecDepth 20000
set_option maxHeartbeats 0
variable {P : Program} {md : Region.Mode} {ops : Array Oper} {Q : Exit → Act → World → Prop} {J : World → Prop}

def wpJ (P : Program) (md : Region.Mode) (ops : Array Oper) (Q : Exit → Act → World → Prop) (J : World → Prop) : Nat → Array Bool → Act → World → Prop
  | 0, listed, a, w => Region.ready md ops listed = [] ∧ Q .normal a w
  | fuel + 1, listed, a, w =>
    (Region.ready md ops listed = [] → Q .normal a w) ∧
    ∀ i ∈ Region.ready md ops listed, wpOp P ops Q i (fun a' w' => J w' ∧ wpJ P md ops Q J fuel (listed.setIfInBounds i true) a' w') a w
theorem wpJ_any : ∀ (fuel : Nat) (listed : Array Bool) (a : Act) (w : World), wpJ P md ops Q J fuel listed a w → wpAny P md ops Q fuel listed a w
  | 0, _, _, _, h => h
  | fuel + 1, _, _, _, h => ⟨h.1, fun i hi => wpOp_mono (fun a' w' h' => wpJ_any fuel _ a' w' h'.2) (h.2 i hi)⟩

def YieldsJ (P : Program) (ops : Array Oper) (J : World → Prop) (o : Oper) (v : Value) (a : Act) : Prop :=
  (Region.wanted o (yielded ops a.tmps) = true ∧ ∀ w, J w → (execOp a.eval o).run P w = .ok (.value v) w) ∨ (Region.wanted o (yielded ops a.tmps) = false ∧ v = undef)
theorem YieldsJ.wpOp {i : Nat} {o : Oper} {v : Value} {a : Act} (hi : ops[i]? = some o) (hy : YieldsJ P ops J o v a)
    {K : Act → World → Prop} {w : World} (hJ : J w) (h : K (a.put o.dst v) w) : wpOp P ops Q i K a w := by
  unfold Go.wpOp
  simp only [hi]
  rcases hy with ⟨hw, hv⟩ | ⟨hw, rfl⟩
  · simp only [hw, if_true, Oper.wp, hv w hJ, Oper.upon]
    exact .inl h
  · simp only [hw]
    exact h
theorem YieldsJ.of_same {o : Oper} {v : Value} {a a' : Act} (hy : YieldsJ P ops J o v a) (he : execOp a'.eval o = execOp a.eval o)
    (hw : Region.wanted o (yielded ops a'.tmps) = Region.wanted o (yielded ops a.tmps)) : YieldsJ P ops J o v a' := by
  unfold YieldsJ at *
  rw [he, hw]
  exact hy
theorem wpOpJ_put {j : Nat} {oi oj : Oper} {v : Value} (hj : ops[j]? = some oj) (hap : oi.apart ops oj = true)
    (hsi : ∀ cs b, oi.op ≠ .select cs b) (hsj : ∀ cs b, oj.op ≠ .select cs b)
    (hQ : ∀ c a w, Q (.panic c) (a.put oi.dst v) w → Q (.panic c) a w) {K : Act → World → Prop} {a : Act} {w : World}
    (hy : YieldsJ P ops J oi v a) (h : wpOp P ops Q j K (a.put oi.dst v) w) :
    wpOp P ops Q j (fun a' w' => YieldsJ P ops J oi v a' ∧ K (a'.put oi.dst v) w') a w := by
  obtain ⟨h1, h2, h3⟩ := Oper.apart_spec hap
  have keep : ∀ (a : Act), YieldsJ P ops J oi v a → ∀ u, YieldsJ P ops J oi v (a.put oj.dst u) := fun a hy u =>
    hy.of_same (execOp_put oi hsi a oj.dst u h3) (wanted_put oi a oj.dst u h3)
  have keepD : ∀ d, YieldsJ P ops J oi v { a with defers := d :: a.defers } := fun d => hy.of_same rfl rfl
  unfold wpOp at *
  simp only [hj] at *
  rw [wanted_put oj a oi.dst v h1] at h
  split
  · rename_i hw
    simp only [hw, if_true] at h
    rcases h with h | ⟨hasks, hlets⟩
    case inr => exact .inr ⟨by unfold Oper.asks at *; rw [execOp_put oj hsj a oi.dst v h1] at hasks; exact hasks, hlets⟩
    refine .inl ?_
    unfold Oper.wp at *
    rw [execOp_put oj hsj a oi.dst v h1] at h
    generalize (execOp a.eval oj).run P w = r at *
    cases r with
    | ok n w' =>
      cases n <;> simp only [Oper.upon] at h ⊢
      case value u => exact ⟨keep a hy u, by rw [← Act.put_comm a v u h2]; exact h⟩
      case skip => exact ⟨keep a hy _, by rw [← Act.put_comm a v undef h2]; exact h⟩
      case defer d =>
        refine ⟨keep _ (keepD d) _, ?_⟩
        rw [← Act.put_comm _ v undef h2, ← Act.put_defers]
        exact h
      case enter f args =>
        refine Calls.mono h fun e w'' he => ?_
        cases e with
        | returned u => exact ⟨keep a hy u, by rw [← Act.put_comm a v u h2]; exact he⟩
        | panicked c => exact hQ _ _ _ he
        | outgrown => exact he
      case row row args => exact Rows.mono h fun u w'' he => ⟨keep a hy u, by rw [← Act.put_comm a v u h2]; exact he⟩
    | halt x w' =>
      cases x <;> simp only [Oper.upon] at h ⊢
      case panic u => exact hQ _ _ _ h
  · rename_i hw
    simp only [hw] at h
    exact ⟨keep a hy _, by rw [← Act.put_comm a v undef h2]; exact h⟩

theorem wpJ_first {i : Nat} {oi : Oper} {v : Value} (hi : ops[i]? = some oi) (hsel : ∀ (j : Nat) (o : Oper) cs b, ops[j]? = some o → o.op ≠ .select cs b)
    (hQ : ∀ c a w, Q (.panic c) (a.put oi.dst v) w → Q (.panic c) a w) :
    ∀ (fuel : Nat) (listed : Array Bool) (a : Act) (w : World),
      (∀ j oj, ops[j]? = some oj → j ≠ i → listed.getD j true = false → (∀ e ∈ oj.after, Region.binds md e = true → e.on ≠ i) → oi.apart ops oj = true) →
      i ∈ Region.ready md ops listed → YieldsJ P ops J oi v a → J w →
      wpJ P md ops Q J fuel (listed.setIfInBounds i true) (a.put oi.dst v) w → wpJ P md ops Q J (fuel + 1) listed a w := by
  intro fuel
  induction fuel with
  | zero =>
    intro listed a w _ hr hy hJ H
    refine ⟨fun h => (by rw [h] at hr; cases hr), fun j hj => ?_⟩
    by_cases hji : j = i
    · subst hji; exact hy.wpOp hi hJ ⟨hJ, H⟩
    · have := ready_mono hj hji
      rw [H.1] at this
      cases this
  | succ fuel ih =>
    intro listed a w hfree hr hy hJ H
    refine ⟨fun h => (by rw [h] at hr; cases hr), fun j hj => ?_⟩
    by_cases hji : j = i
    · subst hji; exact hy.wpOp hi hJ ⟨hJ, H⟩
    · have h1 := H.2 j (ready_mono hj hji)
      obtain ⟨hjun, oj, hoj, hall⟩ := mem_ready.1 hj
      have hnot : ∀ e ∈ oj.after, Region.binds md e = true → e.on ≠ i := fun e he hb heq => by
        have h1 := hall e he hb
        have h0 := (mem_ready.1 hr).1
        rw [heq] at h1
        rcases Nat.lt_or_ge i listed.size with h' | h'
        · simp [h'] at h0 h1; rw [h0] at h1; cases h1
        · simp [Array.getElem?_eq_none h'] at h1
      have h2 := wpOpJ_put hoj (hfree j oj hoj hji hjun hnot) (fun cs b => hsel i oi cs b hi) (fun cs b => hsel j oj cs b hoj) hQ hy h1
      have hfree' : ∀ k ok, ops[k]? = some ok → k ≠ i → (listed.setIfInBounds j true).getD k true = false →
          (∀ e ∈ ok.after, Region.binds md e = true → e.on ≠ i) → oi.apart ops ok = true := fun k ok hk hki hun hno => by
        refine hfree k ok hk hki ?_ hno
        by_cases hjk : j = k
        · subst hjk; exact hjun
        · rw [getD_set_ne true hjk] at hun; exact hun
      refine wpOp_mono (fun a' w' h3 => ⟨h3.2.1, ih (listed.setIfInBounds j true) a' w' hfree' (ready_mono hr (Ne.symm hji)) h3.1 h3.2.1 ?_⟩) h2
      rw [Array.setIfInBounds_comm _ _ hji]
      exact h3.2.2

theorem wpJ_take {i : Nat} {oi : Oper} {v : Value} {fuel : Nat} {listed : Array Bool} {a : Act} {w : World} (hi : ops[i]? = some oi)
    (hs : Region.noSelect ops = true) (hf : Region.free md ops listed i = true) (hr : (Region.ready md ops listed).contains i = true)
    (hQ : ∀ c a w, Q (.panic c) (a.put oi.dst v) w → Q (.panic c) a w) (hw : Region.wanted oi (yielded ops a.tmps) = true)
    (hy : ∀ w, J w → (execOp a.eval oi).run P w = .ok (.value v) w) (hJ : J w)
    (h : wpJ P md ops Q J fuel (listed.setIfInBounds i true) (a.put oi.dst v) w) : wpJ P md ops Q J (fuel + 1) listed a w :=
  wpJ_first hi (Region.noSelect_spec hs) hQ fuel listed a w (Region.free_spec hi hf) (by simpa using hr) (.inl ⟨hw, hy⟩) hJ h
theorem wpJ_tk (i : Nat) {oi : Oper} {v : Value} {fuel : Nat} {listed : Array Bool} {a : Act} {w : World} (hi : ops[i]? = some oi)
    (hy : ∀ w, J w → (execOp a.eval oi).run P w = .ok (.value v) w) (hJ : J w)
    (h : wpJ P md ops Q J fuel (listed.setIfInBounds i true) (a.put oi.dst v) w) (hs : Region.noSelect ops = true := by kernel_rfl) (hf : Region.free md ops listed i = true := by kernel_rfl)
    (hr : (Region.ready md ops listed).contains i = true := by kernel_rfl) (hQ : ∀ c a w, Q (.panic c) (a.put oi.dst v) w → Q (.panic c) a w := by exact fun _ _ _ h => h)
    (hw : Region.wanted oi (yielded ops a.tmps) = true := by kernel_rfl) : wpJ P md ops Q J (fuel + 1) listed a w := wpJ_take hi hs hf hr hQ hw hy hJ h
theorem wpJ_tq (i : Nat) {oi : Oper} {v : Value} {fuel : Nat} {listed : Array Bool} {a : Act} {w : World} (hi : ops[i]? = some oi) (hJ : J w)
    (h : wpJ P md ops Q J fuel (listed.setIfInBounds i true) (a.put oi.dst v) w)
    (hy : ∀ w, J w → (execOp a.eval oi).run P w = .ok (.value v) w := by (intro W' hJ; repeat (obtain ⟨_, hJ⟩ := hJ); go_simp; first | done | with_reducible rfl)) (hs : Region.noSelect ops = true := by kernel_rfl) (hf : Region.free md ops listed i = true := by kernel_rfl)
    (hr : (Region.ready md ops listed).contains i = true := by kernel_rfl) (hQ : ∀ c a w, Q (.panic c) (a.put oi.dst v) w → Q (.panic c) a w := by exact fun _ _ _ h => h)
    (hw : Region.wanted oi (yielded ops a.tmps) = true := by kernel_rfl) : wpJ P md ops Q J (fuel + 1) listed a w := wpJ_take hi hs hf hr hQ hw hy hJ h
theorem wpJ_skip {i : Nat} {oi : Oper} {fuel : Nat} {listed : Array Bool} {a : Act} {w : World} (hi : ops[i]? = some oi)
    (hs : Region.noSelect ops = true) (hf : Region.free md ops listed i = true) (hr : (Region.ready md ops listed).contains i = true)
    (hQ : ∀ c a w, Q (.panic c) (a.put oi.dst undef) w → Q (.panic c) a w) (hw : Region.wanted oi (yielded ops a.tmps) = false) (hJ : J w)
    (h : wpJ P md ops Q J fuel (listed.setIfInBounds i true) (a.put oi.dst undef) w) : wpJ P md ops Q J (fuel + 1) listed a w :=
  wpJ_first hi (Region.noSelect_spec hs) hQ fuel listed a w (Region.free_spec hi hf) (by simpa using hr) (.inr ⟨hw, rfl⟩) hJ h
theorem wpJ_sk (i : Nat) {oi : Oper} {fuel : Nat} {listed : Array Bool} {a : Act} {w : World} (hi : ops[i]? = some oi) (hJ : J w) (h : wpJ P md ops Q J fuel (listed.setIfInBounds i true) (a.put oi.dst undef) w)
    (hs : Region.noSelect ops = true := by kernel_rfl) (hf : Region.free md ops listed i = true := by kernel_rfl) (hr : (Region.ready md ops listed).contains i = true := by kernel_rfl)
    (hQ : ∀ c a w, Q (.panic c) (a.put oi.dst undef) w → Q (.panic c) a w := by exact fun _ _ _ h => h) (hw : Region.wanted oi (yielded ops a.tmps) = false := by kernel_rfl) : wpJ P md ops Q J (fuel + 1) listed a w := wpJ_skip hi hs hf hr hQ hw hJ h
theorem wpJ_one {i : Nat} {o : Oper} {fuel : Nat} {listed : Array Bool} {a : Act} {w : World} (hr : Region.ready md ops listed = [i]) (ho : ops[i]? = some o)
    (hw : Region.wanted o (yielded ops a.tmps) = true)
    (h : ∀ K : Act → World → Prop, (∀ a' w', J w' → wpJ P md ops Q J fuel (listed.setIfInBounds i true) a' w' → K a' w') → Oper.wp P o a w K Q) : wpJ P md ops Q J (fuel + 1) listed a w := by
  refine ⟨fun h => (by rw [hr] at h; cases h), fun j hj => ?_⟩
  rw [hr] at hj
  obtain rfl : j = i := by simpa using hj
  unfold wpOp
  simp only [ho, hw, if_true]
  exact .inl (h _ fun a' w' h1 h2 => ⟨h1, h2⟩)
theorem wpJ_on (i : Nat) {o : Oper} {fuel : Nat} {listed : Array Bool} {a : Act} {w : World} (ho : ops[i]? = some o)
    (h : ∀ K : Act → World → Prop, (∀ a' w', J w' → wpJ P md ops Q J fuel (listed.setIfInBounds i true) a' w' → K a' w') → Oper.wp P o a w K Q) (hr : Region.ready md ops listed = [i] := by kernel_rfl)
    (hw : Region.wanted o (yielded ops a.tmps) = true := by kernel_rfl) : wpJ P md ops Q J (fuel + 1) listed a w := wpJ_one hr ho hw h
theorem wpJ_done {listed : Array Bool} {a : Act} {w : World} (hr : Region.ready md ops listed = []) (h : Q .normal a w) : ∀ fuel, wpJ P md ops Q J fuel listed a w
  | 0 => ⟨hr, h⟩
  | _ + 1 => ⟨fun _ => h, by rw [hr]; simp⟩
theorem wp_region_J (J : World → Prop) {id : Nat} {a : Act} {w : World} (hm : P.follows .mixedOrders = true)
    (h : wpJ P .any ops Q J ops.size (Array.replicate ops.size false) a w.drew) : (Code.region id ops true).wp P Q a w :=
  wp_region_any hm (wpJ_any _ _ _ _ h)
variable {P : Program} {md : Region.Mode} {ops : Array Oper} {Q : Exit → Act → World → Prop} {J : World → Prop} {L : Nat}

def wpL (P : Program) (md : Region.Mode) (ops : Array Oper) (Q : Exit → Act → World → Prop) (J : World → Prop) (L : Nat) : Nat → Array Bool → Act → World → Prop
  | 0, listed, a, w => Region.ready md ops listed = [] ∧ Q .normal a w
  | fuel + 1, listed, a, w =>
    (Region.ready md ops listed = [] → Q .normal a w) ∧
    ∀ i ∈ Region.ready md ops listed, wpOp P ops Q i (fun a' w' => (i ≠ L → J w') ∧ wpL P md ops Q J L fuel (listed.setIfInBounds i true) a' w') a w
theorem wpL_any : ∀ (fuel : Nat) (listed : Array Bool) (a : Act) (w : World), wpL P md ops Q J L fuel listed a w → wpAny P md ops Q fuel listed a w
  | 0, _, _, _, h => h
  | fuel + 1, _, _, _, h => ⟨h.1, fun i hi => wpOp_mono (fun a' w' h' => wpL_any fuel _ a' w' h'.2) (h.2 i hi)⟩
def ClosedL (md : Region.Mode) (ops : Array Oper) (listed : Array Bool) : Prop :=
  ∀ (k : Nat) (o : Oper), ops[k]? = some o → listed.getD k false = true → ∀ e ∈ o.after, Region.binds md e = true → listed.getD e.on false = true
def clB (md : Region.Mode) (ops : Array Oper) (listed : Array Bool) : Bool :=
  (List.range ops.size).all fun k => !listed.getD k false || ((ops[k]?).map fun o => o.after.all fun e => !Region.binds md e || listed.getD e.on false).getD true
theorem clB_spec {listed : Array Bool} (h : clB md ops listed = true) : ClosedL md ops listed := by
  intro k o ho hk e he hb
  have hlt : k < ops.size := (Array.getElem?_eq_some_iff.1 ho).1
  have h1 := List.all_eq_true.1 h k (List.mem_range.2 hlt)
  rw [hk, ho] at h1
  simp only [Bool.not_true, Bool.false_or, Option.map_some, Option.getD_some, Array.all_eq_true_iff_forall_mem] at h1
  have h2 := h1 e he
  rw [hb] at h2
  simpa using h2
theorem ClosedL.step {listed : Array Bool} (h : ClosedL md ops listed) {j : Nat} (hj : j ∈ Region.ready md ops listed) : ClosedL md ops (listed.setIfInBounds j true) := by
  intro k o ho hk e he hb
  obtain ⟨h0, oj, hoj, hall⟩ := mem_ready.1 hj
  by_cases hjk : j = k
  · subst hjk
    rw [hoj] at ho
    obtain rfl := Option.some.inj ho
    exact getD_set_true (hall e he hb)
  · rw [getD_set_ne false hjk] at hk
    exact getD_set_true (h k o ho hk e he hb)
def depL (md : Region.Mode) (ops : Array Oper) : Nat → Nat → Nat → Bool
  | 0, _, _ => false
  | f + 1, k, i => ((ops[k]?).map fun o => o.after.any fun e => Region.binds md e && (e.on == i || depL md ops f e.on i)).getD false
theorem depL_listed {listed : Array Bool} (h : ClosedL md ops listed) {i : Nat} : ∀ (f k : Nat) (o : Oper), ops[k]? = some o → (∀ e ∈ o.after, Region.binds md e = true → listed.getD e.on false = true) → depL md ops f k i = true → listed.getD i false = true := by
  intro f
  induction f with
  | zero => intro k o _ _ hd; cases hd
  | succ f ih =>
    intro k o ho ha hd
    simp only [depL, ho, Option.map_some, Option.getD_some, Array.any_eq_true', Bool.and_eq_true, Bool.or_eq_true, beq_iff_eq] at hd
    obtain ⟨e, he, hb, hc⟩ := hd
    rcases hc with rfl | hc
    · exact ha e he hb
    · cases ho2 : ops[e.on]? with
      | none => cases f <;> simp [depL, ho2] at hc
      | some o2 => exact ih e.on o2 ho2 (h e.on o2 ho2 (ha e he hb)) hc
theorem unlisted {listed : Array Bool} {i : Nat} (h : listed.getD i true = false) : listed.getD i false = false := by
  rcases Nat.lt_or_ge i listed.size with h' | h'
  · simp [h'] at h ⊢; exact h
  · simp [Array.getElem?_eq_none h'] at h
theorem wpL_first {i : Nat} {oi : Oper} {v : Value} (hi : ops[i]? = some oi) (hsel : ∀ (j : Nat) (o : Oper) cs b, ops[j]? = some o → o.op ≠ .select cs b)
    (hQ : ∀ c a w, Q (.panic c) (a.put oi.dst v) w → Q (.panic c) a w) {F : Nat} (hdep : depL md ops F L i = true) :
    ∀ (fuel : Nat) (listed : Array Bool) (a : Act) (w : World),
      (∀ j oj, ops[j]? = some oj → j ≠ i → listed.getD j true = false → (∀ e ∈ oj.after, Region.binds md e = true → e.on ≠ i) → oi.apart ops oj = true) →
      ClosedL md ops listed → i ∈ Region.ready md ops listed → YieldsJ P ops J oi v a → J w →
      wpL P md ops Q J L fuel (listed.setIfInBounds i true) (a.put oi.dst v) w → wpL P md ops Q J L (fuel + 1) listed a w := by
  intro fuel
  induction fuel with
  | zero =>
    intro listed a w _ hcl hr hy hJ H
    refine ⟨fun h => (by rw [h] at hr; cases hr), fun j hj => ?_⟩
    by_cases hji : j = i
    · subst hji; exact hy.wpOp hi hJ ⟨fun _ => hJ, H⟩
    · have := ready_mono hj hji
      rw [H.1] at this
      cases this
  | succ fuel ih =>
    intro listed a w hfree hcl hr hy hJ H
    refine ⟨fun h => (by rw [h] at hr; cases hr), fun j hj => ?_⟩
    by_cases hji : j = i
    · subst hji; exact hy.wpOp hi hJ ⟨fun _ => hJ, H⟩
    · have h1 := H.2 j (ready_mono hj hji)
      obtain ⟨hjun, oj, hoj, hall⟩ := mem_ready.1 hj
      have hnot : ∀ e ∈ oj.after, Region.binds md e = true → e.on ≠ i := fun e he hb heq => by
        have h1 := hall e he hb
        have h0 := (mem_ready.1 hr).1
        rw [heq] at h1
        rcases Nat.lt_or_ge i listed.size with h' | h'
        · simp [h'] at h0 h1; rw [h0] at h1; cases h1
        · simp [Array.getElem?_eq_none h'] at h1
      have h2 := wpOpJ_put hoj (hfree j oj hoj hji hjun hnot) (fun cs b => hsel i oi cs b hi) (fun cs b => hsel j oj cs b hoj) hQ hy h1
      have hfree' : ∀ k ok, ops[k]? = some ok → k ≠ i → (listed.setIfInBounds j true).getD k true = false →
          (∀ e ∈ ok.after, Region.binds md e = true → e.on ≠ i) → oi.apart ops ok = true := fun k ok hk hki hun hno => by
        refine hfree k ok hk hki ?_ hno
        by_cases hjk : j = k
        · subst hjk; exact hjun
        · rw [getD_set_ne true hjk] at hun; exact hun
      have hjL : j ≠ L := fun hh => by
        subst hh
        have h5 := depL_listed hcl F j oj hoj hall hdep
        rw [unlisted (mem_ready.1 hr).1] at h5
        cases h5
      refine wpOp_mono (fun a' w' h3 => ⟨h3.2.1, ih (listed.setIfInBounds j true) a' w' hfree' (hcl.step hj) (ready_mono hr (Ne.symm hji)) h3.1 (h3.2.1 hjL) ?_⟩) h2
      rw [Array.setIfInBounds_comm _ _ hji]
      exact h3.2.2

theorem wpL_take {i : Nat} {oi : Oper} {v : Value} {fuel : Nat} {listed : Array Bool} {a : Act} {w : World} (hi : ops[i]? = some oi)
    (hs : Region.noSelect ops = true) (hf : Region.free md ops listed i = true) (hr : (Region.ready md ops listed).contains i = true)
    (hQ : ∀ c a w, Q (.panic c) (a.put oi.dst v) w → Q (.panic c) a w) (hw : Region.wanted oi (yielded ops a.tmps) = true)
    (hy : ∀ w, J w → (execOp a.eval oi).run P w = .ok (.value v) w) (hJ : J w)
    (h : wpL P md ops Q J L fuel (listed.setIfInBounds i true) (a.put oi.dst v) w)
    (hc : clB md ops listed = true := by kernel_rfl) (hd : depL md ops ops.size L i = true := by kernel_rfl) : wpL P md ops Q J L (fuel + 1) listed a w :=
  wpL_first hi (Region.noSelect_spec hs) hQ hd fuel listed a w (Region.free_spec hi hf) (clB_spec hc) (by simpa using hr) (.inl ⟨hw, hy⟩) hJ h
theorem wpL_last {o : Oper} {fuel : Nat} {listed : Array Bool} {a : Act} {w : World} (hr : Region.ready md ops listed = [L]) (ho : ops[L]? = some o)
    (hw : Region.wanted o (yielded ops a.tmps) = true)
    (h : ∀ K : Act → World → Prop, (∀ a' w', wpL P md ops Q J L fuel (listed.setIfInBounds L true) a' w' → K a' w') → Oper.wp P o a w K Q) : wpL P md ops Q J L (fuel + 1) listed a w := by
  refine ⟨fun h => (by rw [hr] at h; cases h), fun j hj => ?_⟩
  rw [hr] at hj
  obtain rfl : j = L := by simpa using hj
  unfold wpOp
  simp only [ho, hw, if_true]
  exact .inl (h _ fun a' w' hh => ⟨fun hn => absurd rfl hn, hh⟩)
theorem wpL_done {listed : Array Bool} {a : Act} {w : World} (hr : Region.ready md ops listed = []) (h : Q .normal a w) : ∀ fuel, wpL P md ops Q J L fuel listed a w
  | 0 => ⟨hr, h⟩
  | _ + 1 => ⟨fun _ => h, by rw [hr]; simp⟩
theorem wp_region_L (J : World → Prop) (L : Nat) {id : Nat} {a : Act} {w : World} (hm : P.follows .mixedOrders = true)
    (h : wpL P .any ops Q J L ops.size (Array.replicate ops.size false) a w.drew) : (Code.region id ops true).wp P Q a w :=
  wp_region_any hm (wpL_any _ _ _ _ h)
end Go.Proofs.Ytimjajoddmbjlaa
namespace Go.Proofs.Ytimjajoddmbjlaa
open Go.RowKit Go.Shelf
set_option maxRecDepth 20000
set_option maxHeartbeats 0
def iv (s : Bool) (a : Nat) : Int := if s then -(a : Int) else (a : Int)
abbrev ZV (s : Bool) (p : Option Addr) (n c : Nat) : Value := .agg #[.bool s, .slice p n c]
def AnsI (B : Nat) (w' : World) (e : Ending) (z : Int) : Prop :=
  (z.natAbs < LIM ∧ ∃ p m zs, e = .returned (.tuple #[ZV (decide (z < 0)) p m m, .int .i64 0]) ∧ Own B w' p m zs ∧ Nf B64 zs z.natAbs ∧ m ≤ 8192) ∨
  (LIM ≤ z.natAbs ∧ e = .returned (.tuple #[ZV false none 0 0, .int .i64 5]))
theorem AnsI.ok {B : Nat} {w' : World} {e : Ending} {z : Int} (h : AnsI B w' e z) (hz : z.natAbs < LIM) : ∃ p m zs, e = .returned (.tuple #[ZV (decide (z < 0)) p m m, .int .i64 0]) ∧ Own B w' p m zs ∧ Nf B64 zs z.natAbs ∧ m ≤ 8192 := by
  rcases h with ⟨_, h⟩ | ⟨h, _⟩
  · exact h
  · omega
theorem AnsI.no {B : Nat} {w' : World} {e : Ending} {z : Int} (h : AnsI B w' e z) (hz : LIM ≤ z.natAbs) : e = .returned (.tuple #[ZV false none 0 0, .int .i64 5]) := by
  rcases h with ⟨h, _⟩ | ⟨_, h⟩
  · omega
  · exact h
theorem Num.zero {w : World} {p : Option Addr} {m c : Nat} {xs : List Nat} {a : Nat} (h : Num w p m c xs a) : m = 0 ↔ a = 0 := by
  rw [← h.nf.zero_iff B64_one, ← h.at_.len]
  exact ⟨List.eq_nil_of_length_eq_zero, fun e => by rw [e]; rfl⟩

theorem bSet {B : Nat} {a w : World} (h : Below B a w) (g o : Nat) (v : Value) (hB : B ≤ g) : Below B a (w.setCell ⟨g, o, none⟩ v) :=
  h.trans ((Wr.refl g o 1 w).setCell o ⟨by omega, by omega⟩ v |>.below hB)
structure Box (W : World) (g : Nat) (v0 v1 : Value) : Prop where
  c0 : W.cell? ⟨g, 0, none⟩ = some v0
  c1 : W.cell? ⟨g, 1, none⟩ = some v1
  f0 : W.frozen? ⟨g, 0, none⟩ = false
  f1 : W.frozen? ⟨g, 1, none⟩ = false
theorem Box.below {W W' : World} {g : Nat} {v0 v1 : Value} (h : Box W g v0 v1) (hb : Below W.heap.size W W') : Box W' g v0 v1 := by
  have hl : g < W.heap.size := World.block_lt_of_cell? W _ h.c0
  exact ⟨(hb.cell (p := ⟨g, 0, none⟩) hl).trans h.c0, (hb.cell (p := ⟨g, 1, none⟩) hl).trans h.c1, (hb.frozen (p := ⟨g, 0, none⟩) hl).trans h.f0, (hb.frozen (p := ⟨g, 1, none⟩) hl).trans h.f1⟩
theorem Box.new (w : World) (ty : TypeId) (v0 v1 : Value) : Box (w.alloc (.cells #[v0, v1] ty)) w.heap.size v0 v1 := ⟨by go_simp, by go_simp, by go_simp, by go_simp⟩
theorem bDrew1 {B : Nat} {a w : World} (h : Below B a w) : Below B a w.drew := ⟨h.os, h.tape, h.output, h.size, h.block⟩
def MK : Nat := 11944390636716687360
def spl (xs : List Nat) : List Nat := xs ++ (List.range 80).map (fun j => MK + (xs.length + j))
theorem spl_len (xs : List Nat) : (spl xs).length = xs.length + 80 := by simp [spl]
theorem spl_take (xs : List Nat) : (spl xs).take xs.length = xs := by simp [spl]
theorem spl_lo {xs : List Nat} {i : Nat} (h : i < xs.length) : (spl xs).getD i 0 = xs.getD i 0 := by
  unfold spl
  rw [List.getD_eq_getElem?_getD, List.getElem?_append_left h, ← List.getD_eq_getElem?_getD]
theorem spl_hi {xs : List Nat} {i : Nat} (h : xs.length ≤ i) (h2 : i < xs.length + 80) : (spl xs).getD i 0 = MK + i := by
  unfold spl
  rw [List.getD_eq_getElem?_getD, List.getElem?_append_right h, List.getElem?_map, List.getElem?_range (by omega)]
  show MK + (xs.length + (i - xs.length)) = MK + i
  omega
theorem spl_eq {xs zs : List Nat} (hl : zs.length = xs.length + 80) (h1 : ∀ i, i < xs.length → zs.getD i 0 = xs.getD i 0) (h2 : ∀ i, xs.length ≤ i → i < xs.length + 80 → zs.getD i 0 = MK + i) : zs = spl xs := by
  refine List.ext_getElem (by rw [hl, spl_len]) fun i hi1 hi2 => ?_
  have e : zs.getD i 0 = (spl xs).getD i 0 := by
    rcases Nat.lt_or_ge i xs.length with h | h
    · rw [h1 i h, spl_lo h]
    · rw [h2 i h (by omega), spl_hi h (by omega)]
  rw [List.getD_eq_getElem?_getD, List.getD_eq_getElem?_getD, List.getElem?_eq_getElem hi1, List.getElem?_eq_getElem hi2] at e
  exact e
theorem mark_m1 (j : Nat) (hj : j < 1000000000000000000) {w : World} :
    Calls Try.prog 33 #[.int .i64 (-1), .int .i64 j] w fun en w' => en = .returned (U (MK + j)) ∧ w' = w := by
  have h1 : IntKind.u64.wrap (j : Int) = (j : Int) := by rw [IntKind.wrap_u64]; omega
  have h2 : IntKind.u64.wrap (11944390636716687360 + (j : Int)) = ((MK + j : Nat) : Int) := by rw [IntKind.wrap_u64]; unfold MK; omega
  clear hj
  go_enter Try.func33, Try.ntmps33
  go_wp2_with fail
  go_ret
  exact ⟨rfl, rfl⟩
theorem spare_ok {p : Option Addr} {n c : Nat} {xs : List Nat} {w : World} (h : At w p n c xs) (hn : n ≤ 17592186044416) :
    Calls Try.prog 13 #[.slice p n c] w fun en w' => ∃ g, en = .returned (.tuple #[.slice (some ⟨g, 0, none⟩) n (n + 80), .slice (some ⟨g, 0, none⟩) (n + 80) (n + 80)]) ∧ w.heap.size ≤ g ∧ Row w' g 0 (n + 80) (spl xs) ∧ Below w.heap.size w w' := by
  obtain ⟨i0, hi, hz0, hz1, hz2⟩ := info_parts Try.infoU64
  have hl := h.len
  have HX : Hid (At w p n c xs) := h
  have cap := h.cap; have big := h.big
  unfold maxLen at big
  have wn : wrap64 ((n : Int) + 80) = ((n + 80 : Nat) : Int) := by simp only [wrap64]; omega
  go_enter Try.func13, Try.ntmps13
  go_wp2_with (first
    | (at_make; refine wpList_make_full _ rfl _ _ 24 rfl w.heap.size 29 i0 (.int .u64 0) 1 Try.underlying24 hi hz0 hz1 _ _ _ _ (n + 80) rfl rfl (by omega) (by omega) (by rw [hz2]; omega) (by unfold maxLen; omega) (Nat.le_refl _) ?_; intro w1 hown hgrow; have hb := made_blk hown hgrow; clear hown hgrow)
    | (refine wpList_copy_splice rfl (.tmp 10) (.tmp 11) 24 24 rfl 29 Try.underlying24 Try.sizeU64 (some ⟨w.heap.size, 0, none⟩) p (n + 80) (n + 80) n c rfl rfl w.heap.size 0 (cellsU (List.replicate (n + 80) 0)) 29 hb.1 (cellsU xs) (by rw [cellsU_length, hl]; exact (Nat.min_eq_left (by omega)).symm) (fun h0 => ⟨rfl, (h.below hb.2).src (by rw [cellsU_length] at h0; omega)⟩) (by simp [cellsU_length]; omega) (cellsU_one xs) w.heap.size w hb.2 (Nat.le_refl _) ?_; intro w2 hg2 hb2))
  rw [splice_cellsU, hl, show n + 80 - n = 80 by omega] at hg2
  have hR : Row w2 w.heap.size 0 (n + 80) (xs ++ List.replicate 80 0) := by have h1 := Blk.row hg2 (h.dig.append (Dig.replicate _ _ B64_pos)); rw [List.length_append, List.length_replicate, hl] at h1; exact h1
  have RW : Hid (Row w2 w.heap.size 0 (n + 80) (xs ++ List.replicate 80 0)) := hR
  have hbw := hb2
  obtain ⟨g, hg⟩ : ∃ g, g = w.heap.size := ⟨_, rfl⟩
  have HG : Hid (w.heap.size ≤ g) := by rw [hg]; exact Nat.le_refl _
  rw [← hg] at RW
  rw [← hg]
  clear hR hg2 hb2 hb hg h wn
  go_loopg [5] 80 (fun gk jv wr => ∃ (j : Nat) (zs : List Nat), j + gk = n + 80 ∧ n ≤ j ∧ jv = .int .i64 j ∧ Row wr g 0 (n + 80) zs ∧ ((∀ i, i < n → zs.getD i 0 = xs.getD i 0) ∧ ∀ i, n ≤ i → i < j → zs.getD i 0 = MK + i) ∧ Below w.heap.size w wr)
  case atStart => exact ⟨n, _, by omega, Nat.le_refl _, rfl, RW.out, ⟨fun i hi => by rw [List.getD_eq_getElem?_getD, List.getElem?_append_left (by omega), ← List.getD_eq_getElem?_getD], fun i h1 h2 => by omega⟩, hbw⟩
  case round =>
    obtain ⟨j, zs, hjg, hnj, rfl, xr, xz, hbr⟩ := hrel
    clear RW hbw
    have RW : Hid (Row wr g 0 (n + 80) zs) := xr
    have HZ : Hid ((∀ i, i < n → zs.getD i 0 = xs.getD i 0) ∧ ∀ i, n ≤ i → i < j → zs.getD i 0 = MK + i) := xz
    have hbw := hbr
    clear xr xz hbr
    cases gk with
    | zero =>
      obtain rfl : j = n + 80 := by omega
      have hnk : ¬ ((n + 80 : Nat) : Int) < ((n + 80 : Nat) : Int) := by omega
      have hs1 : (0 : Int) ≤ (n : Int) ∧ (n : Int) ≤ ((n + 80 : Nat) : Int) := by omega
      have hs2 : ¬ ((n + 80 : Nat) : Int) < (n : Int) := by omega
      go_wp2_with fail
      go_ret2
      have e := spl_eq (xs := xs) (zs := zs) (by rw [hl]; exact RW.out.len) (by rw [hl]; exact HZ.out.1) (by rw [hl]; exact HZ.out.2)
      rw [← e]
      exact ⟨g, rfl, HG.out, RW.out, hbw⟩
    | succ gg =>
      have hjl : (j : Int) < ((n + 80 : Nat) : Int) := by omega
      have hj2 : (0 : Int) ≤ (j : Int) ∧ (j : Int) < ((n + 80 : Nat) : Int) := by omega
      have hj3 : (0 : Int) ≤ (j : Int) ∧ (j : Int) < (n : Int) + 80 := by omega
      have hcl := RW.out.cell j (by omega)
      have hfr := RW.out.frozen j (by omega)
      rw [Nat.zero_add] at hcl hfr
      have wj : wrap64 ((j : Int) + 1) = ((j + 1 : Nat) : Int) := by simp only [wrap64]; omega
      go_wp2_with fail
      refine (mark_m1 j (by omega)).mono ?_
      rintro e w' ⟨rfl, hw⟩
      obtain rfl := hw.symm
      clear hw
      go_wp2_with fail
      go_roundg gg
      case measure => omega
      case rel =>
        have hR2 := RW.out.set j (MK + j) (by omega) (by unfold MK; show _ < 18446744073709551616; omega)
        rw [Nat.zero_add] at hR2
        refine ⟨j + 1, zs.set j (MK + j), by omega, by omega, by go_num, hR2, ⟨fun i h1 => ?_, fun i h1 h2 => ?_⟩, bSet hbw _ _ _ HG.out⟩
        · rw [getD_set _ _ _ _ (by rw [RW.out.len]; omega), if_neg (by omega)]; exact HZ.out.1 i h1
        · rw [getD_set _ _ _ _ (by rw [RW.out.len]; omega)]
          by_cases e : i = j
          · rw [if_pos e, e]
          · rw [if_neg e]; exact HZ.out.2 i h1 (by omega)
theorem kept_ok {p : Option Addr} {n c g : Nat} {xs : List Nat} {w : World} (h : At w p n c xs) (k : At w (some ⟨g, 0, none⟩) (n + 80) (n + 80) (spl xs)) (hn : n ≤ 17592186044416) :
    Calls Try.prog 15 #[.slice (some ⟨g, 0, none⟩) (n + 80) (n + 80), .slice p n c] w fun en w' => en = .returned (.bool true) ∧ Below w.heap.size w w' := by
  have HX : Hid (At w p n c xs) := h
  have HK : Hid (At w (some ⟨g, 0, none⟩) (n + 80) (n + 80) (spl xs)) := k
  have HL : Hid (xs.length = n) := h.len
  have cap := h.cap; have big := h.big
  unfold maxLen at big
  have wn : wrap64 ((n : Int) + 80) = ((n + 80 : Nat) : Int) := by simp only [wrap64]; omega
  clear h k
  go_enter Try.func15, Try.ntmps15
  go_wp2_with fail
  clear wn
  go_loopg [5] (n + 80) (fun gk jv wr => ∃ (j : Nat), j + gk = n + 80 ∧ jv = .int .i64 j ∧ Below w.heap.size w wr)
  case atStart => exact ⟨0, by omega, rfl, Below.refl _ _⟩
  case round =>
    obtain ⟨j, hjg, rfl, hbw⟩ := hrel
    cases gk with
    | zero =>
      obtain rfl : j = n + 80 := by omega
      have hnk : ¬ ((n + 80 : Nat) : Int) < ((n + 80 : Nat) : Int) := by omega
      go_wp2_with fail
      go_ret
      exact ⟨rfl, hbw⟩
    | succ gg =>
      have hjl : (j : Int) < ((n + 80 : Nat) : Int) := by omega
      have hj2 : (0 : Int) ≤ (j : Int) ∧ (j : Int) < ((n + 80 : Nat) : Int) := by omega
      have hj3 : (0 : Int) ≤ (j : Int) ∧ (j : Int) < (n : Int) + 80 := by omega
      have wj : wrap64 ((j : Int) + 1) = ((j + 1 : Nat) : Int) := by simp only [wrap64]; omega
      have hcf : w.cell? ⟨g, j, none⟩ = some (U ((spl xs).getD j 0)) := by rcases HK.out.cells with h0 | ⟨g', o', h1, h2⟩; omega; simp only [Option.some.injEq, Addr.mk.injEq, and_true] at h1; obtain ⟨rfl, rfl⟩ := h1; have h3 := h2 j (by omega); rw [Nat.zero_add] at h3; exact h3
      have HCF : Hid (w.cell? ⟨g, j, none⟩ = some (U ((spl xs).getD j 0))) := hcf
      clear hcf
      by_cases hjn : j < n
      · have hs := spl_lo (xs := xs) (i := j) (by rw [HL.out]; exact hjn)
        obtain ⟨ga, oa, rfl, hca⟩ := HX.out.cells.resolve_left (by omega)
        have HCA : Hid (w.cell? ⟨ga, oa + j, none⟩ = some (U (xs.getD j 0))) := hca j hjn
        rw [hs] at HCF
        obtain ⟨x, hx⟩ : ∃ x, x = xs.getD j 0 := ⟨_, rfl⟩
        rw [← hx] at HCF HCA
        have hj5 : (j : Int) < (n : Int) := by omega
        have hj6 : (0 : Int) ≤ (j : Int) ∧ (j : Int) < (n : Int) := by omega
        have dd1 : decide ((j : Int) < (n : Int)) = true := decide_eq_true hj5
        have dd2 : decide ((n : Int) ≤ (j : Int)) = false := decide_eq_false (by omega)
        have dd3 : decide (j < n) = true := decide_eq_true hjn
        have dd4 : decide (n ≤ j) = false := decide_eq_false (by omega)
        clear hs hca hx
        go_wp2_with fail
        obtain ⟨W1, hW1⟩ : ∃ W1, W1 = wr.drew := ⟨_, rfl⟩
        have hbd : Below wr.heap.size wr W1 := by rw [hW1]; exact bDrew1 (Below.refl _ _)
        replace hbw := Below.on hbw hbd
        clear hbd
        have HJ : Hid ((fun W' : World => W'.cell? ⟨g, j, none⟩ = some (U x) ∧ W'.cell? ⟨ga, oa + j, none⟩ = some (U x)) W1) := ⟨((hbw.cell (p := ⟨g, j, none⟩) (World.block_lt_of_cell? w _ HCF.out)).trans HCF.out), ((hbw.cell (p := ⟨ga, oa + j, none⟩) (World.block_lt_of_cell? w _ HCA.out)).trans HCA.out)⟩
        refine wp_region_J (fun W' => W'.cell? ⟨g, j, none⟩ = some (U x) ∧ W'.cell? ⟨ga, oa + j, none⟩ = some (U x)) (by kernel_rfl) ?_
        rw [← hW1]
        clear hW1
        refine wpJ_tq 0 rfl HJ.out ?_
        refine wpJ_tq 1 rfl HJ.out ?_
        refine wpJ_tq 2 rfl HJ.out ?_
        refine wpJ_tq 3 rfl HJ.out ?_
        refine wpJ_tq 4 rfl HJ.out ?_
        go_simp
        refine wpJ_tq 5 rfl HJ.out ?_
        refine wpJ_tq 6 rfl HJ.out ?_
        refine wpJ_tq 7 rfl HJ.out ?_
        refine wpJ_tq 8 rfl HJ.out ?_
        refine wpJ_tq 9 rfl HJ.out ?_
        go_simp
        refine wpJ_tq 10 rfl HJ.out ?_
        refine wpJ_tq 11 rfl HJ.out ?_
        refine wpJ_tq 12 rfl HJ.out ?_
        refine wpJ_tq 13 rfl HJ.out ?_
        refine wpJ_tq 14 rfl HJ.out ?_
        go_simp
        refine wpJ_tq 15 rfl HJ.out ?_
        refine wpJ_tq 16 rfl HJ.out ?_
        refine wpJ_tq 17 rfl HJ.out ?_
        refine wpJ_tq 18 rfl HJ.out ?_
        refine wpJ_tq 19 rfl HJ.out ?_
        go_simp
        refine wpJ_tq 20 rfl HJ.out ?_
        refine wpJ_sk 21 rfl HJ.out ?_
        refine wpJ_sk 22 rfl HJ.out ?_
        refine wpJ_sk 23 rfl HJ.out ?_
        refine wpJ_sk 24 rfl HJ.out ?_
        go_simp
        refine wpJ_sk 25 rfl HJ.out ?_
        refine wpJ_sk 26 rfl HJ.out ?_
        refine wpJ_sk 27 rfl HJ.out ?_
        refine wpJ_tq 28 rfl HJ.out ?_
        refine wpJ_tq 29 rfl HJ.out ?_
        refine wpJ_done (by kernel_rfl) ?_ _
        clear HJ
        clear dd1 dd2 dd3 dd4
        go_wp2_with fail
        go_roundg gg
        case measure => omega
        case rel => exact ⟨j + 1, by omega, by go_num, hbw⟩
      · have hs := spl_hi (xs := xs) (i := j) (by rw [HL.out]; omega) (by rw [HL.out]; omega)
        rw [hs] at HCF
        obtain ⟨x, hx⟩ : ∃ x, x = MK + j := ⟨_, rfl⟩
        rw [← hx] at HCF
        have HXX : Hid (x = MK + j) := hx
        have dd1 : decide ((j : Int) < (n : Int)) = false := decide_eq_false (by omega)
        have dd2 : decide ((n : Int) ≤ (j : Int)) = true := decide_eq_true (by omega)
        have dd3 : decide (j < n) = false := decide_eq_false (by omega)
        have dd4 : decide (n ≤ j) = true := decide_eq_true (by omega)
        clear hs hx
        go_wp2_with fail
        obtain ⟨W1, hW1⟩ : ∃ W1, W1 = wr.drew := ⟨_, rfl⟩
        have hbd : Below wr.heap.size wr W1 := by rw [hW1]; exact bDrew1 (Below.refl _ _)
        replace hbw := Below.on hbw hbd
        clear hbd
        have HJ : Hid ((fun W' : World => W'.cell? ⟨g, j, none⟩ = some (U x)) W1) := ((hbw.cell (p := ⟨g, j, none⟩) (World.block_lt_of_cell? w _ HCF.out)).trans HCF.out)
        refine wp_region_J (fun W' => W'.cell? ⟨g, j, none⟩ = some (U x)) (by kernel_rfl) ?_
        rw [← hW1]
        clear hW1
        refine wpJ_tk 0 (v := ?v24x0) rfl ?hy24x0 HJ.out ?_
        case hy24x0 => (intro W' hJ; have j0 := hJ; go_simp; first | done | with_reducible rfl)
        refine wpJ_tk 1 (v := ?v25x1) rfl ?hy25x1 HJ.out ?_
        case hy25x1 => (intro W' hJ; have j0 := hJ; go_simp; first | done | with_reducible rfl)
        refine wpJ_tk 2 (v := ?v26x2) rfl ?hy26x2 HJ.out ?_
        case hy26x2 => (intro W' hJ; have j0 := hJ; go_simp; first | done | with_reducible rfl)
        refine wpJ_tk 3 (v := ?v27x3) rfl ?hy27x3 HJ.out ?_
        case hy27x3 => (intro W' hJ; have j0 := hJ; go_simp; first | done | with_reducible rfl)
        refine wpJ_tk 4 (v := ?v28x4) rfl ?hy28x4 HJ.out ?_
        case hy28x4 => (intro W' hJ; have j0 := hJ; go_simp; first | done | with_reducible rfl)
        go_simp
        refine wpJ_sk 5 rfl HJ.out ?_
        refine wpJ_sk 6 rfl HJ.out ?_
        refine wpJ_sk 7 rfl HJ.out ?_
        refine wpJ_sk 8 rfl HJ.out ?_
        refine wpJ_sk 9 rfl HJ.out ?_
        go_simp
        refine wpJ_sk 10 rfl HJ.out ?_
        refine wpJ_sk 11 rfl HJ.out ?_
        refine wpJ_sk 12 rfl HJ.out ?_
        refine wpJ_sk 13 rfl HJ.out ?_
        refine wpJ_tk 14 (v := ?v29x14) rfl ?hy29x14 HJ.out ?_
        case hy29x14 => (intro W' hJ; have j0 := hJ; go_simp; first | done | with_reducible rfl)
        go_simp
        refine wpJ_tk 15 (v := ?v30x15) rfl ?hy30x15 HJ.out ?_
        case hy30x15 => (intro W' hJ; have j0 := hJ; go_simp; first | done | with_reducible rfl)
        refine wpJ_tk 16 (v := ?v31x16) rfl ?hy31x16 HJ.out ?_
        case hy31x16 => (intro W' hJ; have j0 := hJ; go_simp; first | done | with_reducible rfl)
        refine wpJ_tk 17 (v := ?v32x17) rfl ?hy32x17 HJ.out ?_
        case hy32x17 => (intro W' hJ; have j0 := hJ; go_simp; first | done | with_reducible rfl)
        refine wpJ_tk 18 (v := ?v33x18) rfl ?hy33x18 HJ.out ?_
        case hy33x18 => (intro W' hJ; have j0 := hJ; go_simp; first | done | with_reducible rfl)
        refine wpJ_tk 19 (v := ?v34x19) rfl ?hy34x19 HJ.out ?_
        case hy34x19 => (intro W' hJ; have j0 := hJ; go_simp; first | done | with_reducible rfl)
        go_simp
        refine wpJ_tk 20 (v := ?v35x20) rfl ?hy35x20 HJ.out ?_
        case hy35x20 => (intro W' hJ; have j0 := hJ; go_simp; first | done | with_reducible rfl)
        refine wpJ_tk 21 (v := ?v36x21) rfl ?hy36x21 HJ.out ?_
        case hy36x21 => (intro W' hJ; have j0 := hJ; go_simp; first | done | with_reducible rfl)
        refine wpJ_tk 22 (v := ?v37x22) rfl ?hy37x22 HJ.out ?_
        case hy37x22 => (intro W' hJ; have j0 := hJ; go_simp; first | done | with_reducible rfl)
        refine wpJ_tk 23 (v := ?v38x23) rfl ?hy38x23 HJ.out ?_
        case hy38x23 => (intro W' hJ; have j0 := hJ; go_simp; first | done | with_reducible rfl)
        refine wpJ_tk 24 (v := ?v39x24) rfl ?hy39x24 HJ.out ?_
        case hy39x24 => (intro W' hJ; have j0 := hJ; go_simp; first | done | with_reducible rfl)
        go_simp
        refine wpJ_tk 25 (v := ?v40x25) rfl ?hy40x25 HJ.out ?_
        case hy40x25 => (intro W' hJ; have j0 := hJ; go_simp; first | done | with_reducible rfl)
        refine wpJ_on 26 rfl fun KJ hK => ?_
        go_simp
        refine (mark_m1 j (by omega)).mono ?_
        rintro e w' ⟨rfl, hw⟩
        obtain rfl := hw.symm
        clear hw
        rw [← HXX.out]
        clear HJ
        have HJ : Hid ((fun W' : World => W'.cell? ⟨g, j, none⟩ = some (U x)) W1) := ((hbw.cell (p := ⟨g, j, none⟩) (World.block_lt_of_cell? w _ HCF.out)).trans HCF.out)
        refine hK _ _ HJ.out ?_
        clear hK
        refine wpJ_tk 27 (v := ?v41x27) rfl ?hy41x27 HJ.out ?_
        case hy41x27 => (intro W' hJ; have j0 := hJ; go_simp; first | done | with_reducible rfl)
        refine wpJ_tk 28 (v := ?v42x28) rfl ?hy42x28 HJ.out ?_
        case hy42x28 => (intro W' hJ; have j0 := hJ; go_simp; first | done | with_reducible rfl)
        refine wpJ_tk 29 (v := ?v43x29) rfl ?hy43x29 HJ.out ?_
        case hy43x29 => (intro W' hJ; have j0 := hJ; go_simp; first | done | with_reducible rfl)
        refine wpJ_done (by kernel_rfl) ?_ _
        clear HJ
        clear dd1 dd2 dd3 dd4
        go_wp2_with fail
        go_roundg gg
        case measure => omega
        case rel => exact ⟨j + 1, by omega, by go_num, hbw⟩
theorem LsA.nil (w : World) : LsA w none 0 0 [] := ⟨rfl, Nat.le_refl _, Nat.zero_le _, .inl rfl, fun t ht => by cases ht⟩
end Go.Proofs.Ytimjajoddmbjlaa
