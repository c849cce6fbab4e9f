import Derived.RowKit
namespace Go.Proofs.YtmhkabomabkkfaaGreatDoor
def valB (b : Nat) : List Nat → Nat
  | [] => 0
  | x :: xs => x + b * valB b xs

def Dig (b : Nat) (xs : List Nat) : Prop := ∀ x, x ∈ xs → x < b

def Top (xs : List Nat) : Prop := ∀ x, xs.getLast? = some x → x ≠ 0

theorem Dig.nil (b : Nat) : Dig b [] := by intro x hx; simp at hx
theorem Dig.cons {b x : Nat} {xs : List Nat} (hx : x < b) (h : Dig b xs) : Dig b (x :: xs) := by
  intro y hy; simp at hy; rcases hy with rfl | hy
  · exact hx
  · exact h y hy
theorem Dig.head {b x : Nat} {xs : List Nat} (h : Dig b (x :: xs)) : x < b := h x (by simp)
theorem Dig.tail {b x : Nat} {xs : List Nat} (h : Dig b (x :: xs)) : Dig b xs := fun y hy => h y (by simp [hy])
theorem Dig.append {b : Nat} {xs ys : List Nat} (h : Dig b xs) (k : Dig b ys) : Dig b (xs ++ ys) := by
  intro x hx; simp at hx; rcases hx with hx | hx
  · exact h x hx
  · exact k x hx
theorem Dig.take {b : Nat} {xs : List Nat} (h : Dig b xs) (n : Nat) : Dig b (xs.take n) := fun x hx => h x (List.mem_of_mem_take hx)
theorem Dig.drop {b : Nat} {xs : List Nat} (h : Dig b xs) (n : Nat) : Dig b (xs.drop n) := fun x hx => h x (List.mem_of_mem_drop hx)
theorem Dig.getD {b : Nat} {xs : List Nat} (h : Dig b xs) (hb : 0 < b) (n : Nat) : xs.getD n 0 < b := by
  by_cases hn : n < xs.length
  · rw [List.getD_eq_getElem?_getD, List.getElem?_eq_getElem hn]; exact h _ (List.getElem_mem hn)
  · rw [List.getD_eq_getElem?_getD, List.getElem?_eq_none (by omega)]; exact hb
theorem Dig.replicate (b n : Nat) (hb : 0 < b) : Dig b (List.replicate n 0) := by
  intro x hx; rw [List.mem_replicate] at hx; omega
theorem Dig.set {b : Nat} {xs : List Nat} (h : Dig b xs) (i : Nat) {y : Nat} (hy : y < b) : Dig b (xs.set i y) := by
  intro x hx
  rcases List.mem_or_eq_of_mem_set hx with hx | rfl
  · exact h x hx
  · exact hy

theorem valB_nil (b : Nat) : valB b [] = 0 := rfl
theorem valB_cons (b x : Nat) (xs : List Nat) : valB b (x :: xs) = x + b * valB b xs := rfl
theorem valB_append (b : Nat) (xs ys : List Nat) : valB b (xs ++ ys) = valB b xs + b ^ xs.length * valB b ys := by
  induction xs with
  | nil => simp [valB]
  | cons x xs ih => rw [List.cons_append, valB_cons, valB_cons, ih, List.length_cons, Nat.pow_succ, Nat.mul_add, ← Nat.mul_assoc, Nat.mul_comm b (b ^ xs.length)]; omega
theorem valB_snoc (b : Nat) (xs : List Nat) (y : Nat) : valB b (xs ++ [y]) = valB b xs + b ^ xs.length * y := by
  rw [valB_append]; simp [valB]
theorem valB_lt {b : Nat} (_hb : 0 < b) {xs : List Nat} (h : Dig b xs) : valB b xs < b ^ xs.length := by
  induction xs with
  | nil => simp [valB]
  | cons x xs ih =>
    have h1 := ih h.tail
    have h2 := h.head
    have h3 : b * (valB b xs + 1) ≤ b * b ^ xs.length := Nat.mul_le_mul_left b h1
    rw [valB_cons, List.length_cons, Nat.pow_succ, Nat.mul_comm (b ^ xs.length) b]
    rw [Nat.mul_add] at h3
    omega
theorem valB_replicate (b n : Nat) : valB b (List.replicate n 0) = 0 := by
  induction n with
  | zero => rfl
  | succ n ih => rw [List.replicate_succ, valB_cons, ih]; simp
theorem valB_append_zeros (b : Nat) (xs : List Nat) (n : Nat) : valB b (xs ++ List.replicate n 0) = valB b xs := by
  rw [valB_append, valB_replicate]; simp
theorem valB_split (b : Nat) (xs : List Nat) (n : Nat) (h : n ≤ xs.length) : valB b xs = valB b (xs.take n) + b ^ n * valB b (xs.drop n) := by
  have := valB_append b (xs.take n) (xs.drop n)
  rw [List.take_append_drop, List.length_take, Nat.min_eq_left h] at this
  exact this
theorem take_succ_getD (xs : List Nat) (k : Nat) (h : k < xs.length) : xs.take (k + 1) = xs.take k ++ [xs.getD k 0] := by
  rw [List.take_succ_eq_append_getElem h, List.getD_eq_getElem?_getD, List.getElem?_eq_getElem h]; rfl
theorem drop_getD (xs : List Nat) (k : Nat) (h : k < xs.length) : xs.drop k = xs.getD k 0 :: xs.drop (k + 1) := by
  rw [List.drop_eq_getElem_cons h, List.getD_eq_getElem?_getD, List.getElem?_eq_getElem h]; rfl
theorem valB_take_succ (b : Nat) (xs : List Nat) (k : Nat) (h : k < xs.length) : valB b (xs.take (k + 1)) = valB b (xs.take k) + b ^ k * xs.getD k 0 := by
  rw [take_succ_getD xs k h, valB_snoc, List.length_take, Nat.min_eq_left (by omega)]
theorem valB_drop (b : Nat) (xs : List Nat) (k : Nat) (h : k < xs.length) : valB b (xs.drop k) = xs.getD k 0 + b * valB b (xs.drop (k + 1)) := by
  rw [drop_getD xs k h, valB_cons]

theorem valB_inj {b : Nat} (hb : 1 < b) : ∀ {xs ys : List Nat}, Dig b xs → Dig b ys → Top xs → Top ys → valB b xs = valB b ys → xs = ys
  | [], [], _, _, _, _, _ => rfl
  | [], y :: ys, _, hy, _, ty, h => by
    exfalso
    have : ∀ zs : List Nat, zs ≠ [] → Top zs → 0 < valB b zs := by
      intro zs
      induction zs with
      | nil => intro h; simp at h
      | cons z zs ih =>
        intro _ tz
        cases zs with
        | nil => have := tz z (by simp); simp [valB]; omega
        | cons u us =>
          have h1 := ih (by simp) (fun x hx => tz x (by simpa [List.getLast?_cons_cons] using hx))
          rw [valB_cons]; have := Nat.mul_pos (show 0 < b by omega) h1; omega
    have h1 := this (y :: ys) (by simp) ty
    simp only [valB_nil] at h; omega
  | x :: xs, [], hx, _, tx, _, h => by
    exfalso
    have : ∀ zs : List Nat, zs ≠ [] → Top zs → 0 < valB b zs := by
      intro zs
      induction zs with
      | nil => intro h; simp at h
      | cons z zs ih =>
        intro _ tz
        cases zs with
        | nil => have := tz z (by simp); simp [valB]; omega
        | cons u us =>
          have h1 := ih (by simp) (fun x hx => tz x (by simpa [List.getLast?_cons_cons] using hx))
          rw [valB_cons]; have := Nat.mul_pos (show 0 < b by omega) h1; omega
    have h1 := this (x :: xs) (by simp) tx
    simp only [valB_nil] at h; omega
  | x :: xs, y :: ys, hx, hy, tx, ty, h => by
    rw [valB_cons, valB_cons] at h
    have e1 : x = y := by
      have a1 := congrArg (· % b) h
      simp only [Nat.add_mul_mod_self_left, Nat.mod_eq_of_lt hx.head, Nat.mod_eq_of_lt hy.head] at a1
      exact a1
    have e2 : valB b xs = valB b ys := by
      subst e1
      exact Nat.eq_of_mul_eq_mul_left (show 0 < b by omega) (Nat.add_left_cancel h)
    have tl : ∀ (u : Nat) (zs : List Nat), Top (u :: zs) → Top zs := by
      intro u zs t z hz
      refine t z ?_
      cases zs with
      | nil => simp at hz
      | cons a as => simpa [List.getLast?_cons_cons] using hz
    rw [e1, valB_inj hb hx.tail hy.tail (tl _ _ tx) (tl _ _ ty) e2]

theorem valB_pos {b : Nat} (_hb : 0 < b) {zs : List Nat} (hz : zs ≠ []) (tz : Top zs) : b ^ (zs.length - 1) ≤ valB b zs := by
  induction zs with
  | nil => simp at hz
  | cons z zs ih =>
    cases zs with
    | nil => have := tz z (by simp); simp [valB]; omega
    | cons u us =>
      have h1 := ih (by simp) (fun x hx => tz x (by simpa [List.getLast?_cons_cons] using hx))
      have h2 := Nat.mul_le_mul_left b h1
      rw [valB_cons]
      simp only [List.length_cons, Nat.add_sub_cancel] at h2 ⊢
      rw [Nat.pow_succ, Nat.mul_comm (b ^ us.length) b]
      omega

def trimL (xs : List Nat) : List Nat := (xs.reverse.dropWhile (fun x => x == 0)).reverse
theorem trimL_snoc_zero (xs : List Nat) : trimL (xs ++ [0]) = trimL xs := by simp [trimL]
theorem trimL_snoc (xs : List Nat) {y : Nat} (h : y ≠ 0) : trimL (xs ++ [y]) = xs ++ [y] := by simp [trimL, h]
theorem trimL_spec (xs : List Nat) : ∃ n, xs = trimL xs ++ List.replicate n 0 := by
  have key : ∀ n (xs : List Nat), xs.length = n → ∃ m, xs = trimL xs ++ List.replicate m 0 := by
    intro n
    induction n with
    | zero => intro xs h; have : xs = [] := List.eq_nil_of_length_eq_zero h; subst this; exact ⟨0, rfl⟩
    | succ n ih =>
      intro xs h
      have hne : xs ≠ [] := by intro e; subst e; simp at h
      obtain ⟨ys, y, rfl⟩ : ∃ ys y, xs = ys ++ [y] := ⟨_, _, (List.dropLast_concat_getLast hne).symm⟩
      by_cases hy : y = 0
      · subst hy
        obtain ⟨m, hm⟩ := ih ys (by simpa using h)
        exact ⟨m + 1, by rw [trimL_snoc_zero, List.replicate_succ', ← List.append_assoc, ← hm]⟩
      · exact ⟨0, by rw [trimL_snoc ys hy]; simp⟩
  exact key _ xs rfl
theorem valB_trimL (b : Nat) (xs : List Nat) : valB b (trimL xs) = valB b xs := by
  obtain ⟨n, h⟩ := trimL_spec xs
  have := valB_append_zeros b (trimL xs) n
  rw [← h] at this; exact this.symm
theorem trimL_length_le (xs : List Nat) : (trimL xs).length ≤ xs.length := by
  obtain ⟨n, h⟩ := trimL_spec xs
  have := congrArg List.length h
  simp at this; omega
theorem trimL_take (xs : List Nat) : trimL xs = xs.take (trimL xs).length := by
  obtain ⟨n, h⟩ := trimL_spec xs
  have h2 : xs.take (trimL xs).length = (trimL xs ++ List.replicate n 0).take (trimL xs).length := congrArg (List.take _) h
  rw [h2, List.take_left]
theorem Dig.trimL {b : Nat} {xs : List Nat} (h : Dig b xs) : Dig b (trimL xs) := by
  rw [trimL_take]; exact h.take _
theorem Top_trimL (xs : List Nat) : Top (trimL xs) := by
  have key : ∀ n (xs : List Nat), xs.length = n → Top (trimL xs) := by
    intro n
    induction n with
    | zero => intro xs h; have : xs = [] := List.eq_nil_of_length_eq_zero h; subst this; intro x hx; simp [trimL] at hx
    | succ n ih =>
      intro xs h
      have hne : xs ≠ [] := by intro e; subst e; simp at h
      obtain ⟨ys, y, rfl⟩ : ∃ ys y, xs = ys ++ [y] := ⟨_, _, (List.dropLast_concat_getLast hne).symm⟩
      by_cases hy : y = 0
      · subst hy; rw [trimL_snoc_zero]; exact ih ys (by simpa using h)
      · rw [trimL_snoc ys hy]; intro x hx; simp at hx; omega
  exact key _ xs rfl
theorem trimL_of_Top {xs : List Nat} (h : Top xs) : trimL xs = xs := by
  by_cases hne : xs = []
  · subst hne; rfl
  · obtain ⟨ys, y, rfl⟩ : ∃ ys y, xs = ys ++ [y] := ⟨_, _, (List.dropLast_concat_getLast hne).symm⟩
    exact trimL_snoc ys (h y (by simp))
theorem trimL_of_take (xs : List Nat) (n : Nat) (hn : n ≤ xs.length) (hz : ∀ j, n ≤ j → j < xs.length → xs.getD j 0 = 0) (ht : n = 0 ∨ xs.getD (n - 1) 0 ≠ 0) : trimL xs = xs.take n := by
  have e : xs = xs.take n ++ List.replicate (xs.length - n) 0 := by
    apply List.ext_getElem
    · simp; omega
    · intro i h1 h2
      by_cases hi : i < n
      · rw [List.getElem_append_left (by simp; omega)]; simp
      · rw [List.getElem_append_right (by simp; omega)]
        have := hz i (by omega) h1
        rw [List.getD_eq_getElem?_getD, List.getElem?_eq_getElem h1] at this
        simpa using this
  have hz' : ∀ m (ys : List Nat), trimL (ys ++ List.replicate m 0) = trimL ys := by
    intro m
    induction m with
    | zero => intro ys; simp
    | succ m ih => intro ys; rw [List.replicate_succ', ← List.append_assoc, trimL_snoc_zero, ih]
  have h2 : trimL xs = trimL (xs.take n) := by
    have := hz' (xs.length - n) (xs.take n)
    rw [← e] at this; exact this
  rw [h2]
  apply trimL_of_Top
  intro x hx
  rcases ht with rfl | ht
  · simp at hx
  · intro h0
    apply ht
    rw [List.getLast?_eq_getElem?] at hx
    simp only [List.length_take, List.getElem?_take] at hx
    rw [Nat.min_eq_left hn] at hx
    split at hx
    · rw [List.getD_eq_getElem?_getD, hx]; simpa using h0
    · simp at hx

structure Nf (b : Nat) (xs : List Nat) (n : Nat) : Prop where
  dig : Dig b xs
  top : Top xs
  val : valB b xs = n
theorem Nf.inj {b : Nat} (hb : 1 < b) {xs ys : List Nat} {n : Nat} (h : Nf b xs n) (k : Nf b ys n) : xs = ys :=
  valB_inj hb h.dig k.dig h.top k.top (h.val.trans k.val.symm)
theorem Nf.nil (b : Nat) : Nf b [] 0 := ⟨Dig.nil b, by intro x hx; simp at hx, rfl⟩
theorem Nf.trim {b : Nat} {xs : List Nat} (h : Dig b xs) : Nf b (trimL xs) (valB b xs) := ⟨h.trimL, Top_trimL xs, valB_trimL b xs⟩
theorem Nf.len_le {b : Nat} (hb : 1 < b) {xs : List Nat} {n k : Nat} (h : Nf b xs n) : xs.length ≤ k ↔ n < b ^ k := by
  constructor
  · intro hk
    have h1 := valB_lt (by omega) h.dig
    rw [h.val] at h1
    exact Nat.lt_of_lt_of_le h1 (Nat.pow_le_pow_right (by omega) hk)
  · intro hn
    by_cases hk : xs.length ≤ k
    · exact hk
    · exfalso
      have h1 := valB_pos (b := b) (by omega) (show xs ≠ [] by intro e; subst e; simp at hk) h.top
      rw [h.val] at h1
      have h2 : b ^ k ≤ b ^ (xs.length - 1) := Nat.pow_le_pow_right (by omega) (by omega)
      omega
theorem Nf.zero_iff {b : Nat} (hb : 1 < b) {xs : List Nat} {n : Nat} (h : Nf b xs n) : xs = [] ↔ n = 0 := by
  have := h.len_le (k := 0) hb
  simp at this; rw [this]
end Go.Proofs.YtmhkabomabkkfaaGreatDoor
