import Derived.Test.YtdkbfffpnpjpiaaLit
import Derived.Test.YtdkbfffpnpjpiaaRefOps
import Derived.Test.YtdkbfffpnpjpiaaMm0
import Derived.Test.YtdkbfffpnpjpiaaCmp32
namespace Go.Proofs.Ytdkbfffpnpjpiaa
open Go.RowKit Go.Shelf

/-- What a product of two lists answers: a list and an error. -/
def MulIs (xs ys us : List Nat) (f : Int) : Prop :=
  ((formB xs && formB ys) = false ∧ us = [] ∧ f = 2) ∨
  (formB xs = true ∧ formB ys = true ∧ valB B64 xs * valB B64 ys < LIM ∧ Nf B64 us (valB B64 xs * valB B64 ys) ∧ f = 0) ∨
  (formB xs = true ∧ formB ys = true ∧ LIM ≤ valB B64 xs * valB B64 ys ∧ us = [] ∧ f = 5)
theorem MulIs.inj {xs ys us us' : List Nat} {f f' : Int} (h : MulIs xs ys us f) (k : MulIs xs ys us' f') : us = us' ∧ f = f' := by
  rcases h with ⟨h1, rfl, rfl⟩ | ⟨h1, h2, h3, h4, rfl⟩ | ⟨h1, h2, h3, rfl, rfl⟩ <;> rcases k with ⟨k1, rfl, rfl⟩ | ⟨k1, k2, k3, k4, rfl⟩ | ⟨k1, k2, k3, rfl, rfl⟩
  · exact ⟨rfl, rfl⟩
  · rw [k1, k2] at h1; simp at h1
  · rw [k1, k2] at h1; simp at h1
  · rw [h1, h2] at k1; simp at k1
  · exact ⟨h4.inj B64_one k4, rfl⟩
  · omega
  · rw [h1, h2] at k1; simp at k1
  · omega
  · exact ⟨rfl, rfl⟩
theorem MulIs.er {xs ys us : List Nat} {f : Int} (h : MulIs xs ys us f) : f = 0 ∨ f = 2 ∨ f = 5 := by
  rcases h with ⟨_, _, rfl⟩ | ⟨_, _, _, _, rfl⟩ | ⟨_, _, _, _, rfl⟩ <;> simp

set_option maxRecDepth 20000 in
set_option maxHeartbeats 1000000 in
theorem told_e {p q : Option Addr} {n m c d : Nat} {xs : List Nat} {w : World} (er : Int) (he : er = 0 ∨ er = 1 ∨ er = 2 ∨ er = 5) (h : At w p n c xs) (k : At w q m d xs) :
    Calls Try.prog 8 #[.slice p n c, .int .i64 er, .slice q m d, .int .i64 er] w fun e w' => e = .returned (.bool true) ∧ Below w.heap.size w w' := by
  rcases he with rfl | rfl | rfl | rfl
  all_goals
    (go_enter Try.func8, Try.ntmps8
     go_wp2_with fail
     refine (same_t h k).mono ?_
     rintro e w1 ⟨rfl, hb⟩
     go_wp2_with fail
     go_ret
     exact ⟨rfl, hb⟩)

set_option maxRecDepth 20000 in
set_option maxHeartbeats 1000000 in
theorem mul_noform {p q : Option Addr} {n m c d : Nat} {xs ys : List Nat} {w : World} (h : At w p n c xs) (k : At w q m d ys) (hf : (formB xs && formB ys) = false) :
    Calls Try.prog 21 #[.slice p n c, .slice q m d] w fun e w' => e = .returned (.tuple #[.slice none 0 0, .int .i64 2]) ∧ w' = w := by
  cases hx : formB xs
  · go_enter Try.func21, Try.ntmps21
    go_wp2_with fail
    refine (form_any h).mono ?_
    rintro e w1 ⟨rfl, hw⟩
    rw [hx]
    obtain rfl := hw.symm
    clear hw hf
    go_wp2_with fail
    go_ret2
    exact ⟨rfl, rfl⟩
  · have hy : formB ys = false := by rw [hx] at hf; simpa using hf
    go_enter Try.func21, Try.ntmps21
    go_wp2_with fail
    refine (form_any h).mono ?_
    rintro e w1 ⟨rfl, hw⟩
    rw [hx]
    obtain rfl := hw.symm
    clear hw hf
    go_wp2_with fail
    refine (form_any k).mono ?_
    rintro e w1 ⟨rfl, hw⟩
    rw [hy]
    obtain rfl := hw.symm
    clear hw
    go_wp2_with fail
    go_ret2
    exact ⟨rfl, rfl⟩
theorem form_len {xs : List Nat} (h : formB xs = true) : xs.length ≤ 8192 := ((formB_iff xs).1 h).1
theorem mulP {p q : Option Addr} {n m c d : Nat} {xs ys : List Nat} {w : World} (h : At w p n c xs) (k : At w q m d ys) :
    Calls Try.prog 21 #[.slice p n c, .slice q m d] w fun e w' => ∃ p' m' us f, e = .returned (.tuple #[.slice p' m' m', .int .i64 f]) ∧ At w' p' m' m' us ∧ MulIs xs ys us f ∧ Below w.heap.size w w' := by
  cases hf : (formB xs && formB ys)
  · refine (mul_noform h k hf).mono ?_
    rintro e w' ⟨rfl, hw⟩
    obtain rfl := hw.symm
    exact ⟨none, 0, [], 2, rfl, At.empty _ none 0 (by decide), .inl ⟨hf, rfl, rfl⟩, Below.refl _ _⟩
  · simp only [Bool.and_eq_true] at hf
    refine (mul_any h k (nf_of_form h.dig hf.1) (nf_of_form k.dig hf.2) (by have := form_len hf.1; rw [h.len] at this; exact this) (by have := form_len hf.2; rw [k.len] at this; exact this)).mono ?_
    rintro e w' ⟨ha, hb⟩
    rcases ha with ⟨hl, p1, m1, zs, rfl, ho, hn, hm⟩ | ⟨hl, rfl⟩
    · exact ⟨p1, m1, zs, 0, rfl, ho.at_ hm, .inr (.inl ⟨hf.1, hf.2, hl, hn, rfl⟩), hb⟩
    · exact ⟨none, 0, [], 5, rfl, At.empty _ none 0 (by decide), .inr (.inr ⟨hf.1, hf.2, hl, rfl, rfl⟩), hb⟩
set_option maxRecDepth 20000 in
set_option maxHeartbeats 1000000 in
theorem sqrP {p : Option Addr} {n c : Nat} {xs : List Nat} {w : World} (h : At w p n c xs) :
    Calls Try.prog 24 #[.slice p n c] w fun e w' => ∃ p' m' us f, e = .returned (.tuple #[.slice p' m' m', .int .i64 f]) ∧ At w' p' m' m' us ∧ MulIs xs xs us f ∧ Below w.heap.size w w' := by
  go_enter Try.func24, Try.ntmps24
  go_wp2_with fail
  refine (mulP h h).mono ?_
  rintro e w' ⟨p1, m1, us, f1, rfl, hA, hM, hb⟩
  have HM : Hid (MulIs xs xs us f1) := hM
  have HA : Hid (At w' p1 m1 m1 us) := hA
  clear hM hA
  go_wp2_with fail
  go_ret2
  exact ⟨p1, m1, us, f1, rfl, HA.out, HM.out, hb⟩

end Go.Proofs.Ytdkbfffpnpjpiaa
