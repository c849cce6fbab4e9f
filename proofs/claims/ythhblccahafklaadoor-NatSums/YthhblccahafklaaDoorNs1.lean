import Derived.Test.YthhblccahafklaaDoorNf5
import Derived.Test.YthhblccahafklaaDoorRSub
import Derived.Test.YthhblccahafklaaDoorAwake
namespace Go.Proofs.YthhblccahafklaaDoor
open Go.RowKit Go.Shelf

/-- What a call of two lists answers, of which both must be in form. -/
def TwoIs (r : Nat → Nat → List Nat → Int → Prop) (xs ys us : List Nat) (f : Int) : Prop :=
  ((formB xs && formB ys) = false ∧ us = [] ∧ f = 2) ∨ (formB xs = true ∧ formB ys = true ∧ r (valB B64 xs) (valB B64 ys) us f)
def addR (a b : Nat) (us : List Nat) (f : Int) : Prop := DocIs (a + b) us f
def subR (a b : Nat) (us : List Nat) (f : Int) : Prop := (a < b ∧ us = [] ∧ f = 3) ∨ (b ≤ a ∧ DocIs (a - b) us f)
theorem subR.inj {a b : Nat} {us us' : List Nat} {f f' : Int} (h : subR a b us f) (k : subR a b us' f') : us = us' ∧ f = f' := by
  rcases h with ⟨h1, rfl, rfl⟩ | ⟨h1, h2⟩ <;> rcases k with ⟨k1, rfl, rfl⟩ | ⟨k1, k2⟩
  · exact ⟨rfl, rfl⟩
  · omega
  · omega
  · exact h2.inj k2
theorem subR.er {a b : Nat} {us : List Nat} {f : Int} (h : subR a b us f) : f = 0 ∨ f = 3 ∨ f = 5 := by
  rcases h with ⟨_, _, rfl⟩ | ⟨_, h⟩
  · simp
  · rcases h.er with e | e <;> simp [e]
theorem TwoIs.inj {r : Nat → Nat → List Nat → Int → Prop} (hr : ∀ {a b us us' f f'}, r a b us f → r a b us' f' → us = us' ∧ f = f') {xs ys us us' : List Nat} {f f' : Int} (h : TwoIs r xs ys us f) (k : TwoIs r xs ys us' f') : us = us' ∧ f = f' := by
  rcases h with ⟨h1, rfl, rfl⟩ | ⟨h1, h2, h3⟩ <;> rcases k with ⟨k1, rfl, rfl⟩ | ⟨k1, k2, k3⟩
  · exact ⟨rfl, rfl⟩
  · rw [k1, k2] at h1; simp at h1
  · rw [h1, h2] at k1; simp at k1
  · exact hr h3 k3
theorem form_len {xs : List Nat} (h : formB xs = true) : xs.length ≤ 8192 := ((formB_iff xs).1 h).1

set_option maxRecDepth 20000 in
set_option maxHeartbeats 1000000 in
theorem add_noform {p q : Option Addr} {n m c d : Nat} {xs ys : List Nat} {w : World} (h : At w p n c xs) (k : At w q m d ys) (hf : (formB xs && formB ys) = false) :
    Calls Tryd.prog 15 #[.slice p n c, .slice q m d] w fun e w' => e = .returned (.tuple #[.slice none 0 0, .int .i64 2]) ∧ w' = w := by
  cases hx : formB xs
  · go_enter Tryd.func15, Tryd.ntmps15
    go_wp2_with fail
    refine (form_any h).mono ?_
    rintro e w1 ⟨rfl, hw⟩
    rw [hx]
    obtain rfl := hw.symm
    clear hw hf
    go_wp2_with fail
    go_ret2
    exact ⟨rfl, rfl⟩
  · have hy : formB ys = false := by rw [hx] at hf; simpa using hf
    go_enter Tryd.func15, Tryd.ntmps15
    go_wp2_with fail
    refine (form_any h).mono ?_
    rintro e w1 ⟨rfl, hw⟩
    rw [hx]
    obtain rfl := hw.symm
    clear hw hf
    go_wp2_with fail
    refine (form_any k).mono ?_
    rintro e w1 ⟨rfl, hw⟩
    rw [hy]
    obtain rfl := hw.symm
    clear hw
    go_wp2_with fail
    go_ret2
    exact ⟨rfl, rfl⟩

set_option maxRecDepth 20000 in
set_option maxHeartbeats 1000000 in
theorem sub_noform {p q : Option Addr} {n m c d : Nat} {xs ys : List Nat} {w : World} (h : At w p n c xs) (k : At w q m d ys) (hf : (formB xs && formB ys) = false) :
    Calls Tryd.prog 16 #[.slice p n c, .slice q m d] w fun e w' => e = .returned (.tuple #[.slice none 0 0, .int .i64 2]) ∧ w' = w := by
  cases hx : formB xs
  · go_enter Tryd.func16, Tryd.ntmps16
    go_wp2_with fail
    refine (form_any h).mono ?_
    rintro e w1 ⟨rfl, hw⟩
    rw [hx]
    obtain rfl := hw.symm
    clear hw hf
    go_wp2_with fail
    go_ret2
    exact ⟨rfl, rfl⟩
  · have hy : formB ys = false := by rw [hx] at hf; simpa using hf
    go_enter Tryd.func16, Tryd.ntmps16
    go_wp2_with fail
    refine (form_any h).mono ?_
    rintro e w1 ⟨rfl, hw⟩
    rw [hx]
    obtain rfl := hw.symm
    clear hw hf
    go_wp2_with fail
    refine (form_any k).mono ?_
    rintro e w1 ⟨rfl, hw⟩
    rw [hy]
    obtain rfl := hw.symm
    clear hw
    go_wp2_with fail
    go_ret2
    exact ⟨rfl, rfl⟩

theorem addP {p q : Option Addr} {n m c d : Nat} {xs ys : List Nat} {w : World} (h : At w p n c xs) (k : At w q m d ys) :
    Calls Tryd.prog 15 #[.slice p n c, .slice q m d] w fun e w' => ∃ p' m' us f, e = .returned (.tuple #[.slice p' m' m', .int .i64 f]) ∧ At w' p' m' m' us ∧ TwoIs addR xs ys us f ∧ Below w.heap.size w w' := by
  cases hf : (formB xs && formB ys)
  · refine (add_noform h k hf).mono ?_
    rintro e w' ⟨rfl, hw⟩
    obtain rfl := hw.symm
    exact ⟨none, 0, [], 2, rfl, At.empty _ none 0 (by decide), .inl ⟨hf, rfl, rfl⟩, Below.refl _ _⟩
  · simp only [Bool.and_eq_true] at hf
    refine (add_ord h k (nf_of_form h.dig hf.1) (nf_of_form k.dig hf.2) (by have := form_len hf.1; rw [h.len] at this; exact this) (by have := form_len hf.2; rw [k.len] at this; exact this)).mono ?_
    rintro e w' ⟨ha, hb⟩
    rcases ha with ⟨hl, p1, m1, zs, rfl, ho, hn, hm⟩ | ⟨hl, rfl⟩
    · exact ⟨p1, m1, zs, 0, rfl, ho.at_ hm, .inr ⟨hf.1, hf.2, .inl ⟨hl, hn, rfl⟩⟩, hb⟩
    · exact ⟨none, 0, [], 5, rfl, At.empty _ none 0 (by decide), .inr ⟨hf.1, hf.2, .inr ⟨hl, rfl, rfl⟩⟩, hb⟩
theorem subP {p q : Option Addr} {n m c d : Nat} {xs ys : List Nat} {w : World} (h : At w p n c xs) (k : At w q m d ys) :
    Calls Tryd.prog 16 #[.slice p n c, .slice q m d] w fun e w' => ∃ p' m' us f, e = .returned (.tuple #[.slice p' m' m', .int .i64 f]) ∧ At w' p' m' m' us ∧ TwoIs subR xs ys us f ∧ Below w.heap.size w w' := by
  cases hf : (formB xs && formB ys)
  · refine (sub_noform h k hf).mono ?_
    rintro e w' ⟨rfl, hw⟩
    obtain rfl := hw.symm
    exact ⟨none, 0, [], 2, rfl, At.empty _ none 0 (by decide), .inl ⟨hf, rfl, rfl⟩, Below.refl _ _⟩
  · simp only [Bool.and_eq_true] at hf
    refine (sub_nf h k (nf_of_form h.dig hf.1) (nf_of_form k.dig hf.2) (by have := form_len hf.1; rw [h.len] at this; exact this) (by have := form_len hf.2; rw [k.len] at this; exact this)).mono ?_
    rintro e w' ⟨ha, hb⟩
    rcases ha with ⟨hle, p1, m1, zs, rfl, ho, hn, hm⟩ | ⟨hlt, rfl⟩
    · exact ⟨p1, m1, zs, 0, rfl, ho.at_ hm, .inr ⟨hf.1, hf.2, .inr ⟨hle, .inl ⟨hn.lim.1 (by rw [ho.len]; exact hm), hn, rfl⟩⟩⟩, hb⟩
    · exact ⟨none, 0, [], 3, rfl, At.empty _ none 0 (by decide), .inr ⟨hf.1, hf.2, .inl ⟨hlt, rfl, rfl⟩⟩, hb⟩

set_option maxRecDepth 20000 in
set_option maxHeartbeats 2000000 in
theorem docaddD {p q : Option Addr} {n m c d : Nat} {xs ys : List Nat} {w : World} (h : At w p n c xs) (k : At w q m d ys) :
    Calls Tryd.prog 43 #[.slice p n c, .slice q m d] w fun e w' => ∃ p' m' N' us f, e = .returned (.tuple #[.slice p' m' N', .int .i64 f]) ∧ At w' p' m' N' us ∧ TwoIs addR xs ys us f ∧ Below w.heap.size w w' := by
  have HA : Hid (At w p n c xs) := h
  have HB : Hid (At w q m d ys) := k
  clear h k
  cases hx : formB xs
  · have HF : Hid ((formB xs && formB ys) = false) := by show _ = _; rw [hx]; rfl
    go_enter Tryd.func43, Tryd.ntmps43
    go_wp2_with fail
    refine (docform_any HA.out).mono ?_
    rintro e w1 ⟨rfl, hw⟩
    rw [hx]
    obtain rfl := hw.symm
    clear hw
    go_wp2_with fail
    go_ret2
    exact ⟨none, 0, 0, [], 2, rfl, At.empty _ none 0 (by decide), .inl ⟨HF.out, rfl, rfl⟩, Below.refl _ _⟩
  · cases hy : formB ys
    · have HF : Hid ((formB xs && formB ys) = false) := by show _ = _; rw [hx, hy]; rfl
      go_enter Tryd.func43, Tryd.ntmps43
      go_wp2_with fail
      refine (docform_any HA.out).mono ?_
      rintro e w1 ⟨rfl, hw⟩
      rw [hx]
      obtain rfl := hw.symm
      clear hw
      go_wp2_with fail
      refine (docform_any HB.out).mono ?_
      rintro e w1 ⟨rfl, hw⟩
      rw [hy]
      obtain rfl := hw.symm
      clear hw
      go_wp2_with fail
      go_ret2
      exact ⟨none, 0, 0, [], 2, rfl, At.empty _ none 0 (by decide), .inl ⟨HF.out, rfl, rfl⟩, Below.refl _ _⟩
    · have HFX : Hid (formB xs = true) := hx
      have HFY : Hid (formB ys = true) := hy
      have hn : n ≤ 8192 := by have := form_len hx; rw [HA.out.len] at this; exact this
      have hm : m ≤ 8192 := by have := form_len hy; rw [HB.out.len] at this; exact this
      go_enter Tryd.func43, Tryd.ntmps43
      go_wp2_with fail
      refine (docform_any HA.out).mono ?_
      rintro e w1 ⟨rfl, hw⟩
      rw [hx]
      obtain rfl := hw.symm
      clear hw
      go_wp2_with fail
      refine (docform_any HB.out).mono ?_
      rintro e w1 ⟨rfl, hw⟩
      rw [hy]
      obtain rfl := hw.symm
      clear hw hx hy
      go_wp2_with fail
      refine (from_any HA.out (by omega)).mono ?_
      rintro e w1 ⟨g1, z1, rfl, hg1, hk1, hn1, hl1, hb1⟩
      have A1 : Hid (At32 w1 (some ⟨g1, 0, none⟩) z1.length z1.length z1) := hk1.at_ hn1.dig rfl (by unfold maxLen; omega)
      have N1 : Hid (Nf B32 z1 (valB B64 xs)) := hn1
      have B1 : Hid (At w1 q m d ys) := HB.out.below hb1
      obtain ⟨l1, hl1e⟩ : ∃ l1, l1 = z1.length := ⟨_, rfl⟩
      rw [← hl1e] at A1 hl1 ⊢
      clear hk1 hn1 hg1 hl1e
      go_wp2_with fail
      refine (from_any B1.out (by omega)).mono ?_
      rintro e w2 ⟨g2, z2, rfl, hg2, hk2, hn2, hl2, hb2⟩
      have A2 : Hid (At32 w2 (some ⟨g2, 0, none⟩) z2.length z2.length z2) := hk2.at_ hn2.dig rfl (by unfold maxLen; omega)
      have N2 : Hid (Nf B32 z2 (valB B64 ys)) := hn2
      have A1' : Hid (At32 w2 (some ⟨g1, 0, none⟩) l1 l1 z1) := A1.out.below hb2
      have hbw := Below.on hb1 hb2
      obtain ⟨l2, hl2e⟩ : ∃ l2, l2 = z2.length := ⟨_, rfl⟩
      rw [← hl2e] at A2 hl2 ⊢
      clear hk2 hn2 hg2 hl2e A1 hb1 hb2 B1
      go_wp2_with fail
      refine (radd_any A1'.out A2.out N1.out N2.out (by omega) (by omega)).mono ?_
      rintro e w3 ⟨p3, m3, z3, rfl, hA3, hN3, hb3⟩
      have A3 : Hid (At32 w3 p3 m3 m3 z3) := hA3
      have N3 : Hid (Nf B32 z3 (valB B64 xs + valB B64 ys)) := hN3
      have hm3 : m3 ≤ 35184372088832 := by
        have h1 := nf32_lt N1.out (K := 16384) (by rw [A1'.out.len]; omega)
        have h2 := nf32_lt N2.out (K := 16384) (by rw [A2.out.len]; omega)
        rcases Nat.lt_or_ge 16385 m3 with e | e
        · exfalso
          obtain ⟨J, hJ⟩ : ∃ J, J = 16384 := ⟨_, rfl⟩
          have h3 := nf32_ge N3.out (K := J + 1) (by rw [A3.out.len]; omega)
          rw [← hJ] at h1 h2
          rw [Nat.pow_succ] at h3
          have : B32 ^ J * 2 ≤ B32 ^ J * B32 := Nat.mul_le_mul_left _ (by decide)
          omega
        · omega
      have hbw3 := Below.on hbw hb3
      clear hA3 hN3 hb3 hbw A1' A2 N1 N2
      go_wp2_with fail
      refine (rtold_any A3.out N3.out hm3).mono ?_
      rintro e w4 ⟨p4, m4, N4, us, f4, rfl, hA4, hD4, hb4⟩
      have HA4 : Hid (At w4 p4 m4 N4 us) := hA4
      have HD4 : Hid (TwoIs addR xs ys us f4) := .inr ⟨HFX.out, HFY.out, hD4⟩
      have hbw4 := Below.on hbw3 hb4
      clear hA4 hD4 hbw3 hb4
      go_wp2_with fail
      go_ret2
      exact ⟨p4, m4, N4, us, f4, rfl, HA4.out, HD4.out, hbw4⟩

set_option maxRecDepth 20000 in
set_option maxHeartbeats 2000000 in
theorem docsubD {p q : Option Addr} {n m c d : Nat} {xs ys : List Nat} {w : World} (h : At w p n c xs) (k : At w q m d ys) :
    Calls Tryd.prog 44 #[.slice p n c, .slice q m d] w fun e w' => ∃ p' m' N' us f, e = .returned (.tuple #[.slice p' m' N', .int .i64 f]) ∧ At w' p' m' N' us ∧ TwoIs subR xs ys us f ∧ Below w.heap.size w w' := by
  have HA : Hid (At w p n c xs) := h
  have HB : Hid (At w q m d ys) := k
  clear h k
  cases hx : formB xs
  · have HF : Hid ((formB xs && formB ys) = false) := by show _ = _; rw [hx]; rfl
    go_enter Tryd.func44, Tryd.ntmps44
    go_wp2_with fail
    refine (docform_any HA.out).mono ?_
    rintro e w1 ⟨rfl, hw⟩
    rw [hx]
    obtain rfl := hw.symm
    clear hw
    go_wp2_with fail
    go_ret2
    exact ⟨none, 0, 0, [], 2, rfl, At.empty _ none 0 (by decide), .inl ⟨HF.out, rfl, rfl⟩, Below.refl _ _⟩
  · cases hy : formB ys
    · have HF : Hid ((formB xs && formB ys) = false) := by show _ = _; rw [hx, hy]; rfl
      go_enter Tryd.func44, Tryd.ntmps44
      go_wp2_with fail
      refine (docform_any HA.out).mono ?_
      rintro e w1 ⟨rfl, hw⟩
      rw [hx]
      obtain rfl := hw.symm
      clear hw
      go_wp2_with fail
      refine (docform_any HB.out).mono ?_
      rintro e w1 ⟨rfl, hw⟩
      rw [hy]
      obtain rfl := hw.symm
      clear hw
      go_wp2_with fail
      go_ret2
      exact ⟨none, 0, 0, [], 2, rfl, At.empty _ none 0 (by decide), .inl ⟨HF.out, rfl, rfl⟩, Below.refl _ _⟩
    · have HFX : Hid (formB xs = true) := hx
      have HFY : Hid (formB ys = true) := hy
      have hn : n ≤ 8192 := by have := form_len hx; rw [HA.out.len] at this; exact this
      have hm : m ≤ 8192 := by have := form_len hy; rw [HB.out.len] at this; exact this
      go_enter Tryd.func44, Tryd.ntmps44
      go_wp2_with fail
      refine (docform_any HA.out).mono ?_
      rintro e w1 ⟨rfl, hw⟩
      rw [hx]
      obtain rfl := hw.symm
      clear hw
      go_wp2_with fail
      refine (docform_any HB.out).mono ?_
      rintro e w1 ⟨rfl, hw⟩
      rw [hy]
      obtain rfl := hw.symm
      clear hw hx hy
      go_wp2_with fail
      refine (from_any HA.out (by omega)).mono ?_
      rintro e w1 ⟨g1, z1, rfl, hg1, hk1, hn1, hl1, hb1⟩
      have A1 : Hid (At32 w1 (some ⟨g1, 0, none⟩) z1.length z1.length z1) := hk1.at_ hn1.dig rfl (by unfold maxLen; omega)
      have N1 : Hid (Nf B32 z1 (valB B64 xs)) := hn1
      have B1 : Hid (At w1 q m d ys) := HB.out.below hb1
      obtain ⟨l1, hl1e⟩ : ∃ l1, l1 = z1.length := ⟨_, rfl⟩
      rw [← hl1e] at A1 hl1 ⊢
      clear hk1 hn1 hg1 hl1e
      go_wp2_with fail
      refine (from_any B1.out (by omega)).mono ?_
      rintro e w2 ⟨g2, z2, rfl, hg2, hk2, hn2, hl2, hb2⟩
      have A2 : Hid (At32 w2 (some ⟨g2, 0, none⟩) z2.length z2.length z2) := hk2.at_ hn2.dig rfl (by unfold maxLen; omega)
      have N2 : Hid (Nf B32 z2 (valB B64 ys)) := hn2
      have A1' : Hid (At32 w2 (some ⟨g1, 0, none⟩) l1 l1 z1) := A1.out.below hb2
      have hbw := Below.on hb1 hb2
      obtain ⟨l2, hl2e⟩ : ∃ l2, l2 = z2.length := ⟨_, rfl⟩
      rw [← hl2e] at A2 hl2 ⊢
      clear hk2 hn2 hg2 hl2e A1 hb1 hb2 B1
      go_wp2_with fail
      refine (rcmp_any A1'.out A2.out N1.out N2.out).mono ?_
      rintro e wq ⟨rfl, r, rfl⟩
      have hbc : Below w.heap.size w (w2.drewN r) := bDrewN hbw r
      clear hbw A1' A2
      generalize w2.drewN r = w3 at *
      rcases Nat.lt_or_ge (valB B64 xs) (valB B64 ys) with hlt | hge
      · have HLT : Hid (valB B64 xs < valB B64 ys) := hlt
        rw [cmpN_lt hlt]
        clear hlt
        go_wp2_with fail
        go_ret2
        exact ⟨none, 0, 0, [], 3, rfl, At.empty _ none 0 (by decide), .inr ⟨HFX.out, HFY.out, .inl ⟨HLT.out, rfl, rfl⟩⟩, hbc⟩
      have HGE : Hid (valB B64 ys ≤ valB B64 xs) := hge
      obtain ⟨cv, hcv, hcv0⟩ : ∃ cv : Int, cmpN (valB B64 xs) (valB B64 ys) = cv ∧ 0 ≤ cv := by
        rcases Nat.lt_or_ge (valB B64 ys) (valB B64 xs) with e | e
        · exact ⟨1, cmpN_gt e, by omega⟩
        · exact ⟨0, cmpN_eq (Nat.le_antisymm e hge), by omega⟩
      rw [hcv]
      have hcd : decide (cv < 0) = false := decide_eq_false (by omega)
      clear hge hcv hcv0
      go_wp2_with fail
      refine (from_any (HA.out.below hbc) (by omega)).mono ?_
      rintro e w4 ⟨g4, z4, rfl, hgq, hkq, hnq, hlq, hb4⟩
      have A4 : Hid (At32 w4 (some ⟨g4, 0, none⟩) z4.length z4.length z4) := hkq.at_ hnq.dig rfl (by unfold maxLen; omega)
      have N4 : Hid (Nf B32 z4 (valB B64 xs)) := hnq
      obtain ⟨l4, hlel4⟩ : ∃ l4, l4 = z4.length := ⟨_, rfl⟩
      rw [← hlel4] at A4 hlq ⊢
      have hll4 : l4 ≤ 16384 := by omega
      clear hkq hnq hgq hlel4 hlq
      have hbw4 := Below.on hbc hb4
      go_wp2_with fail
      refine (from_any (HB.out.below hbw4) (by omega)).mono ?_
      rintro e w5 ⟨g5, z5, rfl, hgq, hkq, hnq, hlq, hb5⟩
      have A5 : Hid (At32 w5 (some ⟨g5, 0, none⟩) z5.length z5.length z5) := hkq.at_ hnq.dig rfl (by unfold maxLen; omega)
      have N5 : Hid (Nf B32 z5 (valB B64 ys)) := hnq
      obtain ⟨l5, hlel5⟩ : ∃ l5, l5 = z5.length := ⟨_, rfl⟩
      rw [← hlel5] at A5 hlq ⊢
      have hll5 : l5 ≤ 16384 := by omega
      clear hkq hnq hgq hlel5 hlq
      have A45 : Hid (At32 w5 (some ⟨g4, 0, none⟩) l4 l4 z4) := A4.out.below hb5
      have hbw5 := Below.on hbw4 hb5
      clear A4 hb4 hb5 hbw4 hbc
      go_wp2_with fail
      refine (rsub_any A45.out A5.out N4.out N5.out (by omega) HGE.out).mono ?_
      rintro e w6 ⟨p6, m6, z6, rfl, hA6, hN6, hm6, hb6⟩
      have A6 : Hid (At32 w6 p6 m6 m6 z6) := hA6
      have N6 : Hid (Nf B32 z6 (valB B64 xs - valB B64 ys)) := hN6
      have hbw6 := Below.on hbw5 hb6
      clear hA6 hN6 hb6 hbw5
      go_wp2_with fail
      refine (rtold_any A6.out N6.out (by omega)).mono ?_
      rintro e w7 ⟨p7, m7, N7, us, f7, rfl, hA7, hD7, hb7⟩
      have HA7 : Hid (At w7 p7 m7 N7 us) := hA7
      have HD7 : Hid (TwoIs subR xs ys us f7) := .inr ⟨HFX.out, HFY.out, .inr ⟨HGE.out, hD7⟩⟩
      have hbw7 := Below.on hbw6 hb7
      clear hA7 hD7 hbw6 hb7
      go_wp2_with fail
      go_ret2
      exact ⟨p7, m7, N7, us, f7, rfl, HA7.out, HD7.out, hbw7⟩

end Go.Proofs.YthhblccahafklaaDoor
