import Derived.Test.YtkdpafliibclnaaDoorJ9
import Derived.Test.YtkdpafliibclnaaDoorJ10
import Derived.Test.YtkdpafliibclnaaDoorJ11
import Derived.Test.YtkdpafliibclnaaDoorJ8
import Derived.Lib.SliceRun
import Derived.Sort.Row
import Derived.Deep.RegionWith
import Derived.Deep.LoopGhost
import Derived.Deep.DeepAppendRoom
import Derived.Maps.AppendAt
import Derived.OwnWalk
import Derived.Laws.ResultCell
import Derived.Deep.DeepCutAuto
import Derived.ArgAppend
import Derived.Deep.DeepAppendWide
namespace Go.Proofs.YtkdpafliibclnaaDoor
open Go.RowKit Go.Shelf
set_option maxRecDepth 20000
set_option maxHeartbeats 0
def NewA (B : Nat) (w : World) (p : Option Addr) (m c : Nat) (us : List Nat) : Prop := At w p m c us ∧ (m = 0 ∨ ∃ g, p = some ⟨g, 0, none⟩ ∧ B ≤ g)
theorem NewA.below {B : Nat} {w w' : World} {p : Option Addr} {m c : Nat} {us : List Nat} (h : NewA B w p m c us) (hb : Below w.heap.size w w') : NewA B w' p m c us := ⟨h.1.below hb, h.2⟩
theorem NewA.mono {B B' : Nat} {w : World} {p : Option Addr} {m c : Nat} {us : List Nat} (h : NewA B w p m c us) (hB : B' ≤ B) : NewA B' w p m c us :=
  ⟨h.1, h.2.imp id (fun ⟨g, e, k⟩ => ⟨g, e, Nat.le_trans hB k⟩)⟩
theorem NewA.empty (B : Nat) (w : World) : NewA B w none 0 0 [] := ⟨At.empty _ none 0 (by decide), .inl rfl⟩
theorem rtoldN {p : Option Addr} {n c : Nat} {zs : List Nat} {v : Nat} {w : World} (h : At32 w p n c zs) (hx : Nf B32 zs v) (hn : n ≤ 35184372088832) :
    Calls Tryd.prog 56 #[.slice p n c] w fun e w' => ∃ q k N us f, e = .returned (.tuple #[.slice q k N, .int .i64 f]) ∧ NewA w.heap.size w' q k N us ∧ DocIs v us f ∧ Below w.heap.size w w' := by
  have HL : Hid (zs.length = n) := h.len
  have HX : Hid (Nf B32 zs v) := hx
  have HA : Hid (At32 w p n c zs) := h
  obtain ⟨J, hJ⟩ : ∃ J, J = 16384 := ⟨_, rfl⟩
  have HJ : Hid (J = 16384) := hJ
  clear hx h hJ
  by_cases hlt : n ≤ 16384
  · have hd : ¬ 16384 < n := by omega
    go_enter Tryd.func56, Tryd.ntmps56
    go_wp2_with fail
    refine (rto_any HA.out hn).mono ?_
    rintro e w1 ⟨g, k, N, us, rfl, hg, hA, hN, hb⟩
    have HA1 : Hid (NewA w.heap.size w1 (some ⟨g, 0, none⟩) k N us) := ⟨hA, .inr ⟨g, rfl, hg⟩⟩
    have HN : Hid (Nf B64 us v) := by rw [HX.out.val] at hN; exact hN
    clear hA hN
    go_wp2_with fail
    go_ret2
    exact ⟨_, k, N, us, 0, rfl, HA1.out, .inl ⟨by rw [LIM_32 HJ.out]; exact nf32_lt HX.out (by rw [HL.out, HJ.out]; exact hlt), HN.out, rfl⟩, hb⟩
  · have hd : 16384 < n := by omega
    go_enter Tryd.func56, Tryd.ntmps56
    go_wp2_with fail
    go_ret2
    exact ⟨none, 0, 0, [], 5, rfl, NewA.empty _ _, .inr ⟨by rw [LIM_32 HJ.out]; exact nf32_ge HX.out (by rw [HL.out, HJ.out]; exact hd), rfl, rfl⟩, Below.refl _ _⟩
theorem docnormN {p : Option Addr} {n c : Nat} {xs : List Nat} {w : World} (h : At w p n c xs) (hn : n ≤ 17592186044416) :
    Calls Tryd.prog 29 #[.slice p n c] w fun e w' => ∃ p' m' N' us f, e = .returned (.tuple #[.slice p' m' N', .int .i64 f]) ∧ NewA w.heap.size w' p' m' N' us ∧ DocIs (valB B64 xs) us f ∧ Below w.heap.size w w' := by
  have HA : Hid (At w p n c xs) := h
  clear h
  go_enter Tryd.func29, Tryd.ntmps29
  go_wp2_with fail
  refine (from_any HA.out hn).mono ?_
  rintro e w1 ⟨g1, z1, rfl, hg1, hk1, hn1, hl1, hb1⟩
  have A1 : Hid (At32 w1 (some ⟨g1, 0, none⟩) z1.length z1.length z1) := hk1.at_ hn1.dig rfl (by unfold maxLen; omega)
  have N1 : Hid (Nf B32 z1 (valB B64 xs)) := hn1
  obtain ⟨l1, hl1e⟩ : ∃ l1, l1 = z1.length := ⟨_, rfl⟩
  rw [← hl1e] at A1 hl1 ⊢
  clear hk1 hn1 hg1 hl1e
  go_wp2_with fail
  refine (rtoldN A1.out N1.out (by omega)).mono ?_
  rintro e w2 ⟨p2, m2, N2, us, f2, rfl, hA2, hD2, hb2⟩
  have HA2 : Hid (NewA w.heap.size w2 p2 m2 N2 us) := NewA.mono hA2 hb1.size
  have HD2 : Hid (DocIs (valB B64 xs) us f2) := hD2
  have hbw := Below.on hb1 hb2
  clear hA2 hD2 hb1 hb2
  go_wp2_with fail
  go_ret2
  exact ⟨p2, m2, N2, us, f2, rfl, HA2.out, HD2.out, hbw⟩

theorem docaddN {p q : Option Addr} {n m c d : Nat} {xs ys : List Nat} {w : World} (h : At w p n c xs) (k : At w q m d ys) :
    Calls Tryd.prog 31 #[.slice p n c, .slice q m d] w fun e w' => ∃ p' m' N' us f, e = .returned (.tuple #[.slice p' m' N', .int .i64 f]) ∧ NewA w.heap.size w' p' m' N' us ∧ TwoIs addR xs ys us f ∧ Below w.heap.size w w' := by
  have HA : Hid (At w p n c xs) := h
  have HB : Hid (At w q m d ys) := k
  clear h k
  cases hx : formB xs
  · have HF : Hid ((formB xs && formB ys) = false) := by show _ = _; rw [hx]; rfl
    go_enter Tryd.func31, Tryd.ntmps31
    go_wp2_with fail
    refine (docform_any HA.out).mono ?_
    rintro e w1 ⟨rfl, hw⟩
    rw [hx]
    obtain rfl := hw.symm
    clear hw
    go_wp2_with fail
    go_ret2
    exact ⟨none, 0, 0, [], 2, rfl, NewA.empty _ _, .inl ⟨HF.out, rfl, rfl⟩, Below.refl _ _⟩
  · cases hy : formB ys
    · have HF : Hid ((formB xs && formB ys) = false) := by show _ = _; rw [hx, hy]; rfl
      go_enter Tryd.func31, Tryd.ntmps31
      go_wp2_with fail
      refine (docform_any HA.out).mono ?_
      rintro e w1 ⟨rfl, hw⟩
      rw [hx]
      obtain rfl := hw.symm
      clear hw
      go_wp2_with fail
      refine (docform_any HB.out).mono ?_
      rintro e w1 ⟨rfl, hw⟩
      rw [hy]
      obtain rfl := hw.symm
      clear hw
      go_wp2_with fail
      go_ret2
      exact ⟨none, 0, 0, [], 2, rfl, NewA.empty _ _, .inl ⟨HF.out, rfl, rfl⟩, Below.refl _ _⟩
    · have HFX : Hid (formB xs = true) := hx
      have HFY : Hid (formB ys = true) := hy
      have hn : n ≤ 8192 := by have := form_len hx; rw [HA.out.len] at this; exact this
      have hm : m ≤ 8192 := by have := form_len hy; rw [HB.out.len] at this; exact this
      go_enter Tryd.func31, Tryd.ntmps31
      go_wp2_with fail
      refine (docform_any HA.out).mono ?_
      rintro e w1 ⟨rfl, hw⟩
      rw [hx]
      obtain rfl := hw.symm
      clear hw
      go_wp2_with fail
      refine (docform_any HB.out).mono ?_
      rintro e w1 ⟨rfl, hw⟩
      rw [hy]
      obtain rfl := hw.symm
      clear hw hx hy
      go_wp2_with fail
      refine (from_any HA.out (by omega)).mono ?_
      rintro e w1 ⟨g1, z1, rfl, hg1, hk1, hn1, hl1, hb1⟩
      have A1 : Hid (At32 w1 (some ⟨g1, 0, none⟩) z1.length z1.length z1) := hk1.at_ hn1.dig rfl (by unfold maxLen; omega)
      have N1 : Hid (Nf B32 z1 (valB B64 xs)) := hn1
      have B1 : Hid (At w1 q m d ys) := HB.out.below hb1
      obtain ⟨l1, hl1e⟩ : ∃ l1, l1 = z1.length := ⟨_, rfl⟩
      rw [← hl1e] at A1 hl1 ⊢
      clear hk1 hn1 hg1 hl1e
      go_wp2_with fail
      refine (from_any B1.out (by omega)).mono ?_
      rintro e w2 ⟨g2, z2, rfl, hg2, hk2, hn2, hl2, hb2⟩
      have A2 : Hid (At32 w2 (some ⟨g2, 0, none⟩) z2.length z2.length z2) := hk2.at_ hn2.dig rfl (by unfold maxLen; omega)
      have N2 : Hid (Nf B32 z2 (valB B64 ys)) := hn2
      have A1' : Hid (At32 w2 (some ⟨g1, 0, none⟩) l1 l1 z1) := A1.out.below hb2
      have hbw := Below.on hb1 hb2
      obtain ⟨l2, hl2e⟩ : ∃ l2, l2 = z2.length := ⟨_, rfl⟩
      rw [← hl2e] at A2 hl2 ⊢
      clear hk2 hn2 hg2 hl2e A1 hb1 hb2 B1
      go_wp2_with fail
      refine (radd_any A1'.out A2.out N1.out N2.out (by omega) (by omega)).mono ?_
      rintro e w3 ⟨p3, m3, z3, rfl, hA3, hN3, hb3⟩
      have A3 : Hid (At32 w3 p3 m3 m3 z3) := hA3
      have N3 : Hid (Nf B32 z3 (valB B64 xs + valB B64 ys)) := hN3
      have hm3 : m3 ≤ 35184372088832 := by
        have h1 := nf32_lt N1.out (K := 16384) (by rw [A1'.out.len]; omega)
        have h2 := nf32_lt N2.out (K := 16384) (by rw [A2.out.len]; omega)
        rcases Nat.lt_or_ge 16385 m3 with e | e
        · exfalso
          obtain ⟨J, hJ⟩ : ∃ J, J = 16384 := ⟨_, rfl⟩
          have h3 := nf32_ge N3.out (K := J + 1) (by rw [A3.out.len]; omega)
          rw [← hJ] at h1 h2
          rw [Nat.pow_succ] at h3
          have : B32 ^ J * 2 ≤ B32 ^ J * B32 := Nat.mul_le_mul_left _ (by decide)
          omega
        · omega
      have hbw3 := Below.on hbw hb3
      clear hA3 hN3 hb3 hbw A1' A2 N1 N2
      go_wp2_with fail
      refine (rtoldN A3.out N3.out hm3).mono ?_
      rintro e w4 ⟨p4, m4, N4, us, f4, rfl, hA4, hD4, hb4⟩
      have HA4 : Hid (NewA w.heap.size w4 p4 m4 N4 us) := NewA.mono hA4 hbw3.size
      have HD4 : Hid (TwoIs addR xs ys us f4) := .inr ⟨HFX.out, HFY.out, hD4⟩
      have hbw4 := Below.on hbw3 hb4
      clear hA4 hD4 hbw3 hb4
      go_wp2_with fail
      go_ret2
      exact ⟨p4, m4, N4, us, f4, rfl, HA4.out, HD4.out, hbw4⟩

theorem docsubN {p q : Option Addr} {n m c d : Nat} {xs ys : List Nat} {w : World} (h : At w p n c xs) (k : At w q m d ys) :
    Calls Tryd.prog 32 #[.slice p n c, .slice q m d] w fun e w' => ∃ p' m' N' us f, e = .returned (.tuple #[.slice p' m' N', .int .i64 f]) ∧ NewA w.heap.size w' p' m' N' us ∧ TwoIs subR xs ys us f ∧ Below w.heap.size w w' := by
  have HA : Hid (At w p n c xs) := h
  have HB : Hid (At w q m d ys) := k
  clear h k
  cases hx : formB xs
  · have HF : Hid ((formB xs && formB ys) = false) := by show _ = _; rw [hx]; rfl
    go_enter Tryd.func32, Tryd.ntmps32
    go_wp2_with fail
    refine (docform_any HA.out).mono ?_
    rintro e w1 ⟨rfl, hw⟩
    rw [hx]
    obtain rfl := hw.symm
    clear hw
    go_wp2_with fail
    go_ret2
    exact ⟨none, 0, 0, [], 2, rfl, NewA.empty _ _, .inl ⟨HF.out, rfl, rfl⟩, Below.refl _ _⟩
  · cases hy : formB ys
    · have HF : Hid ((formB xs && formB ys) = false) := by show _ = _; rw [hx, hy]; rfl
      go_enter Tryd.func32, Tryd.ntmps32
      go_wp2_with fail
      refine (docform_any HA.out).mono ?_
      rintro e w1 ⟨rfl, hw⟩
      rw [hx]
      obtain rfl := hw.symm
      clear hw
      go_wp2_with fail
      refine (docform_any HB.out).mono ?_
      rintro e w1 ⟨rfl, hw⟩
      rw [hy]
      obtain rfl := hw.symm
      clear hw
      go_wp2_with fail
      go_ret2
      exact ⟨none, 0, 0, [], 2, rfl, NewA.empty _ _, .inl ⟨HF.out, rfl, rfl⟩, Below.refl _ _⟩
    · have HFX : Hid (formB xs = true) := hx
      have HFY : Hid (formB ys = true) := hy
      have hn : n ≤ 8192 := by have := form_len hx; rw [HA.out.len] at this; exact this
      have hm : m ≤ 8192 := by have := form_len hy; rw [HB.out.len] at this; exact this
      go_enter Tryd.func32, Tryd.ntmps32
      go_wp2_with fail
      refine (docform_any HA.out).mono ?_
      rintro e w1 ⟨rfl, hw⟩
      rw [hx]
      obtain rfl := hw.symm
      clear hw
      go_wp2_with fail
      refine (docform_any HB.out).mono ?_
      rintro e w1 ⟨rfl, hw⟩
      rw [hy]
      obtain rfl := hw.symm
      clear hw hx hy
      go_wp2_with fail
      refine (from_any HA.out (by omega)).mono ?_
      rintro e w1 ⟨g1, z1, rfl, hg1, hk1, hn1, hl1, hb1⟩
      have A1 : Hid (At32 w1 (some ⟨g1, 0, none⟩) z1.length z1.length z1) := hk1.at_ hn1.dig rfl (by unfold maxLen; omega)
      have N1 : Hid (Nf B32 z1 (valB B64 xs)) := hn1
      have B1 : Hid (At w1 q m d ys) := HB.out.below hb1
      obtain ⟨l1, hl1e⟩ : ∃ l1, l1 = z1.length := ⟨_, rfl⟩
      rw [← hl1e] at A1 hl1 ⊢
      clear hk1 hn1 hg1 hl1e
      go_wp2_with fail
      refine (from_any B1.out (by omega)).mono ?_
      rintro e w2 ⟨g2, z2, rfl, hg2, hk2, hn2, hl2, hb2⟩
      have A2 : Hid (At32 w2 (some ⟨g2, 0, none⟩) z2.length z2.length z2) := hk2.at_ hn2.dig rfl (by unfold maxLen; omega)
      have N2 : Hid (Nf B32 z2 (valB B64 ys)) := hn2
      have A1' : Hid (At32 w2 (some ⟨g1, 0, none⟩) l1 l1 z1) := A1.out.below hb2
      have hbw := Below.on hb1 hb2
      obtain ⟨l2, hl2e⟩ : ∃ l2, l2 = z2.length := ⟨_, rfl⟩
      rw [← hl2e] at A2 hl2 ⊢
      clear hk2 hn2 hg2 hl2e A1 hb1 hb2 B1
      go_wp2_with fail
      refine (rcmp_any A1'.out A2.out N1.out N2.out).mono ?_
      rintro e wq ⟨rfl, r, rfl⟩
      have hbc : Below w.heap.size w (w2.drewN r) := bDrewN hbw r
      clear hbw A1' A2
      generalize w2.drewN r = w3 at *
      rcases Nat.lt_or_ge (valB B64 xs) (valB B64 ys) with hlt | hge
      · have HLT : Hid (valB B64 xs < valB B64 ys) := hlt
        rw [cmpN_lt hlt]
        clear hlt
        go_wp2_with fail
        go_ret2
        exact ⟨none, 0, 0, [], 3, rfl, NewA.empty _ _, .inr ⟨HFX.out, HFY.out, .inl ⟨HLT.out, rfl, rfl⟩⟩, hbc⟩
      have HGE : Hid (valB B64 ys ≤ valB B64 xs) := hge
      obtain ⟨cv, hcv, hcv0⟩ : ∃ cv : Int, cmpN (valB B64 xs) (valB B64 ys) = cv ∧ 0 ≤ cv := by
        rcases Nat.lt_or_ge (valB B64 ys) (valB B64 xs) with e | e
        · exact ⟨1, cmpN_gt e, by omega⟩
        · exact ⟨0, cmpN_eq (Nat.le_antisymm e hge), by omega⟩
      rw [hcv]
      have hcd : decide (cv < 0) = false := decide_eq_false (by omega)
      clear hge hcv hcv0
      go_wp2_with fail
      refine (from_any (HA.out.below hbc) (by omega)).mono ?_
      rintro e w4 ⟨g4, z4, rfl, hgq, hkq, hnq, hlq, hb4⟩
      have A4 : Hid (At32 w4 (some ⟨g4, 0, none⟩) z4.length z4.length z4) := hkq.at_ hnq.dig rfl (by unfold maxLen; omega)
      have N4 : Hid (Nf B32 z4 (valB B64 xs)) := hnq
      obtain ⟨l4, hlel4⟩ : ∃ l4, l4 = z4.length := ⟨_, rfl⟩
      rw [← hlel4] at A4 hlq ⊢
      have hll4 : l4 ≤ 16384 := by omega
      clear hkq hnq hgq hlel4 hlq
      have hbw4 := Below.on hbc hb4
      go_wp2_with fail
      refine (from_any (HB.out.below hbw4) (by omega)).mono ?_
      rintro e w5 ⟨g5, z5, rfl, hgq, hkq, hnq, hlq, hb5⟩
      have A5 : Hid (At32 w5 (some ⟨g5, 0, none⟩) z5.length z5.length z5) := hkq.at_ hnq.dig rfl (by unfold maxLen; omega)
      have N5 : Hid (Nf B32 z5 (valB B64 ys)) := hnq
      obtain ⟨l5, hlel5⟩ : ∃ l5, l5 = z5.length := ⟨_, rfl⟩
      rw [← hlel5] at A5 hlq ⊢
      have hll5 : l5 ≤ 16384 := by omega
      clear hkq hnq hgq hlel5 hlq
      have A45 : Hid (At32 w5 (some ⟨g4, 0, none⟩) l4 l4 z4) := A4.out.below hb5
      have hbw5 := Below.on hbw4 hb5
      clear A4 hb4 hb5 hbw4 hbc
      go_wp2_with fail
      refine (rsub_any A45.out A5.out N4.out N5.out (by omega) HGE.out).mono ?_
      rintro e w6 ⟨p6, m6, z6, rfl, hA6, hN6, hm6, hb6⟩
      have A6 : Hid (At32 w6 p6 m6 m6 z6) := hA6
      have N6 : Hid (Nf B32 z6 (valB B64 xs - valB B64 ys)) := hN6
      have hbw6 := Below.on hbw5 hb6
      clear hA6 hN6 hb6 hbw5
      go_wp2_with fail
      refine (rtoldN A6.out N6.out (by omega)).mono ?_
      rintro e w7 ⟨p7, m7, N7, us, f7, rfl, hA7, hD7, hb7⟩
      have HA7 : Hid (NewA w.heap.size w7 p7 m7 N7 us) := NewA.mono hA7 hbw6.size
      have HD7 : Hid (TwoIs subR xs ys us f7) := .inr ⟨HFX.out, HFY.out, .inr ⟨HGE.out, hD7⟩⟩
      have hbw7 := Below.on hbw6 hb7
      clear hA7 hD7 hbw6 hb7
      go_wp2_with fail
      go_ret2
      exact ⟨p7, m7, N7, us, f7, rfl, HA7.out, HD7.out, hbw7⟩

theorem docshrN {p : Option Addr} {n c : Nat} {xs : List Nat} {w : World} (h : At w p n c xs) (t : Int) (ht : t ≤ 9223372036854775807) :
    Calls Tryd.prog 34 #[.slice p n c, .int .i64 t] w fun e w' => ∃ p' m' N' us f, e = .returned (.tuple #[.slice p' m' N', .int .i64 f]) ∧ NewA w.heap.size w' p' m' N' us ∧ ShIs shrR xs t us f ∧ Below w.heap.size w w' := by
  have HA : Hid (At w p n c xs) := h
  clear h
  rcases Int.lt_or_le t 0 with h0 | h0
  · have h1 : decide (t < 0) = true := decide_eq_true h0
    go_enter Tryd.func34, Tryd.ntmps34
    go_wp2_with fail
    go_ret2
    exact ⟨none, 0, 0, [], 1, rfl, NewA.empty _ _, .inl ⟨h0, rfl, rfl⟩, Below.refl _ _⟩
  · have h1 : decide (t < 0) = false := decide_eq_false (by omega)
    cases hf : formB xs
    · go_enter Tryd.func34, Tryd.ntmps34
      go_wp2_with fail
      refine (docform_any HA.out).mono ?_
      rintro e w1 ⟨rfl, hw⟩
      rw [hf]
      obtain rfl := hw.symm
      clear hw
      go_wp2_with fail
      go_ret2
      exact ⟨none, 0, 0, [], 2, rfl, NewA.empty _ _, .inr (.inl ⟨h0, hf, rfl, rfl⟩), Below.refl _ _⟩
    · have HF : Hid (formB xs = true) := hf
      have hn : n ≤ 8192 := by have := form_lenq hf; rw [HA.out.len] at this; exact this
      have HNX : Hid (Nf B64 xs (valB B64 xs)) := nf_of_form HA.out.dig hf
      obtain ⟨T, rfl⟩ := Int.eq_ofNat_of_zero_le h0
      have H0 : Hid (0 ≤ (T : Int)) := h0
      clear h0
      go_enter Tryd.func34, Tryd.ntmps34
      go_wp2_with fail
      refine (docform_any HA.out).mono ?_
      rintro e w1 ⟨rfl, hw⟩
      rw [hf]
      obtain rfl := hw.symm
      clear hw hf
      go_wp2_with fail
      refine (from_any HA.out (by omega)).mono ?_
      rintro e w1 ⟨g1, z1, rfl, hg1, hk1, hn1, hl1, hb1⟩
      have A1 : Hid (At32 w1 (some ⟨g1, 0, none⟩) z1.length z1.length z1) := hk1.at_ hn1.dig rfl (by unfold maxLen; omega)
      have N1 : Hid (Nf B32 z1 (valB B64 xs)) := hn1
      have hz1 := nf32_zeroq hn1
      obtain ⟨l1, hl1e⟩ : ∃ l1, l1 = z1.length := ⟨_, rfl⟩
      rw [← hl1e] at A1 hl1 hz1 ⊢
      have hl16 : l1 ≤ 16384 := by omega
      clear hk1 hn1 hg1 hl1e hl1
      go_wp2_with fail
      refine (rshr_all A1.out N1.out hl16 T (by omega)).mono ?_
      rintro e w2 ⟨p2, m2, z2, rfl, hA2, hN2, hm2, hb2⟩
      have A2 : Hid (At32 w2 p2 m2 m2 z2) := hA2
      have N2 : Hid (Nf B32 z2 (valB B64 xs / 2 ^ T)) := hN2
      have hbw2 := Below.on hb1 hb2
      clear hA2 hN2 hb2 hb1 A1 hz1
      go_wp2_with fail
      refine (rtoldN A2.out N2.out (by omega)).mono ?_
      rintro e w3 ⟨p3, m3, N3, us, f3, rfl, hA3, hD3, hb3⟩
      have A3 : Hid (NewA w.heap.size w3 p3 m3 N3 us) := NewA.mono hA3 hbw2.size
      have D3 : Hid (DocIs (shrR (valB B64 xs) T) us f3) := hD3
      have hbw3 := Below.on hbw2 hb3
      clear hA3 hD3 hb3 hbw2
      go_wp2_with fail
      go_ret2
      exact ⟨p3, m3, N3, us, f3, rfl, A3.out, .inr (.inr ⟨H0.out, HF.out, D3.out⟩), hbw3⟩

theorem doclowN {p : Option Addr} {n c : Nat} {xs : List Nat} {w : World} (h : At w p n c xs) (t : Int) (ht : t ≤ 9223372036854775807) :
    Calls Tryd.prog 35 #[.slice p n c, .int .i64 t] w fun e w' => ∃ p' m' N' us f, e = .returned (.tuple #[.slice p' m' N', .int .i64 f]) ∧ NewA w.heap.size w' p' m' N' us ∧ ShIs lowR xs t us f ∧ Below w.heap.size w w' := by
  have HA : Hid (At w p n c xs) := h
  clear h
  rcases Int.lt_or_le t 0 with h0 | h0
  · have h1 : decide (t < 0) = true := decide_eq_true h0
    go_enter Tryd.func35, Tryd.ntmps35
    go_wp2_with fail
    go_ret2
    exact ⟨none, 0, 0, [], 1, rfl, NewA.empty _ _, .inl ⟨h0, rfl, rfl⟩, Below.refl _ _⟩
  · have h1 : decide (t < 0) = false := decide_eq_false (by omega)
    cases hf : formB xs
    · go_enter Tryd.func35, Tryd.ntmps35
      go_wp2_with fail
      refine (docform_any HA.out).mono ?_
      rintro e w1 ⟨rfl, hw⟩
      rw [hf]
      obtain rfl := hw.symm
      clear hw
      go_wp2_with fail
      go_ret2
      exact ⟨none, 0, 0, [], 2, rfl, NewA.empty _ _, .inr (.inl ⟨h0, hf, rfl, rfl⟩), Below.refl _ _⟩
    · have HF : Hid (formB xs = true) := hf
      have hn : n ≤ 8192 := by have := form_lenq hf; rw [HA.out.len] at this; exact this
      have HNX : Hid (Nf B64 xs (valB B64 xs)) := nf_of_form HA.out.dig hf
      obtain ⟨T, rfl⟩ := Int.eq_ofNat_of_zero_le h0
      have H0 : Hid (0 ≤ (T : Int)) := h0
      clear h0
      go_enter Tryd.func35, Tryd.ntmps35
      go_wp2_with fail
      refine (docform_any HA.out).mono ?_
      rintro e w1 ⟨rfl, hw⟩
      rw [hf]
      obtain rfl := hw.symm
      clear hw hf
      go_wp2_with fail
      refine (from_any HA.out (by omega)).mono ?_
      rintro e w1 ⟨g1, z1, rfl, hg1, hk1, hn1, hl1, hb1⟩
      have A1 : Hid (At32 w1 (some ⟨g1, 0, none⟩) z1.length z1.length z1) := hk1.at_ hn1.dig rfl (by unfold maxLen; omega)
      have N1 : Hid (Nf B32 z1 (valB B64 xs)) := hn1
      have hz1 := nf32_zeroq hn1
      obtain ⟨l1, hl1e⟩ : ∃ l1, l1 = z1.length := ⟨_, rfl⟩
      rw [← hl1e] at A1 hl1 hz1 ⊢
      have hl16 : l1 ≤ 16384 := by omega
      clear hk1 hn1 hg1 hl1e hl1
      go_wp2_with fail
      refine (rlow_all A1.out N1.out hl16 T (by omega)).mono ?_
      rintro e w2 ⟨p2, m2, z2, rfl, hA2, hN2, hm2, hb2⟩
      have A2 : Hid (At32 w2 p2 m2 m2 z2) := hA2
      have N2 : Hid (Nf B32 z2 (valB B64 xs % 2 ^ T)) := hN2
      have hbw2 := Below.on hb1 hb2
      clear hA2 hN2 hb2 hb1 A1 hz1
      go_wp2_with fail
      refine (rtoldN A2.out N2.out (by omega)).mono ?_
      rintro e w3 ⟨p3, m3, N3, us, f3, rfl, hA3, hD3, hb3⟩
      have A3 : Hid (NewA w.heap.size w3 p3 m3 N3 us) := NewA.mono hA3 hbw2.size
      have D3 : Hid (DocIs (lowR (valB B64 xs) T) us f3) := hD3
      have hbw3 := Below.on hbw2 hb3
      clear hA3 hD3 hb3 hbw2
      go_wp2_with fail
      go_ret2
      exact ⟨p3, m3, N3, us, f3, rfl, A3.out, .inr (.inr ⟨H0.out, HF.out, D3.out⟩), hbw3⟩

theorem docshlN {p : Option Addr} {n c : Nat} {xs : List Nat} {w : World} (h : At w p n c xs) (t : Int) (ht : t ≤ 9223372036854775807) :
    Calls Tryd.prog 33 #[.slice p n c, .int .i64 t] w fun e w' => ∃ p' m' N' us f, e = .returned (.tuple #[.slice p' m' N', .int .i64 f]) ∧ NewA w.heap.size w' p' m' N' us ∧ ShIs shlR xs t us f ∧ Below w.heap.size w w' := by
  have HA : Hid (At w p n c xs) := h
  clear h
  rcases Int.lt_or_le t 0 with h0 | h0
  · have h1 : decide (t < 0) = true := decide_eq_true h0
    go_enter Tryd.func33, Tryd.ntmps33
    go_wp2_with fail
    go_ret2
    exact ⟨none, 0, 0, [], 1, rfl, NewA.empty _ _, .inl ⟨h0, rfl, rfl⟩, Below.refl _ _⟩
  · have h1 : decide (t < 0) = false := decide_eq_false (by omega)
    cases hf : formB xs
    · go_enter Tryd.func33, Tryd.ntmps33
      go_wp2_with fail
      refine (docform_any HA.out).mono ?_
      rintro e w1 ⟨rfl, hw⟩
      rw [hf]
      obtain rfl := hw.symm
      clear hw
      go_wp2_with fail
      go_ret2
      exact ⟨none, 0, 0, [], 2, rfl, NewA.empty _ _, .inr (.inl ⟨h0, hf, rfl, rfl⟩), Below.refl _ _⟩
    · have HF : Hid (formB xs = true) := hf
      have hn : n ≤ 8192 := by have := form_lenq hf; rw [HA.out.len] at this; exact this
      have HNX : Hid (Nf B64 xs (valB B64 xs)) := nf_of_form HA.out.dig hf
      obtain ⟨T, rfl⟩ := Int.eq_ofNat_of_zero_le h0
      have H0 : Hid (0 ≤ (T : Int)) := h0
      clear h0
      go_enter Tryd.func33, Tryd.ntmps33
      go_wp2_with fail
      refine (docform_any HA.out).mono ?_
      rintro e w1 ⟨rfl, hw⟩
      rw [hf]
      obtain rfl := hw.symm
      clear hw hf
      have hzz := nf64_zeroq HNX.out
      rw [HA.out.len] at hzz
      rcases Nat.eq_zero_or_pos n with hn0 | hn0
      · have HV0 : Hid (valB B64 xs = 0) := hzz.1 hn0
        subst hn0
        clear hzz
        go_wp2_with fail
        go_ret2
        exact ⟨none, 0, 0, [], 0, rfl, NewA.empty _ _, .inr (.inr ⟨H0.out, HF.out, by show DocIs (2 ^ _ * _) _ _; rw [HV0.out, Nat.mul_zero]; exact .inl ⟨LIM_posq, nf_nilq, rfl⟩⟩), Below.refl _ _⟩
      · have hne : ((n : Int) == 0) = false := by simp; omega
        have HVP : Hid (1 ≤ valB B64 xs) := by
          show 1 ≤ _
          rcases Nat.eq_zero_or_pos (valB B64 xs) with e | e
          · have := hzz.2 e; omega
          · exact e
        clear hzz
        by_cases hb : 524288 < T
        · have hbi : (524288 : Int) < (T : Int) := by omega
          go_wp2_with fail
          go_ret2
          exact ⟨none, 0, 0, [], 5, rfl, NewA.empty _ _, .inr (.inr ⟨H0.out, HF.out, .inr ⟨by
            obtain ⟨E, hE⟩ : ∃ E, E = 524288 := ⟨_, rfl⟩
            rw [LIM_twoq hE]
            exact Nat.le_trans (Nat.pow_le_pow_right (by decide) (show E ≤ T by omega)) (Nat.le_mul_of_pos_right _ HVP.out), rfl, rfl⟩⟩), Below.refl _ _⟩
        · have hbi : ¬ (524288 : Int) < (T : Int) := by omega
          go_wp2_with fail
          refine (from_any HA.out (by omega)).mono ?_
          rintro e w1 ⟨g1, z1, rfl, hg1, hk1, hn1, hl1, hb1⟩
          have A1 : Hid (At32 w1 (some ⟨g1, 0, none⟩) z1.length z1.length z1) := hk1.at_ hn1.dig rfl (by unfold maxLen; omega)
          have N1 : Hid (Nf B32 z1 (valB B64 xs)) := hn1
          have hz1 := nf32_zeroq hn1
          obtain ⟨l1, hl1e⟩ : ∃ l1, l1 = z1.length := ⟨_, rfl⟩
          rw [← hl1e] at A1 hl1 hz1 ⊢
          have hl16 : l1 ≤ 16384 := by omega
          clear hk1 hn1 hg1 hl1e hl1
          have hl0 : 0 < l1 := by
            rcases Nat.eq_zero_or_pos l1 with e | e
            · have h2 := hz1.1 e; have h3 := HVP.out; omega
            · exact e
          go_wp2_with fail
          refine (rshl_any A1.out N1.out hl0 hl16 T (by omega)).mono ?_
          rintro e w2 ⟨p2, m2, z2, rfl, hA2, hN2, hm2, hb2⟩
          have A2 : Hid (At32 w2 p2 m2 m2 z2) := hA2
          have N2 : Hid (Nf B32 z2 (valB B64 xs * 2 ^ T)) := hN2
          have hbw2 := Below.on hb1 hb2
          clear hA2 hN2 hb2 hb1 A1 hz1
          go_wp2_with fail
          refine (rtoldN A2.out N2.out (by omega)).mono ?_
          rintro e w3 ⟨p3, m3, N3, us, f3, rfl, hA3, hD3, hb3⟩
          have A3 : Hid (NewA w.heap.size w3 p3 m3 N3 us) := NewA.mono hA3 hbw2.size
          have D3 : Hid (DocIs (shlR (valB B64 xs) T) us f3) := by show DocIs (2 ^ T * _) us f3; rw [Nat.mul_comm]; exact hD3
          have hbw3 := Below.on hbw2 hb3
          clear hA3 hD3 hb3 hbw2
          go_wp2_with fail
          go_ret2
          exact ⟨p3, m3, N3, us, f3, rfl, A3.out, .inr (.inr ⟨H0.out, HF.out, D3.out⟩), hbw3⟩

theorem docmulN {p : Option Addr} {n c : Nat} {xs : List Nat} {w : World} (h : At w p n c xs) (x : Nat) (hx : x < B64) :
    Calls Tryd.prog 36 #[.slice p n c, U x] w fun e w' => ∃ p' m' N' us f, e = .returned (.tuple #[.slice p' m' N', .int .i64 f]) ∧ NewA w.heap.size w' p' m' N' us ∧ MwIs xs x us f ∧ Below w.heap.size w w' := by
  have HA : Hid (At w p n c xs) := h
  clear h
  cases hf : formB xs
  · go_enter Tryd.func36, Tryd.ntmps36
    go_wp2_with fail
    refine (docform_any HA.out).mono ?_
    rintro e w1 ⟨rfl, hw⟩
    rw [hf]
    obtain rfl := hw.symm
    clear hw
    go_wp2_with fail
    go_ret2
    exact ⟨none, 0, 0, [], 2, rfl, NewA.empty _ _, .inl ⟨hf, rfl, rfl⟩, Below.refl _ _⟩
  · have hn : n ≤ 8192 := by have := form_len hf; rw [HA.out.len] at this; exact this
    have HF : Hid (formB xs = true) := hf
    go_enter Tryd.func36, Tryd.ntmps36
    go_wp2_with fail
    refine (docform_any HA.out).mono ?_
    rintro e w1 ⟨rfl, hw⟩
    rw [hf]
    obtain rfl := hw.symm
    clear hw hf
    go_wp2_with fail
    refine (from_any HA.out (by omega)).mono ?_
    rintro e w1 ⟨g1, z1, rfl, hg1, hk1, hn1, hl1, hb1⟩
    have A1 : Hid (At32 w1 (some ⟨g1, 0, none⟩) z1.length z1.length z1) := hk1.at_ hn1.dig rfl (by unfold maxLen; omega)
    have N1 : Hid (Nf B32 z1 (valB B64 xs) ∧ z1.length ≤ 2 * n) := ⟨hn1, hl1⟩
    have HB1 : Hid (Below w.heap.size w w1) := hb1
    clear hk1 hn1 hl1 hg1 hb1
    go_wp2_with fail
    refine (rword x hx w1).mono ?_
    rintro e w2 ⟨g2, z2, rfl, hl2, hA2, hN2, hb2⟩
    have A2 : Hid (At32 w2 (some ⟨g2, 0, none⟩) z2.length z2.length z2) := hA2
    have N2 : Hid (Nf B32 z2 x ∧ z2.length ≤ 2) := ⟨hN2, hl2⟩
    have A12 : Hid (At32 w2 (some ⟨g1, 0, none⟩) z1.length z1.length z1) := A1.out.below hb2
    have HB2 : Hid (Below w.heap.size w w2) := Below.on HB1.out hb2
    clear hA2 hN2 hl2 hb2 A1 HB1
    go_wp2_with fail
    refine (rmul_any A12.out A2.out N1.out.1 N2.out.1 (by have := N1.out.2; omega) (by have := N2.out.2; omega)).mono ?_
    rintro e w3 ⟨p3, m3, z3, rfl, hA3, hN3, hl3, hb3⟩
    have A3 : Hid (At32 w3 p3 m3 m3 z3) := hA3
    have N3 : Hid (Nf B32 z3 (valB B64 xs * x)) := hN3
    have hm3 : m3 ≤ 20000 := by have := N1.out.2; have := N2.out.2; omega
    have HM3 : Hid (m3 ≤ 20000) := hm3
    have HB3 : Hid (Below w.heap.size w w3) := Below.on HB2.out hb3
    clear hA3 hN3 hl3 hb3 hm3 A12 A2 HB2
    go_wp2_with fail
    refine (rtoldN A3.out N3.out (by have := HM3.out; omega)).mono ?_
    rintro e w4 ⟨p4, m4, N4, us, f4, rfl, hA4, hD4, hb4⟩
    have A4 : Hid (NewA w.heap.size w4 p4 m4 N4 us) := NewA.mono hA4 HB3.out.size
    have D4 : Hid (DocIs (valB B64 xs * x) us f4) := hD4
    have HB4 : Hid (Below w.heap.size w w4) := Below.on HB3.out hb4
    clear hA4 hD4 hb4 A3 HB3
    go_wp2_with fail
    go_ret2
    exact ⟨p4, m4, N4, us, f4, rfl, A4.out, .inr ⟨HF.out, D4.out⟩, HB4.out⟩
theorem docwordN (x : Nat) (hx : x < B64) (w : World) :
    Calls Tryd.prog 30 #[U x] w fun e w' => ∃ p' m' N' us, e = .returned (.slice p' m' N') ∧ NewA w.heap.size w' p' m' N' us ∧ Nf B64 us x ∧ Below w.heap.size w w' := by
  obtain ⟨lo, hlo⟩ : ∃ lo, lo = x % B32 := ⟨_, rfl⟩
  obtain ⟨hi, hhi⟩ : ∃ hi, hi = x / B32 := ⟨_, rfl⟩
  have hlb : lo < B32 := by rw [hlo]; exact Nat.mod_lt _ B32_pos
  have hhb : hi < B32 := by rw [hhi]; refine Nat.div_lt_of_lt_mul ?_; rw [B32_two]; exact hx
  have e1 : bits .and .u64 (x : Int) 4294967295 = (lo : Int) := by rw [hlo, B32_eq]; exact and32 x (by rw [← B64_eq]; exact hx)
  have e2 : (x : Int) / 4294967296 = (hi : Int) := by rw [hhi, B32_eq]; exact div32 x
  have e3 : IntKind.u32.wrap (lo : Int) = (lo : Int) := wrap32 lo hlb
  have e4 : IntKind.u32.wrap (hi : Int) = (hi : Int) := wrap32 hi hhb
  have HV : Hid (valB B32 [lo, hi] = x) := by show _ = _; simp only [valB, hlo, hhi]; have := Nat.mod_add_div x B32; omega
  have HLB : Hid (lo < B32 ∧ hi < B32) := ⟨hlb, hhb⟩
  clear hlo hhi hlb hhb
  go_enter Tryd.func30, Tryd.ntmps30
  go_wp2_with fail
  have hW : Calls Tryd.prog 59 #[U x] w fun e w' => ∃ g zs, e = .returned (.slice (some ⟨g, 0, none⟩) zs.length zs.length) ∧ zs.length ≤ 2 ∧ At32 w' (some ⟨g, 0, none⟩) zs.length zs.length zs ∧ valB B32 zs = x ∧ Below w.heap.size w w' := by
    go_enter Tryd.func59, Tryd.ntmps59
    go_wp2_with fail
    refine (rnorm_any (lit_at32 w lo hi HLB.out.1 HLB.out.2) (by omega)).mono ?_
    rintro e w1 ⟨g, rfl, hg, hb, hbl⟩
    have hl := trimL_length_le [lo, hi]
    have hA : At32 w1 (some ⟨g, 0, none⟩) (trimL [lo, hi]).length (trimL [lo, hi]).length (trimL [lo, hi]) := hb.at_ (Dig.trimL (lit_at32 w lo hi HLB.out.1 HLB.out.2).dig) rfl (by unfold maxLen; simp at hl; omega)
    have hv : valB B32 (trimL [lo, hi]) = x := by rw [valB_trimL]; exact HV.out
    have HH : Hid (At32 w1 (some ⟨g, 0, none⟩) (trimL [lo, hi]).length (trimL [lo, hi]).length (trimL [lo, hi]) ∧ valB B32 (trimL [lo, hi]) = x ∧ (trimL [lo, hi]).length ≤ 2) := ⟨hA, hv, by simpa using hl⟩
    have hbw := Below.on (below1 w _) hbl
    generalize trimL [lo, hi] = zs at *
    clear hA hv hl hb hbl hg
    go_wp2_with fail
    go_ret
    exact ⟨g, zs, rfl, HH.out.2.2, HH.out.1, HH.out.2.1, hbw⟩
  refine hW.mono ?_
  rintro e w1 ⟨g, zs, rfl, hl, hA, hv, hb1⟩
  have A1 : Hid (At32 w1 (some ⟨g, 0, none⟩) zs.length zs.length zs) := hA
  have V1 : Hid (valB B32 zs = x) := hv
  obtain ⟨l1, hl1⟩ : ∃ l1, l1 = zs.length := ⟨_, rfl⟩
  rw [← hl1] at A1 hl ⊢
  clear hA hv hW hl1 e1 e2 e3 e4
  go_wp2_with fail
  refine (rto_any A1.out (by omega)).mono ?_
  rintro e w2 ⟨g2, k2, N2, us, rfl, hg2, hA2, hN2, hb2⟩
  have A2 : Hid (NewA w.heap.size w2 (some ⟨g2, 0, none⟩) k2 N2 us) := ⟨hA2, .inr ⟨g2, rfl, Nat.le_trans hb1.size hg2⟩⟩
  have NN : Hid (Nf B64 us x) := by rw [V1.out] at hN2; exact hN2
  have hbw := Below.on hb1 hb2
  clear hA2 hN2 hb1 hb2
  go_wp2_with fail
  go_ret
  exact ⟨_, k2, N2, us, rfl, A2.out, NN.out, hbw⟩
theorem docdivN {p : Option Addr} {n c : Nat} {xs : List Nat} {w : World} (h : At w p n c xs) (x : Nat) (hx : x < B64) :
    Calls Tryd.prog 37 #[.slice p n c, U x] w fun e w' => ∃ p' m' N' us r f, e = .returned (.tuple #[.slice p' m' N', U r, .int .i64 f]) ∧ NewA w.heap.size w' p' m' N' us ∧ DwIs xs x us r f ∧ Below w.heap.size w w' := by
  have HA : Hid (At w p n c xs) := h
  clear h
  cases hf : formB xs
  · go_enter Tryd.func37, Tryd.ntmps37
    go_wp2_with fail
    refine (docform_any HA.out).mono ?_
    rintro e w1 ⟨rfl, hw⟩
    rw [hf]
    obtain rfl := hw.symm
    clear hw
    go_wp2_with fail
    go_ret3
    exact ⟨none, 0, 0, [], 0, 2, rfl, NewA.empty _ _, .inl ⟨hf, rfl, rfl, rfl⟩, Below.refl _ _⟩
  · have hn : n ≤ 8192 := by have := form_len hf; rw [HA.out.len] at this; exact this
    have HF : Hid (formB xs = true) := hf
    by_cases h0 : x = 0
    · have hx0 : ((x : Int) == 0) = true := by simp; omega
      have H0 : Hid (x = 0) := h0
      clear h0
      go_enter Tryd.func37, Tryd.ntmps37
      go_wp2_with fail
      refine (docform_any HA.out).mono ?_
      rintro e w1 ⟨rfl, hw⟩
      rw [hf]
      obtain rfl := hw.symm
      clear hw
      go_wp2_with fail
      go_ret3
      exact ⟨none, 0, 0, [], 0, 4, rfl, NewA.empty _ _, .inr (.inl ⟨HF.out, H0.out, rfl, rfl, rfl⟩), Below.refl _ _⟩
    · have hx0 : ((x : Int) == 0) = false := by simp; omega
      have H0 : Hid (x ≠ 0) := h0
      clear h0
      go_enter Tryd.func37, Tryd.ntmps37
      go_wp2_with fail
      refine (docform_any HA.out).mono ?_
      rintro e w1 ⟨rfl, hw⟩
      rw [hf]
      obtain rfl := hw.symm
      clear hw hf
      go_wp2_with fail
      refine (from_any HA.out (by omega)).mono ?_
      rintro e w1 ⟨g1, z1, rfl, hg1, hk1, hn1, hl1, hb1⟩
      have A1 : Hid (At32 w1 (some ⟨g1, 0, none⟩) z1.length z1.length z1) := hk1.at_ hn1.dig rfl (by unfold maxLen; omega)
      have N1 : Hid (Nf B32 z1 (valB B64 xs) ∧ z1.length ≤ 2 * n) := ⟨hn1, hl1⟩
      have HB1 : Hid (Below w.heap.size w w1) := hb1
      clear hk1 hn1 hl1 hg1 hb1
      go_wp2_with fail
      refine (rword x hx w1).mono ?_
      rintro e w2 ⟨g2, z2, rfl, hl2, hA2, hN2, hb2⟩
      have A2 : Hid (At32 w2 (some ⟨g2, 0, none⟩) z2.length z2.length z2) := hA2
      have N2 : Hid (Nf B32 z2 x ∧ z2.length ≤ 2) := ⟨hN2, hl2⟩
      have A12 : Hid (At32 w2 (some ⟨g1, 0, none⟩) z1.length z1.length z1) := A1.out.below hb2
      have HB2 : Hid (Below w.heap.size w w2) := Below.on HB1.out hb2
      clear hA2 hN2 hl2 hb2 A1 HB1
      go_wp2_with fail
      refine (rdivmod_any A12.out A2.out N1.out.1 N2.out.1 (by have := N1.out.2; omega) (by have := N2.out.2; omega) H0.out).mono ?_
      rintro e w3 ⟨p3, m3, z3, p4, m4, z4, rfl, hA3, hN3, hA4, hN4, hl3, hl4, hb3⟩
      have A3 : Hid (At32 w3 p3 m3 m3 z3) := hA3
      have A4 : Hid (At32 w3 p4 m4 m4 z4) := hA4
      have N3 : Hid (Nf B32 z3 (valB B64 xs / x) ∧ Nf B32 z4 (valB B64 xs % x) ∧ m3 ≤ 16384 ∧ m4 ≤ 16384) := ⟨hN3, hN4, by have := N1.out.2; omega, by have := N1.out.2; omega⟩
      have HB3 : Hid (Below w.heap.size w w3) := Below.on HB2.out hb3
      clear hA3 hN3 hA4 hN4 hl3 hl4 hb3 A12 A2 HB2
      obtain ⟨R, hR⟩ : ∃ R, R = valB B64 xs % x := ⟨_, rfl⟩
      have HR : Hid (R = valB B64 xs % x ∧ R < B64) := ⟨hR, by rw [hR]; exact Nat.lt_trans (Nat.mod_lt _ (Nat.pos_of_ne_zero H0.out)) hx⟩
      clear hR
      go_wp2_with fail
      refine (rfits_any (v := R) A4.out (by rw [HR.out.1]; exact N3.out.2.1) N3.out.2.2.2 HR.out.2).mono ?_
      rintro e w4 ⟨rfl, hb4⟩
      have A34 : Hid (At32 w4 p3 m3 m3 z3) := A3.out.below hb4
      have HB4 : Hid (Below w.heap.size w w4) := Below.on HB3.out hb4
      clear hb4 A3 A4 HB3
      go_wp2_with fail
      refine (rto_any A34.out (by have := N3.out.2.2.1; omega)).mono ?_
      rintro e w5 ⟨g5, k5, N5, us, rfl, hg5, hA5, hN5, hb5⟩
      have A5 : Hid (NewA w.heap.size w5 (some ⟨g5, 0, none⟩) k5 N5 us) := ⟨hA5, .inr ⟨g5, rfl, Nat.le_trans HB4.out.size hg5⟩⟩
      have N5q : Hid (Nf B64 us (valB B64 xs / x)) := by rw [N3.out.1.val] at hN5; exact hN5
      have HB5 : Hid (Below w.heap.size w w5) := Below.on HB4.out hb5
      clear hA5 hN5 hb5 hg5 A34 HB4
      go_wp2_with fail
      go_ret3
      exact ⟨_, k5, N5, us, R, 0, rfl, A5.out, .inr (.inr ⟨HF.out, H0.out, N5q.out, HR.out.1, rfl⟩), HB5.out⟩
def OwnL (B : Nat) (w : World) (p : Option Addr) (m N : Nat) (us : List Nat) : Prop := Own B w p m us ∧ m ≤ 8192 ∧ N = m
theorem OwnL.empty (B : Nat) (w : World) : OwnL B w none 0 0 [] := ⟨⟨rfl, Dig.nil _, .inl rfl⟩, by omega, rfl⟩
theorem normO {p : Option Addr} {n c : Nat} {xs : List Nat} {w : World} (h : At w p n c xs) :
    Calls Tryd.prog 39 #[.slice p n c] w fun e w' => ∃ p' m' us f, e = .returned (.tuple #[.slice p' m' m', .int .i64 f]) ∧ OwnL w.heap.size w' p' m' m' us ∧ DocIs (valB B64 xs) us f ∧ Below w.heap.size w w' := by
  refine (norm_any h).mono ?_
  rintro e w' ⟨ha, hb⟩
  rcases ha with ⟨hl, p1, m1, zs, rfl, ho, hn, hm⟩ | ⟨hl, rfl⟩
  · exact ⟨p1, m1, zs, 0, rfl, ⟨ho, hm, rfl⟩, .inl ⟨hl, hn, rfl⟩, hb⟩
  · exact ⟨none, 0, [], 5, rfl, OwnL.empty _ _, .inr ⟨hl, rfl, rfl⟩, hb⟩

theorem addO {p q : Option Addr} {n m c d : Nat} {xs ys : List Nat} {w : World} (h : At w p n c xs) (k : At w q m d ys) :
    Calls Tryd.prog 7 #[.slice p n c, .slice q m d] w fun e w' => ∃ p' m' us f, e = .returned (.tuple #[.slice p' m' m', .int .i64 f]) ∧ OwnL w.heap.size w' p' m' m' us ∧ TwoIs addR xs ys us f ∧ Below w.heap.size w w' := by
  cases hf : (formB xs && formB ys)
  · refine (add_noform h k hf).mono ?_
    rintro e w' ⟨rfl, hw⟩
    obtain rfl := hw.symm
    exact ⟨none, 0, [], 2, rfl, OwnL.empty _ _, .inl ⟨hf, rfl, rfl⟩, Below.refl _ _⟩
  · simp only [Bool.and_eq_true] at hf
    refine (add_ord h k (nf_of_form h.dig hf.1) (nf_of_form k.dig hf.2) (by have := form_len hf.1; rw [h.len] at this; exact this) (by have := form_len hf.2; rw [k.len] at this; exact this)).mono ?_
    rintro e w' ⟨ha, hb⟩
    rcases ha with ⟨hl, p1, m1, zs, rfl, ho, hn, hm⟩ | ⟨hl, rfl⟩
    · exact ⟨p1, m1, zs, 0, rfl, ⟨ho, hm, rfl⟩, .inr ⟨hf.1, hf.2, .inl ⟨hl, hn, rfl⟩⟩, hb⟩
    · exact ⟨none, 0, [], 5, rfl, OwnL.empty _ _, .inr ⟨hf.1, hf.2, .inr ⟨hl, rfl, rfl⟩⟩, hb⟩
theorem subO {p q : Option Addr} {n m c d : Nat} {xs ys : List Nat} {w : World} (h : At w p n c xs) (k : At w q m d ys) :
    Calls Tryd.prog 9 #[.slice p n c, .slice q m d] w fun e w' => ∃ p' m' us f, e = .returned (.tuple #[.slice p' m' m', .int .i64 f]) ∧ OwnL w.heap.size w' p' m' m' us ∧ TwoIs subR xs ys us f ∧ Below w.heap.size w w' := by
  cases hf : (formB xs && formB ys)
  · refine (sub_noform h k hf).mono ?_
    rintro e w' ⟨rfl, hw⟩
    obtain rfl := hw.symm
    exact ⟨none, 0, [], 2, rfl, OwnL.empty _ _, .inl ⟨hf, rfl, rfl⟩, Below.refl _ _⟩
  · simp only [Bool.and_eq_true] at hf
    refine (sub_nf h k (nf_of_form h.dig hf.1) (nf_of_form k.dig hf.2) (by have := form_len hf.1; rw [h.len] at this; exact this) (by have := form_len hf.2; rw [k.len] at this; exact this)).mono ?_
    rintro e w' ⟨ha, hb⟩
    rcases ha with ⟨hle, p1, m1, zs, rfl, ho, hn, hm⟩ | ⟨hlt, rfl⟩
    · exact ⟨p1, m1, zs, 0, rfl, ⟨ho, hm, rfl⟩, .inr ⟨hf.1, hf.2, .inr ⟨hle, .inl ⟨hn.lim.1 (by rw [ho.len]; exact hm), hn, rfl⟩⟩⟩, hb⟩
    · exact ⟨none, 0, [], 3, rfl, OwnL.empty _ _, .inr ⟨hf.1, hf.2, .inl ⟨hlt, rfl, rfl⟩⟩, hb⟩

theorem shlO {p : Option Addr} {n c : Nat} {xs : List Nat} {w : World} (h : At w p n c xs) (t : Int) (ht : t ≤ 9223372036854775807) :
    Calls Tryd.prog 41 #[.slice p n c, .int .i64 t] w fun e w' => ∃ p' m' N' us f, e = .returned (.tuple #[.slice p' m' N', .int .i64 f]) ∧ OwnL w.heap.size w' p' m' N' us ∧ ShIs shlR xs t us f ∧ Below w.heap.size w w' := by
  rcases Int.lt_or_le t 0 with h0 | h0
  · have h1 : decide (t < 0) = true := decide_eq_true h0
    go_enter Tryd.func41, Tryd.ntmps41
    go_wp2_with fail
    go_ret2
    exact ⟨none, 0, 0, [], 1, rfl, OwnL.empty _ _, .inl ⟨h0, rfl, rfl⟩, Below.refl _ _⟩
  · cases hf : formB xs
    · have h1 : decide (t < 0) = false := decide_eq_false (by omega)
      go_enter Tryd.func41, Tryd.ntmps41
      go_wp2_with fail
      refine (form_any h).mono ?_
      rintro e w1 ⟨rfl, hw⟩
      rw [hf]
      obtain rfl := hw.symm
      clear hw
      go_wp2_with fail
      go_ret2
      exact ⟨none, 0, 0, [], 2, rfl, OwnL.empty _ _, .inr (.inl ⟨h0, hf, rfl, rfl⟩), Below.refl _ _⟩
    · obtain ⟨T, rfl⟩ := Int.eq_ofNat_of_zero_le h0
      refine (shl_nf h (nf_of_form h.dig hf) (by have := form_lenq hf; rw [h.len] at this; exact this) T (by omega)).mono ?_
      rintro e w' ⟨ha, hb⟩
      rcases ha with ⟨hl, p1, m1, zs, rfl, ho, hn, hm⟩ | ⟨hl, rfl⟩
      · exact ⟨p1, m1, m1, zs, 0, rfl, ⟨ho, hm, rfl⟩, .inr (.inr ⟨h0, hf, .inl ⟨hl, hn, rfl⟩⟩), hb⟩
      · exact ⟨none, 0, 0, [], 5, rfl, OwnL.empty _ _, .inr (.inr ⟨h0, hf, .inr ⟨hl, rfl, rfl⟩⟩), hb⟩

theorem shrO {p : Option Addr} {n c : Nat} {xs : List Nat} {w : World} (h : At w p n c xs) (t : Int) (ht : t ≤ 9223372036854775807) :
    Calls Tryd.prog 42 #[.slice p n c, .int .i64 t] w fun e w' => ∃ p' m' N' us f, e = .returned (.tuple #[.slice p' m' N', .int .i64 f]) ∧ OwnL w.heap.size w' p' m' N' us ∧ ShIs shrR xs t us f ∧ Below w.heap.size w w' := by
  rcases Int.lt_or_le t 0 with h0 | h0
  · have h1 : decide (t < 0) = true := decide_eq_true h0
    go_enter Tryd.func42, Tryd.ntmps42
    go_wp2_with fail
    go_ret2
    exact ⟨none, 0, 0, [], 1, rfl, OwnL.empty _ _, .inl ⟨h0, rfl, rfl⟩, Below.refl _ _⟩
  · cases hf : formB xs
    · have h1 : decide (t < 0) = false := decide_eq_false (by omega)
      go_enter Tryd.func42, Tryd.ntmps42
      go_wp2_with fail
      refine (form_any h).mono ?_
      rintro e w1 ⟨rfl, hw⟩
      rw [hf]
      obtain rfl := hw.symm
      clear hw
      go_wp2_with fail
      go_ret2
      exact ⟨none, 0, 0, [], 2, rfl, OwnL.empty _ _, .inr (.inl ⟨h0, hf, rfl, rfl⟩), Below.refl _ _⟩
    · obtain ⟨T, rfl⟩ := Int.eq_ofNat_of_zero_le h0
      refine (shr_nf h (nf_of_form h.dig hf) (by have := form_lenq hf; rw [h.len] at this; exact this) T (by omega)).mono ?_
      rintro e w' ⟨⟨p1, m1, zs, rfl, ho, hn, hm⟩, hb⟩
      exact ⟨p1, m1, m1, zs, 0, rfl, ⟨ho, hm, rfl⟩, .inr (.inr ⟨h0, hf, .inl ⟨hn.lim.1 (by rw [ho.len]; exact hm), hn, rfl⟩⟩), hb⟩

theorem lowO {p : Option Addr} {n c : Nat} {xs : List Nat} {w : World} (h : At w p n c xs) (t : Int) (ht : t ≤ 9223372036854775807) :
    Calls Tryd.prog 43 #[.slice p n c, .int .i64 t] w fun e w' => ∃ p' m' N' us f, e = .returned (.tuple #[.slice p' m' N', .int .i64 f]) ∧ OwnL w.heap.size w' p' m' N' us ∧ ShIs lowR xs t us f ∧ Below w.heap.size w w' := by
  rcases Int.lt_or_le t 0 with h0 | h0
  · have h1 : decide (t < 0) = true := decide_eq_true h0
    go_enter Tryd.func43, Tryd.ntmps43
    go_wp2_with fail
    go_ret2
    exact ⟨none, 0, 0, [], 1, rfl, OwnL.empty _ _, .inl ⟨h0, rfl, rfl⟩, Below.refl _ _⟩
  · cases hf : formB xs
    · have h1 : decide (t < 0) = false := decide_eq_false (by omega)
      go_enter Tryd.func43, Tryd.ntmps43
      go_wp2_with fail
      refine (form_any h).mono ?_
      rintro e w1 ⟨rfl, hw⟩
      rw [hf]
      obtain rfl := hw.symm
      clear hw
      go_wp2_with fail
      go_ret2
      exact ⟨none, 0, 0, [], 2, rfl, OwnL.empty _ _, .inr (.inl ⟨h0, hf, rfl, rfl⟩), Below.refl _ _⟩
    · obtain ⟨T, rfl⟩ := Int.eq_ofNat_of_zero_le h0
      refine (low_nf h (nf_of_form h.dig hf) (by have := form_lenq hf; rw [h.len] at this; exact this) T (by omega)).mono ?_
      rintro e w' ⟨⟨p1, m1, zs, rfl, ho, hn, hm⟩, hb⟩
      exact ⟨p1, m1, m1, zs, 0, rfl, ⟨ho, hm, rfl⟩, .inr (.inr ⟨h0, hf, .inl ⟨hn.lim.1 (by rw [ho.len]; exact hm), hn, rfl⟩⟩), hb⟩

theorem mulO {p : Option Addr} {n c : Nat} {xs : List Nat} {w : World} (h : At w p n c xs) (x : Nat) (hx : x < B64) :
    Calls Tryd.prog 44 #[.slice p n c, U x] w fun e w' => ∃ p' m' N' us f, e = .returned (.tuple #[.slice p' m' N', .int .i64 f]) ∧ OwnL w.heap.size w' p' m' N' us ∧ MwIs xs x us f ∧ Below w.heap.size w w' := by
  cases hf : formB xs
  · go_enter Tryd.func44, Tryd.ntmps44
    go_wp2_with fail
    refine (form_false h hf).mono ?_
    rintro e w1 ⟨rfl, hw⟩
    obtain rfl := hw.symm
    clear hw
    go_wp2_with fail
    go_ret2
    exact ⟨none, 0, 0, [], 2, rfl, OwnL.empty _ _, .inl ⟨hf, rfl, rfl⟩, Below.refl _ _⟩
  · obtain ⟨hN, hL⟩ := formB_nf hf h.dig
    rw [h.len] at hL
    refine (mulw_nf h hN hL x hx).mono ?_
    rintro e w1 ⟨ha, hb⟩
    rcases ha with ⟨hl, p1, m1, z1, rfl, ho, hn, hm⟩ | ⟨hl, rfl⟩
    · exact ⟨p1, m1, m1, z1, 0, rfl, ⟨ho, hm, rfl⟩, .inr ⟨hf, .inl ⟨hl, hn, rfl⟩⟩, hb⟩
    · exact ⟨none, 0, 0, [], 5, rfl, OwnL.empty _ _, .inr ⟨hf, .inr ⟨hl, rfl, rfl⟩⟩, hb⟩
theorem divO {p : Option Addr} {n c : Nat} {xs : List Nat} {w : World} (h : At w p n c xs) (x : Nat) (hx : x < B64) :
    Calls Tryd.prog 45 #[.slice p n c, U x] w fun e w' => ∃ p' m' N' us r f, e = .returned (.tuple #[.slice p' m' N', U r, .int .i64 f]) ∧ OwnL w.heap.size w' p' m' N' us ∧ DwIs xs x us r f ∧ Below w.heap.size w w' := by
  cases hf : formB xs
  · go_enter Tryd.func45, Tryd.ntmps45
    go_wp2_with fail
    refine (form_false h hf).mono ?_
    rintro e w1 ⟨rfl, hw⟩
    obtain rfl := hw.symm
    clear hw
    go_wp2_with fail
    go_ret3
    exact ⟨none, 0, 0, [], 0, 2, rfl, OwnL.empty _ _, .inl ⟨hf, rfl, rfl, rfl⟩, Below.refl _ _⟩
  · obtain ⟨hN, hL⟩ := formB_nf hf h.dig
    rw [h.len] at hL
    by_cases h0 : x = 0
    · subst h0
      refine (divw_zero1 h hN hL).mono ?_
      rintro e w1 ⟨rfl, rfl⟩
      exact ⟨none, 0, 0, [], 0, 4, rfl, OwnL.empty _ _, .inr (.inl ⟨hf, rfl, rfl, rfl, rfl⟩), Below.refl _ _⟩
    · refine (divw_nf h hN hL x hx h0).mono ?_
      rintro e w1 ⟨⟨p1, m1, z1, rfl, ho, hn, hm⟩, hb⟩
      exact ⟨p1, m1, m1, z1, _, 0, rfl, ⟨ho, hm, rfl⟩, .inr (.inr ⟨hf, h0, hn, rfl, rfl⟩), hb⟩
def LsIs (kd : Int) (xa xb : List Nat) (nn : Int) (x : Nat) (us : List Nat) (wv : Nat) (f : Int) : Prop :=
  (kd = 2 ∧ DocIs (valB B64 xa) us f ∧ wv = 0) ∨ (kd = 3 ∧ Nf B64 us x ∧ f = 0 ∧ wv = 0) ∨ (kd = 8 ∧ TwoIs addR xa xb us f ∧ wv = 0) ∨ (kd = 9 ∧ TwoIs subR xa xb us f ∧ wv = 0) ∨ (kd = 10 ∧ ShIs shlR xa nn us f ∧ wv = 0) ∨ (kd = 11 ∧ ShIs shrR xa nn us f ∧ wv = 0) ∨ (kd = 12 ∧ ShIs lowR xa nn us f ∧ wv = 0) ∨ (kd = 13 ∧ MwIs xa x us f ∧ wv = 0) ∨ (kd = 14 ∧ DwIs xa x us wv f)
theorem LsIs.uniq {kd : Int} {xa xb : List Nat} {nn : Int} {x : Nat} {us us' : List Nat} {wv wv' : Nat} {f f' : Int} (h : LsIs kd xa xb nn x us wv f) (k : LsIs kd xa xb nn x us' wv' f') : us = us' ∧ f = f' := by
  rcases h with ⟨h0, h1, h2⟩ | ⟨h0, h1, h2, h3⟩ | ⟨h0, h1, h2⟩ | ⟨h0, h1, h2⟩ | ⟨h0, h1, h2⟩ | ⟨h0, h1, h2⟩ | ⟨h0, h1, h2⟩ | ⟨h0, h1, h2⟩ | ⟨h0, h1⟩
  · subst h0
    rcases k with ⟨k0, k1, k2⟩ | ⟨k0, k1, k2, k3⟩ | ⟨k0, k1, k2⟩ | ⟨k0, k1, k2⟩ | ⟨k0, k1, k2⟩ | ⟨k0, k1, k2⟩ | ⟨k0, k1, k2⟩ | ⟨k0, k1, k2⟩ | ⟨k0, k1⟩
    · exact DocIs.inj h1 k1
    · omega
    · omega
    · omega
    · omega
    · omega
    · omega
    · omega
    · omega
  · subst h0
    rcases k with ⟨k0, k1, k2⟩ | ⟨k0, k1, k2, k3⟩ | ⟨k0, k1, k2⟩ | ⟨k0, k1, k2⟩ | ⟨k0, k1, k2⟩ | ⟨k0, k1, k2⟩ | ⟨k0, k1, k2⟩ | ⟨k0, k1, k2⟩ | ⟨k0, k1⟩
    · omega
    · exact ⟨h1.inj B64_one k1, h2.trans k2.symm⟩
    · omega
    · omega
    · omega
    · omega
    · omega
    · omega
    · omega
  · subst h0
    rcases k with ⟨k0, k1, k2⟩ | ⟨k0, k1, k2, k3⟩ | ⟨k0, k1, k2⟩ | ⟨k0, k1, k2⟩ | ⟨k0, k1, k2⟩ | ⟨k0, k1, k2⟩ | ⟨k0, k1, k2⟩ | ⟨k0, k1, k2⟩ | ⟨k0, k1⟩
    · omega
    · omega
    · exact TwoIs.inj (fun h k => DocIs.inj h k) h1 k1
    · omega
    · omega
    · omega
    · omega
    · omega
    · omega
  · subst h0
    rcases k with ⟨k0, k1, k2⟩ | ⟨k0, k1, k2, k3⟩ | ⟨k0, k1, k2⟩ | ⟨k0, k1, k2⟩ | ⟨k0, k1, k2⟩ | ⟨k0, k1, k2⟩ | ⟨k0, k1, k2⟩ | ⟨k0, k1, k2⟩ | ⟨k0, k1⟩
    · omega
    · omega
    · omega
    · exact TwoIs.inj (fun h k => subR.inj h k) h1 k1
    · omega
    · omega
    · omega
    · omega
    · omega
  · subst h0
    rcases k with ⟨k0, k1, k2⟩ | ⟨k0, k1, k2, k3⟩ | ⟨k0, k1, k2⟩ | ⟨k0, k1, k2⟩ | ⟨k0, k1, k2⟩ | ⟨k0, k1, k2⟩ | ⟨k0, k1, k2⟩ | ⟨k0, k1, k2⟩ | ⟨k0, k1⟩
    · omega
    · omega
    · omega
    · omega
    · exact h1.inj k1
    · omega
    · omega
    · omega
    · omega
  · subst h0
    rcases k with ⟨k0, k1, k2⟩ | ⟨k0, k1, k2, k3⟩ | ⟨k0, k1, k2⟩ | ⟨k0, k1, k2⟩ | ⟨k0, k1, k2⟩ | ⟨k0, k1, k2⟩ | ⟨k0, k1, k2⟩ | ⟨k0, k1, k2⟩ | ⟨k0, k1⟩
    · omega
    · omega
    · omega
    · omega
    · omega
    · exact h1.inj k1
    · omega
    · omega
    · omega
  · subst h0
    rcases k with ⟨k0, k1, k2⟩ | ⟨k0, k1, k2, k3⟩ | ⟨k0, k1, k2⟩ | ⟨k0, k1, k2⟩ | ⟨k0, k1, k2⟩ | ⟨k0, k1, k2⟩ | ⟨k0, k1, k2⟩ | ⟨k0, k1, k2⟩ | ⟨k0, k1⟩
    · omega
    · omega
    · omega
    · omega
    · omega
    · omega
    · exact h1.inj k1
    · omega
    · omega
  · subst h0
    rcases k with ⟨k0, k1, k2⟩ | ⟨k0, k1, k2, k3⟩ | ⟨k0, k1, k2⟩ | ⟨k0, k1, k2⟩ | ⟨k0, k1, k2⟩ | ⟨k0, k1, k2⟩ | ⟨k0, k1, k2⟩ | ⟨k0, k1, k2⟩ | ⟨k0, k1⟩
    · omega
    · omega
    · omega
    · omega
    · omega
    · omega
    · omega
    · exact h1.inj k1
    · omega
  · subst h0
    rcases k with ⟨k0, k1, k2⟩ | ⟨k0, k1, k2, k3⟩ | ⟨k0, k1, k2⟩ | ⟨k0, k1, k2⟩ | ⟨k0, k1, k2⟩ | ⟨k0, k1, k2⟩ | ⟨k0, k1, k2⟩ | ⟨k0, k1, k2⟩ | ⟨k0, k1⟩
    · omega
    · omega
    · omega
    · omega
    · omega
    · omega
    · omega
    · omega
    · have h9 := h1.inj k1
      exact ⟨h9.1, h9.2.2⟩
theorem listK2 {pa pb : Option Addr} {na nb ca cb : Nat} {xa xb : List Nat} {w : World} (h : At w pa na ca xa) (_k : At w pb nb cb xb) (_hna : na ≤ 17592186044416) (nn : Int) (_hnn : nn ≤ 9223372036854775807) (x : Nat) (_hx : x < B64) :
    Calls Tryd.prog 14 #[.agg #[.int .i64 2, .slice pa na ca, .slice pb nb cb, .int .i64 nn, U x]] w fun e w' => ∃ p m us wv f, e = .returned (.tuple #[.slice p m m, U wv, .int .i64 f]) ∧ Own w.heap.size w' p m us ∧ m ≤ 8192 ∧ LsIs 2 xa xb nn x us wv f ∧ Below w.heap.size w w' := by
  have HA : Hid (At (w.alloc (.cells #[.int .i64 2, .slice pa na ca, .slice pb nb cb, .int .i64 nn, U x] 26)) pa na ca xa) := h.alloc _
  have hb0 : Below w.heap.size w (w.alloc (.cells #[.int .i64 2, .slice pa na ca, .slice pb nb cb, .int .i64 nn, U x] 26)) := below1 w _
  clear h
  go_enter Tryd.func14, Tryd.ntmps14
  go_wp2_with fail
  refine (normO HA.out).mono ?_
  rintro e w1 ⟨p1, m1, us, f1, rfl, hA1, hD1, hb1⟩
  have A1 : Hid (Own w.heap.size w1 p1 m1 us ∧ m1 ≤ 8192) := ⟨hA1.1.mono hb0.size, hA1.2.1⟩
  have D1 : Hid (DocIs (valB B64 xa) us f1) := hD1
  have hbw := Below.on hb0 hb1
  clear hD1 hb1 hb0 hA1 HA
  go_wp2_with fail
  go_ret3
  exact ⟨_, _, us, 0, f1, rfl, A1.out.1, A1.out.2, (.inl ⟨rfl, D1.out, rfl⟩), hbw⟩
theorem docK2 {pa pb : Option Addr} {na nb ca cb : Nat} {xa xb : List Nat} {w : World} (h : At w pa na ca xa) (_k : At w pb nb cb xb) (hna : na ≤ 17592186044416) (nn : Int) (_hnn : nn ≤ 9223372036854775807) (x : Nat) (_hx : x < B64) :
    Calls Tryd.prog 12 #[.agg #[.int .i64 2, .slice pa na ca, .slice pb nb cb, .int .i64 nn, U x]] w fun e w' => ∃ p m N us wv f, e = .returned (.tuple #[.slice p m N, U wv, .int .i64 f]) ∧ NewA w.heap.size w' p m N us ∧ LsIs 2 xa xb nn x us wv f ∧ Below w.heap.size w w' := by
  have HA : Hid (At (w.alloc (.cells #[.int .i64 2, .slice pa na ca, .slice pb nb cb, .int .i64 nn, U x] 26)) pa na ca xa) := h.alloc _
  have hb0 : Below w.heap.size w (w.alloc (.cells #[.int .i64 2, .slice pa na ca, .slice pb nb cb, .int .i64 nn, U x] 26)) := below1 w _
  clear h
  go_enter Tryd.func12, Tryd.ntmps12
  go_wp2_with fail
  refine (docnormN HA.out hna).mono ?_
  rintro e w1 ⟨p1, m1, N1, us, f1, rfl, hA1, hD1, hb1⟩
  have A1 : Hid (NewA w.heap.size w1 p1 m1 N1 us) := hA1.mono hb0.size
  have D1 : Hid (DocIs (valB B64 xa) us f1) := hD1
  have hbw := Below.on hb0 hb1
  clear hD1 hb1 hb0 hA1 HA
  go_wp2_with fail
  go_ret3
  exact ⟨p1, m1, N1, us, 0, f1, rfl, A1.out, (.inl ⟨rfl, D1.out, rfl⟩), hbw⟩
theorem listK3 {pa pb : Option Addr} {na nb ca cb : Nat} {xa xb : List Nat} {w : World} (_h : At w pa na ca xa) (_k : At w pb nb cb xb) (_hna : na ≤ 17592186044416) (nn : Int) (_hnn : nn ≤ 9223372036854775807) (x : Nat) (hx : x < B64) :
    Calls Tryd.prog 14 #[.agg #[.int .i64 3, .slice pa na ca, .slice pb nb cb, .int .i64 nn, U x]] w fun e w' => ∃ p m us wv f, e = .returned (.tuple #[.slice p m m, U wv, .int .i64 f]) ∧ Own w.heap.size w' p m us ∧ m ≤ 8192 ∧ LsIs 3 xa xb nn x us wv f ∧ Below w.heap.size w w' := by
  have HX : Hid (x < B64) := hx
  have hb0 : Below w.heap.size w (w.alloc (.cells #[.int .i64 3, .slice pa na ca, .slice pb nb cb, .int .i64 nn, U x] 26)) := below1 w _
  clear hx
  go_enter Tryd.func14, Tryd.ntmps14
  go_wp2_with fail
  refine (word_any x _ HX.out).mono ?_
  rintro e w1 ⟨p1, m1, us, rfl, ho1, hD1, hm1, hb1⟩
  have A1 : Hid (Own w.heap.size w1 p1 m1 us ∧ m1 ≤ 8192) := ⟨ho1.mono hb0.size, by omega⟩
  have D1 : Hid (Nf B64 us x) := hD1
  have hbw := Below.on hb0 hb1
  clear hD1 hb1 hb0 ho1 hm1
  go_wp2_with fail
  go_ret3
  exact ⟨_, _, us, 0, 0, rfl, A1.out.1, A1.out.2, (.inr (.inl ⟨rfl, D1.out, rfl, rfl⟩)), hbw⟩
theorem docK3 {pa pb : Option Addr} {na nb ca cb : Nat} {xa xb : List Nat} {w : World} (_h : At w pa na ca xa) (_k : At w pb nb cb xb) (_hna : na ≤ 17592186044416) (nn : Int) (_hnn : nn ≤ 9223372036854775807) (x : Nat) (hx : x < B64) :
    Calls Tryd.prog 12 #[.agg #[.int .i64 3, .slice pa na ca, .slice pb nb cb, .int .i64 nn, U x]] w fun e w' => ∃ p m N us wv f, e = .returned (.tuple #[.slice p m N, U wv, .int .i64 f]) ∧ NewA w.heap.size w' p m N us ∧ LsIs 3 xa xb nn x us wv f ∧ Below w.heap.size w w' := by
  have HX : Hid (x < B64) := hx
  have hb0 : Below w.heap.size w (w.alloc (.cells #[.int .i64 3, .slice pa na ca, .slice pb nb cb, .int .i64 nn, U x] 26)) := below1 w _
  clear hx
  go_enter Tryd.func12, Tryd.ntmps12
  go_wp2_with fail
  refine (docwordN x HX.out _).mono ?_
  rintro e w1 ⟨p1, m1, N1, us, rfl, hA1, hD1, hb1⟩
  have A1 : Hid (NewA w.heap.size w1 p1 m1 N1 us) := hA1.mono hb0.size
  have D1 : Hid (Nf B64 us x) := hD1
  have hbw := Below.on hb0 hb1
  clear hD1 hb1 hb0 hA1
  go_wp2_with fail
  go_ret3
  exact ⟨p1, m1, N1, us, 0, 0, rfl, A1.out, (.inr (.inl ⟨rfl, D1.out, rfl, rfl⟩)), hbw⟩
theorem listK8 {pa pb : Option Addr} {na nb ca cb : Nat} {xa xb : List Nat} {w : World} (h : At w pa na ca xa) (k : At w pb nb cb xb) (_hna : na ≤ 17592186044416) (nn : Int) (_hnn : nn ≤ 9223372036854775807) (x : Nat) (_hx : x < B64) :
    Calls Tryd.prog 14 #[.agg #[.int .i64 8, .slice pa na ca, .slice pb nb cb, .int .i64 nn, U x]] w fun e w' => ∃ p m us wv f, e = .returned (.tuple #[.slice p m m, U wv, .int .i64 f]) ∧ Own w.heap.size w' p m us ∧ m ≤ 8192 ∧ LsIs 8 xa xb nn x us wv f ∧ Below w.heap.size w w' := by
  have HA : Hid (At (w.alloc (.cells #[.int .i64 8, .slice pa na ca, .slice pb nb cb, .int .i64 nn, U x] 26)) pa na ca xa) := h.alloc _
  have HB : Hid (At (w.alloc (.cells #[.int .i64 8, .slice pa na ca, .slice pb nb cb, .int .i64 nn, U x] 26)) pb nb cb xb) := k.alloc _
  have hb0 : Below w.heap.size w (w.alloc (.cells #[.int .i64 8, .slice pa na ca, .slice pb nb cb, .int .i64 nn, U x] 26)) := below1 w _
  clear h k
  go_enter Tryd.func14, Tryd.ntmps14
  go_wp2_with fail
  refine (addO HA.out HB.out).mono ?_
  rintro e w1 ⟨p1, m1, us, f1, rfl, hA1, hD1, hb1⟩
  have A1 : Hid (Own w.heap.size w1 p1 m1 us ∧ m1 ≤ 8192) := ⟨hA1.1.mono hb0.size, hA1.2.1⟩
  have D1 : Hid (TwoIs addR xa xb us f1) := hD1
  have hbw := Below.on hb0 hb1
  clear hD1 hb1 hb0 hA1 HA HB
  go_wp2_with fail
  go_ret3
  exact ⟨_, _, us, 0, f1, rfl, A1.out.1, A1.out.2, (.inr (.inr (.inl ⟨rfl, D1.out, rfl⟩))), hbw⟩
theorem docK8 {pa pb : Option Addr} {na nb ca cb : Nat} {xa xb : List Nat} {w : World} (h : At w pa na ca xa) (k : At w pb nb cb xb) (_hna : na ≤ 17592186044416) (nn : Int) (_hnn : nn ≤ 9223372036854775807) (x : Nat) (_hx : x < B64) :
    Calls Tryd.prog 12 #[.agg #[.int .i64 8, .slice pa na ca, .slice pb nb cb, .int .i64 nn, U x]] w fun e w' => ∃ p m N us wv f, e = .returned (.tuple #[.slice p m N, U wv, .int .i64 f]) ∧ NewA w.heap.size w' p m N us ∧ LsIs 8 xa xb nn x us wv f ∧ Below w.heap.size w w' := by
  have HA : Hid (At (w.alloc (.cells #[.int .i64 8, .slice pa na ca, .slice pb nb cb, .int .i64 nn, U x] 26)) pa na ca xa) := h.alloc _
  have HB : Hid (At (w.alloc (.cells #[.int .i64 8, .slice pa na ca, .slice pb nb cb, .int .i64 nn, U x] 26)) pb nb cb xb) := k.alloc _
  have hb0 : Below w.heap.size w (w.alloc (.cells #[.int .i64 8, .slice pa na ca, .slice pb nb cb, .int .i64 nn, U x] 26)) := below1 w _
  clear h k
  go_enter Tryd.func12, Tryd.ntmps12
  go_wp2_with fail
  refine (docaddN HA.out HB.out).mono ?_
  rintro e w1 ⟨p1, m1, N1, us, f1, rfl, hA1, hD1, hb1⟩
  have A1 : Hid (NewA w.heap.size w1 p1 m1 N1 us) := hA1.mono hb0.size
  have D1 : Hid (TwoIs addR xa xb us f1) := hD1
  have hbw := Below.on hb0 hb1
  clear hD1 hb1 hb0 hA1 HA HB
  go_wp2_with fail
  go_ret3
  exact ⟨p1, m1, N1, us, 0, f1, rfl, A1.out, (.inr (.inr (.inl ⟨rfl, D1.out, rfl⟩))), hbw⟩
theorem listK9 {pa pb : Option Addr} {na nb ca cb : Nat} {xa xb : List Nat} {w : World} (h : At w pa na ca xa) (k : At w pb nb cb xb) (_hna : na ≤ 17592186044416) (nn : Int) (_hnn : nn ≤ 9223372036854775807) (x : Nat) (_hx : x < B64) :
    Calls Tryd.prog 14 #[.agg #[.int .i64 9, .slice pa na ca, .slice pb nb cb, .int .i64 nn, U x]] w fun e w' => ∃ p m us wv f, e = .returned (.tuple #[.slice p m m, U wv, .int .i64 f]) ∧ Own w.heap.size w' p m us ∧ m ≤ 8192 ∧ LsIs 9 xa xb nn x us wv f ∧ Below w.heap.size w w' := by
  have HA : Hid (At (w.alloc (.cells #[.int .i64 9, .slice pa na ca, .slice pb nb cb, .int .i64 nn, U x] 26)) pa na ca xa) := h.alloc _
  have HB : Hid (At (w.alloc (.cells #[.int .i64 9, .slice pa na ca, .slice pb nb cb, .int .i64 nn, U x] 26)) pb nb cb xb) := k.alloc _
  have hb0 : Below w.heap.size w (w.alloc (.cells #[.int .i64 9, .slice pa na ca, .slice pb nb cb, .int .i64 nn, U x] 26)) := below1 w _
  clear h k
  go_enter Tryd.func14, Tryd.ntmps14
  go_wp2_with fail
  refine (subO HA.out HB.out).mono ?_
  rintro e w1 ⟨p1, m1, us, f1, rfl, hA1, hD1, hb1⟩
  have A1 : Hid (Own w.heap.size w1 p1 m1 us ∧ m1 ≤ 8192) := ⟨hA1.1.mono hb0.size, hA1.2.1⟩
  have D1 : Hid (TwoIs subR xa xb us f1) := hD1
  have hbw := Below.on hb0 hb1
  clear hD1 hb1 hb0 hA1 HA HB
  go_wp2_with fail
  go_ret3
  exact ⟨_, _, us, 0, f1, rfl, A1.out.1, A1.out.2, (.inr (.inr (.inr (.inl ⟨rfl, D1.out, rfl⟩)))), hbw⟩
theorem docK9 {pa pb : Option Addr} {na nb ca cb : Nat} {xa xb : List Nat} {w : World} (h : At w pa na ca xa) (k : At w pb nb cb xb) (_hna : na ≤ 17592186044416) (nn : Int) (_hnn : nn ≤ 9223372036854775807) (x : Nat) (_hx : x < B64) :
    Calls Tryd.prog 12 #[.agg #[.int .i64 9, .slice pa na ca, .slice pb nb cb, .int .i64 nn, U x]] w fun e w' => ∃ p m N us wv f, e = .returned (.tuple #[.slice p m N, U wv, .int .i64 f]) ∧ NewA w.heap.size w' p m N us ∧ LsIs 9 xa xb nn x us wv f ∧ Below w.heap.size w w' := by
  have HA : Hid (At (w.alloc (.cells #[.int .i64 9, .slice pa na ca, .slice pb nb cb, .int .i64 nn, U x] 26)) pa na ca xa) := h.alloc _
  have HB : Hid (At (w.alloc (.cells #[.int .i64 9, .slice pa na ca, .slice pb nb cb, .int .i64 nn, U x] 26)) pb nb cb xb) := k.alloc _
  have hb0 : Below w.heap.size w (w.alloc (.cells #[.int .i64 9, .slice pa na ca, .slice pb nb cb, .int .i64 nn, U x] 26)) := below1 w _
  clear h k
  go_enter Tryd.func12, Tryd.ntmps12
  go_wp2_with fail
  refine (docsubN HA.out HB.out).mono ?_
  rintro e w1 ⟨p1, m1, N1, us, f1, rfl, hA1, hD1, hb1⟩
  have A1 : Hid (NewA w.heap.size w1 p1 m1 N1 us) := hA1.mono hb0.size
  have D1 : Hid (TwoIs subR xa xb us f1) := hD1
  have hbw := Below.on hb0 hb1
  clear hD1 hb1 hb0 hA1 HA HB
  go_wp2_with fail
  go_ret3
  exact ⟨p1, m1, N1, us, 0, f1, rfl, A1.out, (.inr (.inr (.inr (.inl ⟨rfl, D1.out, rfl⟩)))), hbw⟩
theorem listK10 {pa pb : Option Addr} {na nb ca cb : Nat} {xa xb : List Nat} {w : World} (h : At w pa na ca xa) (_k : At w pb nb cb xb) (_hna : na ≤ 17592186044416) (nn : Int) (hnn : nn ≤ 9223372036854775807) (x : Nat) (_hx : x < B64) :
    Calls Tryd.prog 14 #[.agg #[.int .i64 10, .slice pa na ca, .slice pb nb cb, .int .i64 nn, U x]] w fun e w' => ∃ p m us wv f, e = .returned (.tuple #[.slice p m m, U wv, .int .i64 f]) ∧ Own w.heap.size w' p m us ∧ m ≤ 8192 ∧ LsIs 10 xa xb nn x us wv f ∧ Below w.heap.size w w' := by
  have HA : Hid (At (w.alloc (.cells #[.int .i64 10, .slice pa na ca, .slice pb nb cb, .int .i64 nn, U x] 26)) pa na ca xa) := h.alloc _
  have hb0 : Below w.heap.size w (w.alloc (.cells #[.int .i64 10, .slice pa na ca, .slice pb nb cb, .int .i64 nn, U x] 26)) := below1 w _
  clear h
  go_enter Tryd.func14, Tryd.ntmps14
  go_wp2_with fail
  refine (shlO HA.out nn hnn).mono ?_
  rintro e w1 ⟨p1, m1, N1, us, f1, rfl, hA1, hD1, hb1⟩
  obtain rfl := hA1.2.2
  have A1 : Hid (Own w.heap.size w1 p1 N1 us ∧ N1 ≤ 8192) := ⟨hA1.1.mono hb0.size, hA1.2.1⟩
  have D1 : Hid (ShIs shlR xa nn us f1) := hD1
  have hbw := Below.on hb0 hb1
  clear hD1 hb1 hb0 hA1 HA
  go_wp2_with fail
  go_ret3
  exact ⟨_, _, us, 0, f1, rfl, A1.out.1, A1.out.2, (.inr (.inr (.inr (.inr (.inl ⟨rfl, D1.out, rfl⟩))))), hbw⟩
theorem docK10 {pa pb : Option Addr} {na nb ca cb : Nat} {xa xb : List Nat} {w : World} (h : At w pa na ca xa) (_k : At w pb nb cb xb) (_hna : na ≤ 17592186044416) (nn : Int) (hnn : nn ≤ 9223372036854775807) (x : Nat) (_hx : x < B64) :
    Calls Tryd.prog 12 #[.agg #[.int .i64 10, .slice pa na ca, .slice pb nb cb, .int .i64 nn, U x]] w fun e w' => ∃ p m N us wv f, e = .returned (.tuple #[.slice p m N, U wv, .int .i64 f]) ∧ NewA w.heap.size w' p m N us ∧ LsIs 10 xa xb nn x us wv f ∧ Below w.heap.size w w' := by
  have HA : Hid (At (w.alloc (.cells #[.int .i64 10, .slice pa na ca, .slice pb nb cb, .int .i64 nn, U x] 26)) pa na ca xa) := h.alloc _
  have hb0 : Below w.heap.size w (w.alloc (.cells #[.int .i64 10, .slice pa na ca, .slice pb nb cb, .int .i64 nn, U x] 26)) := below1 w _
  clear h
  go_enter Tryd.func12, Tryd.ntmps12
  go_wp2_with fail
  refine (docshlN HA.out nn hnn).mono ?_
  rintro e w1 ⟨p1, m1, N1, us, f1, rfl, hA1, hD1, hb1⟩
  have A1 : Hid (NewA w.heap.size w1 p1 m1 N1 us) := hA1.mono hb0.size
  have D1 : Hid (ShIs shlR xa nn us f1) := hD1
  have hbw := Below.on hb0 hb1
  clear hD1 hb1 hb0 hA1 HA
  go_wp2_with fail
  go_ret3
  exact ⟨p1, m1, N1, us, 0, f1, rfl, A1.out, (.inr (.inr (.inr (.inr (.inl ⟨rfl, D1.out, rfl⟩))))), hbw⟩
theorem listK11 {pa pb : Option Addr} {na nb ca cb : Nat} {xa xb : List Nat} {w : World} (h : At w pa na ca xa) (_k : At w pb nb cb xb) (_hna : na ≤ 17592186044416) (nn : Int) (hnn : nn ≤ 9223372036854775807) (x : Nat) (_hx : x < B64) :
    Calls Tryd.prog 14 #[.agg #[.int .i64 11, .slice pa na ca, .slice pb nb cb, .int .i64 nn, U x]] w fun e w' => ∃ p m us wv f, e = .returned (.tuple #[.slice p m m, U wv, .int .i64 f]) ∧ Own w.heap.size w' p m us ∧ m ≤ 8192 ∧ LsIs 11 xa xb nn x us wv f ∧ Below w.heap.size w w' := by
  have HA : Hid (At (w.alloc (.cells #[.int .i64 11, .slice pa na ca, .slice pb nb cb, .int .i64 nn, U x] 26)) pa na ca xa) := h.alloc _
  have hb0 : Below w.heap.size w (w.alloc (.cells #[.int .i64 11, .slice pa na ca, .slice pb nb cb, .int .i64 nn, U x] 26)) := below1 w _
  clear h
  go_enter Tryd.func14, Tryd.ntmps14
  go_wp2_with fail
  refine (shrO HA.out nn hnn).mono ?_
  rintro e w1 ⟨p1, m1, N1, us, f1, rfl, hA1, hD1, hb1⟩
  obtain rfl := hA1.2.2
  have A1 : Hid (Own w.heap.size w1 p1 N1 us ∧ N1 ≤ 8192) := ⟨hA1.1.mono hb0.size, hA1.2.1⟩
  have D1 : Hid (ShIs shrR xa nn us f1) := hD1
  have hbw := Below.on hb0 hb1
  clear hD1 hb1 hb0 hA1 HA
  go_wp2_with fail
  go_ret3
  exact ⟨_, _, us, 0, f1, rfl, A1.out.1, A1.out.2, (.inr (.inr (.inr (.inr (.inr (.inl ⟨rfl, D1.out, rfl⟩)))))), hbw⟩
theorem docK11 {pa pb : Option Addr} {na nb ca cb : Nat} {xa xb : List Nat} {w : World} (h : At w pa na ca xa) (_k : At w pb nb cb xb) (_hna : na ≤ 17592186044416) (nn : Int) (hnn : nn ≤ 9223372036854775807) (x : Nat) (_hx : x < B64) :
    Calls Tryd.prog 12 #[.agg #[.int .i64 11, .slice pa na ca, .slice pb nb cb, .int .i64 nn, U x]] w fun e w' => ∃ p m N us wv f, e = .returned (.tuple #[.slice p m N, U wv, .int .i64 f]) ∧ NewA w.heap.size w' p m N us ∧ LsIs 11 xa xb nn x us wv f ∧ Below w.heap.size w w' := by
  have HA : Hid (At (w.alloc (.cells #[.int .i64 11, .slice pa na ca, .slice pb nb cb, .int .i64 nn, U x] 26)) pa na ca xa) := h.alloc _
  have hb0 : Below w.heap.size w (w.alloc (.cells #[.int .i64 11, .slice pa na ca, .slice pb nb cb, .int .i64 nn, U x] 26)) := below1 w _
  clear h
  go_enter Tryd.func12, Tryd.ntmps12
  go_wp2_with fail
  refine (docshrN HA.out nn hnn).mono ?_
  rintro e w1 ⟨p1, m1, N1, us, f1, rfl, hA1, hD1, hb1⟩
  have A1 : Hid (NewA w.heap.size w1 p1 m1 N1 us) := hA1.mono hb0.size
  have D1 : Hid (ShIs shrR xa nn us f1) := hD1
  have hbw := Below.on hb0 hb1
  clear hD1 hb1 hb0 hA1 HA
  go_wp2_with fail
  go_ret3
  exact ⟨p1, m1, N1, us, 0, f1, rfl, A1.out, (.inr (.inr (.inr (.inr (.inr (.inl ⟨rfl, D1.out, rfl⟩)))))), hbw⟩
theorem listK12 {pa pb : Option Addr} {na nb ca cb : Nat} {xa xb : List Nat} {w : World} (h : At w pa na ca xa) (_k : At w pb nb cb xb) (_hna : na ≤ 17592186044416) (nn : Int) (hnn : nn ≤ 9223372036854775807) (x : Nat) (_hx : x < B64) :
    Calls Tryd.prog 14 #[.agg #[.int .i64 12, .slice pa na ca, .slice pb nb cb, .int .i64 nn, U x]] w fun e w' => ∃ p m us wv f, e = .returned (.tuple #[.slice p m m, U wv, .int .i64 f]) ∧ Own w.heap.size w' p m us ∧ m ≤ 8192 ∧ LsIs 12 xa xb nn x us wv f ∧ Below w.heap.size w w' := by
  have HA : Hid (At (w.alloc (.cells #[.int .i64 12, .slice pa na ca, .slice pb nb cb, .int .i64 nn, U x] 26)) pa na ca xa) := h.alloc _
  have hb0 : Below w.heap.size w (w.alloc (.cells #[.int .i64 12, .slice pa na ca, .slice pb nb cb, .int .i64 nn, U x] 26)) := below1 w _
  clear h
  go_enter Tryd.func14, Tryd.ntmps14
  go_wp2_with fail
  refine (lowO HA.out nn hnn).mono ?_
  rintro e w1 ⟨p1, m1, N1, us, f1, rfl, hA1, hD1, hb1⟩
  obtain rfl := hA1.2.2
  have A1 : Hid (Own w.heap.size w1 p1 N1 us ∧ N1 ≤ 8192) := ⟨hA1.1.mono hb0.size, hA1.2.1⟩
  have D1 : Hid (ShIs lowR xa nn us f1) := hD1
  have hbw := Below.on hb0 hb1
  clear hD1 hb1 hb0 hA1 HA
  go_wp2_with fail
  go_ret3
  exact ⟨_, _, us, 0, f1, rfl, A1.out.1, A1.out.2, (.inr (.inr (.inr (.inr (.inr (.inr (.inl ⟨rfl, D1.out, rfl⟩))))))), hbw⟩
theorem docK12 {pa pb : Option Addr} {na nb ca cb : Nat} {xa xb : List Nat} {w : World} (h : At w pa na ca xa) (_k : At w pb nb cb xb) (_hna : na ≤ 17592186044416) (nn : Int) (hnn : nn ≤ 9223372036854775807) (x : Nat) (_hx : x < B64) :
    Calls Tryd.prog 12 #[.agg #[.int .i64 12, .slice pa na ca, .slice pb nb cb, .int .i64 nn, U x]] w fun e w' => ∃ p m N us wv f, e = .returned (.tuple #[.slice p m N, U wv, .int .i64 f]) ∧ NewA w.heap.size w' p m N us ∧ LsIs 12 xa xb nn x us wv f ∧ Below w.heap.size w w' := by
  have HA : Hid (At (w.alloc (.cells #[.int .i64 12, .slice pa na ca, .slice pb nb cb, .int .i64 nn, U x] 26)) pa na ca xa) := h.alloc _
  have hb0 : Below w.heap.size w (w.alloc (.cells #[.int .i64 12, .slice pa na ca, .slice pb nb cb, .int .i64 nn, U x] 26)) := below1 w _
  clear h
  go_enter Tryd.func12, Tryd.ntmps12
  go_wp2_with fail
  refine (doclowN HA.out nn hnn).mono ?_
  rintro e w1 ⟨p1, m1, N1, us, f1, rfl, hA1, hD1, hb1⟩
  have A1 : Hid (NewA w.heap.size w1 p1 m1 N1 us) := hA1.mono hb0.size
  have D1 : Hid (ShIs lowR xa nn us f1) := hD1
  have hbw := Below.on hb0 hb1
  clear hD1 hb1 hb0 hA1 HA
  go_wp2_with fail
  go_ret3
  exact ⟨p1, m1, N1, us, 0, f1, rfl, A1.out, (.inr (.inr (.inr (.inr (.inr (.inr (.inl ⟨rfl, D1.out, rfl⟩))))))), hbw⟩
theorem listK13 {pa pb : Option Addr} {na nb ca cb : Nat} {xa xb : List Nat} {w : World} (h : At w pa na ca xa) (_k : At w pb nb cb xb) (_hna : na ≤ 17592186044416) (nn : Int) (_hnn : nn ≤ 9223372036854775807) (x : Nat) (hx : x < B64) :
    Calls Tryd.prog 14 #[.agg #[.int .i64 13, .slice pa na ca, .slice pb nb cb, .int .i64 nn, U x]] w fun e w' => ∃ p m us wv f, e = .returned (.tuple #[.slice p m m, U wv, .int .i64 f]) ∧ Own w.heap.size w' p m us ∧ m ≤ 8192 ∧ LsIs 13 xa xb nn x us wv f ∧ Below w.heap.size w w' := by
  have HA : Hid (At (w.alloc (.cells #[.int .i64 13, .slice pa na ca, .slice pb nb cb, .int .i64 nn, U x] 26)) pa na ca xa) := h.alloc _
  have HX : Hid (x < B64) := hx
  have hb0 : Below w.heap.size w (w.alloc (.cells #[.int .i64 13, .slice pa na ca, .slice pb nb cb, .int .i64 nn, U x] 26)) := below1 w _
  clear h hx
  go_enter Tryd.func14, Tryd.ntmps14
  go_wp2_with fail
  refine (mulO HA.out x HX.out).mono ?_
  rintro e w1 ⟨p1, m1, N1, us, f1, rfl, hA1, hD1, hb1⟩
  obtain rfl := hA1.2.2
  have A1 : Hid (Own w.heap.size w1 p1 N1 us ∧ N1 ≤ 8192) := ⟨hA1.1.mono hb0.size, hA1.2.1⟩
  have D1 : Hid (MwIs xa x us f1) := hD1
  have hbw := Below.on hb0 hb1
  clear hD1 hb1 hb0 hA1 HA
  go_wp2_with fail
  go_ret3
  exact ⟨_, _, us, 0, f1, rfl, A1.out.1, A1.out.2, (.inr (.inr (.inr (.inr (.inr (.inr (.inr (.inl ⟨rfl, D1.out, rfl⟩)))))))), hbw⟩
theorem docK13 {pa pb : Option Addr} {na nb ca cb : Nat} {xa xb : List Nat} {w : World} (h : At w pa na ca xa) (_k : At w pb nb cb xb) (_hna : na ≤ 17592186044416) (nn : Int) (_hnn : nn ≤ 9223372036854775807) (x : Nat) (hx : x < B64) :
    Calls Tryd.prog 12 #[.agg #[.int .i64 13, .slice pa na ca, .slice pb nb cb, .int .i64 nn, U x]] w fun e w' => ∃ p m N us wv f, e = .returned (.tuple #[.slice p m N, U wv, .int .i64 f]) ∧ NewA w.heap.size w' p m N us ∧ LsIs 13 xa xb nn x us wv f ∧ Below w.heap.size w w' := by
  have HA : Hid (At (w.alloc (.cells #[.int .i64 13, .slice pa na ca, .slice pb nb cb, .int .i64 nn, U x] 26)) pa na ca xa) := h.alloc _
  have HX : Hid (x < B64) := hx
  have hb0 : Below w.heap.size w (w.alloc (.cells #[.int .i64 13, .slice pa na ca, .slice pb nb cb, .int .i64 nn, U x] 26)) := below1 w _
  clear h hx
  go_enter Tryd.func12, Tryd.ntmps12
  go_wp2_with fail
  refine (docmulN HA.out x HX.out).mono ?_
  rintro e w1 ⟨p1, m1, N1, us, f1, rfl, hA1, hD1, hb1⟩
  have A1 : Hid (NewA w.heap.size w1 p1 m1 N1 us) := hA1.mono hb0.size
  have D1 : Hid (MwIs xa x us f1) := hD1
  have hbw := Below.on hb0 hb1
  clear hD1 hb1 hb0 hA1 HA
  go_wp2_with fail
  go_ret3
  exact ⟨p1, m1, N1, us, 0, f1, rfl, A1.out, (.inr (.inr (.inr (.inr (.inr (.inr (.inr (.inl ⟨rfl, D1.out, rfl⟩)))))))), hbw⟩
theorem listK14 {pa pb : Option Addr} {na nb ca cb : Nat} {xa xb : List Nat} {w : World} (h : At w pa na ca xa) (_k : At w pb nb cb xb) (_hna : na ≤ 17592186044416) (nn : Int) (_hnn : nn ≤ 9223372036854775807) (x : Nat) (hx : x < B64) :
    Calls Tryd.prog 14 #[.agg #[.int .i64 14, .slice pa na ca, .slice pb nb cb, .int .i64 nn, U x]] w fun e w' => ∃ p m us wv f, e = .returned (.tuple #[.slice p m m, U wv, .int .i64 f]) ∧ Own w.heap.size w' p m us ∧ m ≤ 8192 ∧ LsIs 14 xa xb nn x us wv f ∧ Below w.heap.size w w' := by
  have HA : Hid (At (w.alloc (.cells #[.int .i64 14, .slice pa na ca, .slice pb nb cb, .int .i64 nn, U x] 26)) pa na ca xa) := h.alloc _
  have HX : Hid (x < B64) := hx
  have hb0 : Below w.heap.size w (w.alloc (.cells #[.int .i64 14, .slice pa na ca, .slice pb nb cb, .int .i64 nn, U x] 26)) := below1 w _
  clear h hx
  go_enter Tryd.func14, Tryd.ntmps14
  go_wp2_with fail
  refine (divO HA.out x HX.out).mono ?_
  rintro e w1 ⟨p1, m1, N1, us, r1, f1, rfl, hA1, hD1, hb1⟩
  obtain rfl := hA1.2.2
  have A1 : Hid (Own w.heap.size w1 p1 N1 us ∧ N1 ≤ 8192) := ⟨hA1.1.mono hb0.size, hA1.2.1⟩
  have D1 : Hid (DwIs xa x us r1 f1) := hD1
  have hbw := Below.on hb0 hb1
  clear hD1 hb1 hb0 hA1 HA
  go_wp2_with fail
  go_ret3
  exact ⟨_, _, us, r1, f1, rfl, A1.out.1, A1.out.2, (.inr (.inr (.inr (.inr (.inr (.inr (.inr (.inr ⟨rfl, D1.out⟩)))))))), hbw⟩
theorem docK14 {pa pb : Option Addr} {na nb ca cb : Nat} {xa xb : List Nat} {w : World} (h : At w pa na ca xa) (_k : At w pb nb cb xb) (_hna : na ≤ 17592186044416) (nn : Int) (_hnn : nn ≤ 9223372036854775807) (x : Nat) (hx : x < B64) :
    Calls Tryd.prog 12 #[.agg #[.int .i64 14, .slice pa na ca, .slice pb nb cb, .int .i64 nn, U x]] w fun e w' => ∃ p m N us wv f, e = .returned (.tuple #[.slice p m N, U wv, .int .i64 f]) ∧ NewA w.heap.size w' p m N us ∧ LsIs 14 xa xb nn x us wv f ∧ Below w.heap.size w w' := by
  have HA : Hid (At (w.alloc (.cells #[.int .i64 14, .slice pa na ca, .slice pb nb cb, .int .i64 nn, U x] 26)) pa na ca xa) := h.alloc _
  have HX : Hid (x < B64) := hx
  have hb0 : Below w.heap.size w (w.alloc (.cells #[.int .i64 14, .slice pa na ca, .slice pb nb cb, .int .i64 nn, U x] 26)) := below1 w _
  clear h hx
  go_enter Tryd.func12, Tryd.ntmps12
  go_wp2_with fail
  refine (docdivN HA.out x HX.out).mono ?_
  rintro e w1 ⟨p1, m1, N1, us, r1, f1, rfl, hA1, hD1, hb1⟩
  have A1 : Hid (NewA w.heap.size w1 p1 m1 N1 us) := hA1.mono hb0.size
  have D1 : Hid (DwIs xa x us r1 f1) := hD1
  have hbw := Below.on hb0 hb1
  clear hD1 hb1 hb0 hA1 HA
  go_wp2_with fail
  go_ret3
  exact ⟨p1, m1, N1, us, r1, f1, rfl, A1.out, (.inr (.inr (.inr (.inr (.inr (.inr (.inr (.inr ⟨rfl, D1.out⟩)))))))), hbw⟩
theorem listK {pa pb : Option Addr} {na nb ca cb : Nat} {xa xb : List Nat} {w : World} (h : At w pa na ca xa) (k : At w pb nb cb xb) (hna : na ≤ 17592186044416) (nn : Int) (hnn : nn ≤ 9223372036854775807) (x : Nat) (hx : x < B64) {kd : Int} (hk : kd = 2 ∨ kd = 3 ∨ kd = 8 ∨ kd = 9 ∨ kd = 10 ∨ kd = 11 ∨ kd = 12 ∨ kd = 13 ∨ kd = 14) :
    Calls Tryd.prog 14 #[.agg #[.int .i64 kd, .slice pa na ca, .slice pb nb cb, .int .i64 nn, U x]] w fun e w' => ∃ p m us wv f, e = .returned (.tuple #[.slice p m m, U wv, .int .i64 f]) ∧ Own w.heap.size w' p m us ∧ m ≤ 8192 ∧ LsIs kd xa xb nn x us wv f ∧ Below w.heap.size w w' := by
  rcases hk with rfl | rfl | rfl | rfl | rfl | rfl | rfl | rfl | rfl
  · exact listK2 h k hna nn hnn x hx
  · exact listK3 h k hna nn hnn x hx
  · exact listK8 h k hna nn hnn x hx
  · exact listK9 h k hna nn hnn x hx
  · exact listK10 h k hna nn hnn x hx
  · exact listK11 h k hna nn hnn x hx
  · exact listK12 h k hna nn hnn x hx
  · exact listK13 h k hna nn hnn x hx
  · exact listK14 h k hna nn hnn x hx
theorem docK {pa pb : Option Addr} {na nb ca cb : Nat} {xa xb : List Nat} {w : World} (h : At w pa na ca xa) (k : At w pb nb cb xb) (hna : na ≤ 17592186044416) (nn : Int) (hnn : nn ≤ 9223372036854775807) (x : Nat) (hx : x < B64) {kd : Int} (hk : kd = 2 ∨ kd = 3 ∨ kd = 8 ∨ kd = 9 ∨ kd = 10 ∨ kd = 11 ∨ kd = 12 ∨ kd = 13 ∨ kd = 14) :
    Calls Tryd.prog 12 #[.agg #[.int .i64 kd, .slice pa na ca, .slice pb nb cb, .int .i64 nn, U x]] w fun e w' => ∃ p m N us wv f, e = .returned (.tuple #[.slice p m N, U wv, .int .i64 f]) ∧ NewA w.heap.size w' p m N us ∧ LsIs kd xa xb nn x us wv f ∧ Below w.heap.size w w' := by
  rcases hk with rfl | rfl | rfl | rfl | rfl | rfl | rfl | rfl | rfl
  · exact docK2 h k hna nn hnn x hx
  · exact docK3 h k hna nn hnn x hx
  · exact docK8 h k hna nn hnn x hx
  · exact docK9 h k hna nn hnn x hx
  · exact docK10 h k hna nn hnn x hx
  · exact docK11 h k hna nn hnn x hx
  · exact docK12 h k hna nn hnn x hx
  · exact docK13 h k hna nn hnn x hx
  · exact docK14 h k hna nn hnn x hx
end Go.Proofs.YtkdpafliibclnaaDoor
namespace Go.Proofs.YtkdpafliibclnaaDoor
open Go.RowKit
set_option maxRecDepth 20000
set_option maxHeartbeats 0
structure Num (w : World) (p : Option Addr) (m c : Nat) (xs : List Nat) (a : Nat) : Prop where
  at_ : At w p m c xs
  nf : Nf B64 xs a
  le : m ≤ 8192
theorem Num.below {w w' : World} {p : Option Addr} {m c : Nat} {xs : List Nat} {a : Nat} (h : Num w p m c xs a) (hb : Below w.heap.size w w') : Num w' p m c xs a := ⟨h.at_.below hb, h.nf, h.le⟩
theorem Num.lim {w : World} {p : Option Addr} {m c : Nat} {xs : List Nat} {a : Nat} (h : Num w p m c xs a) : a < LIM := h.nf.lim.1 (by rw [h.at_.len]; exact h.le)
theorem Num.of {B : Nat} {w : World} {p : Option Addr} {m : Nat} {xs : List Nat} {a : Nat} (ho : Own B w p m xs) (hn : Nf B64 xs a) (hm : m ≤ 8192) : Num w p m m xs a := ⟨ho.at_ hm, hn, hm⟩
structure Chg (S : Nat → Nat → Prop) (w w' : World) : Prop where
  os : w'.os = w.os
  tape : w'.tape = w.tape
  output : w'.output = w.output
  size : w.heap.size ≤ w'.heap.size
  row : ∀ k cur t fr, w.heap[k]? = some (.cells cur t fr) → ∃ cur', w'.heap[k]? = some (.cells cur' t fr) ∧ cur'.size = cur.size ∧ ∀ j, ¬ S k j → cur'[j]? = cur[j]?
  other : ∀ k, k < w.heap.size → (∀ cur t fr, w.heap[k]? ≠ some (.cells cur t fr)) → w'.heap[k]? = w.heap[k]?

def Rg (g off n : Nat) : Nat → Nat → Prop := fun b o => b = g ∧ off ≤ o ∧ o < off + n
def Dj (g off n g' off' n' : Nat) : Prop := g ≠ g' ∨ off + n ≤ off' ∨ off' + n' ≤ off
theorem Dj.symm {g off n g' off' n' : Nat} (h : Dj g off n g' off' n') : Dj g' off' n' g off n := by unfold Dj at *; omega
theorem Dj.sub {g off n g' off' n' o m : Nat} (h : Dj g off n g' off' n') (h1 : off ≤ o) (h2 : o + m ≤ off + n) : Dj g o m g' off' n' := by unfold Dj at *; omega
theorem Dj.not {g off n g' off' n' j : Nat} (h : Dj g off n g' off' n') (hj : j < n) : ¬ Rg g' off' n' g (off + j) := by unfold Dj Rg at *; omega

theorem Chg.refl (S : Nat → Nat → Prop) (w : World) : Chg S w w := ⟨rfl, rfl, rfl, Nat.le_refl _, fun _ cur _ _ h => ⟨cur, h, rfl, fun _ _ => rfl⟩, fun _ _ _ => rfl⟩
theorem Chg.mono {S S' : Nat → Nat → Prop} {w w' : World} (h : Chg S w w') (hS : ∀ b o, S b o → S' b o) : Chg S' w w' := by
  refine ⟨h.os, h.tape, h.output, h.size, fun k cur t fr hk => ?_, h.other⟩
  obtain ⟨c, h1, h2, h3⟩ := h.row k cur t fr hk
  exact ⟨c, h1, h2, fun j hj => h3 j (fun hs => hj (hS k j hs))⟩
theorem Chg.trans {S : Nat → Nat → Prop} {a b c : World} (h : Chg S a b) (k : Chg S b c) : Chg S a c := by
  refine ⟨k.os.trans h.os, k.tape.trans h.tape, k.output.trans h.output, Nat.le_trans h.size k.size, fun i cur t fr hi => ?_, fun i hi hn => ?_⟩
  · obtain ⟨c1, g1, s1, e1⟩ := h.row i cur t fr hi
    obtain ⟨c2, g2, s2, e2⟩ := k.row i c1 t fr g1
    exact ⟨c2, g2, s2.trans s1, fun j hj => (e2 j hj).trans (e1 j hj)⟩
  · have e1 := h.other i hi hn
    rw [← e1]
    exact k.other i (Nat.lt_of_lt_of_le hi h.size) (by rw [e1]; exact hn)
theorem Wr.chg {g off n : Nat} {w w' : World} (h : Wr g off n w w') : Chg (Rg g off n) w w' := by
  refine ⟨h.os, h.tape, h.output, by rw [h.size]; exact Nat.le_refl _, fun k cur t fr hk => ?_, fun k _ hn => ?_⟩
  · by_cases e : k = g
    · subst e
      obtain ⟨c, h1, h2, h3⟩ := h.row cur t fr hk
      exact ⟨c, h1, h2, fun j hj => h3 j (by unfold Rg at hj; omega)⟩
    · exact ⟨cur, by rw [h.block k e]; exact hk, rfl, fun _ _ => rfl⟩
  · by_cases e : k = g
    · subst e; exact h.other hn
    · exact h.block k e
theorem Chg.drewN {S : Nat → Nat → Prop} {w w' : World} (h : Chg S w w') (q : Nat) : Chg S w (w'.drewN q) := ⟨h.os, h.tape, h.output, h.size, h.row, h.other⟩
theorem Chg.drew {S : Nat → Nat → Prop} {w w' : World} (h : Chg S w w') : Chg S w w'.drew := ⟨h.os, h.tape, h.output, h.size, h.row, h.other⟩
theorem Chg.cell {S : Nat → Nat → Prop} {w w' : World} (h : Chg S w w') {b o : Nat} {v : Value} (hn : ¬ S b o) (hc : w.cell? ⟨b, o, none⟩ = some v) : w'.cell? ⟨b, o, none⟩ = some v := by
  obtain ⟨c, e, fr, hb, hv⟩ := Sort.cells_of_cell? hc
  obtain ⟨c', h1, _, h3⟩ := h.row b c e fr hb
  rw [cell_of_row w' b o c' e fr h1, h3 o hn]; exact hv
theorem Chg.frozen {S : Nat → Nat → Prop} {w w' : World} (h : Chg S w w') {b o : Nat} {v : Value} (hc : w.cell? ⟨b, o, none⟩ = some v) : w'.frozen? ⟨b, o, none⟩ = w.frozen? ⟨b, o, none⟩ := by
  obtain ⟨c, e, fr, hb, hv⟩ := Sort.cells_of_cell? hc
  obtain ⟨c', h1, _, h3⟩ := h.row b c e fr hb
  simp [World.frozen?, hb, h1]
theorem Chg.below {S : Nat → Nat → Prop} {w w' : World} (h : Chg S w w') {B : Nat} (hS : ∀ b o, S b o → B ≤ b) (hB : B ≤ w.heap.size) : Below B w w' := by
  refine ⟨h.os, h.tape, h.output, h.size, fun k hk => ?_⟩
  by_cases hc : ∃ cur t fr, w.heap[k]? = some (.cells cur t fr)
  · obtain ⟨cur, t, fr, hcur⟩ := hc
    obtain ⟨c', h1, h2, h3⟩ := h.row k cur t fr hcur
    have e : c' = cur := by
      apply Array.ext_getElem?
      intro j
      exact h3 j (fun hs => by have := hS k j hs; omega)
    rw [h1, hcur, e]
  · exact h.other k (by omega) (fun cur t fr e => hc ⟨cur, t, fr, e⟩)
theorem Below.chg {w w' : World} (h : Below w.heap.size w w') (S : Nat → Nat → Prop) : Chg S w w' := by
  refine ⟨h.os, h.tape, h.output, h.size, fun k cur t fr hk => ?_, fun k hk _ => h.block k hk⟩
  have hlt : k < w.heap.size := (Array.getElem?_eq_some_iff.1 hk).1
  exact ⟨cur, by rw [h.block k hlt]; exact hk, rfl, fun _ _ => rfl⟩

structure Rd (w : World) (g off n : Nat) (xs : List Nat) : Prop where
  len : xs.length = n
  dig : Dig B64 xs
  cell : ∀ j, j < n → w.cell? ⟨g, off + j, none⟩ = some (U (xs.getD j 0))
theorem Rd.at_ {w : World} {g off n c : Nat} {xs : List Nat} (h : Rd w g off n xs) (hc : n ≤ c) (hb : c ≤ maxLen) : At w (some ⟨g, off, none⟩) n c xs := ⟨h.len, hc, hb, h.dig, .inr ⟨g, off, rfl, h.cell⟩⟩
theorem Rd.chg {w w' : World} {S : Nat → Nat → Prop} {g off n : Nat} {xs : List Nat} (h : Rd w g off n xs) (hc : Chg S w w') (hd : ∀ j, j < n → ¬ S g (off + j)) : Rd w' g off n xs :=
  ⟨h.len, h.dig, fun j hj => hc.cell (hd j hj) (h.cell j hj)⟩
theorem Row.chg {w w' : World} {S : Nat → Nat → Prop} {g off n : Nat} {xs : List Nat} (h : Row w g off n xs) (hc : Chg S w w') (hd : ∀ j, j < n → ¬ S g (off + j)) : Row w' g off n xs :=
  ⟨h.len, h.dig, fun j hj => hc.cell (hd j hj) (h.cell j hj), fun j hj => by rw [hc.frozen (h.cell j hj)]; exact h.frozen j hj⟩
theorem Row.sub {w : World} {g off n : Nat} {xs : List Nat} (h : Row w g off n xs) (k m : Nat) (hkm : k + m ≤ n) : Row w g (off + k) m ((xs.drop k).take m) := by
  have hl := h.len
  refine ⟨by simp; omega, (h.dig.drop k).take m, fun j hj => ?_, fun j hj => by rw [Nat.add_assoc]; exact h.frozen (k + j) (by omega)⟩
  have e : ((xs.drop k).take m).getD j 0 = xs.getD (k + j) 0 := by rw [List.getD_eq_getElem?_getD, List.getD_eq_getElem?_getD, List.getElem?_take, if_pos hj, List.getElem?_drop]
  rw [e, Nat.add_assoc]; exact h.cell (k + j) (by omega)
theorem Rd.sub {w : World} {g off n : Nat} {xs : List Nat} (h : Rd w g off n xs) (k m : Nat) (hkm : k + m ≤ n) : Rd w g (off + k) m ((xs.drop k).take m) := by
  have hl := h.len
  refine ⟨by simp; omega, (h.dig.drop k).take m, fun j hj => ?_⟩
  have e : ((xs.drop k).take m).getD j 0 = xs.getD (k + j) 0 := by rw [List.getD_eq_getElem?_getD, List.getD_eq_getElem?_getD, List.getElem?_take, if_pos hj, List.getElem?_drop]
  rw [e, Nat.add_assoc]; exact h.cell (k + j) (by omega)
theorem Row.join {w : World} {g off n m : Nat} {xs ys : List Nat} (h : Row w g off n xs) (k : Row w g (off + n) m ys) : Row w g off (n + m) (xs ++ ys) := by
  have hl := h.len
  have kl := k.len
  refine ⟨by simp; omega, h.dig.append k.dig, fun j hj => ?_, fun j hj => ?_⟩
  · by_cases e : j < n
    · rw [List.getD_eq_getElem?_getD, List.getElem?_append_left (by omega), ← List.getD_eq_getElem?_getD]; exact h.cell j e
    · rw [List.getD_eq_getElem?_getD, List.getElem?_append_right (by omega), ← List.getD_eq_getElem?_getD, hl]
      have := k.cell (j - n) (by omega)
      rw [Nat.add_assoc, show n + (j - n) = j by omega] at this; exact this
  · by_cases e : j < n
    · exact h.frozen j e
    · have := k.frozen (j - n) (by omega)
      rw [Nat.add_assoc, show n + (j - n) = j by omega] at this; exact this
theorem Wr.setCells {g : Nat} : ∀ (vs : List Value) (off : Nat) (w : World), Wr g off vs.length w (w.setCells g off vs)
  | [], off, w => Wr.refl _ _ _ _
  | v :: r, off, w => by
    have h1 : Wr g off (r.length + 1) w (w.setCell ⟨g, off, none⟩ v) := (Wr.refl g off (r.length + 1) w).setCell off ⟨by omega, by omega⟩ v
    have h2 := Wr.setCells (g := g) r (off + 1) (w.setCell ⟨g, off, none⟩ v)
    exact h1.trans (h2.mono (by omega) (by omega))
structure RowsRel (w : World) (g off n m : Nat) (xs ys : List Nat) (i : Nat) (dk : List Nat) (wr : World) : Prop where
  wrs : Wr g off (n + m) w wr
  row : Row wr g off (n + m) dk
  val : valB B64 dk = valB B64 xs * valB B64 (ys.take i)
  top : dk.drop (i + n) = List.replicate (m - i) 0

theorem rows_val {xs ys dk zs2 : List Nat} {n m k cy y : Nat} (hl : dk.length = n + m) (hk : k < m) (hy : y = ys.getD k 0) (hv : valB B64 dk = valB B64 xs * valB B64 (ys.take k)) (ht : dk.drop (k + n) = List.replicate (m - k) 0)
    (hz : zs2.length = n) (hs : valB B64 zs2 + B64 ^ n * cy = valB B64 ((dk.drop k).take n) + valB B64 xs * y) : valB B64 (dk.take k ++ (zs2 ++ [cy] ++ List.replicate (m - k - 1) 0)) = valB B64 xs * valB B64 (ys.take (k + 1)) := by
  have e1 : valB B64 dk = valB B64 (dk.take k) + B64 ^ k * valB B64 ((dk.drop k).take n) := by
    rw [valB_split B64 dk k (by omega), valB_split B64 (dk.drop k) n (by simp; omega), List.drop_drop, ht, valB_replicate]; simp
  rw [valB_append, List.length_take, Nat.min_eq_left (by omega), valB_append_zeros, valB_snoc, hz, hs, valB_take_any _ ys k, ← hy, Nat.mul_add, Nat.mul_add, ← Nat.add_assoc, ← e1, hv]
  rw [show B64 ^ k * (valB B64 xs * y) = valB B64 xs * (B64 ^ k * y) by rw [← Nat.mul_assoc, ← Nat.mul_assoc, Nat.mul_comm (B64 ^ k)]]
theorem RowsRel.step {w : World} {g off n m : Nat} {xs ys : List Nat} {k : Nat} {dk : List Nat} {wr w2 w3 : World} (h : RowsRel w g off n m xs ys k dk wr) (hk : k < m) {y cy : Nat} (hy : y = ys.getD k 0) {zs2 : List Nat} (hcy : cy < B64)
    (hw2 : Wr g (off + k) n wr.drew w2) (hr2 : Row w2 g (off + k) n zs2) (hs : valB B64 zs2 + B64 ^ n * cy = valB B64 ((dk.drop k).take n) + valB B64 xs * y) (hc : w2.cell? ⟨g, off + (k + n), none⟩ = some (U 0)) (hf : w2.frozen? ⟨g, off + (k + n), none⟩ = false)
    (hw3 : w3 = w2.setCell ⟨g, off + (k + n), none⟩ (U cy)) : RowsRel w g off n m xs ys (k + 1) (dk.take k ++ (zs2 ++ [cy] ++ List.replicate (m - k - 1) 0)) w3 := by
  have hl := h.row.len
  have hW23 : Wr g (off + (k + n)) 1 w2 w3 := by rw [hw3]; exact (Wr.refl g (off + (k + n)) 1 w2).setCell _ ⟨by omega, by omega⟩ _
  have hlen2 : (dk.take k ++ (zs2 ++ [cy] ++ List.replicate (m - k - 1) 0)).length = n + m := by simp [hr2.len]; omega
  have lo : Row w3 g off k (dk.take k) := by
    have h0 := (h.row.take k (by omega)).drew
    exact (h0.chg hw2.chg (fun j hj => by unfold Rg; omega)).chg hW23.chg (fun j hj => by unfold Rg; omega)
  have mid : Row w3 g (off + k) n zs2 := hr2.chg hW23.chg (fun j hj => by unfold Rg; omega)
  have one : Row w3 g (off + k) (n + 1) (zs2 ++ [cy]) := by
    refine mid.snoc ?_ ?_ hcy
    · rw [hw3, Nat.add_assoc]; exact World.cell?_setCell_same _ _ _ hc
    · rw [hw3, Nat.add_assoc, World.frozen?_setCell]; exact hf
  have hi : Row w3 g (off + k + (n + 1)) (m - k - 1) (List.replicate (m - k - 1) 0) := by
    have h0 := (h.row.sub (k + n + 1) (m - k - 1) (by omega)).drew
    have e : (dk.drop (k + n + 1)).take (m - k - 1) = List.replicate (m - k - 1) 0 := by
      rw [← List.drop_drop, h.top, List.drop_replicate, List.take_replicate]; simp
    rw [e] at h0
    have h1 := (h0.chg hw2.chg (fun j hj => by unfold Rg; omega)).chg hW23.chg (fun j hj => by unfold Rg; omega)
    rw [show off + (k + n + 1) = off + k + (n + 1) by omega] at h1; exact h1
  have all := lo.join (one.join hi)
  rw [show k + (n + 1 + (m - k - 1)) = n + m by omega] at all
  have hWd : Wr g off (n + m) w wr.drew := h.wrs.drew
  refine ⟨(hWd.trans (hw2.mono (by omega) (by omega))).trans (hW23.mono (by omega) (by omega)), all, rows_val hl hk hy h.val h.top hr2.len hs, ?_⟩
  rw [show k + 1 + n = k + (n + 1) by omega, List.drop_append, List.drop_eq_nil_of_le (by simp; omega), List.nil_append, List.length_take, hl, Nat.min_eq_left (by omega), Nat.add_sub_cancel_left, List.drop_append, List.drop_eq_nil_of_le (by simp [hr2.len]), List.nil_append]
  simp [hr2.len]; omega
theorem Row.copied {w : World} {g off n : Nat} {zs : List Nat} (h : Row w g off n zs) (xs : List Nat) (hd : Dig B64 xs) (hx : xs.length ≤ n) : Row (w.setCells g off (cellsU xs)) g off n (xs ++ zs.drop xs.length) := by
  have hl := h.len
  refine ⟨by simp; omega, hd.append (h.dig.drop _), fun j hj => ?_, fun j hj => by rw [World.frozen?_setCells]; exact h.frozen j hj⟩
  by_cases e : j < xs.length
  · have h1 := World.cell?_setCells_in g (cellsU xs) off w (fun i hi => by rw [h.cell i (by rw [cellsU_length] at hi; omega)]; rfl) j (by rw [cellsU_length]; exact e)
    rw [h1, List.getD_eq_getElem?_getD, List.getElem?_append_left e, ← List.getD_eq_getElem?_getD]
    have := cellsU_get xs j e
    rw [List.getElem?_eq_getElem (by rw [cellsU_length]; exact e)] at this
    exact this
  · rw [World.cell?_setCells_out g (cellsU xs) off w _ (fun _ _ => .inr (by rw [cellsU_length]; simp; omega)), List.getD_eq_getElem?_getD, List.getElem?_append_right (by omega), List.getElem?_drop, show xs.length + (j - xs.length) = j by omega, ← List.getD_eq_getElem?_getD]
    exact h.cell j hj
theorem nb {P Z A L cy : Nat} (hs : Z + L = A + P * cy) (hz : Z < P) (hle : L ≤ A) (hc : cy ≤ 1) : Z + L = A := by
  by_cases h : cy = 0
  · subst h; omega
  · obtain rfl : cy = 1 := by omega
    omega
theorem nc {P Z A L cy T : Nat} (hs : Z + P * cy = A + L) (ht : A + L < P) (_hT : T = A + L) : Z = A + L := by
  by_cases h : cy = 0
  · subst h; omega
  · have : P * 1 ≤ P * cy := Nat.mul_le_mul_left _ (by omega)
    omega
theorem At.chg {w w' : World} {S : Nat → Nat → Prop} {p : Option Addr} {n c : Nat} {xs : List Nat} (h : At w p n c xs) (hc : Chg S w w') (hd : ∀ g off, p = some ⟨g, off, none⟩ → ∀ j, j < n → g < w.heap.size → ¬ S g (off + j)) : At w' p n c xs := by
  refine ⟨h.len, h.cap, h.big, h.dig, ?_⟩
  rcases h.cells with h0 | ⟨g, off, rfl, hcl⟩
  · exact .inl h0
  · exact .inr ⟨g, off, rfl, fun j hj => hc.cell (hd g off rfl j hj (World.block_lt_of_cell? w _ (hcl j hj))) (hcl j hj)⟩
theorem Nf.big {us : List Nat} {a n : Nat} (h : Nf B64 us a) (hl : us.length = n) (h0 : 0 < n) : B64 ^ (n - 1) ≤ a := by
  have := mt (h.len_le (k := n - 1) B64_one).2 (by omega)
  omega
theorem Nf.zero {us : List Nat} {a : Nat} (h : Nf B64 us a) (hl : us.length = 0) : a = 0 := by
  obtain rfl := List.eq_nil_of_length_eq_zero hl
  have := h.val; simp [valB] at this; omega
end Go.Proofs.YtkdpafliibclnaaDoor
namespace Go.Proofs.YtkdpafliibclnaaDoor
open Go.RowKit Go.Shelf
set_option maxRecDepth 20000
set_option maxHeartbeats 0
structure It where
  p : Option Addr
  n : Nat
  c : Nat
  xs : List Nat
  a : Nat
structure Lists (w : World) (P : Option Addr) (N C : Nat) (its : List It) : Prop where
  len : its.length = N
  cap : N ≤ C
  big : C ≤ maxLen
  cells : N = 0 ∨ ∃ g off, P = some ⟨g, off, none⟩ ∧ ∀ j (h : j < its.length), w.cell? ⟨g, off + j, none⟩ = some (.slice its[j].p its[j].n its[j].c)
  nums : ∀ t ∈ its, Num w t.p t.n t.c t.xs t.a
theorem Lists.below {w w' : World} {P : Option Addr} {N C : Nat} {its : List It} (h : Lists w P N C its) (hb : Below w.heap.size w w') : Lists w' P N C its := by
  refine ⟨h.len, h.cap, h.big, ?_, fun t ht => (h.nums t ht).below hb⟩
  rcases h.cells with h0 | ⟨g, off, rfl, hc⟩
  · exact .inl h0
  · exact .inr ⟨g, off, rfl, fun j hj => (hb.cell (p := ⟨g, off + j, none⟩) (World.block_lt_of_cell? w _ (hc j hj))).trans (hc j hj)⟩
theorem Lists.take {w : World} {g off N C : Nat} {its : List It} (h : Lists w (some ⟨g, off, none⟩) N C its) (k : Nat) (hk : k ≤ N) : Lists w (some ⟨g, off, none⟩) k k (its.take k) := by
  have hl := h.len; have hc := h.cap; have hb := h.big
  refine ⟨by rw [List.length_take]; omega, Nat.le_refl _, by omega, ?_, fun t ht => h.nums t (List.mem_of_mem_take ht)⟩
  rcases h.cells with h0 | ⟨g', off', he, hcl⟩
  · exact .inl (by omega)
  · refine .inr ⟨g', off', he, fun j hj => ?_⟩
    have hj2 : j < its.length := by rw [List.length_take] at hj; omega
    rw [hcl j hj2]; simp
theorem Lists.drop {w : World} {g off N C : Nat} {its : List It} (h : Lists w (some ⟨g, off, none⟩) N C its) (k : Nat) (hk : k < N) : Lists w (some ⟨g, off + k, none⟩) (N - k) (C - k) (its.drop k) := by
  have hl := h.len; have hc := h.cap; have hb := h.big
  refine ⟨by rw [List.length_drop]; omega, by omega, by omega, ?_, fun t ht => h.nums t (List.mem_of_mem_drop ht)⟩
  rcases h.cells with h0 | ⟨g', off', he, hcl⟩
  · omega
  · simp only [Option.some.injEq, Addr.mk.injEq, and_true] at he
    obtain ⟨rfl, rfl⟩ := he
    refine .inr ⟨g, off + k, rfl, fun j hj => ?_⟩
    have hj2 : k + j < its.length := by rw [List.length_drop] at hj; omega
    have := hcl (k + j) hj2
    rw [← Nat.add_assoc] at this
    rw [this]; simp
def itv (t : It) : Value := .slice t.p t.n t.c
structure LsA (w : World) (P : Option Addr) (N C : Nat) (its : List It) : Prop where
  len : its.length = N
  cap : N ≤ C
  big : C ≤ maxLen
  cells : N = 0 ∨ ∃ g off, P = some ⟨g, off, none⟩ ∧ ∀ j (h : j < its.length), w.cell? ⟨g, off + j, none⟩ = some (.slice its[j].p its[j].n its[j].c)
  ats : ∀ t ∈ its, At w t.p t.n t.c t.xs ∧ t.n ≤ 17592186044416 ∧ t.a = valB B64 t.xs
theorem LsA.below {w w' : World} {P : Option Addr} {N C : Nat} {its : List It} (h : LsA w P N C its) (hb : Below w.heap.size w w') : LsA w' P N C its := by
  refine ⟨h.len, h.cap, h.big, ?_, fun t ht => ⟨(h.ats t ht).1.below hb, (h.ats t ht).2⟩⟩
  rcases h.cells with h0 | ⟨g, off, rfl, hc⟩
  · exact .inl h0
  · exact .inr ⟨g, off, rfl, fun j hj => (hb.cell (p := ⟨g, off + j, none⟩) (World.block_lt_of_cell? w _ (hc j hj))).trans (hc j hj)⟩
theorem LsA.nums {w : World} {P : Option Addr} {N C : Nat} {its : List It} (h : LsA w P N C its) (hf : ∀ t ∈ its, formB t.xs = true) : Lists w P N C its :=
  ⟨h.len, h.cap, h.big, h.cells, fun t ht => ⟨(h.ats t ht).1, by rw [(h.ats t ht).2.2]; exact nf_of_form (h.ats t ht).1.dig (hf t ht), by rw [← (h.ats t ht).1.len]; exact ((formB_iff _).1 (hf t ht)).1⟩⟩
theorem At.grow {w w' : World} {g n c : Nat} {xs : List Nat} {row : Option Nat} (h : At w (some ⟨g, 0, none⟩) n c xs) (hg : w.grownBy w' row) (hne : some g ≠ row) : At w' (some ⟨g, 0, none⟩) n c xs := by
  refine ⟨h.len, h.cap, h.big, h.dig, ?_⟩
  rcases h.cells with h1 | ⟨g', off, h1, h2⟩
  · exact .inl h1
  · refine .inr ⟨g', off, h1, fun j hj => hg.cell (h2 j hj) ?_⟩
    simp only [Option.some.injEq, Addr.mk.injEq] at h1
    obtain ⟨rfl, _⟩ := h1
    exact hne
theorem Tryd.infoSl : (Tryd.prog.info? 24).map (fun i => (i.zero, i.size, i.bytes)) = some (some (.slice none 0 0), 1, 24) := by kernel_rfl
theorem cell_new1 (w : World) (v : Value) (ty : TypeId) : ∀ j u, [v][j]? = some u → (w.alloc (.cells #[v] ty)).cell? ((⟨w.heap.size, 0, none⟩ : Addr).add j) = some u := by
  intro j u h
  match j with
  | 0 => simp at h; subst h; simp [Addr.add]
def Cps (w : World) (g : Nat) (js its : List It) : Prop := js.map It.xs = its.map It.xs ∧ js.map It.a = its.map It.a ∧ ∀ t ∈ js, (∃ b, t.p = some ⟨b, 0, none⟩ ∧ b ≠ g) ∧ At w t.p t.n t.c t.xs ∧ t.n ≤ 17592186044416 ∧ t.a = valB B64 t.xs
theorem Cps.below {w w' : World} {g : Nat} {js its : List It} (h : Cps w g js its) (hb : Below w.heap.size w w') : Cps w' g js its := ⟨h.1, h.2.1, fun t ht => ⟨(h.2.2 t ht).1, (h.2.2 t ht).2.1.below hb, (h.2.2 t ht).2.2⟩⟩
theorem Cps.grow {w w' : World} {g : Nat} {js its : List It} (h : Cps w g js its) (hg : w.grownBy w' (some g)) : Cps w' g js its := ⟨h.1, h.2.1, fun t ht => by
  obtain ⟨⟨b, h1, h2⟩, h3, h4⟩ := h.2.2 t ht
  refine ⟨⟨b, h1, h2⟩, ?_, h4⟩
  rw [h1] at h3 ⊢
  exact h3.grow hg (fun e => h2 (Option.some.inj e))⟩
theorem Cps.snoc {w : World} {g : Nat} {js its : List It} {t u : It} (h : Cps w g js its) (hx : t.xs = u.xs) (ha : t.a = u.a) (hp : ∃ b, t.p = some ⟨b, 0, none⟩ ∧ b ≠ g) (hA : At w t.p t.n t.c t.xs ∧ t.n ≤ 17592186044416 ∧ t.a = valB B64 t.xs) : Cps w g (js ++ [t]) (its ++ [u]) := by
  refine ⟨by rw [List.map_append, List.map_append, h.1, List.map_singleton, List.map_singleton, hx], by rw [List.map_append, List.map_append, h.2.1, List.map_singleton, List.map_singleton, ha], fun s hs => ?_⟩
  rcases List.mem_append.1 hs with h1 | h1
  · exact h.2.2 s h1
  · rw [List.mem_singleton.1 h1]; exact ⟨hp, hA⟩
end Go.Proofs.YtkdpafliibclnaaDoor
namespace Go.Proofs.YtkdpafliibclnaaDoor
open Go.RowKit
set_option maxRecDepth 20000
set_option maxHeartbeats 0
variable {P : Program} {md : Region.Mode} {ops : Array Oper} {Q : Exit → Act → World → Prop} {J : World → Prop} {L : Nat}

def ClosedL (md : Region.Mode) (ops : Array Oper) (listed : Array Bool) : Prop :=
  ∀ (k : Nat) (o : Oper), ops[k]? = some o → listed.getD k false = true → ∀ e ∈ o.after, Region.binds md e = true → listed.getD e.on false = true
theorem ClosedL.step {listed : Array Bool} (h : ClosedL md ops listed) {j : Nat} (hj : j ∈ Region.ready md ops listed) : ClosedL md ops (listed.setIfInBounds j true) := by
  intro k o ho hk e he hb
  obtain ⟨h0, oj, hoj, hall⟩ := mem_ready.1 hj
  by_cases hjk : j = k
  · subst hjk
    rw [hoj] at ho
    obtain rfl := Option.some.inj ho
    exact getD_set_true (hall e he hb)
  · rw [getD_set_ne false hjk] at hk
    exact getD_set_true (h k o ho hk e he hb)
end Go.Proofs.YtkdpafliibclnaaDoor
namespace Go.Proofs.YtkdpafliibclnaaDoor
open Go.RowKit Go.Shelf
set_option maxRecDepth 20000
set_option maxHeartbeats 0
def iv (s : Bool) (a : Nat) : Int := if s then -(a : Int) else (a : Int)
abbrev ZV (s : Bool) (p : Option Addr) (n c : Nat) : Value := .agg #[.bool s, .slice p n c]
def AnsI (B : Nat) (w' : World) (e : Ending) (z : Int) : Prop :=
  (z.natAbs < LIM ∧ ∃ p m zs, e = .returned (.tuple #[ZV (decide (z < 0)) p m m, .int .i64 0]) ∧ Own B w' p m zs ∧ Nf B64 zs z.natAbs ∧ m ≤ 8192) ∨
  (LIM ≤ z.natAbs ∧ e = .returned (.tuple #[ZV false none 0 0, .int .i64 5]))
theorem AnsI.ok {B : Nat} {w' : World} {e : Ending} {z : Int} (h : AnsI B w' e z) (hz : z.natAbs < LIM) : ∃ p m zs, e = .returned (.tuple #[ZV (decide (z < 0)) p m m, .int .i64 0]) ∧ Own B w' p m zs ∧ Nf B64 zs z.natAbs ∧ m ≤ 8192 := by
  rcases h with ⟨_, h⟩ | ⟨h, _⟩
  · exact h
  · omega
theorem AnsI.no {B : Nat} {w' : World} {e : Ending} {z : Int} (h : AnsI B w' e z) (hz : LIM ≤ z.natAbs) : e = .returned (.tuple #[ZV false none 0 0, .int .i64 5]) := by
  rcases h with ⟨h, _⟩ | ⟨_, h⟩
  · omega
  · exact h
theorem Num.zero {w : World} {p : Option Addr} {m c : Nat} {xs : List Nat} {a : Nat} (h : Num w p m c xs a) : m = 0 ↔ a = 0 := by
  rw [← h.nf.zero_iff B64_one, ← h.at_.len]
  exact ⟨List.eq_nil_of_length_eq_zero, fun e => by rw [e]; rfl⟩

theorem bSet {B : Nat} {a w : World} (h : Below B a w) (g o : Nat) (v : Value) (hB : B ≤ g) : Below B a (w.setCell ⟨g, o, none⟩ v) :=
  h.trans ((Wr.refl g o 1 w).setCell o ⟨by omega, by omega⟩ v |>.below hB)
theorem below3 (w : World) (o1 o2 o3 : Obj) : Below w.heap.size w (((w.alloc o1).alloc o2).alloc o3) := (below2 w o1 o2).alloc (by simp; omega) o3
theorem bDrew1 {B : Nat} {a w : World} (h : Below B a w) : Below B a w.drew := ⟨h.os, h.tape, h.output, h.size, h.block⟩
structure Box (W : World) (g : Nat) (v0 v1 : Value) : Prop where
  c0 : W.cell? ⟨g, 0, none⟩ = some v0
  c1 : W.cell? ⟨g, 1, none⟩ = some v1
  f0 : W.frozen? ⟨g, 0, none⟩ = false
  f1 : W.frozen? ⟨g, 1, none⟩ = false
theorem Box.below {W W' : World} {g : Nat} {v0 v1 : Value} (h : Box W g v0 v1) (hb : Below W.heap.size W W') : Box W' g v0 v1 := by
  have hl : g < W.heap.size := World.block_lt_of_cell? W _ h.c0
  exact ⟨(hb.cell (p := ⟨g, 0, none⟩) hl).trans h.c0, (hb.cell (p := ⟨g, 1, none⟩) hl).trans h.c1, (hb.frozen (p := ⟨g, 0, none⟩) hl).trans h.f0, (hb.frozen (p := ⟨g, 1, none⟩) hl).trans h.f1⟩
theorem Box.new (w : World) (ty : TypeId) (v0 v1 : Value) : Box (w.alloc (.cells #[v0, v1] ty)) w.heap.size v0 v1 := ⟨by go_simp, by go_simp, by go_simp, by go_simp⟩
def mkN (i j : Nat) : Nat := 11944390636716687360 + (i + 1) * 16777216 + j
theorem mkN_lt {i j : Nat} (hi : i ≤ 1000000) (hj : j < 1000000000000000000) : mkN i j < B64 := by unfold mkN; show _ < 18446744073709551616; omega
structure LQ (w : World) (B go off N : Nat) (p : Nat → Option Addr) (n b : Nat → Nat) (X : Nat → List Nat) : Prop where
  cells : ∀ i, i < N → w.cell? ⟨go, off + i, none⟩ = some (.slice (p i) (n i) (n i))
  addr : ∀ i, i < N → n i = 0 ∨ p i = some ⟨b i, 0, none⟩
  pn : ∀ i, i < N → p i = none → n i = 0
  row : ∀ i, i < N → Row w (b i) 0 (n i) (X i)
  ge : ∀ i, i < N → B ≤ b i
  le : ∀ i, i < N → n i ≤ 17592186044496
  ne : ∀ i, i < N → n i ≠ 0 → b i ≠ go
  dist : ∀ i j, i < N → j < N → i ≠ j → n i ≠ 0 → n j ≠ 0 → b i ≠ b j
theorem row_lt7 {w : World} {g off n : Nat} {xs : List Nat} (h : Row w g off n xs) (hn : n ≠ 0) : g < w.heap.size := World.block_lt_of_cell? w _ (h.cell 0 (by omega))
theorem row_none {w : World} {g off n : Nat} {xs : List Nat} (h : Row w g off n xs) (hn : n = 0) (w' : World) (g' : Nat) : Row w' g' 0 n xs := ⟨h.len, h.dig, fun j hj => by omega, fun j hj => by omega⟩
theorem Row.setNo {w : World} {g n : Nat} {xs : List Nat} (h : Row w g 0 n xs) (g2 o2 : Nat) (v : Value) (hne : g ≠ g2) : Row (w.setCell ⟨g2, o2, none⟩ v) g 0 n xs :=
  ⟨h.len, h.dig, fun j hj => (World.cell?_setCell_other _ _ _ _ (by intro e; exact hne (congrArg Addr.block e).symm)).trans (h.cell j hj), fun j hj => by rw [World.frozen?_setCell]; exact h.frozen j hj⟩
theorem LQ.set {w : World} {B go off N : Nat} {p : Nat → Option Addr} {n b : Nat → Nat} {X : Nat → List Nat} (h : LQ w B go off N p n b X) {i j y : Nat} (hi : i < N) (hj : j < n i) (hy : y < B64) :
    LQ (w.setCell ⟨b i, j, none⟩ (U y)) B go off N p n b (fun k => if k = i then (X i).set j y else X k) := by
  refine ⟨fun k hk => ?_, h.addr, h.pn, fun k hk => ?_, h.ge, h.le, h.ne, h.dist⟩
  · exact (World.cell?_setCell_other _ _ _ _ (by intro e; exact h.ne i hi (by omega) (congrArg Addr.block e))).trans (h.cells k hk)
  · by_cases e : k = i
    · subst e
      rw [if_pos rfl]
      have := (h.row k hk).set j y hj hy
      rw [Nat.zero_add] at this
      exact this
    · rw [if_neg e]
      by_cases h0 : n k = 0
      · exact row_none (h.row k hk) h0 _ _
      · exact (h.row k hk).setNo _ _ _ (h.dist k i hk hi e h0 (by omega))
theorem LQ.below {w w' : World} {B go off N : Nat} {p : Nat → Option Addr} {n b : Nat → Nat} {X : Nat → List Nat} (h : LQ w B go off N p n b X) (hb : Below w.heap.size w w') : LQ w' B go off N p n b X :=
  ⟨fun i hi => (hb.cell (p := ⟨go, off + i, none⟩) (World.block_lt_of_cell? w _ (h.cells i hi))).trans (h.cells i hi), h.addr, h.pn, fun i hi => by
    by_cases h0 : n i = 0
    · exact row_none (h.row i hi) h0 _ _
    · exact (h.row i hi).below hb (row_lt7 (h.row i hi) h0), h.ge, h.le, h.ne, h.dist⟩
def Mkd (n : Nat → Nat) (X : Nat → List Nat) (k : Nat) : Prop := ∀ m, m < n k → (X k).getD m 0 = mkN k m
theorem mkd_succ {n : Nat → Nat} {X : Nat → List Nat} {i : Nat} (h : ∀ k, k < i → Mkd n X k) (h2 : ∀ m, m < n i → (X i).getD m 0 = mkN i m) : ∀ k, k < i + 1 → Mkd n X k := by
  intro k hk
  rcases Nat.lt_or_ge k i with h1 | h1
  · exact h k h1
  · obtain rfl : k = i := by omega
    exact h2
theorem mark_ij (i j : Nat) (hi : i ≤ 1000000) (hj : j < 1000000000000000000) {w : World} :
    Calls Tryd.prog 38 #[.int .i64 i, .int .i64 j] w fun en w' => en = .returned (U (mkN i j)) ∧ w' = w := by
  have h0 : wrap64 ((i : Int) + 1) = (i : Int) + 1 := by simp only [wrap64]; omega
  have h1 : IntKind.u64.wrap (j : Int) = (j : Int) := by rw [IntKind.wrap_u64]; omega
  have h3 : IntKind.u64.wrap ((i : Int) + 1) = (i : Int) + 1 := by rw [IntKind.wrap_u64]; omega
  go_enter Tryd.func38, Tryd.ntmps38
  go_wp2_with fail
  go_ret
  exact ⟨rfl, rfl⟩
theorem wpList_append_full {P : Program} (w : World) {ops : Array Oper} {rest : List Oper} {o : Oper} {a : Act} {Q : Exit → Act → World → Prop}
    (hg : o.guard = none) (s x : Operand) (t : TypeId) (hop : o.op = Op.call { callee := Callee.builtin Builtin.append, args := #[s, x], argTypes := #[t, t] })
    (e : TypeId) (i : TypeInfo) (z : Value) (size bytes : Nat) (h1 : P.underlying t = some (.slice e)) (h2 : P.info? e = some i) (h3 : i.zero = some z) (h4 : i.size = size) (h5 : i.bytes = bytes) (h6 : z.cells.size = size) (h7 : 0 < size)
    (p : Option Addr) (n : Nat) (olds : List Value) (hs : a.eval s = .slice p n n) (hp0 : p = none → n = 0) (hlo : olds.length = n * size) (holds : ∀ b, p = some b → ∀ j u, olds[j]? = some u → w.cell? (b.add j) = some u)
    (ad : Addr) (m c : Nat) (news : List Value) (hx : a.eval x = .slice (some ad) m c) (hn : news.length = m * size) (hc : ∀ j u, news[j]? = some u → w.cell? (ad.add j) = some u) (h1c : ∀ u ∈ news, u.oneCell' = true)
    (hm : 0 < m) (b1 : n + m ≤ maxLen) (b2 : ((n + m) + (n + m) / 4 + 192) * bytes ≤ 281474976710656)
    (hgrow : ∀ v' w', w'.ownsRow w.heap.size e size v' (n + m) (olds ++ news) → w.grownBy w' none → wpList P ops Q rest (a.put o.dst v') w') :
    wpList P ops Q (o :: rest) a w := by
  refine wpList_plain hg fun K hK' => ?_
  have hrun : ∃ v' w', (Builtin.append_ #[t, t] o.type #[.slice p n n, .slice (some ad) m c]).run P w = .ok v' w' ∧ w'.ownsRow w.heap.size e size v' (n + m) (olds ++ news) ∧ w.grownBy w' none := by
    cases p with
    | none =>
      obtain rfl := hp0 rfl
      obtain rfl : olds = [] := List.eq_nil_of_length_eq_zero (by omega)
      obtain ⟨v', w', r1, r2, r3, _⟩ := run_append_own_wide (P := P) w w.heap.size t o.type e i z size bytes h1 h2 h3 h4 h5 h6 h7 (.slice none 0 0) 0 [] ⟨by simp, .inl ⟨rfl, rfl⟩⟩ ad m c news hn hc h1c b1 b2 (Nat.le_refl _)
      exact ⟨v', w', r1, r2, r3⟩
    | some b =>
      subst h4 h5
      have hf : n < n + m := by omega
      have hln : (olds ++ news).length = (n + m) * i.size := by rw [List.length_append, hlo, hn, Nat.add_mul]
      have hg1 := grownCap_ge w (n + m) n e
      have hg2 := grownCap_le_maxLen w (n + m) n e b1
      have hr := run_append_grow (P := P) w t o.type e i z h1 h2 h3 b n n olds hlo (holds b rfl) ad m c news hn hc hf (by unfold maxLen at b1; omega) (growslice_fits_wide hf b2)
      refine ⟨_, _, hr, ⟨hln, .inr ⟨w.heap.size, _, _, rfl, Nat.le_refl _, heap_alloc_new w.drew _, hg1, hg2, ?_, ?_⟩⟩, ⟨rfl, rfl, rfl, by simp, fun k hk _ => _root_.Go.heap_alloc_old w.drew _ hk⟩⟩
      · simp only [Array.size_append, List.size_toArray, size_zeroCells, h6, hlo, hn, ← Nat.add_mul]
        congr 1
        omega
      · rw [Array.toList_append, Array.toList_append, ← hln]
        exact List.take_left
  obtain ⟨v', w', r1, r2, r3⟩ := hrun
  unfold Oper.wp
  simp [execOp, hop, resolve, invoke, builtin, hs, hx, r1, Result.andThen]
  exact hK' _ _ (hgrow v' w' r2 r3)
def mks (i m : Nat) : List Nat := (List.range m).map (mkN i)
theorem mks_len (i m : Nat) : (mks i m).length = m := by simp [mks]
theorem mks_succ (i m : Nat) : mks i (m + 1) = mks i m ++ [mkN i m] := by unfold mks; rw [List.range_succ, List.map_append]; rfl
theorem mks_get {i m j : Nat} (h : j < m) : (mks i m).getD j 0 = mkN i j := by
  unfold mks
  rw [List.getD_eq_getElem?_getD, List.getElem?_map, List.getElem?_range h]
  rfl
theorem mks_eq {xs : List Nat} {i m : Nat} (hl : xs.length = m) (h : ∀ j, j < m → xs.getD j 0 = mkN i j) : xs = mks i m := by
  refine List.ext_getElem (by rw [hl, mks_len]) fun j h1 h2 => ?_
  have e : xs.getD j 0 = (mks i m).getD j 0 := by rw [h j (by omega), mks_get (by omega)]
  rw [List.getD_eq_getElem?_getD, List.getD_eq_getElem?_getD, List.getElem?_eq_getElem h1, List.getElem?_eq_getElem h2] at e
  exact e
theorem mks_dig {i m : Nat} (hi : i ≤ 1000000) (hm : m < 1000000000000000000) : Dig B64 (mks i m) := by
  intro x hx
  obtain ⟨j, hj, rfl⟩ := List.mem_map.1 hx
  exact mkN_lt hi (Nat.lt_trans (List.mem_range.1 hj) hm)
theorem own_ob7 {w : World} {B k : Nat} {e : TypeId} {v : Value} {xs : List Value} (h : w.ownsRow B e 1 v k xs) {b : Nat} (hb : v.ownBlock = some b) : B ≤ b ∧ b < w.heap.size := by
  rcases h.2 with ⟨h2, _⟩ | ⟨g', cap, cur, h2, h3, h4, h5⟩
  · rw [h2] at hb; cases hb
  · rw [h2] at hb
    cases hb
    exact ⟨h3, (Array.getElem?_eq_some_iff.1 h4).1⟩
theorem ownAny7 {w w' : World} {B k : Nat} {e : TypeId} {v : Value} {xs : List Value} (h : w.ownsRow B e 1 v k xs) (hb : Below w.heap.size w w') : w'.ownsRow B e 1 v k xs := by
  refine ⟨h.1, ?_⟩
  rcases h.2 with h2 | ⟨g, cap, cur, h2, h3, h4, h5⟩
  · exact .inl h2
  · have hg : g < w.heap.size := by
      rcases Nat.lt_or_ge g w.heap.size with h6 | h6
      · exact h6
      · rw [Array.getElem?_eq_none h6] at h4; cases h4
    exact .inr ⟨g, cap, cur, h2, h3, (hb.block _ hg).trans h4, h5⟩
theorem own_mono {w : World} {B B' k : Nat} {e : TypeId} {v : Value} {xs : List Value} (h : w.ownsRow B e 1 v k xs) (hB : B' ≤ B) : w.ownsRow B' e 1 v k xs := by
  refine ⟨h.1, ?_⟩
  rcases h.2 with h2 | ⟨g, cap, cur, h2, h3, h4⟩
  · exact .inl h2
  · exact .inr ⟨g, cap, cur, h2, Nat.le_trans hB h3, h4⟩
theorem own_sl7 {w : World} {B k i : Nat} {v : Value} (h : w.ownsRow B 23 1 v (k + 1) (cellsU (mks i (k + 1)))) (hi : i ≤ 1000000) (hk : k + 1 < 1000000000000000000) :
    ∃ g cap, v = .slice (some ⟨g, 0, none⟩) (k + 1) cap ∧ B ≤ g ∧ g < w.heap.size ∧ At w (some ⟨g, 0, none⟩) (k + 1) cap (mks i (k + 1)) := by
  rcases h.2 with ⟨_, h2⟩ | ⟨g, cap, cur, h2, h3, h4, h5, h6, h7, h8⟩
  · omega
  · have hd := mks_dig hi hk
    refine ⟨g, cap, h2, h3, (Array.getElem?_eq_some_iff.1 h4).1, mks_len _ _, h5, h6, hd, .inr ⟨g, 0, rfl, fun jj hj => ?_⟩⟩
    rw [Nat.zero_add, cell_of_row w g jj _ _ _ h4]
    have e1 := cellsU_get (mks i (k + 1)) jj (by rw [mks_len]; exact hj)
    rw [← h8, Nat.mul_one, List.getElem?_take, if_pos hj] at e1
    rw [← Array.getElem?_toList]; exact e1
theorem full_cells {w w' : World} {B go off N i ni : Nat} {p : Nat → Option Addr} {n b : Nat → Nat} {X : Nat → List Nat} {pi : Option Addr} (h : LQ w B go off N p n b X) (hm : Mkd n X i) (hi : i < N) (e1 : ni = n i) (e2 : pi = p i) (hb : Below w.heap.size w w') :
    ∀ c, pi = some c → ∀ j u, (cellsU (mks i ni))[j]? = some u → w'.cell? (c.add j) = some u := by
  intro c hc j u hu
  have hr := h.row i hi
  have ex : X i = mks i (n i) := mks_eq hr.len hm
  have hj : j < n i := by
    rcases Nat.lt_or_ge j (n i) with h1 | h1
    · exact h1
    · rw [List.getElem?_eq_none (by rw [cellsU_length, mks_len, e1]; exact h1)] at hu; cases hu
  have hp := (h.addr i hi).resolve_left (by omega)
  rw [e2, hp] at hc
  cases hc
  have hcl := hr.cell j hj
  rw [Nat.zero_add] at hcl
  have hadd : (⟨b i, 0, none⟩ : Addr).add j = ⟨b i, j, none⟩ := by unfold Addr.add; split <;> simp_all
  rw [hadd, (hb.cell (p := ⟨b i, j, none⟩) (World.block_lt_of_cell? w _ hcl)).trans hcl, ex]
  rw [cellsU_get _ _ (by rw [mks_len, e1]; exact hj), e1] at hu
  exact hu
structure GQ (w : World) (fo : Option Nat) (N : Nat) (Gs : List It) : Prop where
  blk : ∀ q (h : q < Gs.length), ∃ b, Gs[q].p = some ⟨b, 0, none⟩ ∧ some b ≠ fo ∧ b < w.heap.size
  at_ : ∀ q (h : q < Gs.length), At w Gs[q].p Gs[q].n Gs[q].c Gs[q].xs
  mrk : ∀ q (h : q < Gs.length), ∀ m, m < Gs[q].n → Gs[q].xs.getD m 0 = mkN (q % N) m
  le : ∀ q (h : q < Gs.length), Gs[q].n ≤ 17592186044596
theorem GQ.below {w w' : World} {fo : Option Nat} {N : Nat} {Gs : List It} (h : GQ w fo N Gs) (hb : Below w.heap.size w w') : GQ w' fo N Gs :=
  ⟨fun q hq => by obtain ⟨b, h1, h2, h3⟩ := h.blk q hq; exact ⟨b, h1, h2, Nat.lt_of_lt_of_le h3 hb.size⟩, fun q hq => (h.at_ q hq).below hb, h.mrk, h.le⟩
theorem GQ.grow {w w' : World} {fo fo' : Option Nat} {N : Nat} {Gs : List It} (h : GQ w fo N Gs) (hg : w.grownBy w' fo) (hf : fo' = fo ∨ fo' = some w.heap.size) : GQ w' fo' N Gs := by
  refine ⟨fun q hq => ?_, fun q hq => ?_, h.mrk, h.le⟩
  · obtain ⟨b, h1, h2, h3⟩ := h.blk q hq
    refine ⟨b, h1, ?_, Nat.lt_of_lt_of_le h3 hg.size⟩
    rcases hf with e | e <;> rw [e]
    · exact h2
    · intro e2; have := Option.some.inj e2; omega
  · obtain ⟨b, h1, h2, h3⟩ := h.blk q hq
    have h4 := h.at_ q hq
    rw [h1] at h4 ⊢
    exact h4.grow hg h2
theorem GQ.snoc {w : World} {fo : Option Nat} {N : Nat} {Gs : List It} (h : GQ w fo N Gs) (t : It) {b : Nat} (h1 : t.p = some ⟨b, 0, none⟩) (h2 : some b ≠ fo) (h3 : b < w.heap.size) (h4 : At w t.p t.n t.c t.xs) (h5 : ∀ m, m < t.n → t.xs.getD m 0 = mkN (Gs.length % N) m) (h6 : t.n ≤ 17592186044596) : GQ w fo N (Gs ++ [t]) := by
  have key : ∀ q (hq : q < (Gs ++ [t]).length), (∃ hq2 : q < Gs.length, (Gs ++ [t])[q] = Gs[q]) ∨ (q = Gs.length ∧ (Gs ++ [t])[q] = t) := by
    intro q hq
    rcases Nat.lt_or_ge q Gs.length with h7 | h7
    · exact .inl ⟨h7, List.getElem_append_left h7⟩
    · have e : q = Gs.length := by rw [List.length_append, List.length_singleton] at hq; omega
      subst e
      exact .inr ⟨rfl, by simp⟩
  refine ⟨fun q hq => ?_, fun q hq => ?_, fun q hq => ?_, fun q hq => ?_⟩ <;> rcases key q hq with ⟨hq2, e⟩ | ⟨e1, e⟩ <;> rw [e]
  · exact h.blk q hq2
  · exact ⟨b, h1, h2, h3⟩
  · exact h.at_ q hq2
  · exact h4
  · exact h.mrk q hq2
  · rw [e1]; exact h5
  · exact h.le q hq2
  · exact h6
end Go.Proofs.YtkdpafliibclnaaDoor
