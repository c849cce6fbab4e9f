import Derived.Test.YteoihhgaipplfaaDoorJ11
import Derived.Deep.RegionWith
import Derived.Test.YteoihhgaipplfaaDoorMem
import Derived.Test.YteoihhgaipplfaaDoorJ9
import Derived.Test.YteoihhgaipplfaaDoorJ10
import Derived.Test.YteoihhgaipplfaaDoorJ8
import Derived.Deep.LoopGhost
namespace Go.Proofs.YteoihhgaipplfaaDoor
open Go.RowKit Go.Shelf

set_option maxRecDepth 20000 in
set_option maxHeartbeats 1000000 in
theorem rshr_all {p : Option Addr} {n c : Nat} {xs : List Nat} {v : Nat} {w : World} (h : At32 w p n c xs) (hx : Nf B32 xs v) (hn : n ≤ 16384) (N : Nat) (hN2 : N ≤ 9223372036854775807) :
    Calls Tryd.prog 116 #[.slice p n c, .int .i64 N] w fun e w' => ∃ p' m' zs, e = .returned (.slice p' m' m') ∧ At32 w' p' m' m' zs ∧ Nf B32 zs (v / 2 ^ N) ∧ m' ≤ n ∧ Below w.heap.size w w' := by
  rcases Nat.eq_zero_or_pos N with h0 | h0
  · subst h0
    have HX : Hid (Nf B32 xs v) := hx
    have HA : Hid (At32 w p n c xs) := h
    clear h hx
    go_enter Tryd.func116, Tryd.ntmps116
    go_wp2_with fail
    refine (rnorm_any HA.out (by omega)).mono ?_
    rw [trimL_of_Top HX.out.top]
    rintro e w1 ⟨g, rfl, hg, hb, hbl⟩
    have HB : Hid (Blk32 w1 g xs) := hb
    rw [HA.out.len]
    clear hb
    go_wp2_with fail
    go_ret
    exact ⟨_, n, xs, rfl, HB.out.at_ HX.out.dig HA.out.len (by unfold maxLen; omega), by rw [Nat.pow_zero, Nat.div_one]; exact HX.out, by omega, hbl⟩
  · exact rshr_any h hx hn N h0 hN2
set_option maxRecDepth 20000 in
set_option maxHeartbeats 1000000 in
theorem rlow_all {p : Option Addr} {n c : Nat} {xs : List Nat} {v : Nat} {w : World} (h : At32 w p n c xs) (hx : Nf B32 xs v) (hn : n ≤ 16384) (N : Nat) (hN2 : N ≤ 9223372036854775807) :
    Calls Tryd.prog 117 #[.slice p n c, .int .i64 N] w fun e w' => ∃ p' m' zs, e = .returned (.slice p' m' m') ∧ At32 w' p' m' m' zs ∧ Nf B32 zs (v % 2 ^ N) ∧ m' ≤ n ∧ Below w.heap.size w w' := by
  rcases Nat.eq_zero_or_pos N with h0 | h0
  · subst h0
    clear h hx
    go_enter Tryd.func117, Tryd.ntmps117
    go_wp2_with fail
    refine (rword0 w).mono ?_
    rintro e w1 ⟨g, rfl, hb⟩
    go_wp2_with fail
    go_ret
    exact ⟨_, 0, [], rfl, At32.empty _ _ 0 (by decide), by rw [Nat.pow_zero, Nat.mod_one]; exact nf32_nilq, by omega, hb⟩
  · exact rlow_any h hx hn N h0 hN2
theorem nf32_zeroq {zs : List Nat} {v : Nat} (h : Nf B32 zs v) : zs.length = 0 ↔ v = 0 := by
  rw [← h.zero_iff B32_one]
  exact ⟨List.eq_nil_of_length_eq_zero, fun e => by rw [e]; rfl⟩
theorem nf64_zeroq {zs : List Nat} {v : Nat} (h : Nf B64 zs v) : zs.length = 0 ↔ v = 0 := by
  rw [← h.zero_iff B64_one]
  exact ⟨List.eq_nil_of_length_eq_zero, fun e => by rw [e]; rfl⟩
theorem LIM_twoq {E : Nat} (hE : E = 524288) : LIM = 2 ^ E := by
  obtain ⟨K, hK⟩ : ∃ K, K = 8192 := ⟨8192, rfl⟩
  rw [LIM_eq K hK, B64_pow]
  have : 64 * K = E := by omega
  rw [this]
theorem LIM_posq : 0 < LIM := by
  obtain ⟨E, hE⟩ : ∃ E, E = 524288 := ⟨_, rfl⟩
  rw [LIM_twoq hE]
  exact Nat.pow_pos (by decide)
theorem nf_nilq : Nf B64 [] 0 := ⟨Dig.nil _, by intro x hx; simp at hx, rfl⟩

set_option maxRecDepth 20000 in
set_option maxHeartbeats 2000000 in
theorem docshrD {p : Option Addr} {n c : Nat} {xs : List Nat} {w : World} (h : At w p n c xs) (t : Int) (ht : t ≤ 9223372036854775807) :
    Calls Tryd.prog 95 #[.slice p n c, .int .i64 t] w fun e w' => ∃ p' m' N' us f, e = .returned (.tuple #[.slice p' m' N', .int .i64 f]) ∧ At w' p' m' N' us ∧ ShIs shrR xs t us f ∧ Below w.heap.size w w' := by
  have HA : Hid (At w p n c xs) := h
  clear h
  rcases Int.lt_or_le t 0 with h0 | h0
  · have h1 : decide (t < 0) = true := decide_eq_true h0
    go_enter Tryd.func95, Tryd.ntmps95
    go_wp2_with fail
    go_ret2
    exact ⟨none, 0, 0, [], 1, rfl, At.empty _ none 0 (by decide), .inl ⟨h0, rfl, rfl⟩, Below.refl _ _⟩
  · have h1 : decide (t < 0) = false := decide_eq_false (by omega)
    cases hf : formB xs
    · go_enter Tryd.func95, Tryd.ntmps95
      go_wp2_with fail
      refine (docform_any HA.out).mono ?_
      rintro e w1 ⟨rfl, hw⟩
      rw [hf]
      obtain rfl := hw.symm
      clear hw
      go_wp2_with fail
      go_ret2
      exact ⟨none, 0, 0, [], 2, rfl, At.empty _ none 0 (by decide), .inr (.inl ⟨h0, hf, rfl, rfl⟩), Below.refl _ _⟩
    · have HF : Hid (formB xs = true) := hf
      have hn : n ≤ 8192 := by have := form_lenq hf; rw [HA.out.len] at this; exact this
      have HNX : Hid (Nf B64 xs (valB B64 xs)) := nf_of_form HA.out.dig hf
      obtain ⟨T, rfl⟩ := Int.eq_ofNat_of_zero_le h0
      have H0 : Hid (0 ≤ (T : Int)) := h0
      clear h0
      go_enter Tryd.func95, Tryd.ntmps95
      go_wp2_with fail
      refine (docform_any HA.out).mono ?_
      rintro e w1 ⟨rfl, hw⟩
      rw [hf]
      obtain rfl := hw.symm
      clear hw hf
      go_wp2_with fail
      refine (from_any HA.out (by omega)).mono ?_
      rintro e w1 ⟨g1, z1, rfl, hg1, hk1, hn1, hl1, hb1⟩
      have A1 : Hid (At32 w1 (some ⟨g1, 0, none⟩) z1.length z1.length z1) := hk1.at_ hn1.dig rfl (by unfold maxLen; omega)
      have N1 : Hid (Nf B32 z1 (valB B64 xs)) := hn1
      have hz1 := nf32_zeroq hn1
      obtain ⟨l1, hl1e⟩ : ∃ l1, l1 = z1.length := ⟨_, rfl⟩
      rw [← hl1e] at A1 hl1 hz1 ⊢
      have hl16 : l1 ≤ 16384 := by omega
      clear hk1 hn1 hg1 hl1e hl1
      go_wp2_with fail
      refine (rshr_all A1.out N1.out hl16 T (by omega)).mono ?_
      rintro e w2 ⟨p2, m2, z2, rfl, hA2, hN2, hm2, hb2⟩
      have A2 : Hid (At32 w2 p2 m2 m2 z2) := hA2
      have N2 : Hid (Nf B32 z2 (valB B64 xs / 2 ^ T)) := hN2
      have hbw2 := Below.on hb1 hb2
      clear hA2 hN2 hb2 hb1 A1 hz1
      go_wp2_with fail
      refine (rtold_any A2.out N2.out (by omega)).mono ?_
      rintro e w3 ⟨p3, m3, N3, us, f3, rfl, hA3, hD3, hb3⟩
      have A3 : Hid (At w3 p3 m3 N3 us) := hA3
      have D3 : Hid (DocIs (shrR (valB B64 xs) T) us f3) := hD3
      have hbw3 := Below.on hbw2 hb3
      clear hA3 hD3 hb3 hbw2
      go_wp2_with fail
      go_ret2
      exact ⟨p3, m3, N3, us, f3, rfl, A3.out, .inr (.inr ⟨H0.out, HF.out, D3.out⟩), hbw3⟩

set_option maxRecDepth 20000 in
set_option maxHeartbeats 2000000 in
theorem doclowD {p : Option Addr} {n c : Nat} {xs : List Nat} {w : World} (h : At w p n c xs) (t : Int) (ht : t ≤ 9223372036854775807) :
    Calls Tryd.prog 96 #[.slice p n c, .int .i64 t] w fun e w' => ∃ p' m' N' us f, e = .returned (.tuple #[.slice p' m' N', .int .i64 f]) ∧ At w' p' m' N' us ∧ ShIs lowR xs t us f ∧ Below w.heap.size w w' := by
  have HA : Hid (At w p n c xs) := h
  clear h
  rcases Int.lt_or_le t 0 with h0 | h0
  · have h1 : decide (t < 0) = true := decide_eq_true h0
    go_enter Tryd.func96, Tryd.ntmps96
    go_wp2_with fail
    go_ret2
    exact ⟨none, 0, 0, [], 1, rfl, At.empty _ none 0 (by decide), .inl ⟨h0, rfl, rfl⟩, Below.refl _ _⟩
  · have h1 : decide (t < 0) = false := decide_eq_false (by omega)
    cases hf : formB xs
    · go_enter Tryd.func96, Tryd.ntmps96
      go_wp2_with fail
      refine (docform_any HA.out).mono ?_
      rintro e w1 ⟨rfl, hw⟩
      rw [hf]
      obtain rfl := hw.symm
      clear hw
      go_wp2_with fail
      go_ret2
      exact ⟨none, 0, 0, [], 2, rfl, At.empty _ none 0 (by decide), .inr (.inl ⟨h0, hf, rfl, rfl⟩), Below.refl _ _⟩
    · have HF : Hid (formB xs = true) := hf
      have hn : n ≤ 8192 := by have := form_lenq hf; rw [HA.out.len] at this; exact this
      have HNX : Hid (Nf B64 xs (valB B64 xs)) := nf_of_form HA.out.dig hf
      obtain ⟨T, rfl⟩ := Int.eq_ofNat_of_zero_le h0
      have H0 : Hid (0 ≤ (T : Int)) := h0
      clear h0
      go_enter Tryd.func96, Tryd.ntmps96
      go_wp2_with fail
      refine (docform_any HA.out).mono ?_
      rintro e w1 ⟨rfl, hw⟩
      rw [hf]
      obtain rfl := hw.symm
      clear hw hf
      go_wp2_with fail
      refine (from_any HA.out (by omega)).mono ?_
      rintro e w1 ⟨g1, z1, rfl, hg1, hk1, hn1, hl1, hb1⟩
      have A1 : Hid (At32 w1 (some ⟨g1, 0, none⟩) z1.length z1.length z1) := hk1.at_ hn1.dig rfl (by unfold maxLen; omega)
      have N1 : Hid (Nf B32 z1 (valB B64 xs)) := hn1
      have hz1 := nf32_zeroq hn1
      obtain ⟨l1, hl1e⟩ : ∃ l1, l1 = z1.length := ⟨_, rfl⟩
      rw [← hl1e] at A1 hl1 hz1 ⊢
      have hl16 : l1 ≤ 16384 := by omega
      clear hk1 hn1 hg1 hl1e hl1
      go_wp2_with fail
      refine (rlow_all A1.out N1.out hl16 T (by omega)).mono ?_
      rintro e w2 ⟨p2, m2, z2, rfl, hA2, hN2, hm2, hb2⟩
      have A2 : Hid (At32 w2 p2 m2 m2 z2) := hA2
      have N2 : Hid (Nf B32 z2 (valB B64 xs % 2 ^ T)) := hN2
      have hbw2 := Below.on hb1 hb2
      clear hA2 hN2 hb2 hb1 A1 hz1
      go_wp2_with fail
      refine (rtold_any A2.out N2.out (by omega)).mono ?_
      rintro e w3 ⟨p3, m3, N3, us, f3, rfl, hA3, hD3, hb3⟩
      have A3 : Hid (At w3 p3 m3 N3 us) := hA3
      have D3 : Hid (DocIs (lowR (valB B64 xs) T) us f3) := hD3
      have hbw3 := Below.on hbw2 hb3
      clear hA3 hD3 hb3 hbw2
      go_wp2_with fail
      go_ret2
      exact ⟨p3, m3, N3, us, f3, rfl, A3.out, .inr (.inr ⟨H0.out, HF.out, D3.out⟩), hbw3⟩

set_option maxRecDepth 20000 in
set_option maxHeartbeats 2000000 in
theorem docshlD {p : Option Addr} {n c : Nat} {xs : List Nat} {w : World} (h : At w p n c xs) (t : Int) (ht : t ≤ 9223372036854775807) :
    Calls Tryd.prog 94 #[.slice p n c, .int .i64 t] w fun e w' => ∃ p' m' N' us f, e = .returned (.tuple #[.slice p' m' N', .int .i64 f]) ∧ At w' p' m' N' us ∧ ShIs shlR xs t us f ∧ Below w.heap.size w w' := by
  have HA : Hid (At w p n c xs) := h
  clear h
  rcases Int.lt_or_le t 0 with h0 | h0
  · have h1 : decide (t < 0) = true := decide_eq_true h0
    go_enter Tryd.func94, Tryd.ntmps94
    go_wp2_with fail
    go_ret2
    exact ⟨none, 0, 0, [], 1, rfl, At.empty _ none 0 (by decide), .inl ⟨h0, rfl, rfl⟩, Below.refl _ _⟩
  · have h1 : decide (t < 0) = false := decide_eq_false (by omega)
    cases hf : formB xs
    · go_enter Tryd.func94, Tryd.ntmps94
      go_wp2_with fail
      refine (docform_any HA.out).mono ?_
      rintro e w1 ⟨rfl, hw⟩
      rw [hf]
      obtain rfl := hw.symm
      clear hw
      go_wp2_with fail
      go_ret2
      exact ⟨none, 0, 0, [], 2, rfl, At.empty _ none 0 (by decide), .inr (.inl ⟨h0, hf, rfl, rfl⟩), Below.refl _ _⟩
    · have HF : Hid (formB xs = true) := hf
      have hn : n ≤ 8192 := by have := form_lenq hf; rw [HA.out.len] at this; exact this
      have HNX : Hid (Nf B64 xs (valB B64 xs)) := nf_of_form HA.out.dig hf
      obtain ⟨T, rfl⟩ := Int.eq_ofNat_of_zero_le h0
      have H0 : Hid (0 ≤ (T : Int)) := h0
      clear h0
      go_enter Tryd.func94, Tryd.ntmps94
      go_wp2_with fail
      refine (docform_any HA.out).mono ?_
      rintro e w1 ⟨rfl, hw⟩
      rw [hf]
      obtain rfl := hw.symm
      clear hw hf
      have hzz := nf64_zeroq HNX.out
      rw [HA.out.len] at hzz
      rcases Nat.eq_zero_or_pos n with hn0 | hn0
      · have HV0 : Hid (valB B64 xs = 0) := hzz.1 hn0
        subst hn0
        clear hzz
        go_wp2_with fail
        go_ret2
        exact ⟨none, 0, 0, [], 0, rfl, At.empty _ none 0 (by decide), .inr (.inr ⟨H0.out, HF.out, by show DocIs (2 ^ _ * _) _ _; rw [HV0.out, Nat.mul_zero]; exact .inl ⟨LIM_posq, nf_nilq, rfl⟩⟩), Below.refl _ _⟩
      · have hne : ((n : Int) == 0) = false := by simp; omega
        have HVP : Hid (1 ≤ valB B64 xs) := by
          show 1 ≤ _
          rcases Nat.eq_zero_or_pos (valB B64 xs) with e | e
          · have := hzz.2 e; omega
          · exact e
        clear hzz
        by_cases hb : 524288 < T
        · have hbi : (524288 : Int) < (T : Int) := by omega
          go_wp2_with fail
          go_ret2
          exact ⟨none, 0, 0, [], 5, rfl, At.empty _ none 0 (by decide), .inr (.inr ⟨H0.out, HF.out, .inr ⟨by
            obtain ⟨E, hE⟩ : ∃ E, E = 524288 := ⟨_, rfl⟩
            rw [LIM_twoq hE]
            exact Nat.le_trans (Nat.pow_le_pow_right (by decide) (show E ≤ T by omega)) (Nat.le_mul_of_pos_right _ HVP.out), rfl, rfl⟩⟩), Below.refl _ _⟩
        · have hbi : ¬ (524288 : Int) < (T : Int) := by omega
          go_wp2_with fail
          refine (from_any HA.out (by omega)).mono ?_
          rintro e w1 ⟨g1, z1, rfl, hg1, hk1, hn1, hl1, hb1⟩
          have A1 : Hid (At32 w1 (some ⟨g1, 0, none⟩) z1.length z1.length z1) := hk1.at_ hn1.dig rfl (by unfold maxLen; omega)
          have N1 : Hid (Nf B32 z1 (valB B64 xs)) := hn1
          have hz1 := nf32_zeroq hn1
          obtain ⟨l1, hl1e⟩ : ∃ l1, l1 = z1.length := ⟨_, rfl⟩
          rw [← hl1e] at A1 hl1 hz1 ⊢
          have hl16 : l1 ≤ 16384 := by omega
          clear hk1 hn1 hg1 hl1e hl1
          have hl0 : 0 < l1 := by
            rcases Nat.eq_zero_or_pos l1 with e | e
            · have h2 := hz1.1 e; have h3 := HVP.out; omega
            · exact e
          go_wp2_with fail
          refine (rshl_any A1.out N1.out hl0 hl16 T (by omega)).mono ?_
          rintro e w2 ⟨p2, m2, z2, rfl, hA2, hN2, hm2, hb2⟩
          have A2 : Hid (At32 w2 p2 m2 m2 z2) := hA2
          have N2 : Hid (Nf B32 z2 (valB B64 xs * 2 ^ T)) := hN2
          have hbw2 := Below.on hb1 hb2
          clear hA2 hN2 hb2 hb1 A1 hz1
          go_wp2_with fail
          refine (rtold_any A2.out N2.out (by omega)).mono ?_
          rintro e w3 ⟨p3, m3, N3, us, f3, rfl, hA3, hD3, hb3⟩
          have A3 : Hid (At w3 p3 m3 N3 us) := hA3
          have D3 : Hid (DocIs (shlR (valB B64 xs) T) us f3) := by show DocIs (2 ^ T * _) us f3; rw [Nat.mul_comm]; exact hD3
          have hbw3 := Below.on hbw2 hb3
          clear hA3 hD3 hb3 hbw2
          go_wp2_with fail
          go_ret2
          exact ⟨p3, m3, N3, us, f3, rfl, A3.out, .inr (.inr ⟨H0.out, HF.out, D3.out⟩), hbw3⟩

end Go.Proofs.YteoihhgaipplfaaDoor

namespace Go.Proofs.YteoihhgaipplfaaDoor
open Go.RowKit

variable {P : Program} {md : Region.Mode} {ops : Array Oper} {Q : Exit → Act → World → Prop} {J : World → Prop}

/-- All orders of a region, and what each operation leaves keeps J. -/
def wpJ (P : Program) (md : Region.Mode) (ops : Array Oper) (Q : Exit → Act → World → Prop) (J : World → Prop) : Nat → Array Bool → Act → World → Prop
  | 0, listed, a, w => Region.ready md ops listed = [] ∧ Q .normal a w
  | fuel + 1, listed, a, w =>
    (Region.ready md ops listed = [] → Q .normal a w) ∧
    ∀ i ∈ Region.ready md ops listed, wpOp P ops Q i (fun a' w' => J w' ∧ wpJ P md ops Q J fuel (listed.setIfInBounds i true) a' w') a w
theorem wpJ_any : ∀ (fuel : Nat) (listed : Array Bool) (a : Act) (w : World), wpJ P md ops Q J fuel listed a w → wpAny P md ops Q fuel listed a w
  | 0, _, _, _, h => h
  | fuel + 1, _, _, _, h => ⟨h.1, fun i hi => wpOp_mono (fun a' w' h' => wpJ_any fuel _ a' w' h'.2) (h.2 i hi)⟩

/-- The operation yields v in every world of J (undef, where its guard bars it). -/
def YieldsJ (P : Program) (ops : Array Oper) (J : World → Prop) (o : Oper) (v : Value) (a : Act) : Prop :=
  (Region.wanted o (yielded ops a.tmps) = true ∧ ∀ w, J w → (execOp a.eval o).run P w = .ok (.value v) w) ∨ (Region.wanted o (yielded ops a.tmps) = false ∧ v = undef)
theorem YieldsJ.wpOp {i : Nat} {o : Oper} {v : Value} {a : Act} (hi : ops[i]? = some o) (hy : YieldsJ P ops J o v a)
    {K : Act → World → Prop} {w : World} (hJ : J w) (h : K (a.put o.dst v) w) : wpOp P ops Q i K a w := by
  unfold Go.wpOp
  simp only [hi]
  rcases hy with ⟨hw, hv⟩ | ⟨hw, rfl⟩
  · simp only [hw, if_true, Oper.wp, hv w hJ, Oper.upon]
    exact .inl h
  · simp only [hw]
    exact h
theorem YieldsJ.of_same {o : Oper} {v : Value} {a a' : Act} (hy : YieldsJ P ops J o v a) (he : execOp a'.eval o = execOp a.eval o)
    (hw : Region.wanted o (yielded ops a'.tmps) = Region.wanted o (yielded ops a.tmps)) : YieldsJ P ops J o v a' := by
  unfold YieldsJ at *
  rw [he, hw]
  exact hy
theorem wpOpJ_put {j : Nat} {oi oj : Oper} {v : Value} (hj : ops[j]? = some oj) (hap : oi.apart ops oj = true)
    (hsi : ∀ cs b, oi.op ≠ .select cs b) (hsj : ∀ cs b, oj.op ≠ .select cs b)
    (hQ : ∀ c a w, Q (.panic c) (a.put oi.dst v) w → Q (.panic c) a w) {K : Act → World → Prop} {a : Act} {w : World}
    (hy : YieldsJ P ops J oi v a) (h : wpOp P ops Q j K (a.put oi.dst v) w) :
    wpOp P ops Q j (fun a' w' => YieldsJ P ops J oi v a' ∧ K (a'.put oi.dst v) w') a w := by
  obtain ⟨h1, h2, h3⟩ := Oper.apart_spec hap
  have keep : ∀ (a : Act), YieldsJ P ops J oi v a → ∀ u, YieldsJ P ops J oi v (a.put oj.dst u) := fun a hy u =>
    hy.of_same (execOp_put oi hsi a oj.dst u h3) (wanted_put oi a oj.dst u h3)
  have keepD : ∀ d, YieldsJ P ops J oi v { a with defers := d :: a.defers } := fun d => hy.of_same rfl rfl
  unfold wpOp at *
  simp only [hj] at *
  rw [wanted_put oj a oi.dst v h1] at h
  split
  · rename_i hw
    simp only [hw, if_true] at h
    rcases h with h | ⟨hasks, hlets⟩
    case inr => exact .inr ⟨by unfold Oper.asks at *; rw [execOp_put oj hsj a oi.dst v h1] at hasks; exact hasks, hlets⟩
    refine .inl ?_
    unfold Oper.wp at *
    rw [execOp_put oj hsj a oi.dst v h1] at h
    generalize (execOp a.eval oj).run P w = r at *
    cases r with
    | ok n w' =>
      cases n <;> simp only [Oper.upon] at h ⊢
      case value u => exact ⟨keep a hy u, by rw [← Act.put_comm a v u h2]; exact h⟩
      case skip => exact ⟨keep a hy _, by rw [← Act.put_comm a v undef h2]; exact h⟩
      case defer d =>
        refine ⟨keep _ (keepD d) _, ?_⟩
        rw [← Act.put_comm _ v undef h2, ← Act.put_defers]
        exact h
      case enter f args =>
        refine Calls.mono h fun e w'' he => ?_
        cases e with
        | returned u => exact ⟨keep a hy u, by rw [← Act.put_comm a v u h2]; exact he⟩
        | panicked c => exact hQ _ _ _ he
        | outgrown => exact he
      case row row args => exact Rows.mono h fun u w'' he => ⟨keep a hy u, by rw [← Act.put_comm a v u h2]; exact he⟩
    | halt x w' =>
      cases x <;> simp only [Oper.upon] at h ⊢
      case panic u => exact hQ _ _ _ h
  · rename_i hw
    simp only [hw] at h
    exact ⟨keep a hy _, by rw [← Act.put_comm a v undef h2]; exact h⟩

theorem wpJ_first {i : Nat} {oi : Oper} {v : Value} (hi : ops[i]? = some oi) (hsel : ∀ (j : Nat) (o : Oper) cs b, ops[j]? = some o → o.op ≠ .select cs b)
    (hQ : ∀ c a w, Q (.panic c) (a.put oi.dst v) w → Q (.panic c) a w) :
    ∀ (fuel : Nat) (listed : Array Bool) (a : Act) (w : World),
      (∀ j oj, ops[j]? = some oj → j ≠ i → listed.getD j true = false → (∀ e ∈ oj.after, Region.binds md e = true → e.on ≠ i) → oi.apart ops oj = true) →
      i ∈ Region.ready md ops listed → YieldsJ P ops J oi v a → J w →
      wpJ P md ops Q J fuel (listed.setIfInBounds i true) (a.put oi.dst v) w → wpJ P md ops Q J (fuel + 1) listed a w := by
  intro fuel
  induction fuel with
  | zero =>
    intro listed a w _ hr hy hJ H
    refine ⟨fun h => (by rw [h] at hr; cases hr), fun j hj => ?_⟩
    by_cases hji : j = i
    · subst hji; exact hy.wpOp hi hJ ⟨hJ, H⟩
    · have := ready_mono hj hji
      rw [H.1] at this
      cases this
  | succ fuel ih =>
    intro listed a w hfree hr hy hJ H
    refine ⟨fun h => (by rw [h] at hr; cases hr), fun j hj => ?_⟩
    by_cases hji : j = i
    · subst hji; exact hy.wpOp hi hJ ⟨hJ, H⟩
    · have h1 := H.2 j (ready_mono hj hji)
      obtain ⟨hjun, oj, hoj, hall⟩ := mem_ready.1 hj
      have hnot : ∀ e ∈ oj.after, Region.binds md e = true → e.on ≠ i := fun e he hb heq => by
        have h1 := hall e he hb
        have h0 := (mem_ready.1 hr).1
        rw [heq] at h1
        rcases Nat.lt_or_ge i listed.size with h' | h'
        · simp [h'] at h0 h1; rw [h0] at h1; cases h1
        · simp [Array.getElem?_eq_none h'] at h1
      have h2 := wpOpJ_put hoj (hfree j oj hoj hji hjun hnot) (fun cs b => hsel i oi cs b hi) (fun cs b => hsel j oj cs b hoj) hQ hy h1
      have hfree' : ∀ k ok, ops[k]? = some ok → k ≠ i → (listed.setIfInBounds j true).getD k true = false →
          (∀ e ∈ ok.after, Region.binds md e = true → e.on ≠ i) → oi.apart ops ok = true := fun k ok hk hki hun hno => by
        refine hfree k ok hk hki ?_ hno
        by_cases hjk : j = k
        · subst hjk; exact hjun
        · rw [getD_set_ne true hjk] at hun; exact hun
      refine wpOp_mono (fun a' w' h3 => ⟨h3.2.1, ih (listed.setIfInBounds j true) a' w' hfree' (ready_mono hr (Ne.symm hji)) h3.1 h3.2.1 ?_⟩) h2
      rw [Array.setIfInBounds_comm _ _ hji]
      exact h3.2.2

/-- An operation that yields in every world of J goes first. -/
theorem wpJ_take {i : Nat} {oi : Oper} {v : Value} {fuel : Nat} {listed : Array Bool} {a : Act} {w : World} (hi : ops[i]? = some oi)
    (hs : Region.noSelect ops = true) (hf : Region.free md ops listed i = true) (hr : (Region.ready md ops listed).contains i = true)
    (hQ : ∀ c a w, Q (.panic c) (a.put oi.dst v) w → Q (.panic c) a w) (hw : Region.wanted oi (yielded ops a.tmps) = true)
    (hy : ∀ w, J w → (execOp a.eval oi).run P w = .ok (.value v) w) (hJ : J w)
    (h : wpJ P md ops Q J fuel (listed.setIfInBounds i true) (a.put oi.dst v) w) : wpJ P md ops Q J (fuel + 1) listed a w :=
  wpJ_first hi (Region.noSelect_spec hs) hQ fuel listed a w (Region.free_spec hi hf) (by simpa using hr) (.inl ⟨hw, hy⟩) hJ h
/-- An operation that its guard bars goes first. -/
theorem wpJ_skip {i : Nat} {oi : Oper} {fuel : Nat} {listed : Array Bool} {a : Act} {w : World} (hi : ops[i]? = some oi)
    (hs : Region.noSelect ops = true) (hf : Region.free md ops listed i = true) (hr : (Region.ready md ops listed).contains i = true)
    (hQ : ∀ c a w, Q (.panic c) (a.put oi.dst undef) w → Q (.panic c) a w) (hw : Region.wanted oi (yielded ops a.tmps) = false) (hJ : J w)
    (h : wpJ P md ops Q J fuel (listed.setIfInBounds i true) (a.put oi.dst undef) w) : wpJ P md ops Q J (fuel + 1) listed a w :=
  wpJ_first hi (Region.noSelect_spec hs) hQ fuel listed a w (Region.free_spec hi hf) (by simpa using hr) (.inr ⟨hw, rfl⟩) hJ h
/-- The one operation that is ready. -/
theorem wpJ_one {i : Nat} {o : Oper} {fuel : Nat} {listed : Array Bool} {a : Act} {w : World} (hr : Region.ready md ops listed = [i]) (ho : ops[i]? = some o)
    (hw : Region.wanted o (yielded ops a.tmps) = true)
    (h : ∀ K : Act → World → Prop, (∀ a' w', J w' → wpJ P md ops Q J fuel (listed.setIfInBounds i true) a' w' → K a' w') → Oper.wp P o a w K Q) : wpJ P md ops Q J (fuel + 1) listed a w := by
  refine ⟨fun h => (by rw [hr] at h; cases h), fun j hj => ?_⟩
  rw [hr] at hj
  obtain rfl : j = i := by simpa using hj
  unfold wpOp
  simp only [ho, hw, if_true]
  exact .inl (h _ fun a' w' h1 h2 => ⟨h1, h2⟩)
theorem wpJ_done {listed : Array Bool} {a : Act} {w : World} (hr : Region.ready md ops listed = []) (h : Q .normal a w) : ∀ fuel, wpJ P md ops Q J fuel listed a w
  | 0 => ⟨hr, h⟩
  | _ + 1 => ⟨fun _ => h, by rw [hr]; simp⟩
theorem wp_region_J (J : World → Prop) {id : Nat} {a : Act} {w : World} (hm : P.follows .mixedOrders = true)
    (h : wpJ P .any ops Q J ops.size (Array.replicate ops.size false) a w.drew) : (Code.region id ops true).wp P Q a w :=
  wp_region_any hm (wpJ_any _ _ _ _ h)
end Go.Proofs.YteoihhgaipplfaaDoor

namespace Go.Proofs.YteoihhgaipplfaaDoor
open Go.RowKit Go.Shelf

/-- What takeDigits has done when the digits from place L - k on are taken. -/
structure DigRel32 (w : World) (gq gr L n : Nat) (A D : Nat) (k : Nat) (qs rs : List Nat) (wr : World) : Prop where
  bel : ∀ B, B ≤ gq → B ≤ gr → Below B w wr
  rowq : Row32 wr gq 0 L qs
  rowr : Row32 wr gr 0 (L + n) rs
  cell : ∀ b o, b ≠ gq → b ≠ gr → wr.cell? ⟨b, o, none⟩ = w.cell? ⟨b, o, none⟩
  lt : valB B32 (rs.drop (L - k)) < D
  sum : valB B32 rs + B32 ^ (L - k) * valB B32 (qs.drop (L - k)) * D = A

theorem Row32.other {w : World} {g off n : Nat} {xs : List Nat} (h : Row32 w g off n xs) (g2 o2 : Nat) (v : Value) (hne : g ≠ g2) : Row32 (w.setCell ⟨g2, o2, none⟩ v) g off n xs := by
  refine ⟨h.len, h.dig, fun j hj => ?_, fun j hj => by rw [World.frozen?_setCell]; exact h.frozen j hj⟩
  exact (World.cell?_setCell_other _ _ _ _ (by intro e; apply hne; have := congrArg Addr.block e; simp at this; omega)).trans (h.cell j hj)
theorem Row32.wr {w w' : World} {g off n g2 o2 l2 : Nat} {xs : List Nat} (h : Row32 w g off n xs) (hwr : Wr g2 o2 l2 w w') (hne : g ≠ g2) : Row32 w' g off n xs :=
  ⟨h.len, h.dig, fun j hj => (hwr.cell g (off + j) (.inl hne)).trans (h.cell j hj), fun j hj => (hwr.frozen _).trans (h.frozen j hj)⟩
theorem At32.cells_of {w w' : World} {g off n c : Nat} {xs : List Nat} (h : At32 w (some ⟨g, off, none⟩) n c xs) (hc : ∀ o, w'.cell? ⟨g, o, none⟩ = w.cell? ⟨g, o, none⟩) : At32 w' (some ⟨g, off, none⟩) n c xs :=
  ⟨h.len, h.cap, h.big, h.dig, by
    rcases h.cells with h0 | ⟨g', o', he, hcl⟩
    · exact .inl h0
    · refine .inr ⟨g', o', he, fun j hj => ?_⟩
      simp only [Option.some.injEq, Addr.mk.injEq, and_true] at he
      rw [← he.1, ← he.2] at hcl ⊢
      exact (hc (off + j)).trans (hcl j hj)⟩

theorem dig_abs32 {P W q r D T Q A : Nat} (hW : q * D + r = W) (h : T + P * W + P * B32 * Q * D = A) : T + P * r + P * (q + B32 * Q) * D = A := by
  subst hW
  have e1 : P * (q + B32 * Q) * D = P * (q * D) + P * B32 * Q * D := by
    rw [Nat.mul_add, Nat.add_mul, Nat.mul_assoc P q D, ← Nat.mul_assoc P B32 Q]
  rw [e1]
  rw [Nat.mul_add] at h
  omega
/-- The window at the next place. -/
theorem DigRel32.window {w : World} {gq gr L n A D k : Nat} {qs rs : List Nat} {wr : World} (h : DigRel32 w gq gr L n A D k qs rs wr) (hk : k < L) (hDn : D < B32 ^ n) :
    ∃ a ws, a = L - 1 - k ∧ ws = (rs.drop a).take (n + 1) ∧ Row32 wr gr a (n + 1) ws ∧ valB B32 ws < B32 * D ∧ valB B32 rs = valB B32 (rs.take a) + B32 ^ a * valB B32 ws ∧ valB B32 (rs.drop (a + (n + 1))) = 0 := by
  have hl := h.rowr.len
  obtain ⟨a, ha⟩ : ∃ a, a = L - 1 - k := ⟨_, rfl⟩
  have hlt := h.lt
  rw [show L - k = a + 1 by omega] at hlt
  have hz : valB B32 (rs.drop (a + (n + 1))) = 0 := by
    have hs := valB_split B32 (rs.drop (a + 1)) n (by rw [List.length_drop]; omega)
    rw [List.drop_drop, show a + 1 + n = a + (n + 1) by omega] at hs
    rcases Nat.eq_zero_or_pos (valB B32 (rs.drop (a + (n + 1)))) with e | e
    · exact e
    · exfalso
      have : B32 ^ n * 1 ≤ B32 ^ n * valB B32 (rs.drop (a + (n + 1))) := Nat.mul_le_mul_left _ e
      omega
  have hw := win_take32 rs a (n + 1) (by omega)
  rw [hz, Nat.mul_zero, Nat.add_zero] at hw
  refine ⟨a, _, ha, rfl, h.rowr.win a (n + 1) (by omega), ?_, hw, hz⟩
  have hs := valB_split B32 (rs.drop a) (n + 1) (by rw [List.length_drop]; omega)
  rw [List.drop_drop, hz, Nat.mul_zero, Nat.add_zero] at hs
  rw [← hs, valB_drop B32 rs a (by omega)]
  have hb := h.rowr.dig.getD B32_pos a
  have : B32 * (valB B32 (rs.drop (a + 1)) + 1) ≤ B32 * D := Nat.mul_le_mul_left _ hlt
  rw [Nat.mul_add] at this
  omega
theorem DigRel32.step {w : World} {gq gr L n A D k : Nat} {qs rs : List Nat} {wr wr' : World} (h : DigRel32 w gq gr L n A D k qs rs wr) (hk : k < L) (hne : gq ≠ gr) {a q : Nat} {ws ws' : List Nat} (ha : a = L - 1 - k)
    (hrs : valB B32 rs = valB B32 (rs.take a) + B32 ^ a * valB B32 ws) (hz : valB B32 (rs.drop (a + (n + 1))) = 0) (hD : 0 < D) (hq : q = valB B32 ws / D) (hqb : q < B32) (hr : valB B32 ws' = valB B32 ws % D)
    (hwr : Wr gr a (n + 1) wr wr') (hrow : Row32 wr' gr a (n + 1) ws') : DigRel32 w gq gr L n A D (k + 1) (qs.set a q) (winPut rs ws' a) (wr'.setCell ⟨gq, a, none⟩ (V q)) := by
  have hl := h.rowr.len; have hql := h.rowq.len; have hwl := hrow.len
  have hle : a + ws'.length ≤ rs.length := by omega
  have e1 : L - (k + 1) = a := by omega
  have e2 : L - k = a + 1 := by omega
  have hdrop : valB B32 ((winPut rs ws' a).drop a) = valB B32 ws % D := by
    rw [winPut_drop rs ws' a hle, valB_append, hwl, hz, Nat.mul_zero, Nat.add_zero, hr]
  refine ⟨fun B h1 h2 => ?_, ?_, ?_, fun b o h1 h2 => ?_, ?_, ?_⟩
  · exact ((h.bel B h1 h2).trans (hwr.below h2)).trans ((Wr.refl gq 0 L wr').setCell a ⟨by omega, by omega⟩ (V q) |>.below h1)
  · have := (h.rowq.wr hwr hne).set a q (by omega) hqb
    rw [Nat.zero_add] at this; exact this
  · exact (h.rowr.put hwr hrow (by omega)).other gq a _ (Ne.symm hne)
  · rw [World.cell?_setCell_other _ _ _ _ (by intro e; apply h1; have := congrArg Addr.block e; simp at this; omega), hwr.cell b o (.inl h2)]
    exact h.cell b o h1 h2
  · rw [e1, hdrop]; exact Nat.mod_lt _ hD
  · have hs := h.sum
    rw [e2, hrs, Nat.pow_succ] at hs
    rw [e1, valB_split B32 (winPut rs ws' a) a (by rw [winPut_len rs ws' a hle]; omega), winPut_take rs ws' a hle, hdrop, drop_set_at qs a q (by omega), valB_cons]
    refine dig_abs32 (W := valB B32 ws) (q := q) ?_ hs
    rw [hq, Nat.mul_comm]; exact Nat.div_add_mod _ _

theorem Row32.below2 {w w' : World} {g off n B : Nat} {xs : List Nat} (h : Row32 w g off n xs) (hb : Below B w w') (hg : g < B) : Row32 w' g off n xs :=
  ⟨h.len, h.dig, fun j hj => (hb.cell (p := ⟨g, off + j, none⟩) hg).trans (h.cell j hj), fun j hj => (hb.frozen (p := ⟨g, off + j, none⟩) hg).trans (h.frozen j hj)⟩
theorem own_row32 {wr : World} {base i N : Nat} {p : Option Addr} {ss : List Nat} (ho : wr.ownsRow base 112 1 (.slice p i N) i (cellsV ss)) (hl : ss.length = i) (hd : Dig B32 ss) (hi : 0 < i) : ∃ g, p = some ⟨g, 0, none⟩ ∧ base ≤ g ∧ Row32 wr g 0 i ss ∧ i ≤ N ∧ N ≤ maxLen := by
  rcases ho.2 with ⟨h', h0⟩ | ⟨g', cap', cur, h', hbase, hgc, hcap', hmx, hsz, htake⟩
  · omega
  · simp only [Value.slice.injEq, true_and] at h'
    obtain ⟨rfl, rfl⟩ := h'
    refine ⟨g', rfl, hbase, ⟨hl, hd, fun jj hj => ?_, fun jj _ => frozen_of_row wr g' _ _ _ hgc⟩, hcap', hmx⟩
    rw [Nat.zero_add, cell_of_row wr g' jj _ _ _ hgc]
    have e1 := cellsV_get ss jj (by rw [hl]; exact hj)
    rw [← htake, Nat.mul_one, List.getElem?_take, if_pos hj] at e1
    rw [← Array.getElem?_toList]; exact e1
/-- b, shifted till its top bit is set, has as many digits. -/
theorem shl_len {b M y s : Nat} {ys : List Nat} (hy : Nf B32 ys b) (hl : ys.length = M + 1) (hyy : y = ys.getD M 0) (hy0 : 0 < y) (hs : s = 32 - bitsN y) (hb32 : bitsN y ≤ 32) : b * 2 ^ s < B32 ^ (M + 1) ∧ B32 ^ M ≤ b * 2 ^ s := by
  have h1 : b = valB B32 (ys.take M) + B32 ^ M * y := by
    rw [← hy.val, valB_split B32 ys M (by omega), valB_drop B32 ys M (by omega), ← hyy, List.drop_of_length_le (by omega), valB_nil, Nat.mul_zero, Nat.add_zero]
  have h2 := valB_lt B32_pos (hy.dig.take M)
  rw [List.length_take, hl, Nat.min_eq_left (by omega)] at h2
  have h3 := bitsN_lt y
  have hp : 0 < 2 ^ s := Nat.pow_pos (by omega)
  refine ⟨?_, ?_⟩
  · have h4 : b < B32 ^ M * 2 ^ bitsN y := by
      have : B32 ^ M * (y + 1) ≤ B32 ^ M * 2 ^ bitsN y := Nat.mul_le_mul_left _ h3
      rw [Nat.mul_add, Nat.mul_one] at this
      omega
    have h5 : B32 ^ M * 2 ^ bitsN y * 2 ^ s = B32 ^ (M + 1) := by
      rw [Nat.mul_assoc, ← Nat.pow_add, Nat.pow_succ, show bitsN y + s = 32 by omega]; rfl
    rw [← h5]
    exact Nat.mul_lt_mul_of_pos_right h4 hp
  · have h4 : B32 ^ M * 1 ≤ B32 ^ M * y := Nat.mul_le_mul_left _ hy0
    have h5 : b * 1 ≤ b * 2 ^ s := Nat.mul_le_mul_left _ hp
    omega
set_option maxRecDepth 20000 in
set_option maxHeartbeats 8000000 in
theorem rdivmod_big {p q : Option Addr} {n m c d : Nat} {xs ys : List Nat} {a b : Nat} {w : World} (h : At32 w p n c xs) (k : At32 w q m d ys) (hx : Nf B32 xs a) (hy : Nf B32 ys b) (hn : n ≤ 16384) (hm : m ≤ 16384) (hb : b ≠ 0) (hge : b ≤ a) (hm2 : 2 ≤ m) :
    Calls Tryd.prog 119 #[.slice p n c, .slice q m d] w fun e w' => ∃ p1 m1 z1 p2 m2 z2, e = .returned (.tuple #[.slice p1 m1 m1, .slice p2 m2 m2]) ∧ At32 w' p1 m1 m1 z1 ∧ Nf B32 z1 (a / b) ∧ At32 w' p2 m2 m2 z2 ∧ Nf B32 z2 (a % b) ∧ m1 ≤ n ∧ m2 ≤ n ∧ Below w.heap.size w w' := by
  have HA : Hid (At32 w p n c xs) := h
  have HB : Hid (At32 w q m d ys) := k
  have HX : Hid (Nf B32 xs a) := hx
  have HY : Hid (Nf B32 ys b) := hy
  have hm0 : m ≠ 0 := fun e => hb ((hy.zero_iff B32_one).1 (List.eq_nil_of_length_eq_zero (by rw [k.len]; exact e)))
  have hmb : ((m : Int) == 0) = false := by simp; omega
  have hcap := k.cap; have hbig := k.big
  unfold maxLen at hbig
  have HGE : Hid (b ≤ a) := hge
  have hm1 : ((m : Int) == 1) = false := by simp; omega
  have hm1' : ¬ m = 1 := by omega
  obtain ⟨gq, oq, rfl, hcq⟩ := k.cells.resolve_left (by omega)
  obtain ⟨M, rfl⟩ : ∃ M, m = M + 1 := ⟨m - 1, by omega⟩
  obtain ⟨y, hyy⟩ : ∃ y, y = ys.getD M 0 := ⟨_, rfl⟩
  have hc0 : w.cell? ⟨gq, oq + M, none⟩ = some (V y) := by rw [hyy]; exact hcq M (by omega)
  have hyB : y < B32 := by rw [hyy]; exact hy.dig.getD B32_pos _
  have hyp : 0 < y := by
    rcases Nat.eq_zero_or_pos y with e | e
    · exfalso
      have h1 := valB_pos B32_pos (zs := ys) (by intro e2; have := k.len; rw [e2] at this; simp at this) hy.top
      rw [hy.val, k.len, Nat.add_sub_cancel] at h1
      have h2 : b = valB B32 (ys.take M) := by
        rw [← hy.val, valB_split B32 ys M (by rw [k.len]; omega), valB_drop B32 ys M (by rw [k.len]; omega), ← hyy, e, List.drop_of_length_le (by rw [k.len]; omega), valB_nil, Nat.mul_zero, Nat.add_zero, Nat.mul_zero, Nat.add_zero]
      have h3 := valB_lt B32_pos (hy.dig.take M)
      rw [List.length_take, k.len, Nat.min_eq_left (by omega)] at h3
      omega
    · exact e
  have hbN : bitsN y ≤ 32 ∧ 1 ≤ bitsN y := ⟨(lt_pow_bits y 32).1 (by rw [B32_eq] at hyB; omega), bitsN_pos (by omega)⟩
  obtain ⟨s, hs⟩ : ∃ s, s = 32 - bitsN y := ⟨_, rfl⟩
  have hsI : wrap64 (32 - (bitsN y : Int)) = (s : Int) := by simp only [wrap64]; omega
  have hsI2 : (32 : Int) - (bitsN y : Int) = (s : Int) := by omega
  have HS : Hid (s = 32 - bitsN y ∧ s ≤ 31) := ⟨hs, by omega⟩
  have HYY : Hid (y = ys.getD M 0 ∧ 0 < y ∧ y < B32) := ⟨hyy, hyp, hyB⟩
  have HLXY : Hid (xs.length = n ∧ ys.length = M + 1) := ⟨h.len, k.len⟩
  have hMI : (M : Int) + 1 - 1 = (M : Int) := by omega
  clear h k hx hy hb hge hcq hyy hyB hyp hs
  go_enter Tryd.func119, Tryd.ntmps119
  go_wp2_with fail
  refine (rcmp_any HA.out HB.out HX.out HY.out).mono ?_
  rintro e w1 ⟨rfl, r, rfl⟩
  obtain ⟨cm, hcm⟩ : ∃ cm, cm = cmpN a b := ⟨_, rfl⟩
  rw [← hcm]
  have hcm0 : decide (cm < 0) = false := decide_eq_false (by rw [hcm, cmpN_neg]; have := HGE.out; omega)
  have A1 : Hid (At32 (w.drewN r) p n c xs) := HA.out.drewN r
  have B1 : Hid (At32 (w.drewN r) (some ⟨gq, oq, none⟩) (M + 1) d ys) := HB.out.drewN r
  have hb1 : Below w.heap.size w (w.drewN r) := bDrewN (Below.refl _ _) r
  have hc1 : (w.drewN r).cell? ⟨gq, oq + M, none⟩ = some (V y) := hc0
  clear HA HB hcm hc0
  generalize w.drewN r = w1 at *
  go_wp2_with fail
  have NY : Hid (Nf B32 [y] y) := by
    have h9 := HYY.out
    refine ⟨Dig.cons h9.2.2 (Dig.nil _), ?_, by simp [valB]⟩
    intro z hz
    simp at hz
    omega
  have AY : Hid (At32 w1 (some ⟨gq, oq + M, none⟩) 1 (d - M) [y]) := ⟨rfl, by omega, by unfold maxLen; omega, NY.out.dig, .inr ⟨gq, oq + M, rfl, fun j hj => by obtain rfl : j = 0 := (by omega); rw [Nat.add_zero]; exact hc1⟩⟩
  refine (rbits_any AY.out NY.out (by omega)).mono ?_
  rintro e w' ⟨rfl, hw⟩
  obtain rfl := hw.symm
  clear hw AY NY hc1 hcm0
  go_wp2_with fail
  clear hsI hsI2
  have HSL : Hid (b * 2 ^ s < B32 ^ (M + 1) ∧ B32 ^ M ≤ b * 2 ^ s) := shl_len HY.out HLXY.out.2 HYY.out.1 HYY.out.2.1 HS.out.1 hbN.1
  refine (rshl_blk B1.out HY.out (by omega) hm s (by have := HS.out.2; omega)).mono ?_
  rintro e w2 ⟨gv, vs, rfl, hgv, hKv, hNv, hlv, hb2⟩
  obtain ⟨D, hD⟩ : ∃ D, D = b * 2 ^ s := ⟨_, rfl⟩
  rw [← hD] at hNv
  have hvl : vs.length = M + 1 := by
    have h1 := (hNv.len_le B32_one (k := M + 1)).2 (by rw [hD]; exact HSL.out.1)
    have h2 : ¬ vs.length ≤ M := fun e => by have := (hNv.len_le B32_one).1 e; have := HSL.out.2; omega
    omega
  rw [hvl]
  have HVL : Hid (vs.length = M + 1 ∧ D = b * 2 ^ s) := ⟨hvl, hD⟩
  have HNV : Hid (Nf B32 vs D) := hNv
  have hgv2 : gv < w2.heap.size := hKv.lt
  have V2 : Hid (At32 w2 (some ⟨gv, 0, none⟩) (M + 1) (M + 1) vs) := hKv.at_ hNv.dig hvl (by unfold maxLen; omega)
  have A2 : Hid (At32 w2 p n c xs) := A1.out.below hb2
  have HB2 : Hid (Below w.heap.size w w2) := Below.on hb1 hb2
  have HN0 : Hid (0 < n) := by
    have h1 := HGE.out
    rcases Nat.eq_zero_or_pos n with e | e
    · have h2 := (HX.out.zero_iff B32_one).1 (List.eq_nil_of_length_eq_zero (by rw [HLXY.out.1]; exact e))
      have h3 := HSL.out.2
      have h4 : b = 0 := by omega
      rw [h4, Nat.zero_mul] at h3
      have : 0 < B32 ^ M := Nat.pow_pos B32_pos
      omega
    · exact e
  clear hKv hNv hb2 hb1 A1 B1 hD hvl hlv hgv
  go_wp2_with fail
  refine (rshl_blk A2.out HX.out HN0.out hn s (by have := HS.out.2; omega)).mono ?_
  rintro e w3 ⟨gu, u0, rfl, hgu, hKu, hNu, hlu, hb3⟩
  obtain ⟨A', hA'⟩ : ∃ A', A' = a * 2 ^ s := ⟨_, rfl⟩
  rw [← hA'] at hNu
  have hp2 : 0 < 2 ^ s := Nat.pow_pos (by omega)
  have hul : n ≤ u0.length ∧ u0.length ≤ n + 1 := by
    refine ⟨?_, (hNu.len_le B32_one).2 ?_⟩
    · rcases Nat.lt_or_ge u0.length n with e | e
      · exfalso
        have h1 := (hNu.len_le B32_one (k := n - 1)).1 (by omega)
        have h2 : ¬ a < B32 ^ (n - 1) := fun e3 => by have := (HX.out.len_le B32_one).2 e3; have := HLXY.out.1; have := HN0.out; omega
        have h3 : a * 1 ≤ a * 2 ^ s := Nat.mul_le_mul_left _ hp2
        omega
      · exact e
    · have h1 := (HX.out.len_le B32_one (k := n)).1 (by rw [HLXY.out.1]; exact Nat.le_refl _)
      have h2 : 2 ^ s ≤ B32 := by rw [show B32 = 2 ^ 32 from rfl]; exact Nat.pow_le_pow_right (by omega) (by have := HS.out.2; omega)
      rw [hA', Nat.pow_succ]
      exact Nat.lt_of_lt_of_le (Nat.mul_lt_mul_of_pos_right h1 hp2) (Nat.mul_le_mul_left _ h2)
  have HAV : Hid (A' = a * 2 ^ s) := hA'
  have V3 : Hid (At32 w3 (some ⟨gv, 0, none⟩) (M + 1) (M + 1) vs) := V2.out.below hb3
  have HB3 : Hid (Below w2.heap.size w2 w3) := hb3
  have HO : Hid (w3.ownsRow w2.heap.size 112 1 (.slice (some ⟨gu, 0, none⟩) u0.length u0.length) u0.length (cellsV u0)) := hKu.own hgu (by unfold maxLen; omega)
  have HDU : Hid (Dig B32 u0 ∧ valB B32 u0 = A') := ⟨hNu.dig, hNu.val⟩
  obtain ⟨L0, hL0⟩ : ∃ L0, L0 = u0.length := ⟨_, rfl⟩
  rw [← hL0] at HO hul ⊢
  have HL0 : Hid (u0.length = L0) := hL0.symm
  obtain ⟨i0, hi, hz0, hz1, hz2⟩ := info_parts Tryd.infoU32
  clear hKu hNu hb3 hgu hlu hA' hL0 A2
  go_wp2_with fail
  go_loopg [10] (n + 1 - L0) (fun gk uv wr => ∃ (i Nc : Nat) (pp : Option Addr) (ss : List Nat), i + gk = n + 1 ∧ uv = .slice pp i Nc ∧ Hid (wr.ownsRow w2.heap.size 112 1 (.slice pp i Nc) i (cellsV ss) ∧ ss.length = i ∧ Dig B32 ss ∧ valB B32 ss = A' ∧ Below w2.heap.size w2 wr))
  case atStart => exact ⟨L0, L0, _, u0, by omega, rfl, HO.out, HL0.out, HDU.out.1, HDU.out.2, HB3.out⟩
  case round =>
    obtain ⟨i, Nc, pp, ss, hig, rfl, HR⟩ := hrel
    have hbr := HR.out.2.2.2.2
    cases gk with
    | succ gg =>
      have hle : (i : Int) ≤ (n : Int) := by omega
      have hle2 : i ≤ n := by omega
      have hleb : decide (i ≤ n) = true := decide_eq_true hle2
      have HOA : Hid ((wr.alloc (.cells #[V 0] 112)).ownsRow w2.heap.size 112 1 (.slice pp i Nc) i (cellsV ss)) := HR.out.1.alloc _
      have hsz1 : w2.heap.size ≤ (wr.alloc (.cells #[V 0] 112)).heap.size := by have := hbr.size; simp; omega
      go_wp2_with (at_builtin; refine wpList_append_own _ rfl (.tmp 59) (.tmp 60) 72 rfl w2.heap.size 112 i0 (.int .u32 0) 1 4 Tryd.underlying72 hi hz0 hz1 hz2 rfl (by decide) (.slice pp i Nc) i (cellsV ss) rfl HOA.out ⟨wr.heap.size, 0, none⟩ 1 1 [V 0] rfl rfl (one_cell wr 0) (by intro u hu; simp at hu; subst hu; rfl) (by unfold maxLen; omega) (by omega) hsz1 ?_; intro v3 w3 hw3 hgr3 hnil3)
      obtain ⟨p3, N3, rfl⟩ := own_form hw3
      have HR3 : Hid (w3.ownsRow w2.heap.size 112 1 (.slice p3 (i + 1) N3) (i + 1) (cellsV (ss ++ [0])) ∧ (ss ++ [0]).length = i + 1 ∧ Dig B32 (ss ++ [0]) ∧ valB B32 (ss ++ [0]) = A' ∧ Below w2.heap.size w2 w3) := by
        have hR := HR.out
        refine ⟨?_, by simp [hR.2.1], hR.2.2.1.append (Dig.cons B32_pos (Dig.nil _)), by rw [valB_snoc, Nat.mul_zero, Nat.add_zero]; exact hR.2.2.2.1, ?_⟩
        · have e0 : cellsV (ss ++ [0]) = cellsV ss ++ [V 0] := by unfold cellsV; rw [List.map_append]; rfl
          rw [e0]; exact hw3
        · exact (hR.2.2.2.2.alloc hR.2.2.2.2.size _).grown hgr3 (by have := hR.2.2.2.2.size; simp; omega) (own_base HOA.out)
      clear hw3 hgr3 hnil3
      go_roundg gg
      case measure => omega
      case rel => exact ⟨i + 1, N3, p3, ss ++ [0], by omega, rfl, HR3⟩
    | zero =>
      obtain rfl : i = n + 1 := by omega
      obtain ⟨gu2, rfl, hgu2, hrow, hNc, hNcm⟩ := own_row32 HR.out.1 HR.out.2.1 HR.out.2.2.1 (by omega)
      unfold maxLen at hNcm
      have V4 : Hid (At32 wr (some ⟨gv, 0, none⟩) (M + 1) (M + 1) vs) := V2.out.below hbr
      have HROW : Hid (Row32 wr gu2 0 (n + 1) ss ∧ valB B32 ss = A' ∧ w2.heap.size ≤ gu2 ∧ gu2 < wr.heap.size) := ⟨hrow, HR.out.2.2.2.1, hgu2, World.block_lt_of_cell? wr _ (hrow.cell 0 (by omega))⟩
      have HBR : Hid (Below w.heap.size w wr) := Below.on HB2.out hbr
      have hbr2 : Hid (gv < wr.heap.size ∧ gv < w2.heap.size) := ⟨Nat.lt_of_lt_of_le hgv2 hbr.size, hgv2⟩
      clear HR hrow hgu2 hbr HO
      obtain ⟨L, hL⟩ : ∃ L, L = n - M := ⟨_, rfl⟩
      have hMn : M < n := by
        rcases Nat.lt_or_ge M n with e | e
        · exact e
        · exfalso
          have h1 := (HX.out.len_le B32_one (k := n)).1 (by rw [HLXY.out.1]; exact Nat.le_refl _)
          have h2 : B32 ^ n ≤ B32 ^ M := Nat.pow_le_pow_right B32_pos e
          have h3 : ¬ b < B32 ^ M := fun e3 => by have := (HY.out.len_le B32_one).2 e3; have := HLXY.out.2; omega
          have := HGE.out
          omega
      have hLI : (n : Int) + 1 - ((M : Int) + 1) = (L : Int) := by omega
      have hLb : L ≤ 16384 := by omega
      have hLp : 1 ≤ L := by omega
      have HL : Hid (L = n - M ∧ M < n) := ⟨hL, hMn⟩
      obtain ⟨wo, hwo⟩ : ∃ wo, wo = wr := ⟨_, rfl⟩
      subst hwo
      clear hL hMn
      go_wp2_with (at_make; refine wpList_make_full _ rfl _ _ 72 rfl wo.heap.size 112 i0 (.int .u32 0) 1 Tryd.underlying72 hi hz0 hz1 _ _ _ _ L rfl rfl (by omega) (by omega) (by rw [hz2]; omega) (by unfold maxLen; omega) (Nat.le_refl _) ?_; intro w5 hown hgrow; have hb := made_blk32 hown hgrow; clear hown hgrow)
      have HNM : Hid (n + 1 = L + (M + 1)) := by have := HL.out; show _ = _; omega
      have hblt : Below wo.heap.size wo w5 := hb.2
      have HG : Hid (gv ≠ gu2 ∧ gv ≠ wo.heap.size ∧ wo.heap.size ≠ gu2 ∧ w2.heap.size ≤ gu2) := by
        have h1 := HROW.out.2.2
        have h2 := hbr2.out
        exact ⟨by omega, by omega, by omega, h1.1⟩
      have V5 : Hid (At32 w5 (some ⟨gv, 0, none⟩) (M + 1) (M + 1) vs) := V4.out.below hblt
      have HD0 : Hid (DigRel32 w5 wo.heap.size gu2 L (M + 1) A' D 0 (List.replicate L 0) ss w5) := by
        have hr := hb.1.row (Dig.replicate B32 L B32_pos)
        rw [List.length_replicate] at hr
        have hru := HROW.out.1.below2 hblt HROW.out.2.2.2
        rw [HNM.out] at hru
        refine ⟨fun B _ _ => Below.refl _ _, hr, hru, fun _ _ _ _ => rfl, ?_, ?_⟩
        · rw [Nat.sub_zero]
          have hs9 := valB_split B32 ss L (by rw [hru.len]; omega)
          rw [HROW.out.2.1] at hs9
          have hA9 : A' < B32 ^ L * D := by
            have h1 := (HX.out.len_le B32_one (k := n)).1 (by rw [HLXY.out.1]; exact Nat.le_refl _)
            have h3 : B32 ^ M ≤ b := by
              rcases Nat.lt_or_ge b (B32 ^ M) with e | e
              · have := (HY.out.len_le B32_one).2 e; have := HLXY.out.2; omega
              · exact e
            have h4 : B32 ^ n = B32 ^ L * B32 ^ M := by rw [← Nat.pow_add]; congr 1; have := HL.out; omega
            have h5 : B32 ^ L * B32 ^ M ≤ B32 ^ L * b := Nat.mul_le_mul_left _ h3
            rw [HAV.out, HVL.out.2, ← Nat.mul_assoc]
            exact Nat.mul_lt_mul_of_pos_right (by omega) (Nat.pow_pos (by omega))
          have h6 : B32 ^ L * valB B32 (ss.drop L) < B32 ^ L * D := by omega
          exact Nat.lt_of_mul_lt_mul_left h6
        · rw [Nat.sub_zero, List.drop_of_length_le (by rw [List.length_replicate]; exact Nat.le_refl _), valB_nil, Nat.mul_zero, Nat.zero_mul, Nat.add_zero]; exact HROW.out.2.1
      have HB5 : Hid (Below w.heap.size w w5) := Below.on HBR.out hblt
      have HV0 : Hid (0 < vs.getD (M + 1 - 1) 0 ∧ valB B32 vs = D ∧ D < B32 ^ (M + 1) ∧ 0 < D) := by
        have h1 := HNV.out
        have h2 := HVL.out
        have h3 := HSL.out
        have hDlt : D < B32 ^ (M + 1) := by rw [h2.2]; exact h3.1
        have hDge : B32 ^ M ≤ D := by rw [h2.2]; exact h3.2
        have hP9 : 0 < B32 ^ M := Nat.pow_pos B32_pos
        refine ⟨?_, h1.val, hDlt, by omega⟩
        rw [Nat.add_sub_cancel]
        rcases Nat.eq_zero_or_pos (vs.getD M 0) with e | e
        · exfalso
          have h4 : D = valB B32 (vs.take M) := by
            rw [← h1.val, valB_split B32 vs M (by omega), valB_drop B32 vs M (by omega), e, List.drop_of_length_le (by omega), valB_nil, Nat.mul_zero, Nat.add_zero, Nat.mul_zero, Nat.add_zero]
          have h5 := valB_lt B32_pos (h1.dig.take M)
          rw [List.length_take, h2.1, Nat.min_eq_left (by omega)] at h5
          omega
        · exact e
      obtain ⟨gq2, hgq2⟩ : ∃ g, g = wo.heap.size := ⟨_, rfl⟩
      have HGQ : Hid (w.heap.size ≤ gq2 ∧ w.heap.size ≤ gu2) := ⟨by rw [hgq2]; exact HBR.out.size, Nat.le_trans HB2.out.size HG.out.2.2.2⟩
      rw [← hgq2] at HD0 HG ⊢
      clear hb hblt hgq2 HROW V4 hLI
      go_loopg [13] L (fun gk jv wr => ∃ (k : Nat) (z : Int) (qs rs : List Nat), k + gk = L ∧ jv = .int .i64 z ∧ z = (gk : Int) - 1 ∧ Hid (DigRel32 w5 gq2 gu2 L (M + 1) A' D k qs rs wr))
      case atStart => exact ⟨0, _, _, ss, by omega, rfl, by omega, HD0⟩
      case round =>
        obtain ⟨k, z, qs, rs, hkg, rfl, hz, HR⟩ := hrel
        cases gk with
        | zero =>
          obtain rfl : k = L := by omega
          obtain rfl : z = -1 := by omega
          have hsum := HR.out.sum
          have hltD := HR.out.lt
          rw [Nat.sub_self, List.drop_zero] at hltD
          rw [Nat.sub_self, List.drop_zero, Nat.pow_zero, Nat.one_mul] at hsum
          have hquo : valB B32 qs = A' / D ∧ valB B32 rs = A' % D := by
            have h1 := quo_unique (n := A') (q := valB B32 qs) (y := D) (r := valB B32 rs) (by omega) hltD
            exact h1
          have hAD : A' / D = a / b ∧ A' % D = a % b * 2 ^ s := by
            rw [HAV.out, HVL.out.2]
            exact ⟨Nat.mul_div_mul_right a b (Nat.pow_pos (by omega)), by rw [Nat.mul_mod_mul_right]⟩
          have HQU : Hid (valB B32 qs = a / b ∧ valB B32 rs = a % b * 2 ^ s) := ⟨by rw [hquo.1, hAD.1], by rw [hquo.2, hAD.2]⟩
          have HTK : Hid (valB B32 (rs.take (M + 1)) = a % b * 2 ^ s) := by
            show _ = _
            rw [← HQU.out.2]
            have h1 := valB_split B32 rs (M + 1) (by rw [HR.out.rowr.len]; omega)
            rcases Nat.eq_zero_or_pos (valB B32 (rs.drop (M + 1))) with e | e
            · rw [e, Nat.mul_zero, Nat.add_zero] at h1; exact h1.symm
            · exfalso
              have h2 : B32 ^ (M + 1) * 1 ≤ B32 ^ (M + 1) * valB B32 (rs.drop (M + 1)) := Nat.mul_le_mul_left _ e
              have := HV0.out.2.2.1
              omega
          have AQ : Hid (At32 wr (some ⟨gq2, 0, none⟩) k k qs) := HR.out.rowq.at_ (Nat.le_refl _) (by unfold maxLen; omega)
          have AU0 : At32 wr (some ⟨gu2, 0, none⟩) (n + 1) Nc rs := by
            have h1 := HR.out.rowr
            rw [← HNM.out] at h1
            exact h1.at_ hNc (by unfold maxLen; omega)
          have AU : Hid (At32 wr (some ⟨gu2, 0, none⟩) (M + 1) Nc (rs.take (M + 1))) := AU0.take (M + 1) (by have := HL.out; omega) Nc (by have := HL.out; omega) (by unfold maxLen; omega)
          have HBW : Hid (Below w.heap.size w wr) := Below.trans HB5.out (HR.out.bel w.heap.size HGQ.out.1 HGQ.out.2)
          have hMN : M + 1 ≤ n := by have := HL.out; omega
          have hMc : M + 1 ≤ Nc := by have := HL.out; omega
          clear hsum hltD hquo hAD AU0 hz hkg HR
          go_wp2_with fail
          obtain ⟨wq, hwq⟩ : ∃ wq, wq = wr.drew := ⟨_, rfl⟩
          have hbd : Below wr.heap.size wr wq := by rw [hwq]; exact Below.drew (Below.refl _ _)
          have AQ2 : Hid (At32 wq (some ⟨gq2, 0, none⟩) k k qs) := AQ.out.below hbd
          have AU2 : Hid (At32 wq (some ⟨gu2, 0, none⟩) (M + 1) Nc (rs.take (M + 1))) := AU.out.below hbd
          have HBW2 : Hid (Below w.heap.size w wq) := Below.on HBW.out hbd
          clear AQ AU HBW hbd
          have AQ := AQ2
          have AU := AU2
          have HBW := HBW2
          clear AQ2 AU2 HBW2
          refine wp_region_J (fun _ => True) (by kernel_rfl) ?_
          rw [← hwq]
          clear hwq
          refine wpJ_take (i := 0) (v := ?va0) rfl (by kernel_rfl) (by kernel_rfl) (by kernel_rfl) (fun _ _ _ h => h) (by kernel_rfl) ?hya0 trivial ?resta0
          case hya0 => (intro W' hJ; go_simp; first | done | with_reducible rfl)
          refine wpJ_take (i := 2) (v := ?va2) rfl (by kernel_rfl) (by kernel_rfl) (by kernel_rfl) (fun _ _ _ h => h) (by kernel_rfl) ?hya2 trivial ?resta2
          case hya2 => (intro W' hJ; go_simp; first | done | with_reducible rfl)
          refine wpJ_take (i := 3) (v := ?va3) rfl (by kernel_rfl) (by kernel_rfl) (by kernel_rfl) (fun _ _ _ h => h) (by kernel_rfl) ?hya3 trivial ?resta3
          case hya3 => (intro W' hJ; go_simp; first | done | with_reducible rfl)
          refine wpJ_take (i := 4) (v := ?va4) rfl (by kernel_rfl) (by kernel_rfl) (by kernel_rfl) (fun _ _ _ h => h) (by kernel_rfl) ?hya4 trivial ?resta4
          case hya4 => (intro W' hJ; go_simp; first | done | (rw [if_pos ⟨by omega, by omega⟩]) | with_reducible rfl)
          refine wpJ_take (i := 6) (v := ?va6) rfl (by kernel_rfl) (by kernel_rfl) (by kernel_rfl) (fun _ _ _ h => h) (by kernel_rfl) ?hya6 trivial ?resta6
          case hya6 => (intro W' hJ; go_simp; first | done | with_reducible rfl)
          refine wpJ_one (i := 1) (by kernel_rfl) rfl (by kernel_rfl) (fun KJ hK => ?_)
          go_simp
          refine (rnorm_any AQ.out (by omega)).mono ?_
          rintro e w7 ⟨g7, rfl, hg7, hblk7, hb7⟩
          have hd7 : Dig B32 (trimL qs) := Dig.trimL AQ.out.dig
          have hl7 := trimL_length_le qs
          rw [AQ.out.len] at hl7
          have A7 : Hid (At32 w7 (some ⟨g7, 0, none⟩) (trimL qs).length (trimL qs).length (trimL qs)) := hblk7.at_ hd7 rfl (by unfold maxLen; omega)
          have N7 : Hid (Nf B32 (trimL qs) (a / b) ∧ (trimL qs).length ≤ n) := ⟨by have h1 := Nf.trim AQ.out.dig; rw [HQU.out.1] at h1; exact h1, by have := HL.out; omega⟩
          have AU7 : Hid (At32 w7 (some ⟨gu2, 0, none⟩) (M + 1) Nc (rs.take (M + 1))) := AU.out.below hb7
          have HB7 : Hid (Below w.heap.size w w7) := Below.on HBW.out hb7
          generalize trimL qs = q7 at *
          refine hK _ _ trivial ?_
          clear hK hblk7 hb7 hg7 hd7 hl7 AQ AU HBW
          refine wpJ_one (i := 5) (by kernel_rfl) rfl (by kernel_rfl) (fun KJ hK => ?_)
          go_simp
          refine (rnorm_any AU7.out (by omega)).mono ?_
          rintro e w8 ⟨g8, rfl, hg8, hblk8, hb8⟩
          have hl8 := trimL_length_le (rs.take (M + 1))
          rw [AU7.out.len] at hl8
          have A8 : Hid (At32 w8 (some ⟨g8, 0, none⟩) (trimL (rs.take (M + 1))).length (trimL (rs.take (M + 1))).length (trimL (rs.take (M + 1)))) := hblk8.at_ (Dig.trimL AU7.out.dig) rfl (by unfold maxLen; omega)
          have N8 : Hid (Nf B32 (trimL (rs.take (M + 1))) (a % b * 2 ^ s) ∧ (trimL (rs.take (M + 1))).length ≤ M + 1) := ⟨by have h1 := Nf.trim AU7.out.dig; rw [HTK.out] at h1; exact h1, hl8⟩
          have A78 : Hid (At32 w8 (some ⟨g7, 0, none⟩) q7.length q7.length q7) := A7.out.below hb8
          have HB8 : Hid (Below w.heap.size w w8) := Below.on HB7.out hb8
          generalize trimL (rs.take (M + 1)) = u8 at *
          refine hK _ _ trivial ?_
          clear hK hblk8 hb8 hg8 hl8 A7 AU7 HB7
          refine wpJ_one (i := 7) (by kernel_rfl) rfl (by kernel_rfl) (fun KJ hK => ?_)
          go_simp
          refine (rshr_all A8.out N8.out.1 (by have := N8.out.2; omega) s (by have := HS.out.2; omega)).mono ?_
          rintro e w9 ⟨p9, m9, z9, rfl, hA9, hN9, hl9, hb9⟩
          have A9 : Hid (At32 w9 p9 m9 m9 z9) := hA9
          have N9 : Hid (Nf B32 z9 (a % b) ∧ m9 ≤ n) := ⟨by rw [Nat.mul_div_cancel _ (Nat.pow_pos (by omega))] at hN9; exact hN9, by have := N8.out.2; omega⟩
          have A79 : Hid (At32 w9 (some ⟨g7, 0, none⟩) q7.length q7.length q7) := A78.out.below hb9
          have HB9 : Hid (Below w.heap.size w w9) := Below.on HB8.out hb9
          refine hK _ _ trivial ?_
          clear hK hA9 hN9 hl9 hb9 A8 A78 HB8
          refine wpJ_take (i := 8) (v := ?va8) rfl (by kernel_rfl) (by kernel_rfl) (by kernel_rfl) (fun _ _ _ h => h) (by kernel_rfl) ?hya8 trivial ?resta8
          case hya8 => (intro W' hJ; go_simp; first | done | with_reducible rfl)
          refine wpJ_take (i := 9) (v := ?va9) rfl (by kernel_rfl) (by kernel_rfl) (by kernel_rfl) (fun _ _ _ h => h) (by kernel_rfl) ?hya9 trivial ?resta9
          case hya9 => (intro W' hJ; go_simp; first | done | with_reducible rfl)
          refine wpJ_done (by kernel_rfl) ?_ _
          go_wp2_with fail
          go_ret2
          exact ⟨_, _, q7, _, _, z9, rfl, A79.out, N7.out.1, A9.out, N9.out.1, N7.out.2, N9.out.2, HB9.out⟩
        | succ gg =>
          obtain rfl : z = (gg : Int) := by omega
          obtain ⟨wp, hwp⟩ : ∃ wp, wp = wr := ⟨_, rfl⟩
          subst hwp
          obtain ⟨a9, ws, ha9, hws, hrow, hwlt, hrs, hzz⟩ := HR.out.window (by omega) HV0.out.2.2.1
          obtain rfl : a9 = gg := by omega
          have HWIN : Hid (valB B32 rs = valB B32 (rs.take a9) + B32 ^ a9 * valB B32 ws ∧ valB B32 (rs.drop (a9 + (M + 1 + 1))) = 0 ∧ Row32 wp gu2 a9 (M + 1 + 1) ws ∧ valB B32 ws < B32 * D) := ⟨hrs, hzz, hrow, hwlt⟩
          have V6 : Hid (At32 wp (some ⟨gv, 0, none⟩) (M + 1) (M + 1) vs) := V5.out.cells_of (fun o => HR.out.cell gv o HG.out.2.1 HG.out.1)
          have hgL : a9 < L := by omega
          have hcq : wp.cell? ⟨gq2, a9, none⟩ = some (V (qs.getD a9 0)) := by have := HR.out.rowq.cell a9 hgL; rw [Nat.zero_add] at this; exact this
          have hfq : wp.frozen? ⟨gq2, a9, none⟩ = false := by have := HR.out.rowq.frozen a9 hgL; rw [Nat.zero_add] at this; exact this
          have hj1 : a9 + (M + 1) + 1 ≤ n + 1 := by have := HNM.out; omega
          have hj2 : a9 + (M + 1) + 1 ≤ Nc := by omega
          have HAK : Hid (a9 = L - 1 - k ∧ k < L) := ⟨by omega, by omega⟩
          clear hws hrow hwlt hrs hzz ha9 hz hkg
          go_wp2_with fail
          rw [show a9 + (M + 1) + 1 - a9 = M + 1 + 1 by omega]
          refine (rdigit_any HWIN.out.2.2.1 (by omega) (by unfold maxLen; omega) V6.out HG.out.1 (by omega) (by omega) (by rw [HV0.out.2.1]; exact HWIN.out.2.2.2) HV0.out.1).mono ?_
          rintro e w6 ⟨ws', rfl, hwr6, hrow6, hval6⟩
          rw [HV0.out.2.1] at hval6 ⊢
          obtain ⟨q9, hq9⟩ : ∃ q9, q9 = valB B32 ws / D := ⟨_, rfl⟩
          rw [← hq9]
          have hq9b : q9 < B32 := by rw [hq9]; exact Nat.div_lt_of_lt_mul (by rw [Nat.mul_comm]; exact HWIN.out.2.2.2)
          have hcq6 : w6.cell? ⟨gq2, a9, none⟩ = some (V (qs.getD a9 0)) := (hwr6.cell gq2 a9 (.inl HG.out.2.2.1)).trans hcq
          have hfq6 : w6.frozen? ⟨gq2, a9, none⟩ = false := (hwr6.frozen _).trans hfq
          have HNX : Hid (DigRel32 w5 gq2 gu2 L (M + 1) A' D (k + 1) (qs.set a9 q9) (winPut rs ws' a9) (w6.setCell ⟨gq2, a9, none⟩ (V q9))) := HR.out.step HAK.out.2 HG.out.2.2.1 HAK.out.1 HWIN.out.1 HWIN.out.2.1 HV0.out.2.2.2 hq9 hq9b hval6 hwr6 hrow6
          clear hcq hfq hq9 hq9b hwr6 hrow6 hval6
          go_wp2_with fail
          go_roundg a9
          case measure => omega
          case rel => exact ⟨k + 1, _, qs.set a9 q9, winPut rs ws' a9, by have := HAK.out; omega, rfl, by omega, HNX⟩
end Go.Proofs.YteoihhgaipplfaaDoor

namespace Go.Proofs.YteoihhgaipplfaaDoor
open Go.RowKit

/-- What DivWord has done when k limbs from the top are done. -/
structure DivRel (w : World) (g n : Nat) (zs : List Nat) (v k re : Nat) (dk : List Nat) (wr : World) : Prop where
  wrs : ∀ B, B ≤ g → Below B w wr
  row : Row wr g 0 n dk
  lo : dk.take (n - k) = zs.take (n - k)
  rlt : re < v
  sum : valB B64 (zs.drop (n - k)) = valB B64 (dk.drop (n - k)) * v + re
theorem DivRel.step {w : World} {g n : Nat} {zs : List Nat} {v k re : Nat} {dk : List Nat} {wr wr' : World} (h : DivRel w g n zs v k re dk wr) (hk : k < n) (hz : zs.length = n) {x q r : Nat}
    (hx : x = dk.getD (n - 1 - k) 0) (hq : re * B64 + x = q * v + r) (hr : r < v) (hw : ∀ B, B ≤ g → Below B w wr') (hrow : Row wr' g 0 n (dk.set (n - 1 - k) q)) : DivRel w g n zs v (k + 1) r (dk.set (n - 1 - k) q) wr' := by
  have hl := h.row.len
  have e : n - (k + 1) = n - 1 - k := by omega
  have e2 : n - 1 - k + 1 = n - k := by omega
  have hxz : x = zs.getD (n - 1 - k) 0 := hx.trans (getD_of_take h.lo (by omega))
  refine ⟨hw, hrow, ?_, hr, ?_⟩
  · rw [e, take_set_at]; exact take_of_take h.lo (by omega)
  · rw [e, drop_set_at dk _ q (by omega), valB_drop _ zs (n - 1 - k) (by omega), ← hxz, valB_cons, e2, h.sum, Nat.add_mul, Nat.mul_add]
    have e3 : B64 * (valB B64 (dk.drop (n - k)) * v) = B64 * valB B64 (dk.drop (n - k)) * v := by rw [Nat.mul_assoc]
    rw [e3, Nat.mul_comm B64 re]
    omega

set_option maxRecDepth 20000 in
set_option maxHeartbeats 2000000 in
theorem divw_nf {p : Option Addr} {m c : Nat} {xs : List Nat} {a : Nat} {w : World} (h : At w p m c xs) (hx : Nf B64 xs a) (hm : m ≤ 8192) (v : Nat) (hv : v < B64) (hv0 : v ≠ 0) :
    Calls Tryd.prog 9 #[.slice p m c, U v] w fun e w' =>
      (∃ p' m' zs, e = .returned (.tuple #[.slice p' m' m', U (a % v), .int .i64 0]) ∧ Own w.heap.size w' p' m' zs ∧ Nf B64 zs (a / v) ∧ m' ≤ 8192) ∧ Below w.heap.size w w' := by
  have fx := hx.form (by rw [h.len]; exact hm)
  have hl := h.len
  have HX : Hid (Nf B64 xs a) := hx
  have hv0' : ((v : Int) == 0) = false := by simp; omega
  clear hx
  go_enter Tryd.func9, Tryd.ntmps9
  go_wp2_with fail
  refine (form_true h fx).mono ?_
  rintro e w' ⟨rfl, hw⟩
  obtain rfl := hw.symm
  clear hw fx
  go_wp2_with fail
  refine (copied_any h m (Nat.le_refl _) (by omega)).mono ?_
  rintro e w1 ⟨g, rfl, hg, hblk, hb⟩
  rw [Nat.sub_self, List.replicate_zero, List.append_nil] at hblk
  have hr := hblk.row HX.out.dig
  rw [hl] at hr
  go_wp2_with fail
  go_loopw [8, 9, 10, 22] (fun rv _ _ i wr => ∃ (k re : Nat) (dk : List Nat), k ≤ m ∧ i = .int .i64 k ∧ rv = U re ∧ DivRel w1 g m xs v k re dk wr) (fun _ _ _ i _ => m - (intOf i).toNat)
  case atStart => exact ⟨0, 0, xs, Nat.zero_le _, rfl, rfl, ⟨fun B _ => Below.refl _ _, hr, rfl, by omega, by rw [Nat.sub_zero, List.drop_of_length_le (by omega)]; simp [valB]⟩⟩
  case round =>
    obtain ⟨k, re, dk, hk, rfl, rfl, hR⟩ := hrel
    by_cases hlt : k < m
    · obtain ⟨x, hxx⟩ : ∃ x, x = dk.getD (m - 1 - k) 0 := ⟨_, rfl⟩
      have hcx : wr.cell? ⟨g, m - 1 - k, none⟩ = some (U x) := by
        have := hR.row.cell (m - 1 - k) (by omega)
        rw [← hxx, Nat.zero_add] at this; exact this
      have hfx : wr.frozen? ⟨g, m - 1 - k, none⟩ = false := by
        have := hR.row.frozen (m - 1 - k) (by omega)
        rw [Nat.zero_add] at this; exact this
      have hxb : x < B64 := by rw [hxx]; exact hR.row.dig.getD B64_pos _
      have hrv := hR.rlt
      have HR : Hid (DivRel w1 g m xs v k re dk wr) := hR
      have HXX : Hid (x = dk.getD (m - 1 - k) 0) := hxx
      clear hR hxx hr
      go_wp2_with fail
      refine (div64_any re x v _ hrv hv hxb).mono ?_
      rintro e w2 ⟨rfl, r, hw⟩
      obtain rfl := hw.symm
      clear hw
      obtain ⟨q, hq⟩ : ∃ q, q = (re * B64 + x) / v := ⟨_, rfl⟩
      obtain ⟨r2, hr2⟩ : ∃ r2, r2 = (re * B64 + x) % v := ⟨_, rfl⟩
      rw [← hq, ← hr2]
      have hqr : re * B64 + x = q * v + r2 := by rw [hq, hr2, Nat.mul_comm ((re * B64 + x) / v)]; exact (Nat.div_add_mod _ _).symm
      have hr2v : r2 < v := by rw [hr2]; exact Nat.mod_lt _ (by omega)
      have hqb : q < B64 := by
        rw [hq]
        refine (Nat.div_lt_iff_lt_mul (by omega)).2 ?_
        have : (re + 1) * B64 ≤ v * B64 := Nat.mul_le_mul_right _ hrv
        rw [Nat.add_mul, Nat.one_mul, Nat.mul_comm v] at this
        omega
      have HQR : Hid (re * B64 + x = q * v + r2) := hqr
      clear hq hr2 hqr
      go_wp2_with fail
      go_roundw
      case rel =>
        refine ⟨k + 1, r2, dk.set (m - 1 - k) q, by omega, by go_num, rfl, HR.out.step hlt hl HXX.out HQR.out hr2v (fun B hB => ?_) ?_⟩
        · exact bDrewN ((HR.out.wrs B hB).setCell hB _) r
        · have h1 := HR.out.row.set (m - 1 - k) q (by omega) hqb
          rw [Nat.zero_add] at h1
          exact h1.drewN r
      case measure => simp [intOf]; omega
    · obtain rfl : k = m := by omega
      have HR : Hid (DivRel w1 g k xs v k re dk wr) := hR
      clear hR hr
      have hh := HR.out
      have A3 := hh.row.at_ (Nat.le_refl _) (by unfold maxLen; omega)
      have hs := hh.sum
      rw [Nat.sub_self, List.drop_zero, List.drop_zero, HX.out.val] at hs
      obtain ⟨hq, hre⟩ := quo_unique hs hh.rlt
      have hN := Nf.trim hh.row.dig
      rw [hq] at hN
      have HV : Hid (Nf B64 (trimL dk) (a / v)) := hN
      have HRE : Hid (re = a % v) := hre
      have hb3 : Below w.heap.size w wr := hb.trans (hh.wrs _ hg)
      have hrow := hh.row
      clear hs hq hre hN hh
      go_wp2_with fail
      refine (trim_any A3).mono ?_
      rintro e w4 ⟨p', m', rfl, hm', hp', hw⟩
      obtain rfl := hw.symm
      have HM : Hid (m' = (trimL dk).length) := hm'
      clear hw hm'
      go_wp2_with fail
      go_ret3
      have e1 := HM.out
      have e2 := trimL_length_le dk
      have e3 := hrow.len
      exact ⟨⟨p', m', trimL dk, by rw [HRE.out]; rfl, hrow.own hg e1 hp', HV.out, by omega⟩, hb3⟩
end Go.Proofs.YteoihhgaipplfaaDoor

namespace Go.Proofs.YteoihhgaipplfaaDoor
open Go.RowKit

theorem Wr.row_above {w w' : World} {g m n : Nat} {xs : List Nat} (hb : Blk w g xs) (h : Wr g 0 m w w') (hn : xs.length = n) (hm : m < n) : w'.cell? ⟨g, m, none⟩ = some (U (xs.getD m 0)) ∧ w'.frozen? ⟨g, m, none⟩ = false := by
  constructor
  · rw [h.cell g m (by omega)]; exact hb.cell m (by omega)
  · rw [h.frozen]; exact hb.frozen m
theorem Blk.row_take {w : World} {g : Nat} {xs : List Nat} (h : Blk w g xs) (hd : Dig B64 xs) (m : Nat) (hm : m ≤ xs.length) : Row w g 0 m (xs.take m) := (h.row hd).take m hm

set_option maxRecDepth 20000 in
set_option maxHeartbeats 1000000 in
theorem mulw_nf {p : Option Addr} {m c : Nat} {xs : List Nat} {a : Nat} {w : World} (h : At w p m c xs) (hx : Nf B64 xs a) (hm : m ≤ 8192) (v : Nat) (hv : v < B64) :
    Calls Tryd.prog 8 #[.slice p m c, U v] w fun e w' => Ans w.heap.size w' e (a * v) ∧ Below w.heap.size w w' := by
  have fx := hx.form (by rw [h.len]; exact hm)
  have hl := h.len
  have HX : Hid (Nf B64 xs a) := hx
  clear hx
  go_enter Tryd.func8, Tryd.ntmps8
  go_wp2_with fail
  refine (form_true h fx).mono ?_
  rintro e w' ⟨rfl, hw⟩
  obtain rfl := hw.symm
  clear hw fx
  obtain ⟨i0, hi, hz0, hz1, hz2⟩ := info_parts Tryd.infoU64
  go_wp2_with (at_make; refine wpList_make_full _ rfl _ _ 23 rfl w.heap.size 27 i0 (.int .u64 0) 1 Tryd.underlying23 hi hz0 hz1 _ _ _ _ (m + 1) rfl rfl (by omega) (by omega) (by rw [hz2]; omega) (by unfold maxLen; omega) (Nat.le_refl _) ?_; intro w1 hown hgrow; have hb := made_blk hown hgrow; clear hown hgrow)
  obtain ⟨hblk, hb1⟩ := hb
  have hdz : Dig B64 (List.replicate (m + 1) 0) := Dig.replicate _ _ B64_pos
  have hr := hblk.row_take hdz m (by simp)
  rw [List.take_replicate, Nat.min_eq_left (by omega)] at hr
  refine (amul_any w.heap.size 0 (m + 1) (m + 1) _ p m c xs v _ hr (by omega) (Nat.le_refl _) (by omega) (h.below hb1) hv (fun g2 off2 hn hp => .inl (h.fresh (Nat.le_refl _) g2 off2 hn hp))).mono ?_
  rintro e w2 ⟨cy, zs, rfl, hcy, hwr, hrow, hsum⟩
  obtain ⟨hcm, hfm⟩ := hwr.row_above hblk (n := m + 1) (by simp) (by omega)
  have hb2 : Below w.heap.size w w2 := hb1.trans (hwr.below (Nat.le_refl _))
  rw [valB_replicate, Nat.zero_add, HX.out.val] at hsum
  have HS : Hid (valB B64 zs + B64 ^ m * cy = a * v) := hsum
  clear hsum hwr hb1 hblk hr hdz
  go_wp2_with fail
  have hrow3 : Row (w2.setCell ⟨w.heap.size, m, none⟩ (U cy)) w.heap.size 0 (m + 1) (zs ++ [cy]) := by
    have hW : Wr w.heap.size (0 + m) 1 w2 (w2.setCell ⟨w.heap.size, m, none⟩ (U cy)) := (Wr.refl w.heap.size (0 + m) 1 w2).setCell m ⟨by omega, by omega⟩ _
    have hrow' : Row (w2.setCell ⟨w.heap.size, m, none⟩ (U cy)) w.heap.size 0 m zs :=
      ⟨hrow.len, hrow.dig, fun j hj => by rw [hW.cell _ _ (by omega)]; exact hrow.cell j hj, fun j hj => by rw [World.frozen?_setCell]; exact hrow.frozen j hj⟩
    refine hrow'.snoc ?_ ?_ hcy
    · rw [Nat.zero_add]; exact World.cell?_setCell_same _ _ _ hcm
    · rw [Nat.zero_add, World.frozen?_setCell]; exact hfm
  have hb3 : Below w.heap.size w (w2.setCell ⟨w.heap.size, m, none⟩ (U cy)) := hb2.setCell (Nat.le_refl _) _
  generalize w2.setCell ⟨w.heap.size, m, none⟩ (U cy) = w3 at *
  have A3 := hrow3.at_ (Nat.le_refl _) (by unfold maxLen; omega)
  have hval : valB B64 (zs ++ [cy]) = a * v := by rw [valB_snoc, hrow.len]; exact HS.out
  have hN := Nf.trim hrow3.dig
  rw [hval] at hN
  have HV : Hid (Nf B64 (trimL (zs ++ [cy])) (a * v)) := hN
  clear hval hN hcm hfm hrow
  generalize zs ++ [cy] = us at *
  refine (fitted_any A3).mono ?_
  rintro e w4 hres
  rcases hres with ⟨hle, ⟨p', m', rfl, hm', hp'⟩, hw⟩ | ⟨hgt, rfl, hw⟩
  · obtain rfl := hw.symm
    have HM : Hid (m' = (trimL us).length) := hm'
    clear hw hm'
    go_wp2_with fail
    go_ret2
    have e1 := HM.out
    exact ⟨.inl ⟨HV.out.lim.1 hle, p', m', trimL us, rfl, hrow3.own (Nat.le_refl _) e1 hp', HV.out, by omega⟩, hb3⟩
  · obtain rfl := hw.symm
    clear hw
    go_wp2_with fail
    go_ret2
    refine ⟨.inr ⟨?_, rfl⟩, hb3⟩
    have := mt HV.out.lim.2 (by omega)
    omega
end Go.Proofs.YteoihhgaipplfaaDoor

namespace Go.Proofs.YteoihhgaipplfaaDoor
open Go.RowKit

end Go.Proofs.YteoihhgaipplfaaDoor

namespace Go.Proofs.YteoihhgaipplfaaDoor
open Go.RowKit Go.Shelf

/-- What a call of two lists answers, of which both must be in form. -/
def TwoIs (r : Nat → Nat → List Nat → Int → Prop) (xs ys us : List Nat) (f : Int) : Prop :=
  ((formB xs && formB ys) = false ∧ us = [] ∧ f = 2) ∨ (formB xs = true ∧ formB ys = true ∧ r (valB B64 xs) (valB B64 ys) us f)
def addR (a b : Nat) (us : List Nat) (f : Int) : Prop := DocIs (a + b) us f
def subR (a b : Nat) (us : List Nat) (f : Int) : Prop := (a < b ∧ us = [] ∧ f = 3) ∨ (b ≤ a ∧ DocIs (a - b) us f)
theorem subR.inj {a b : Nat} {us us' : List Nat} {f f' : Int} (h : subR a b us f) (k : subR a b us' f') : us = us' ∧ f = f' := by
  rcases h with ⟨h1, rfl, rfl⟩ | ⟨h1, h2⟩ <;> rcases k with ⟨k1, rfl, rfl⟩ | ⟨k1, k2⟩
  · exact ⟨rfl, rfl⟩
  · omega
  · omega
  · exact h2.inj k2
theorem subR.er {a b : Nat} {us : List Nat} {f : Int} (h : subR a b us f) : f = 0 ∨ f = 3 ∨ f = 5 := by
  rcases h with ⟨_, _, rfl⟩ | ⟨_, h⟩
  · simp
  · rcases h.er with e | e <;> simp [e]
theorem TwoIs.inj {r : Nat → Nat → List Nat → Int → Prop} (hr : ∀ {a b us us' f f'}, r a b us f → r a b us' f' → us = us' ∧ f = f') {xs ys us us' : List Nat} {f f' : Int} (h : TwoIs r xs ys us f) (k : TwoIs r xs ys us' f') : us = us' ∧ f = f' := by
  rcases h with ⟨h1, rfl, rfl⟩ | ⟨h1, h2, h3⟩ <;> rcases k with ⟨k1, rfl, rfl⟩ | ⟨k1, k2, k3⟩
  · exact ⟨rfl, rfl⟩
  · rw [k1, k2] at h1; simp at h1
  · rw [h1, h2] at k1; simp at k1
  · exact hr h3 k3
theorem form_len {xs : List Nat} (h : formB xs = true) : xs.length ≤ 8192 := ((formB_iff xs).1 h).1

set_option maxRecDepth 20000 in
set_option maxHeartbeats 1000000 in
theorem add_noform {p q : Option Addr} {n m c d : Nat} {xs ys : List Nat} {w : World} (h : At w p n c xs) (k : At w q m d ys) (hf : (formB xs && formB ys) = false) :
    Calls Tryd.prog 69 #[.slice p n c, .slice q m d] w fun e w' => e = .returned (.tuple #[.slice none 0 0, .int .i64 2]) ∧ w' = w := by
  cases hx : formB xs
  · go_enter Tryd.func69, Tryd.ntmps69
    go_wp2_with fail
    refine (form_any h).mono ?_
    rintro e w1 ⟨rfl, hw⟩
    rw [hx]
    obtain rfl := hw.symm
    clear hw hf
    go_wp2_with fail
    go_ret2
    exact ⟨rfl, rfl⟩
  · have hy : formB ys = false := by rw [hx] at hf; simpa using hf
    go_enter Tryd.func69, Tryd.ntmps69
    go_wp2_with fail
    refine (form_any h).mono ?_
    rintro e w1 ⟨rfl, hw⟩
    rw [hx]
    obtain rfl := hw.symm
    clear hw hf
    go_wp2_with fail
    refine (form_any k).mono ?_
    rintro e w1 ⟨rfl, hw⟩
    rw [hy]
    obtain rfl := hw.symm
    clear hw
    go_wp2_with fail
    go_ret2
    exact ⟨rfl, rfl⟩

set_option maxRecDepth 20000 in
set_option maxHeartbeats 1000000 in
theorem sub_noform {p q : Option Addr} {n m c d : Nat} {xs ys : List Nat} {w : World} (h : At w p n c xs) (k : At w q m d ys) (hf : (formB xs && formB ys) = false) :
    Calls Tryd.prog 56 #[.slice p n c, .slice q m d] w fun e w' => e = .returned (.tuple #[.slice none 0 0, .int .i64 2]) ∧ w' = w := by
  cases hx : formB xs
  · go_enter Tryd.func56, Tryd.ntmps56
    go_wp2_with fail
    refine (form_any h).mono ?_
    rintro e w1 ⟨rfl, hw⟩
    rw [hx]
    obtain rfl := hw.symm
    clear hw hf
    go_wp2_with fail
    go_ret2
    exact ⟨rfl, rfl⟩
  · have hy : formB ys = false := by rw [hx] at hf; simpa using hf
    go_enter Tryd.func56, Tryd.ntmps56
    go_wp2_with fail
    refine (form_any h).mono ?_
    rintro e w1 ⟨rfl, hw⟩
    rw [hx]
    obtain rfl := hw.symm
    clear hw hf
    go_wp2_with fail
    refine (form_any k).mono ?_
    rintro e w1 ⟨rfl, hw⟩
    rw [hy]
    obtain rfl := hw.symm
    clear hw
    go_wp2_with fail
    go_ret2
    exact ⟨rfl, rfl⟩

theorem addP {p q : Option Addr} {n m c d : Nat} {xs ys : List Nat} {w : World} (h : At w p n c xs) (k : At w q m d ys) :
    Calls Tryd.prog 69 #[.slice p n c, .slice q m d] w fun e w' => ∃ p' m' us f, e = .returned (.tuple #[.slice p' m' m', .int .i64 f]) ∧ At w' p' m' m' us ∧ TwoIs addR xs ys us f ∧ Below w.heap.size w w' := by
  cases hf : (formB xs && formB ys)
  · refine (add_noform h k hf).mono ?_
    rintro e w' ⟨rfl, hw⟩
    obtain rfl := hw.symm
    exact ⟨none, 0, [], 2, rfl, At.empty _ none 0 (by decide), .inl ⟨hf, rfl, rfl⟩, Below.refl _ _⟩
  · simp only [Bool.and_eq_true] at hf
    refine (add_ord h k (nf_of_form h.dig hf.1) (nf_of_form k.dig hf.2) (by have := form_len hf.1; rw [h.len] at this; exact this) (by have := form_len hf.2; rw [k.len] at this; exact this)).mono ?_
    rintro e w' ⟨ha, hb⟩
    rcases ha with ⟨hl, p1, m1, zs, rfl, ho, hn, hm⟩ | ⟨hl, rfl⟩
    · exact ⟨p1, m1, zs, 0, rfl, ho.at_ hm, .inr ⟨hf.1, hf.2, .inl ⟨hl, hn, rfl⟩⟩, hb⟩
    · exact ⟨none, 0, [], 5, rfl, At.empty _ none 0 (by decide), .inr ⟨hf.1, hf.2, .inr ⟨hl, rfl, rfl⟩⟩, hb⟩
theorem subP {p q : Option Addr} {n m c d : Nat} {xs ys : List Nat} {w : World} (h : At w p n c xs) (k : At w q m d ys) :
    Calls Tryd.prog 56 #[.slice p n c, .slice q m d] w fun e w' => ∃ p' m' us f, e = .returned (.tuple #[.slice p' m' m', .int .i64 f]) ∧ At w' p' m' m' us ∧ TwoIs subR xs ys us f ∧ Below w.heap.size w w' := by
  cases hf : (formB xs && formB ys)
  · refine (sub_noform h k hf).mono ?_
    rintro e w' ⟨rfl, hw⟩
    obtain rfl := hw.symm
    exact ⟨none, 0, [], 2, rfl, At.empty _ none 0 (by decide), .inl ⟨hf, rfl, rfl⟩, Below.refl _ _⟩
  · simp only [Bool.and_eq_true] at hf
    refine (sub_nf h k (nf_of_form h.dig hf.1) (nf_of_form k.dig hf.2) (by have := form_len hf.1; rw [h.len] at this; exact this) (by have := form_len hf.2; rw [k.len] at this; exact this)).mono ?_
    rintro e w' ⟨ha, hb⟩
    rcases ha with ⟨hle, p1, m1, zs, rfl, ho, hn, hm⟩ | ⟨hlt, rfl⟩
    · exact ⟨p1, m1, zs, 0, rfl, ho.at_ hm, .inr ⟨hf.1, hf.2, .inr ⟨hle, .inl ⟨hn.lim.1 (by rw [ho.len]; exact hm), hn, rfl⟩⟩⟩, hb⟩
    · exact ⟨none, 0, [], 3, rfl, At.empty _ none 0 (by decide), .inr ⟨hf.1, hf.2, .inl ⟨hlt, rfl, rfl⟩⟩, hb⟩

set_option maxRecDepth 20000 in
set_option maxHeartbeats 2000000 in
theorem docaddD {p q : Option Addr} {n m c d : Nat} {xs ys : List Nat} {w : World} (h : At w p n c xs) (k : At w q m d ys) :
    Calls Tryd.prog 92 #[.slice p n c, .slice q m d] w fun e w' => ∃ p' m' N' us f, e = .returned (.tuple #[.slice p' m' N', .int .i64 f]) ∧ At w' p' m' N' us ∧ TwoIs addR xs ys us f ∧ Below w.heap.size w w' := by
  have HA : Hid (At w p n c xs) := h
  have HB : Hid (At w q m d ys) := k
  clear h k
  cases hx : formB xs
  · have HF : Hid ((formB xs && formB ys) = false) := by show _ = _; rw [hx]; rfl
    go_enter Tryd.func92, Tryd.ntmps92
    go_wp2_with fail
    refine (docform_any HA.out).mono ?_
    rintro e w1 ⟨rfl, hw⟩
    rw [hx]
    obtain rfl := hw.symm
    clear hw
    go_wp2_with fail
    go_ret2
    exact ⟨none, 0, 0, [], 2, rfl, At.empty _ none 0 (by decide), .inl ⟨HF.out, rfl, rfl⟩, Below.refl _ _⟩
  · cases hy : formB ys
    · have HF : Hid ((formB xs && formB ys) = false) := by show _ = _; rw [hx, hy]; rfl
      go_enter Tryd.func92, Tryd.ntmps92
      go_wp2_with fail
      refine (docform_any HA.out).mono ?_
      rintro e w1 ⟨rfl, hw⟩
      rw [hx]
      obtain rfl := hw.symm
      clear hw
      go_wp2_with fail
      refine (docform_any HB.out).mono ?_
      rintro e w1 ⟨rfl, hw⟩
      rw [hy]
      obtain rfl := hw.symm
      clear hw
      go_wp2_with fail
      go_ret2
      exact ⟨none, 0, 0, [], 2, rfl, At.empty _ none 0 (by decide), .inl ⟨HF.out, rfl, rfl⟩, Below.refl _ _⟩
    · have HFX : Hid (formB xs = true) := hx
      have HFY : Hid (formB ys = true) := hy
      have hn : n ≤ 8192 := by have := form_len hx; rw [HA.out.len] at this; exact this
      have hm : m ≤ 8192 := by have := form_len hy; rw [HB.out.len] at this; exact this
      go_enter Tryd.func92, Tryd.ntmps92
      go_wp2_with fail
      refine (docform_any HA.out).mono ?_
      rintro e w1 ⟨rfl, hw⟩
      rw [hx]
      obtain rfl := hw.symm
      clear hw
      go_wp2_with fail
      refine (docform_any HB.out).mono ?_
      rintro e w1 ⟨rfl, hw⟩
      rw [hy]
      obtain rfl := hw.symm
      clear hw hx hy
      go_wp2_with fail
      refine (from_any HA.out (by omega)).mono ?_
      rintro e w1 ⟨g1, z1, rfl, hg1, hk1, hn1, hl1, hb1⟩
      have A1 : Hid (At32 w1 (some ⟨g1, 0, none⟩) z1.length z1.length z1) := hk1.at_ hn1.dig rfl (by unfold maxLen; omega)
      have N1 : Hid (Nf B32 z1 (valB B64 xs)) := hn1
      have B1 : Hid (At w1 q m d ys) := HB.out.below hb1
      obtain ⟨l1, hl1e⟩ : ∃ l1, l1 = z1.length := ⟨_, rfl⟩
      rw [← hl1e] at A1 hl1 ⊢
      clear hk1 hn1 hg1 hl1e
      go_wp2_with fail
      refine (from_any B1.out (by omega)).mono ?_
      rintro e w2 ⟨g2, z2, rfl, hg2, hk2, hn2, hl2, hb2⟩
      have A2 : Hid (At32 w2 (some ⟨g2, 0, none⟩) z2.length z2.length z2) := hk2.at_ hn2.dig rfl (by unfold maxLen; omega)
      have N2 : Hid (Nf B32 z2 (valB B64 ys)) := hn2
      have A1' : Hid (At32 w2 (some ⟨g1, 0, none⟩) l1 l1 z1) := A1.out.below hb2
      have hbw := Below.on hb1 hb2
      obtain ⟨l2, hl2e⟩ : ∃ l2, l2 = z2.length := ⟨_, rfl⟩
      rw [← hl2e] at A2 hl2 ⊢
      clear hk2 hn2 hg2 hl2e A1 hb1 hb2 B1
      go_wp2_with fail
      refine (radd_any A1'.out A2.out N1.out N2.out (by omega) (by omega)).mono ?_
      rintro e w3 ⟨p3, m3, z3, rfl, hA3, hN3, hb3⟩
      have A3 : Hid (At32 w3 p3 m3 m3 z3) := hA3
      have N3 : Hid (Nf B32 z3 (valB B64 xs + valB B64 ys)) := hN3
      have hm3 : m3 ≤ 35184372088832 := by
        have h1 := nf32_lt N1.out (K := 16384) (by rw [A1'.out.len]; omega)
        have h2 := nf32_lt N2.out (K := 16384) (by rw [A2.out.len]; omega)
        rcases Nat.lt_or_ge 16385 m3 with e | e
        · exfalso
          obtain ⟨J, hJ⟩ : ∃ J, J = 16384 := ⟨_, rfl⟩
          have h3 := nf32_ge N3.out (K := J + 1) (by rw [A3.out.len]; omega)
          rw [← hJ] at h1 h2
          rw [Nat.pow_succ] at h3
          have : B32 ^ J * 2 ≤ B32 ^ J * B32 := Nat.mul_le_mul_left _ (by decide)
          omega
        · omega
      have hbw3 := Below.on hbw hb3
      clear hA3 hN3 hb3 hbw A1' A2 N1 N2
      go_wp2_with fail
      refine (rtold_any A3.out N3.out hm3).mono ?_
      rintro e w4 ⟨p4, m4, N4, us, f4, rfl, hA4, hD4, hb4⟩
      have HA4 : Hid (At w4 p4 m4 N4 us) := hA4
      have HD4 : Hid (TwoIs addR xs ys us f4) := .inr ⟨HFX.out, HFY.out, hD4⟩
      have hbw4 := Below.on hbw3 hb4
      clear hA4 hD4 hbw3 hb4
      go_wp2_with fail
      go_ret2
      exact ⟨p4, m4, N4, us, f4, rfl, HA4.out, HD4.out, hbw4⟩

set_option maxRecDepth 20000 in
set_option maxHeartbeats 2000000 in
theorem docsubD {p q : Option Addr} {n m c d : Nat} {xs ys : List Nat} {w : World} (h : At w p n c xs) (k : At w q m d ys) :
    Calls Tryd.prog 93 #[.slice p n c, .slice q m d] w fun e w' => ∃ p' m' N' us f, e = .returned (.tuple #[.slice p' m' N', .int .i64 f]) ∧ At w' p' m' N' us ∧ TwoIs subR xs ys us f ∧ Below w.heap.size w w' := by
  have HA : Hid (At w p n c xs) := h
  have HB : Hid (At w q m d ys) := k
  clear h k
  cases hx : formB xs
  · have HF : Hid ((formB xs && formB ys) = false) := by show _ = _; rw [hx]; rfl
    go_enter Tryd.func93, Tryd.ntmps93
    go_wp2_with fail
    refine (docform_any HA.out).mono ?_
    rintro e w1 ⟨rfl, hw⟩
    rw [hx]
    obtain rfl := hw.symm
    clear hw
    go_wp2_with fail
    go_ret2
    exact ⟨none, 0, 0, [], 2, rfl, At.empty _ none 0 (by decide), .inl ⟨HF.out, rfl, rfl⟩, Below.refl _ _⟩
  · cases hy : formB ys
    · have HF : Hid ((formB xs && formB ys) = false) := by show _ = _; rw [hx, hy]; rfl
      go_enter Tryd.func93, Tryd.ntmps93
      go_wp2_with fail
      refine (docform_any HA.out).mono ?_
      rintro e w1 ⟨rfl, hw⟩
      rw [hx]
      obtain rfl := hw.symm
      clear hw
      go_wp2_with fail
      refine (docform_any HB.out).mono ?_
      rintro e w1 ⟨rfl, hw⟩
      rw [hy]
      obtain rfl := hw.symm
      clear hw
      go_wp2_with fail
      go_ret2
      exact ⟨none, 0, 0, [], 2, rfl, At.empty _ none 0 (by decide), .inl ⟨HF.out, rfl, rfl⟩, Below.refl _ _⟩
    · have HFX : Hid (formB xs = true) := hx
      have HFY : Hid (formB ys = true) := hy
      have hn : n ≤ 8192 := by have := form_len hx; rw [HA.out.len] at this; exact this
      have hm : m ≤ 8192 := by have := form_len hy; rw [HB.out.len] at this; exact this
      go_enter Tryd.func93, Tryd.ntmps93
      go_wp2_with fail
      refine (docform_any HA.out).mono ?_
      rintro e w1 ⟨rfl, hw⟩
      rw [hx]
      obtain rfl := hw.symm
      clear hw
      go_wp2_with fail
      refine (docform_any HB.out).mono ?_
      rintro e w1 ⟨rfl, hw⟩
      rw [hy]
      obtain rfl := hw.symm
      clear hw hx hy
      go_wp2_with fail
      refine (from_any HA.out (by omega)).mono ?_
      rintro e w1 ⟨g1, z1, rfl, hg1, hk1, hn1, hl1, hb1⟩
      have A1 : Hid (At32 w1 (some ⟨g1, 0, none⟩) z1.length z1.length z1) := hk1.at_ hn1.dig rfl (by unfold maxLen; omega)
      have N1 : Hid (Nf B32 z1 (valB B64 xs)) := hn1
      have B1 : Hid (At w1 q m d ys) := HB.out.below hb1
      obtain ⟨l1, hl1e⟩ : ∃ l1, l1 = z1.length := ⟨_, rfl⟩
      rw [← hl1e] at A1 hl1 ⊢
      clear hk1 hn1 hg1 hl1e
      go_wp2_with fail
      refine (from_any B1.out (by omega)).mono ?_
      rintro e w2 ⟨g2, z2, rfl, hg2, hk2, hn2, hl2, hb2⟩
      have A2 : Hid (At32 w2 (some ⟨g2, 0, none⟩) z2.length z2.length z2) := hk2.at_ hn2.dig rfl (by unfold maxLen; omega)
      have N2 : Hid (Nf B32 z2 (valB B64 ys)) := hn2
      have A1' : Hid (At32 w2 (some ⟨g1, 0, none⟩) l1 l1 z1) := A1.out.below hb2
      have hbw := Below.on hb1 hb2
      obtain ⟨l2, hl2e⟩ : ∃ l2, l2 = z2.length := ⟨_, rfl⟩
      rw [← hl2e] at A2 hl2 ⊢
      clear hk2 hn2 hg2 hl2e A1 hb1 hb2 B1
      go_wp2_with fail
      refine (rcmp_any A1'.out A2.out N1.out N2.out).mono ?_
      rintro e wq ⟨rfl, r, rfl⟩
      have hbc : Below w.heap.size w (w2.drewN r) := bDrewN hbw r
      clear hbw A1' A2
      generalize w2.drewN r = w3 at *
      rcases Nat.lt_or_ge (valB B64 xs) (valB B64 ys) with hlt | hge
      · have HLT : Hid (valB B64 xs < valB B64 ys) := hlt
        rw [cmpN_lt hlt]
        clear hlt
        go_wp2_with fail
        go_ret2
        exact ⟨none, 0, 0, [], 3, rfl, At.empty _ none 0 (by decide), .inr ⟨HFX.out, HFY.out, .inl ⟨HLT.out, rfl, rfl⟩⟩, hbc⟩
      have HGE : Hid (valB B64 ys ≤ valB B64 xs) := hge
      obtain ⟨cv, hcv, hcv0⟩ : ∃ cv : Int, cmpN (valB B64 xs) (valB B64 ys) = cv ∧ 0 ≤ cv := by
        rcases Nat.lt_or_ge (valB B64 ys) (valB B64 xs) with e | e
        · exact ⟨1, cmpN_gt e, by omega⟩
        · exact ⟨0, cmpN_eq (Nat.le_antisymm e hge), by omega⟩
      rw [hcv]
      have hcd : decide (cv < 0) = false := decide_eq_false (by omega)
      clear hge hcv hcv0
      go_wp2_with fail
      refine (from_any (HA.out.below hbc) (by omega)).mono ?_
      rintro e w4 ⟨g4, z4, rfl, hgq, hkq, hnq, hlq, hb4⟩
      have A4 : Hid (At32 w4 (some ⟨g4, 0, none⟩) z4.length z4.length z4) := hkq.at_ hnq.dig rfl (by unfold maxLen; omega)
      have N4 : Hid (Nf B32 z4 (valB B64 xs)) := hnq
      obtain ⟨l4, hlel4⟩ : ∃ l4, l4 = z4.length := ⟨_, rfl⟩
      rw [← hlel4] at A4 hlq ⊢
      have hll4 : l4 ≤ 16384 := by omega
      clear hkq hnq hgq hlel4 hlq
      have hbw4 := Below.on hbc hb4
      go_wp2_with fail
      refine (from_any (HB.out.below hbw4) (by omega)).mono ?_
      rintro e w5 ⟨g5, z5, rfl, hgq, hkq, hnq, hlq, hb5⟩
      have A5 : Hid (At32 w5 (some ⟨g5, 0, none⟩) z5.length z5.length z5) := hkq.at_ hnq.dig rfl (by unfold maxLen; omega)
      have N5 : Hid (Nf B32 z5 (valB B64 ys)) := hnq
      obtain ⟨l5, hlel5⟩ : ∃ l5, l5 = z5.length := ⟨_, rfl⟩
      rw [← hlel5] at A5 hlq ⊢
      have hll5 : l5 ≤ 16384 := by omega
      clear hkq hnq hgq hlel5 hlq
      have A45 : Hid (At32 w5 (some ⟨g4, 0, none⟩) l4 l4 z4) := A4.out.below hb5
      have hbw5 := Below.on hbw4 hb5
      clear A4 hb4 hb5 hbw4 hbc
      go_wp2_with fail
      refine (rsub_any A45.out A5.out N4.out N5.out (by omega) HGE.out).mono ?_
      rintro e w6 ⟨p6, m6, z6, rfl, hA6, hN6, hm6, hb6⟩
      have A6 : Hid (At32 w6 p6 m6 m6 z6) := hA6
      have N6 : Hid (Nf B32 z6 (valB B64 xs - valB B64 ys)) := hN6
      have hbw6 := Below.on hbw5 hb6
      clear hA6 hN6 hb6 hbw5
      go_wp2_with fail
      refine (rtold_any A6.out N6.out (by omega)).mono ?_
      rintro e w7 ⟨p7, m7, N7, us, f7, rfl, hA7, hD7, hb7⟩
      have HA7 : Hid (At w7 p7 m7 N7 us) := hA7
      have HD7 : Hid (TwoIs subR xs ys us f7) := .inr ⟨HFX.out, HFY.out, .inr ⟨HGE.out, hD7⟩⟩
      have hbw7 := Below.on hbw6 hb7
      clear hA7 hD7 hbw6 hb7
      go_wp2_with fail
      go_ret2
      exact ⟨p7, m7, N7, us, f7, rfl, HA7.out, HD7.out, hbw7⟩

end Go.Proofs.YteoihhgaipplfaaDoor

namespace Go.Proofs.YteoihhgaipplfaaDoor
open Go.RowKit Go.Shelf

set_option maxRecDepth 20000 in
set_option maxHeartbeats 400000 in
theorem divw_zero1 {p : Option Addr} {m c : Nat} {xs : List Nat} {a : Nat} {w : World} (h : At w p m c xs) (hx : Nf B64 xs a) (hm : m ≤ 8192) :
    Calls Tryd.prog 9 #[.slice p m c, .int .u64 0] w fun e w' => e = .returned (.tuple #[.slice none 0 0, .int .u64 0, .int .i64 4]) ∧ w' = w := by
  have fx := hx.form (by rw [h.len]; exact hm)
  go_enter Tryd.func9, Tryd.ntmps9
  go_wp2_with fail
  refine (form_true h fx).mono ?_
  rintro e w' ⟨rfl, hw⟩
  obtain rfl := hw.symm
  clear hw fx
  go_wp2_with fail
  go_ret3
  exact ⟨rfl, rfl⟩

/-- ref.DivMod. -/
theorem rdivmod_any {p q : Option Addr} {n m c d : Nat} {xs ys : List Nat} {a b : Nat} {w : World} (h : At32 w p n c xs) (k : At32 w q m d ys) (hx : Nf B32 xs a) (hy : Nf B32 ys b) (hn : n ≤ 16384) (hm : m ≤ 16384) (hb : b ≠ 0) :
    Calls Tryd.prog 119 #[.slice p n c, .slice q m d] w fun e w' => ∃ p1 m1 z1 p2 m2 z2, e = .returned (.tuple #[.slice p1 m1 m1, .slice p2 m2 m2]) ∧ At32 w' p1 m1 m1 z1 ∧ Nf B32 z1 (a / b) ∧ At32 w' p2 m2 m2 z2 ∧ Nf B32 z2 (a % b) ∧ m1 ≤ n ∧ m2 ≤ n ∧ Below w.heap.size w w' := by
  rcases Nat.lt_or_ge a b with hlt | hge
  · exact rdivmod_lt h k hx hy hn hm hb hlt
  · by_cases h1 : m = 1
    · exact rdivmod_one h k hx hy hn hm hb hge h1
    · have hm0 : m ≠ 0 := fun e => hb ((hy.zero_iff B32_one).1 (List.eq_nil_of_length_eq_zero (by rw [k.len]; exact e)))
      exact rdivmod_big h k hx hy hn hm hb hge (by omega)
/-- What MulWord tells. -/
def MwIs (xs : List Nat) (x : Nat) (us : List Nat) (f : Int) : Prop := (formB xs = false ∧ us = [] ∧ f = 2) ∨ (formB xs = true ∧ DocIs (valB B64 xs * x) us f)
theorem MwIs.inj {xs us us' : List Nat} {x : Nat} {f f' : Int} (h : MwIs xs x us f) (k : MwIs xs x us' f') : us = us' ∧ f = f' := by
  rcases h with ⟨h1, rfl, rfl⟩ | ⟨h1, h2⟩ <;> rcases k with ⟨k1, rfl, rfl⟩ | ⟨k1, k2⟩
  · exact ⟨rfl, rfl⟩
  · rw [h1] at k1; cases k1
  · rw [h1] at k1; cases k1
  · exact DocIs.inj h2 k2
theorem MwIs.er {xs us : List Nat} {x : Nat} {f : Int} (h : MwIs xs x us f) : f = 0 ∨ f = 1 ∨ f = 2 ∨ f = 3 ∨ f = 4 ∨ f = 5 := by
  rcases h with ⟨_, _, rfl⟩ | ⟨_, h2⟩
  · simp
  · rcases h2.er with e | e <;> simp [e]
/-- What DivWord tells. -/
def DwIs (xs : List Nat) (x : Nat) (us : List Nat) (r : Nat) (f : Int) : Prop :=
  (formB xs = false ∧ us = [] ∧ r = 0 ∧ f = 2) ∨ (formB xs = true ∧ x = 0 ∧ us = [] ∧ r = 0 ∧ f = 4) ∨ (formB xs = true ∧ x ≠ 0 ∧ Nf B64 us (valB B64 xs / x) ∧ r = valB B64 xs % x ∧ f = 0)
theorem DwIs.inj {xs us us' : List Nat} {x r r' : Nat} {f f' : Int} (h : DwIs xs x us r f) (k : DwIs xs x us' r' f') : us = us' ∧ r = r' ∧ f = f' := by
  rcases h with ⟨h1, rfl, rfl, rfl⟩ | ⟨h1, h2, rfl, rfl, rfl⟩ | ⟨h1, h2, h3, rfl, rfl⟩ <;> rcases k with ⟨k1, rfl, rfl, rfl⟩ | ⟨k1, k2, rfl, rfl, rfl⟩ | ⟨k1, k2, k3, rfl, rfl⟩
  · exact ⟨rfl, rfl, rfl⟩
  · rw [h1] at k1; cases k1
  · rw [h1] at k1; cases k1
  · rw [h1] at k1; cases k1
  · exact ⟨rfl, rfl, rfl⟩
  · exact absurd h2 k2
  · rw [h1] at k1; cases k1
  · exact absurd k2 h2
  · exact ⟨h3.inj B64_one k3, rfl, rfl⟩
theorem DwIs.er {xs us : List Nat} {x r : Nat} {f : Int} (h : DwIs xs x us r f) : f = 0 ∨ f = 1 ∨ f = 2 ∨ f = 3 ∨ f = 4 ∨ f = 5 := by
  rcases h with ⟨_, _, _, rfl⟩ | ⟨_, _, _, _, rfl⟩ | ⟨_, _, _, _, rfl⟩ <;> simp
set_option maxRecDepth 20000 in
set_option maxHeartbeats 4000000 in
theorem mulP {p : Option Addr} {n c : Nat} {xs : List Nat} {w : World} (h : At w p n c xs) (x : Nat) (hx : x < B64) :
    Calls Tryd.prog 8 #[.slice p n c, U x] w fun e w' => ∃ p' m' N' us f, e = .returned (.tuple #[.slice p' m' N', .int .i64 f]) ∧ At w' p' m' N' us ∧ MwIs xs x us f ∧ Below w.heap.size w w' := by
  cases hf : formB xs
  · go_enter Tryd.func8, Tryd.ntmps8
    go_wp2_with fail
    refine (form_false h hf).mono ?_
    rintro e w1 ⟨rfl, hw⟩
    obtain rfl := hw.symm
    clear hw
    go_wp2_with fail
    go_ret2
    exact ⟨none, 0, 0, [], 2, rfl, At.empty _ none 0 (by decide), .inl ⟨hf, rfl, rfl⟩, Below.refl _ _⟩
  · obtain ⟨hN, hL⟩ := formB_nf hf h.dig
    rw [h.len] at hL
    refine (mulw_nf h hN hL x hx).mono ?_
    rintro e w1 ⟨ha, hb⟩
    rcases ha with ⟨hl, p1, m1, z1, rfl, ho, hn, hm⟩ | ⟨hl, rfl⟩
    · exact ⟨p1, m1, m1, z1, 0, rfl, ho.at_ hm, .inr ⟨hf, .inl ⟨hl, hn, rfl⟩⟩, hb⟩
    · exact ⟨none, 0, 0, [], 5, rfl, At.empty _ none 0 (by decide), .inr ⟨hf, .inr ⟨hl, rfl, rfl⟩⟩, hb⟩
set_option maxRecDepth 20000 in
set_option maxHeartbeats 4000000 in
theorem divP {p : Option Addr} {n c : Nat} {xs : List Nat} {w : World} (h : At w p n c xs) (x : Nat) (hx : x < B64) :
    Calls Tryd.prog 9 #[.slice p n c, U x] w fun e w' => ∃ p' m' N' us r f, e = .returned (.tuple #[.slice p' m' N', U r, .int .i64 f]) ∧ At w' p' m' N' us ∧ DwIs xs x us r f ∧ Below w.heap.size w w' := by
  cases hf : formB xs
  · go_enter Tryd.func9, Tryd.ntmps9
    go_wp2_with fail
    refine (form_false h hf).mono ?_
    rintro e w1 ⟨rfl, hw⟩
    obtain rfl := hw.symm
    clear hw
    go_wp2_with fail
    go_ret3
    exact ⟨none, 0, 0, [], 0, 2, rfl, At.empty _ none 0 (by decide), .inl ⟨hf, rfl, rfl, rfl⟩, Below.refl _ _⟩
  · obtain ⟨hN, hL⟩ := formB_nf hf h.dig
    rw [h.len] at hL
    by_cases h0 : x = 0
    · subst h0
      refine (divw_zero1 h hN hL).mono ?_
      rintro e w1 ⟨rfl, rfl⟩
      exact ⟨none, 0, 0, [], 0, 4, rfl, At.empty _ none 0 (by decide), .inr (.inl ⟨hf, rfl, rfl, rfl, rfl⟩), Below.refl _ _⟩
    · refine (divw_nf h hN hL x hx h0).mono ?_
      rintro e w1 ⟨⟨p1, m1, z1, rfl, ho, hn, hm⟩, hb⟩
      exact ⟨p1, m1, m1, z1, _, 0, rfl, ho.at_ hm, .inr (.inr ⟨hf, h0, hn, rfl, rfl⟩), hb⟩
set_option maxRecDepth 20000 in
set_option maxHeartbeats 4000000 in
theorem docmulD {p : Option Addr} {n c : Nat} {xs : List Nat} {w : World} (h : At w p n c xs) (x : Nat) (hx : x < B64) :
    Calls Tryd.prog 97 #[.slice p n c, U x] w fun e w' => ∃ p' m' N' us f, e = .returned (.tuple #[.slice p' m' N', .int .i64 f]) ∧ At w' p' m' N' us ∧ MwIs xs x us f ∧ Below w.heap.size w w' := by
  have HA : Hid (At w p n c xs) := h
  clear h
  cases hf : formB xs
  · go_enter Tryd.func97, Tryd.ntmps97
    go_wp2_with fail
    refine (docform_any HA.out).mono ?_
    rintro e w1 ⟨rfl, hw⟩
    rw [hf]
    obtain rfl := hw.symm
    clear hw
    go_wp2_with fail
    go_ret2
    exact ⟨none, 0, 0, [], 2, rfl, At.empty _ none 0 (by decide), .inl ⟨hf, rfl, rfl⟩, Below.refl _ _⟩
  · have hn : n ≤ 8192 := by have := form_len hf; rw [HA.out.len] at this; exact this
    have HF : Hid (formB xs = true) := hf
    go_enter Tryd.func97, Tryd.ntmps97
    go_wp2_with fail
    refine (docform_any HA.out).mono ?_
    rintro e w1 ⟨rfl, hw⟩
    rw [hf]
    obtain rfl := hw.symm
    clear hw hf
    go_wp2_with fail
    refine (from_any HA.out (by omega)).mono ?_
    rintro e w1 ⟨g1, z1, rfl, hg1, hk1, hn1, hl1, hb1⟩
    have A1 : Hid (At32 w1 (some ⟨g1, 0, none⟩) z1.length z1.length z1) := hk1.at_ hn1.dig rfl (by unfold maxLen; omega)
    have N1 : Hid (Nf B32 z1 (valB B64 xs) ∧ z1.length ≤ 2 * n) := ⟨hn1, hl1⟩
    have HB1 : Hid (Below w.heap.size w w1) := hb1
    clear hk1 hn1 hl1 hg1 hb1
    go_wp2_with fail
    refine (rword x hx w1).mono ?_
    rintro e w2 ⟨g2, z2, rfl, hl2, hA2, hN2, hb2⟩
    have A2 : Hid (At32 w2 (some ⟨g2, 0, none⟩) z2.length z2.length z2) := hA2
    have N2 : Hid (Nf B32 z2 x ∧ z2.length ≤ 2) := ⟨hN2, hl2⟩
    have A12 : Hid (At32 w2 (some ⟨g1, 0, none⟩) z1.length z1.length z1) := A1.out.below hb2
    have HB2 : Hid (Below w.heap.size w w2) := Below.on HB1.out hb2
    clear hA2 hN2 hl2 hb2 A1 HB1
    go_wp2_with fail
    refine (rmul_any A12.out A2.out N1.out.1 N2.out.1 (by have := N1.out.2; omega) (by have := N2.out.2; omega)).mono ?_
    rintro e w3 ⟨p3, m3, z3, rfl, hA3, hN3, hl3, hb3⟩
    have A3 : Hid (At32 w3 p3 m3 m3 z3) := hA3
    have N3 : Hid (Nf B32 z3 (valB B64 xs * x)) := hN3
    have hm3 : m3 ≤ 20000 := by have := N1.out.2; have := N2.out.2; omega
    have HM3 : Hid (m3 ≤ 20000) := hm3
    have HB3 : Hid (Below w.heap.size w w3) := Below.on HB2.out hb3
    clear hA3 hN3 hl3 hb3 hm3 A12 A2 HB2
    go_wp2_with fail
    refine (rtold_any A3.out N3.out (by have := HM3.out; omega)).mono ?_
    rintro e w4 ⟨p4, m4, N4, us, f4, rfl, hA4, hD4, hb4⟩
    have A4 : Hid (At w4 p4 m4 N4 us) := hA4
    have D4 : Hid (DocIs (valB B64 xs * x) us f4) := hD4
    have HB4 : Hid (Below w.heap.size w w4) := Below.on HB3.out hb4
    clear hA4 hD4 hb4 A3 HB3
    go_wp2_with fail
    go_ret2
    exact ⟨p4, m4, N4, us, f4, rfl, A4.out, .inr ⟨HF.out, D4.out⟩, HB4.out⟩
end Go.Proofs.YteoihhgaipplfaaDoor

namespace Go.Proofs.YteoihhgaipplfaaDoor
open Go.RowKit Go.Shelf

set_option maxRecDepth 20000 in
/-- ref.Fits, of a number of one word. -/
theorem rfits_pos {p : Option Addr} {n c : Nat} {zs : List Nat} {v : Nat} {w : World} (h : At32 w p n c zs) (hx : Nf B32 zs v) (hn : n ≤ 16384) (h0 : 0 < v) (h9 : v < B64) :
    Calls Tryd.prog 120 #[.slice p n c] w fun e w' => e = .returned (.tuple #[U v, .bool true]) ∧ Below w.heap.size w w' := by
  have HA : Hid (At32 w p n c zs) := h
  have HX : Hid (Nf B32 zs v) := hx
  have H0 : Hid (0 < v ∧ v < B64) := ⟨h0, h9⟩
  clear h hx h0 h9
  go_enter Tryd.func120, Tryd.ntmps120
  go_wp2_with fail
  refine (rto_any HA.out (by omega)).mono ?_
  rintro e w1 ⟨g, k, N, us, rfl, hg, hA1, hN1, hb1⟩
  have hus : us = [v] := by
    rw [HX.out.val] at hN1
    exact hN1.inj B64_one ⟨dig1 H0.out.2, by intro y hy; simp at hy; have := H0.out.1; omega, by simp [valB]⟩
  have hk : k = 1 := by rw [← hA1.len, hus]; rfl
  subst hk
  subst hus
  obtain ⟨g', off, hg', hc⟩ := hA1.cells.resolve_left (by decide)
  simp only [Option.some.injEq, Addr.mk.injEq] at hg'
  obtain ⟨rfl, rfl, _⟩ := hg'
  have hc0 : w1.cell? ⟨g, 0, none⟩ = some (U v) := hc 0 (by decide)
  have hcap := hA1.cap
  have HB1 : Hid (Below w.heap.size w w1) := hb1
  clear hA1 hN1 hc hb1 hg
  go_wp2_with fail
  go_ret2
  exact ⟨rfl, HB1.out⟩
set_option maxRecDepth 20000 in
theorem rfits_zero {p : Option Addr} {n c : Nat} {zs : List Nat} {w : World} (h : At32 w p n c zs) (hx : Nf B32 zs 0) (hn : n ≤ 16384) :
    Calls Tryd.prog 120 #[.slice p n c] w fun e w' => e = .returned (.tuple #[U 0, .bool true]) ∧ Below w.heap.size w w' := by
  have HA : Hid (At32 w p n c zs) := h
  have HX : Hid (Nf B32 zs 0) := hx
  clear h hx
  go_enter Tryd.func120, Tryd.ntmps120
  go_wp2_with fail
  refine (rto_any HA.out (by omega)).mono ?_
  rintro e w1 ⟨g, k, N, us, rfl, hg, hA1, hN1, hb1⟩
  have hus : us = [] := by
    rw [HX.out.val] at hN1
    exact (hN1.zero_iff B64_one).2 rfl
  have hk : k = 0 := by rw [← hA1.len, hus]; rfl
  subst hk
  have HB1 : Hid (Below w.heap.size w w1) := hb1
  clear hA1 hN1 hb1 hg hus
  go_wp2_with fail
  go_ret2
  exact ⟨rfl, HB1.out⟩
theorem rfits_any {p : Option Addr} {n c : Nat} {zs : List Nat} {v : Nat} {w : World} (h : At32 w p n c zs) (hx : Nf B32 zs v) (hn : n ≤ 16384) (h9 : v < B64) :
    Calls Tryd.prog 120 #[.slice p n c] w fun e w' => e = .returned (.tuple #[U v, .bool true]) ∧ Below w.heap.size w w' := by
  rcases Nat.eq_zero_or_pos v with e | e
  · subst e; exact rfits_zero h hx hn
  · exact rfits_pos h hx hn e h9
set_option maxRecDepth 20000 in
set_option maxHeartbeats 4000000 in
theorem docdivD {p : Option Addr} {n c : Nat} {xs : List Nat} {w : World} (h : At w p n c xs) (x : Nat) (hx : x < B64) :
    Calls Tryd.prog 98 #[.slice p n c, U x] w fun e w' => ∃ p' m' N' us r f, e = .returned (.tuple #[.slice p' m' N', U r, .int .i64 f]) ∧ At w' p' m' N' us ∧ DwIs xs x us r f ∧ Below w.heap.size w w' := by
  have HA : Hid (At w p n c xs) := h
  clear h
  cases hf : formB xs
  · go_enter Tryd.func98, Tryd.ntmps98
    go_wp2_with fail
    refine (docform_any HA.out).mono ?_
    rintro e w1 ⟨rfl, hw⟩
    rw [hf]
    obtain rfl := hw.symm
    clear hw
    go_wp2_with fail
    go_ret3
    exact ⟨none, 0, 0, [], 0, 2, rfl, At.empty _ none 0 (by decide), .inl ⟨hf, rfl, rfl, rfl⟩, Below.refl _ _⟩
  · have hn : n ≤ 8192 := by have := form_len hf; rw [HA.out.len] at this; exact this
    have HF : Hid (formB xs = true) := hf
    by_cases h0 : x = 0
    · have hx0 : ((x : Int) == 0) = true := by simp; omega
      have H0 : Hid (x = 0) := h0
      clear h0
      go_enter Tryd.func98, Tryd.ntmps98
      go_wp2_with fail
      refine (docform_any HA.out).mono ?_
      rintro e w1 ⟨rfl, hw⟩
      rw [hf]
      obtain rfl := hw.symm
      clear hw
      go_wp2_with fail
      go_ret3
      exact ⟨none, 0, 0, [], 0, 4, rfl, At.empty _ none 0 (by decide), .inr (.inl ⟨HF.out, H0.out, rfl, rfl, rfl⟩), Below.refl _ _⟩
    · have hx0 : ((x : Int) == 0) = false := by simp; omega
      have H0 : Hid (x ≠ 0) := h0
      clear h0
      go_enter Tryd.func98, Tryd.ntmps98
      go_wp2_with fail
      refine (docform_any HA.out).mono ?_
      rintro e w1 ⟨rfl, hw⟩
      rw [hf]
      obtain rfl := hw.symm
      clear hw hf
      go_wp2_with fail
      refine (from_any HA.out (by omega)).mono ?_
      rintro e w1 ⟨g1, z1, rfl, hg1, hk1, hn1, hl1, hb1⟩
      have A1 : Hid (At32 w1 (some ⟨g1, 0, none⟩) z1.length z1.length z1) := hk1.at_ hn1.dig rfl (by unfold maxLen; omega)
      have N1 : Hid (Nf B32 z1 (valB B64 xs) ∧ z1.length ≤ 2 * n) := ⟨hn1, hl1⟩
      have HB1 : Hid (Below w.heap.size w w1) := hb1
      clear hk1 hn1 hl1 hg1 hb1
      go_wp2_with fail
      refine (rword x hx w1).mono ?_
      rintro e w2 ⟨g2, z2, rfl, hl2, hA2, hN2, hb2⟩
      have A2 : Hid (At32 w2 (some ⟨g2, 0, none⟩) z2.length z2.length z2) := hA2
      have N2 : Hid (Nf B32 z2 x ∧ z2.length ≤ 2) := ⟨hN2, hl2⟩
      have A12 : Hid (At32 w2 (some ⟨g1, 0, none⟩) z1.length z1.length z1) := A1.out.below hb2
      have HB2 : Hid (Below w.heap.size w w2) := Below.on HB1.out hb2
      clear hA2 hN2 hl2 hb2 A1 HB1
      go_wp2_with fail
      refine (rdivmod_any A12.out A2.out N1.out.1 N2.out.1 (by have := N1.out.2; omega) (by have := N2.out.2; omega) H0.out).mono ?_
      rintro e w3 ⟨p3, m3, z3, p4, m4, z4, rfl, hA3, hN3, hA4, hN4, hl3, hl4, hb3⟩
      have A3 : Hid (At32 w3 p3 m3 m3 z3) := hA3
      have A4 : Hid (At32 w3 p4 m4 m4 z4) := hA4
      have N3 : Hid (Nf B32 z3 (valB B64 xs / x) ∧ Nf B32 z4 (valB B64 xs % x) ∧ m3 ≤ 16384 ∧ m4 ≤ 16384) := ⟨hN3, hN4, by have := N1.out.2; omega, by have := N1.out.2; omega⟩
      have HB3 : Hid (Below w.heap.size w w3) := Below.on HB2.out hb3
      clear hA3 hN3 hA4 hN4 hl3 hl4 hb3 A12 A2 HB2
      obtain ⟨R, hR⟩ : ∃ R, R = valB B64 xs % x := ⟨_, rfl⟩
      have HR : Hid (R = valB B64 xs % x ∧ R < B64) := ⟨hR, by rw [hR]; exact Nat.lt_trans (Nat.mod_lt _ (Nat.pos_of_ne_zero H0.out)) hx⟩
      clear hR
      go_wp2_with fail
      refine (rfits_any (v := R) A4.out (by rw [HR.out.1]; exact N3.out.2.1) N3.out.2.2.2 HR.out.2).mono ?_
      rintro e w4 ⟨rfl, hb4⟩
      have A34 : Hid (At32 w4 p3 m3 m3 z3) := A3.out.below hb4
      have HB4 : Hid (Below w.heap.size w w4) := Below.on HB3.out hb4
      clear hb4 A3 A4 HB3
      go_wp2_with fail
      refine (rto_any A34.out (by have := N3.out.2.2.1; omega)).mono ?_
      rintro e w5 ⟨g5, k5, N5, us, rfl, hg5, hA5, hN5, hb5⟩
      have A5 : Hid (At w5 (some ⟨g5, 0, none⟩) k5 N5 us) := hA5
      have N5q : Hid (Nf B64 us (valB B64 xs / x)) := by rw [N3.out.1.val] at hN5; exact hN5
      have HB5 : Hid (Below w.heap.size w w5) := Below.on HB4.out hb5
      clear hA5 hN5 hb5 hg5 A34 HB4
      go_wp2_with fail
      go_ret3
      exact ⟨_, k5, N5, us, R, 0, rfl, A5.out, .inr (.inr ⟨HF.out, H0.out, N5q.out, HR.out.1, rfl⟩), HB5.out⟩
set_option maxRecDepth 20000 in
set_option maxHeartbeats 2000000 in
theorem list13 {pa pb : Option Addr} {na nb ca cb : Nat} {xa : List Nat} {w : World} (h : At w pa na ca xa) (nn : Int) (x : Nat) (hx : x < B64) :
    Calls Tryd.prog 64 #[.agg #[.int .i64 13, .slice pa na ca, .slice pb nb cb, .int .i64 nn, U x]] w fun e w' => ∃ p' m' N' us f, e = .returned (.tuple #[.slice p' m' N', .int .u64 0, .int .i64 f]) ∧ At w' p' m' N' us ∧ MwIs xa x us f ∧ Below w.heap.size w w' := by
  have HA : Hid (At (w.alloc (.cells #[.int .i64 13, .slice pa na ca, .slice pb nb cb, .int .i64 nn, U x] 61)) pa na ca xa) := h.alloc _
  have hb0 : Below w.heap.size w (w.alloc (.cells #[.int .i64 13, .slice pa na ca, .slice pb nb cb, .int .i64 nn, U x] 61)) := below1 w _
  clear h
  go_enter Tryd.func64, Tryd.ntmps64
  go_wp2_with fail
  refine (mulP HA.out x hx).mono ?_
  rintro e w1 ⟨p1, m1, N1, us, f1, rfl, hA1, hD1, hb1⟩
  have A1 : Hid (At w1 p1 m1 N1 us) := hA1
  have D1 : Hid (MwIs xa x us f1) := hD1
  have hbw := Below.on hb0 hb1
  clear hA1 hD1 hb1 hb0 HA
  go_wp2_with fail
  go_ret3
  exact ⟨p1, m1, N1, us, f1, rfl, A1.out, D1.out, hbw⟩
set_option maxRecDepth 20000 in
set_option maxHeartbeats 2000000 in
theorem doc13 {pa pb : Option Addr} {na nb ca cb : Nat} {xa : List Nat} {w : World} (h : At w pa na ca xa) (nn : Int) (x : Nat) (hx : x < B64) :
    Calls Tryd.prog 66 #[.agg #[.int .i64 13, .slice pa na ca, .slice pb nb cb, .int .i64 nn, U x]] w fun e w' => ∃ p' m' N' us f, e = .returned (.tuple #[.slice p' m' N', .int .u64 0, .int .i64 f]) ∧ At w' p' m' N' us ∧ MwIs xa x us f ∧ Below w.heap.size w w' := by
  have HA : Hid (At (w.alloc (.cells #[.int .i64 13, .slice pa na ca, .slice pb nb cb, .int .i64 nn, U x] 61)) pa na ca xa) := h.alloc _
  have hb0 : Below w.heap.size w (w.alloc (.cells #[.int .i64 13, .slice pa na ca, .slice pb nb cb, .int .i64 nn, U x] 61)) := below1 w _
  clear h
  go_enter Tryd.func66, Tryd.ntmps66
  go_wp2_with fail
  refine (docmulD HA.out x hx).mono ?_
  rintro e w1 ⟨p1, m1, N1, us, f1, rfl, hA1, hD1, hb1⟩
  have A1 : Hid (At w1 p1 m1 N1 us) := hA1
  have D1 : Hid (MwIs xa x us f1) := hD1
  have hbw := Below.on hb0 hb1
  clear hA1 hD1 hb1 hb0 HA
  go_wp2_with fail
  go_ret3
  exact ⟨p1, m1, N1, us, f1, rfl, A1.out, D1.out, hbw⟩
set_option maxRecDepth 20000 in
set_option maxHeartbeats 2000000 in
theorem list14 {pa pb : Option Addr} {na nb ca cb : Nat} {xa : List Nat} {w : World} (h : At w pa na ca xa) (nn : Int) (x : Nat) (hx : x < B64) :
    Calls Tryd.prog 64 #[.agg #[.int .i64 14, .slice pa na ca, .slice pb nb cb, .int .i64 nn, U x]] w fun e w' => ∃ p' m' N' us r f, e = .returned (.tuple #[.slice p' m' N', U r, .int .i64 f]) ∧ At w' p' m' N' us ∧ DwIs xa x us r f ∧ Below w.heap.size w w' := by
  have HA : Hid (At (w.alloc (.cells #[.int .i64 14, .slice pa na ca, .slice pb nb cb, .int .i64 nn, U x] 61)) pa na ca xa) := h.alloc _
  have hb0 : Below w.heap.size w (w.alloc (.cells #[.int .i64 14, .slice pa na ca, .slice pb nb cb, .int .i64 nn, U x] 61)) := below1 w _
  clear h
  go_enter Tryd.func64, Tryd.ntmps64
  go_wp2_with fail
  refine (divP HA.out x hx).mono ?_
  rintro e w1 ⟨p1, m1, N1, us, r1, f1, rfl, hA1, hD1, hb1⟩
  have A1 : Hid (At w1 p1 m1 N1 us) := hA1
  have D1 : Hid (DwIs xa x us r1 f1) := hD1
  have hbw := Below.on hb0 hb1
  clear hA1 hD1 hb1 hb0 HA
  go_wp2_with fail
  go_ret3
  exact ⟨p1, m1, N1, us, r1, f1, rfl, A1.out, D1.out, hbw⟩
set_option maxRecDepth 20000 in
set_option maxHeartbeats 2000000 in
theorem doc14 {pa pb : Option Addr} {na nb ca cb : Nat} {xa : List Nat} {w : World} (h : At w pa na ca xa) (nn : Int) (x : Nat) (hx : x < B64) :
    Calls Tryd.prog 66 #[.agg #[.int .i64 14, .slice pa na ca, .slice pb nb cb, .int .i64 nn, U x]] w fun e w' => ∃ p' m' N' us r f, e = .returned (.tuple #[.slice p' m' N', U r, .int .i64 f]) ∧ At w' p' m' N' us ∧ DwIs xa x us r f ∧ Below w.heap.size w w' := by
  have HA : Hid (At (w.alloc (.cells #[.int .i64 14, .slice pa na ca, .slice pb nb cb, .int .i64 nn, U x] 61)) pa na ca xa) := h.alloc _
  have hb0 : Below w.heap.size w (w.alloc (.cells #[.int .i64 14, .slice pa na ca, .slice pb nb cb, .int .i64 nn, U x] 61)) := below1 w _
  clear h
  go_enter Tryd.func66, Tryd.ntmps66
  go_wp2_with fail
  refine (docdivD HA.out x hx).mono ?_
  rintro e w1 ⟨p1, m1, N1, us, r1, f1, rfl, hA1, hD1, hb1⟩
  have A1 : Hid (At w1 p1 m1 N1 us) := hA1
  have D1 : Hid (DwIs xa x us r1 f1) := hD1
  have hbw := Below.on hb0 hb1
  clear hA1 hD1 hb1 hb0 HA
  go_wp2_with fail
  go_ret3
  exact ⟨p1, m1, N1, us, r1, f1, rfl, A1.out, D1.out, hbw⟩
set_option maxRecDepth 20000 in
set_option maxHeartbeats 4000000 in
theorem plays_13 {pa pb : Option Addr} {na nb ca cb : Nat} {xa xb : List Nat} {w : World} (h : At w pa na ca xa) (k : At w pb nb cb xb) (hna : na ≤ 17592186044416) (hnb : nb ≤ 17592186044416) (nn : Int) (x : Nat) (hx : x < B64) :
    Calls Tryd.prog 41 #[.agg #[.int .i64 13, .slice pa na ca, .slice pb nb cb, .int .i64 nn, U x]] w fun e w' => e = .returned (.bool true) ∧ Below w.heap.size w w' := by
  have HA : Hid (At w pa na ca xa) := h
  have HB : Hid (At w pb nb cb xb) := k
  clear h k
  go_enter Tryd.func41, Tryd.ntmps41
  go_wp2_with fail
  have X0 : B5 (w.alloc (.cells #[.int .i64 13, .slice pa na ca, .slice pb nb cb, .int .i64 nn, U x] 61)) w.heap.size (.int .i64 13) (.slice pa na ca) (.slice pb nb cb) (.int .i64 nn) (U x) := B5.new ..
  have hb0 : Below w.heap.size w (w.alloc (.cells #[.int .i64 13, .slice pa na ca, .slice pb nb cb, .int .i64 nn, U x] 61)) := below1 w _
  generalize w.alloc (.cells #[.int .i64 13, .slice pa na ca, .slice pb nb cb, .int .i64 nn, U x] 61) = W at *
  obtain ⟨g, hg⟩ : ∃ g, g = w.heap.size := ⟨_, rfl⟩
  rw [← hg] at X0 ⊢
  clear hg
  refine (twin5 (HA.out.below hb0) (HB.out.below hb0) hna hnb 13 nn x).mono ?_
  rintro e w1 ⟨p1, p2, rfl, hA1, hA2, hb1⟩
  have X1 : Hid (B5 w1 g (.int .i64 13) (.slice pa na ca) (.slice pb nb cb) (.int .i64 nn) (U x)) := X0.below hb1
  have A1 : Hid (At w1 p1 na na xa) := hA1
  have A2 : Hid (At w1 p2 nb nb xb) := hA2
  have HB1 : Hid (Below w.heap.size w w1) := Below.on hb0 hb1
  clear X0 hb0 hA1 hA2 hb1
  go_wp2_with fail
  refine (list13 A1.out nn x hx).mono ?_
  rintro e w2 ⟨p3, m3, N3, u3, f3, rfl, hA3, hD3, hb3⟩
  have A3 : Hid (At w2 p3 m3 N3 u3) := hA3
  have D3 : Hid (MwIs xa x u3 f3) := hD3
  have HB3 : Hid (Below w.heap.size w w2) := Below.on HB1.out hb3
  obtain ⟨c0, c1, c2, c3, c4, c5, c6, c7, c8, c9⟩ := X1.out.below hb3
  clear hA3 hD3 hb3 X1 A1 A2 HB1
  go_wp2_with fail
  refine (doc13 (HA.out.below HB3.out) nn x hx).mono ?_
  rintro e w3 ⟨p4, m4, N4, u4, f4, rfl, hA4, hD4, hb4⟩
  obtain ⟨eu, ef⟩ := MwIs.inj D3.out hD4
  subst eu ef
  have A4 : Hid (At w3 p4 m4 N4 u3) := hA4
  have A34 : Hid (At w3 p3 m3 N3 u3) := A3.out.below hb4
  have hbw := Below.on HB3.out hb4
  clear c0 c1 c2 c3 c4 c5 c6 c7 c8 c9
  clear hA4 hD4 hb4 A3 HB3
  go_wp2_with fail
  refine (told1 f3 (MwIs.er D3.out) A34.out A4.out).mono ?_
  rintro e w4 ⟨rfl, hb5⟩
  have hbw5 := Below.on hbw hb5
  go_wp2_with fail
  go_ret
  exact ⟨rfl, hbw5⟩

set_option maxRecDepth 20000 in
set_option maxHeartbeats 4000000 in
theorem plays_14 {pa pb : Option Addr} {na nb ca cb : Nat} {xa xb : List Nat} {w : World} (h : At w pa na ca xa) (k : At w pb nb cb xb) (hna : na ≤ 17592186044416) (hnb : nb ≤ 17592186044416) (nn : Int) (x : Nat) (hx : x < B64) :
    Calls Tryd.prog 41 #[.agg #[.int .i64 14, .slice pa na ca, .slice pb nb cb, .int .i64 nn, U x]] w fun e w' => e = .returned (.bool true) ∧ Below w.heap.size w w' := by
  have HA : Hid (At w pa na ca xa) := h
  have HB : Hid (At w pb nb cb xb) := k
  clear h k
  go_enter Tryd.func41, Tryd.ntmps41
  go_wp2_with fail
  have X0 : B5 (w.alloc (.cells #[.int .i64 14, .slice pa na ca, .slice pb nb cb, .int .i64 nn, U x] 61)) w.heap.size (.int .i64 14) (.slice pa na ca) (.slice pb nb cb) (.int .i64 nn) (U x) := B5.new ..
  have hb0 : Below w.heap.size w (w.alloc (.cells #[.int .i64 14, .slice pa na ca, .slice pb nb cb, .int .i64 nn, U x] 61)) := below1 w _
  generalize w.alloc (.cells #[.int .i64 14, .slice pa na ca, .slice pb nb cb, .int .i64 nn, U x] 61) = W at *
  obtain ⟨g, hg⟩ : ∃ g, g = w.heap.size := ⟨_, rfl⟩
  rw [← hg] at X0 ⊢
  clear hg
  refine (twin5 (HA.out.below hb0) (HB.out.below hb0) hna hnb 14 nn x).mono ?_
  rintro e w1 ⟨p1, p2, rfl, hA1, hA2, hb1⟩
  have X1 : Hid (B5 w1 g (.int .i64 14) (.slice pa na ca) (.slice pb nb cb) (.int .i64 nn) (U x)) := X0.below hb1
  have A1 : Hid (At w1 p1 na na xa) := hA1
  have A2 : Hid (At w1 p2 nb nb xb) := hA2
  have HB1 : Hid (Below w.heap.size w w1) := Below.on hb0 hb1
  clear X0 hb0 hA1 hA2 hb1
  go_wp2_with fail
  refine (list14 A1.out nn x hx).mono ?_
  rintro e w2 ⟨p3, m3, N3, u3, r3, f3, rfl, hA3, hD3, hb3⟩
  have A3 : Hid (At w2 p3 m3 N3 u3) := hA3
  have D3 : Hid (DwIs xa x u3 r3 f3) := hD3
  have HB3 : Hid (Below w.heap.size w w2) := Below.on HB1.out hb3
  obtain ⟨c0, c1, c2, c3, c4, c5, c6, c7, c8, c9⟩ := X1.out.below hb3
  clear hA3 hD3 hb3 X1 A1 A2 HB1
  go_wp2_with fail
  refine (doc14 (HA.out.below HB3.out) nn x hx).mono ?_
  rintro e w3 ⟨p4, m4, N4, u4, r4, f4, rfl, hA4, hD4, hb4⟩
  obtain ⟨eu, er, ef⟩ := DwIs.inj D3.out hD4
  subst eu er ef
  have hrr : ((r3 : Int) == (r3 : Int)) = true := by simp
  have A4 : Hid (At w3 p4 m4 N4 u3) := hA4
  have A34 : Hid (At w3 p3 m3 N3 u3) := A3.out.below hb4
  have hbw := Below.on HB3.out hb4
  clear c0 c1 c2 c3 c4 c5 c6 c7 c8 c9
  clear hA4 hD4 hb4 A3 HB3
  go_wp2_with fail
  refine (told1 f3 (DwIs.er D3.out) A34.out A4.out).mono ?_
  rintro e w4 ⟨rfl, hb5⟩
  have hbw5 := Below.on hbw hb5
  go_wp2_with fail
  go_ret
  exact ⟨rfl, hbw5⟩

end Go.Proofs.YteoihhgaipplfaaDoor

namespace Go.Proofs.YteoihhgaipplfaaDoor
open Go.RowKit Go.Shelf

set_option maxRecDepth 20000 in
set_option maxHeartbeats 8000000 in
theorem allWd {P : Option Addr} {N C : Nat} {its : List Op5} {w : World} (h : Scr w P N C its) :
    Calls Tryd.prog 11 #[.slice P N C, .int .i64 13, .int .i64 14] w fun e w' => e = .returned (.bool true) ∧ Below w.heap.size w w' := by
  have H : Hid (Scr w P N C its) := h
  have HLN : Hid (its.length = N) := h.len
  have cap := h.cap; have big := h.big
  unfold maxLen at big
  clear h
  go_enter Tryd.func11, Tryd.ntmps11
  go_wp2_with fail
  go_loopg [11] N (fun gk iv wr => ∃ k : Nat, k + gk = N ∧ iv = .int .i64 k ∧ Below w.heap.size w wr)
  case atStart => exact ⟨0, by omega, rfl, Below.refl _ _⟩
  case round =>
    obtain ⟨k, hkg, rfl, hbw⟩ := hrel
    cases gk with
    | zero =>
      obtain rfl : k = N := by omega
      have hnk : ¬ (k : Int) < (k : Int) := by omega
      go_wp2_with fail
      go_ret
      exact ⟨rfl, hbw⟩
    | succ gg =>
      have hki : k < its.length := by rw [HLN.out]; omega
      have HR := H.out.below hbw
      obtain ⟨g, off, rfl, hc⟩ := HR.cells.resolve_left (by omega)
      obtain ⟨e0, e1, e2, e3, e4⟩ := hc k hki
      obtain ⟨hA, hB, hna, hnb, hwd, hn1, hn2⟩ := HR.ats its[k] (List.getElem_mem hki)
      have HA : Hid (At wr its[k].pa its[k].na its[k].ca its[k].xa) := hA
      have HB : Hid (At wr its[k].pb its[k].nb its[k].cb its[k].xb) := hB
      have hkk : (k : Int) < (N : Int) := by omega
      have hlt : g < wr.heap.size := World.block_lt_of_cell? wr _ e0
      clear hc HR hA hB hn1 hn2
      generalize its[k].k = kd at *
      generalize its[k].pa = pa at *
      generalize its[k].na = na at *
      generalize its[k].ca = ca at *
      generalize its[k].xa = xa at *
      generalize its[k].pb = pb at *
      generalize its[k].nb = nb at *
      generalize its[k].cb = cb at *
      generalize its[k].xb = xb at *
      generalize its[k].nn = nn at *
      generalize its[k].wd = wd at *
      by_cases h13 : kd = 13
      · subst h13
        go_wp2_with fail
        refine (plays_13 (HA.out.alloc _) (HB.out.alloc _) hna hnb nn wd hwd).mono ?_
        rintro e wz ⟨rfl, hbz⟩
        have hbw2 := Below.on hbw (Below.on (below1 wr _) hbz)
        clear hbw hbz HA HB e0 e1 e2 e3 e4
        go_wp2_with fail
        go_roundg gg
        case measure => omega
        case rel => exact ⟨k + 1, by omega, by go_num, hbw2⟩
      · by_cases h14 : kd = 14
        · subst h14
          go_wp2_with fail
          refine (plays_14 (HA.out.alloc _) (HB.out.alloc _) hna hnb nn wd hwd).mono ?_
          rintro e wz ⟨rfl, hbz⟩
          have hbw2 := Below.on hbw (Below.on (below1 wr _) hbz)
          clear hbw hbz HA HB e0 e1 e2 e3 e4
          go_wp2_with fail
          go_roundg gg
          case measure => omega
          case rel => exact ⟨k + 1, by omega, by go_num, hbw2⟩
        · have hbw2 := Below.on hbw (below1 wr (.cells #[.int .i64 kd, .slice pa na ca, .slice pb nb cb, .int .i64 nn, U wd] 61))
          clear HA HB
          by_cases h5 : kd < 13
          · have h4 : decide (13 ≤ kd) = false := decide_eq_false (by omega)
            go_wp2_with fail
            go_roundg gg
            case measure => omega
            case rel => exact ⟨k + 1, by omega, by go_num, hbw2⟩
          · have h4 : decide (13 ≤ kd) = true := decide_eq_true (by omega)
            have h6 : decide (kd ≤ 14) = false := decide_eq_false (by omega)
            go_wp2_with fail
            go_roundg gg
            case measure => omega
            case rel => exact ⟨k + 1, by omega, by go_num, hbw2⟩

theorem known_mulw : MwIs [18446744073709551615] 18446744073709551615 [1, 18446744073709551614] 0 := by
  have n1 : Nf B64 [1, 18446744073709551614] (valB B64 [18446744073709551615] * 18446744073709551615) :=
    ⟨dig2 (by decide) (by decide), by intro z hz; simp at hz; omega, by decide +kernel⟩
  exact .inr ⟨by decide, .inl ⟨n1.lim.1 (by simp), n1, rfl⟩⟩
theorem known_divw : DwIs [0, 1] 10 [1844674407370955161] 6 0 := by
  have n1 : Nf B64 [1844674407370955161] (valB B64 [0, 1] / 10) := by
    have := nf_one (x := 1844674407370955161) (by decide) (by decide)
    rw [show valB B64 [0, 1] / 10 = 1844674407370955161 from by decide +kernel]; exact this
  exact .inr (.inr ⟨by decide, by decide, n1, by decide +kernel, rfl⟩)
set_option maxRecDepth 20000 in
set_option maxHeartbeats 4000000 in
theorem natWords_walk {P : Option Addr} {N C : Nat} {its : List Op5} {w : World} (h : Scr w P N C its) :
    Calls Tryd.prog 3 #[.slice P N C] w fun e w' => e = .returned (.bool true) ∧ Below w.heap.size w w' := by
  have H : Hid (Scr w P N C its) := h
  clear h
  go_enter Tryd.func3, Tryd.ntmps3
  go_wp2_with fail
  rw [show Value.int IntKind.u64 18446744073709551615 = U 18446744073709551615 from rfl]
  refine (mulP (lit_at w _ [18446744073709551615] 1 rfl rfl (dig1 (by decide)) (by omega)) 18446744073709551615 (by decide)).mono ?_
  rintro e w1 ⟨p1, m1, N1, u1, f1, rfl, hA1, hD1, hb1⟩
  obtain ⟨eu, ef⟩ := known_mulw.inj hD1
  subst eu ef
  have A1 : Hid (At w1 p1 m1 N1 [1, 18446744073709551614]) := hA1
  have hbw1 := Below.on (below1 w _) hb1
  have H1 : Hid (Scr w1 P N C its) := H.out.below hbw1
  clear hA1 hD1 hb1 H
  go_wp2_with fail
  rw [show Value.int IntKind.u64 10 = U 10 from rfl]
  refine (divP (lit_at w1 _ [0, 1] 2 rfl rfl (dig2 (by decide) (by decide)) (by omega)) 10 (by decide)).mono ?_
  rintro e w2 ⟨p2, m2, N2, u2, r2, f2, rfl, hA2, hD2, hb2⟩
  obtain ⟨eu, er, ef⟩ := known_divw.inj hD2
  subst eu er ef
  have hbx2 := Below.on (below1 w1 _) hb2
  have A2 : Hid (At w2 p2 m2 N2 [1844674407370955161]) := hA2
  have A12 : Hid (At w2 p1 m1 N1 [1, 18446744073709551614]) := A1.out.below hbx2
  have hbw2 := Below.on hbw1 hbx2
  have H2 : Hid (Scr w2 P N C its) := H1.out.below hbx2
  clear hA2 hD2 hb2 hbx2 hbw1 H1 A1
  go_wp2_with fail
  refine (told1 0 (.inl rfl) (A12.out.alloc _) (lit_at w2 _ [1, 18446744073709551614] 2 rfl rfl (dig2 (by decide) (by decide)) (by omega))).mono ?_
  rintro e w3 ⟨rfl, hb3⟩
  have hbx3 := Below.on (below1 w2 _) hb3
  have A23 : Hid (At w3 p2 m2 N2 [1844674407370955161]) := A2.out.below hbx3
  have hbw3 := Below.on hbw2 hbx3
  have H3 : Hid (Scr w3 P N C its) := H2.out.below hbx3
  clear hb3 hbx3 hbw2 H2 A12 A2
  go_wp2_with fail
  refine (told1 0 (.inl rfl) (A23.out.alloc _) (lit_at w3 _ [1844674407370955161] 1 rfl rfl (dig1 (by decide)) (by omega))).mono ?_
  rintro e w4 ⟨rfl, hb4⟩
  have hbx4 := Below.on (below1 w3 _) hb4
  have hbw4 := Below.on hbw3 hbx4
  have H4 : Hid (Scr w4 P N C its) := H3.out.below hbx4
  clear hb4 hbx4 hbw3 H3 A23
  go_wp2_with fail
  refine (allWd H4.out).mono ?_
  rintro e w5 ⟨rfl, hb5⟩
  have hbw5 := Below.on hbw4 hb5
  clear hb5 hbw4
  go_wp2_with fail
  go_ret
  exact ⟨rfl, hbw5⟩
end Go.Proofs.YteoihhgaipplfaaDoor

