import Derived.Test.YtmkglkdhnbjjhaaOpenS
import Derived.Test.YtmkglkdhnbjjhaaNumRing
namespace Go.Proofs.Ytmkglkdhnbjjhaa
open Go.ChangeShapes Go.WideShapes Go.ChangeAt Go.RowKit Go.Deep

set_option maxRecDepth 100000 in
theorem numRing_lifted (os : Os) (started : os.Started) (H : Type) (enc : TypeId × Value → H) :
    ReturnsInHanded {} Try.checked os 3 .any (Rows.numRingSpec.pre6 enc Try.prog Try.f3 Rows.numRingRow.domain false) (Rows.numRingSpec.post enc Try.prog Try.f3 false true false false) := by
  refine returnsInHanded_of_change_sized (C := Try.checked) ownK started (by kernel_rfl) Try.func3
    (ChangeSpec.witness6 (enc := enc) (C := Try.checked) false ⟨#[], #[.agg #[.bool false, .slice none 0 0], .agg #[.bool false, .slice none 0 0], .agg #[.bool false, .slice none 0 0]], []⟩ 8 (by kernel_rfl) (by kernel_rfl) (by kernel_rfl) (by kernel_rfl)) ?_
  intro W base args ds gs before hval0 hW hcnd hsz0 _
  have hval : ∀ (j : Nat) t v, Try.f3.params[j]? = some t → args[j]? = some v → Value.okWide Try.prog W .any base t v := hval0
  have hW' := hW
  obtain ⟨p, q, hA0, hV, rfl, hfz, hnd⟩ := hW
  have hA : DataW.TrodAll enc Try.prog W 0 (fun _ => true) true Try.f3.params.toList args.toList ds p := hA0
  have hsz : (DataW.weightsEach Try.prog (Try.f3.params.toList ++ Rows.numRingSpec.plain.varTypes Try.prog) (ds ++ gs)).all (· ≤ reachBytes) = true := hsz0
  rw [Try.params3] at hA hval hsz
  obtain ⟨v0, vs0, d0, ds0, p0, q0, hargs, rfl, rfl, h0, r0⟩ := trodAll_cons hA
  obtain ⟨v1, vs1, d1, ds1, p1, q1, rfl, rfl, rfl, h1, r1⟩ := trodAll_cons r0
  obtain ⟨v2, vs2, d2, ds2, p2, q2, rfl, rfl, rfl, h2, r2⟩ := trodAll_cons r1
  obtain ⟨rfl, rfl, rfl⟩ := trodAll_nil r2
  obtain rfl : args = #[v0, v1, v2] := by cases args; simp_all
  obtain ⟨rfl, rfl⟩ := trodVars_none hV
  have lt0 : ∀ x ∈ p0, x.block < W.heap.size := by obtain ⟨m, hm⟩ := h0; exact DataW.trod_lt m _ _ _ hm
  obtain ⟨b0, s0, y0, z0, n0, rfl, rfl, g0, k0⟩ := open_two Try.underlying24 (by kernel_rfl) (by kernel_rfl) (hval 0 24 v0 rfl rfl) h0
  have sf0 := sized_fields hsz (j := 0) rfl rfl Try.underlying24
  obtain ⟨c0, rfl⟩ := open_fld_bool Try.underlying4 g0
  obtain ⟨a0, l0, m0, _, rfl, _⟩ := open_fld_at k0
  obtain ⟨xs0, A0, bl0⟩ := open_at (a := a0) (len := l0) (cap := m0) (d := z0.1) (ps := z0.2) ⟨n0, k0⟩ sf0 (j := 1) rfl rfl
  have lt1 : ∀ x ∈ p1, x.block < W.heap.size := by obtain ⟨m, hm⟩ := h1; exact DataW.trod_lt m _ _ _ hm
  obtain ⟨b1, s1, y1, z1, n1, rfl, rfl, g1, k1⟩ := open_two Try.underlying24 (by kernel_rfl) (by kernel_rfl) (hval 1 24 v1 rfl rfl) h1
  have sf1 := sized_fields hsz (j := 1) rfl rfl Try.underlying24
  obtain ⟨c1, rfl⟩ := open_fld_bool Try.underlying4 g1
  obtain ⟨a1, l1, m1, _, rfl, _⟩ := open_fld_at k1
  obtain ⟨xs1, A1, bl1⟩ := open_at (a := a1) (len := l1) (cap := m1) (d := z1.1) (ps := z1.2) ⟨n1, k1⟩ sf1 (j := 1) rfl rfl
  have lt2 : ∀ x ∈ p2, x.block < W.heap.size := by obtain ⟨m, hm⟩ := h2; exact DataW.trod_lt m _ _ _ hm
  obtain ⟨b2, s2, y2, z2, n2, rfl, rfl, g2, k2⟩ := open_two Try.underlying24 (by kernel_rfl) (by kernel_rfl) (hval 2 24 v2 rfl rfl) h2
  have sf2 := sized_fields hsz (j := 2) rfl rfl Try.underlying24
  obtain ⟨c2, rfl⟩ := open_fld_bool Try.underlying4 g2
  obtain ⟨a2, l2, m2, _, rfl, _⟩ := open_fld_at k2
  obtain ⟨xs2, A2, bl2⟩ := open_at (a := a2) (len := l2) (cap := m2) (d := z2.1) (ps := z2.2) ⟨n2, k2⟩ sf2 (j := 1) rfl rfl
  clear hA0 hval0 hsz0 hsz
  refine (numring_walk c0 c1 c2 A0 A1 A2 bl0 bl1 bl2).mono fun e W' ⟨he, bel⟩ => ?_
  subst he
  exact ⟨_, rfl, _, _, _, [], _, [], hW', trodAll_mk1 (shut_bool Try.underlying4 _), (trodAll_cons_mk (Below.trod laidOut (by kernel_rfl) (of_decide_eq_true (by kernel_rfl)) h0 bel lt0) (trodAll_cons_mk (Below.trod laidOut (by kernel_rfl) (of_decide_eq_true (by kernel_rfl)) h1 bel lt1) (trodAll_cons_mk (Below.trod laidOut (by kernel_rfl) (of_decide_eq_true (by kernel_rfl)) h2 bel lt2) trodAll_mk0))), rfl, bel.frame _, fun h => by cases h⟩

theorem numRing_holds : Rows.NumRingSaid :=
  OpenClaim.holds_of_wide 3 Try.f3 rfl rfl rfl rfl rfl rfl rfl ⟨rfl, rfl, rfl, rfl, rfl⟩ rfl rfl rfl rfl rfl (by kernel_rfl) Try.func3 (by kernel_rfl)
    (of_decide_eq_true (by kernel_rfl)) (by unfold Func.isWrapper; first | (rw [if_pos (by decide +kernel)]; kernel_rfl) | (rw [if_neg (by decide +kernel)]; exact ⟨rfl, rfl⟩))
    (fun os started H enc _ => numRing_lifted os started H enc)
#print axioms numRing_holds
end Go.Proofs.Ytmkglkdhnbjjhaa
