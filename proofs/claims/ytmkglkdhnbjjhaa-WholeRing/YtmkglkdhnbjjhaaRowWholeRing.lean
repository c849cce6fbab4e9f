import Derived.Test.YtmkglkdhnbjjhaaOpenS
import Derived.Test.YtmkglkdhnbjjhaaTop5
namespace Go.Proofs.Ytmkglkdhnbjjhaa
open Go.ChangeShapes Go.WideShapes Go.ChangeAt Go.RowKit Go.Deep

set_option maxRecDepth 100000 in
theorem wholeRing_lifted (os : Os) (started : os.Started) (H : Type) (enc : TypeId × Value → H) :
    ReturnsInHanded {} Try.checked os 4 .any (Rows.wholeRingSpec.pre6 enc Try.prog Try.f4 Rows.wholeRingRow.domain false) (Rows.wholeRingSpec.post enc Try.prog Try.f4 false true false false) := by
  refine returnsInHanded_of_change_sized (C := Try.checked) ownK started (by kernel_rfl) Try.func4
    (ChangeSpec.witness6 (enc := enc) (C := Try.checked) false ⟨#[], #[.agg #[.slice none 0 0, .slice none 0 0, .slice none 0 0, .int .u64 0, .int .i64 0, .int .i64 0, .int .u8 0, .int .u8 0]], []⟩ 8 (by kernel_rfl) (by kernel_rfl) (by kernel_rfl) (by kernel_rfl)) ?_
  intro W base args ds gs before hval0 hW hcnd hsz0 _
  have hval : ∀ (j : Nat) t v, Try.f4.params[j]? = some t → args[j]? = some v → Value.okWide Try.prog W .any base t v := hval0
  have hW' := hW
  obtain ⟨p, q, hA0, hV, rfl, hfz, hnd⟩ := hW
  have hA : DataW.TrodAll enc Try.prog W 0 (fun _ => true) true Try.f4.params.toList args.toList ds p := hA0
  rw [Try.params4] at hA hval
  obtain ⟨v0, vs0, d0, ds0, p0, q0, hargs, rfl, rfl, h0, r0⟩ := trodAll_cons hA
  obtain ⟨rfl, rfl, rfl⟩ := trodAll_nil r0
  obtain rfl : args = #[v0] := by cases args; simp_all
  obtain ⟨rfl, rfl⟩ := trodVars_none hV
  have lt0 : ∀ x ∈ p0, x.block < W.heap.size := by obtain ⟨m, hm⟩ := h0; exact DataW.trod_lt m _ _ _ hm
  obtain ⟨cs, rfl, hcs⟩ := okWide_struct Try.underlying35 (hval 0 35 v0 rfl rfl)
  obtain ⟨c0, c1, c2, c3, c4, c5, c6, c7, rfl⟩ := array8 (hcs.trans (by kernel_rfl))
  have fld := fun (i : Nat) (f : Field) (v : Value) => open_fld (f := f) (v := v) Try.underlying35 (by kernel_rfl) h0 i
  obtain ⟨n0, y0, g0⟩ := fld 0 _ c0 rfl rfl
  obtain ⟨n1, y1, g1⟩ := fld 1 _ c1 rfl rfl
  obtain ⟨n2, y2, g2⟩ := fld 2 _ c2 rfl rfl
  obtain ⟨n3, y3, g3⟩ := fld 3 _ c3 rfl rfl
  obtain ⟨n4, y4, g4⟩ := fld 4 _ c4 rfl rfl
  obtain ⟨n5, y5, g5⟩ := fld 5 _ c5 rfl rfl
  obtain ⟨n6, y6, g6⟩ := fld 6 _ c6 rfl rfl
  obtain ⟨n7, y7, g7⟩ := fld 7 _ c7 rfl rfl
  obtain ⟨a0, l0, k0, xs0, rfl, A0⟩ := open_fld_at g0
  obtain ⟨a1, l1, k1, xs1, rfl, A1⟩ := open_fld_at g1
  obtain ⟨a2, l2, k2, xs2, rfl, A2⟩ := open_fld_at g2
  obtain ⟨z3, rfl, w3⟩ := open_fld_int Try.underlying33 g3
  obtain ⟨z4, rfl, w4⟩ := open_fld_int Try.underlying3 g4
  obtain ⟨z5, rfl, w5⟩ := open_fld_int Try.underlying3 g5
  obtain ⟨z6, rfl, w6⟩ := open_fld_int Try.underlying5 g6
  obtain ⟨z7, rfl, w7⟩ := open_fld_int Try.underlying5 g7
  have b3 := wf_u64 w3
  have b4 := bounds_i64 w4
  have b5 := bounds_i64 w5
  have b6 := bounds_u8 w6
  have b7 := bounds_u8 w7
  obtain ⟨m3, rfl⟩ := Int.eq_ofNat_of_zero_le b3.1
  obtain ⟨m6, rfl⟩ := Int.eq_ofNat_of_zero_le b6.1
  obtain ⟨m7, rfl⟩ := Int.eq_ofNat_of_zero_le b7.1
  have hm3 : m3 < B64 := by rw [B64_eq]; omega
  clear hA0 hval0 hsz0
  refine (whole_walk A0 A1 A2 m3 hm3 z4 z5 b4 b5 m6 m7 (by omega) (by omega)).mono fun e W' ⟨he, bel⟩ => ?_
  subst he
  exact ⟨_, rfl, _, _, _, [], _, [], hW', trodAll_mk1 (shut_bool Try.underlying4 _), (trodAll_cons_mk (Below.trod laidOut (by kernel_rfl) (of_decide_eq_true (by kernel_rfl)) h0 bel lt0) trodAll_mk0), rfl, bel.frame _, fun h => by cases h⟩

theorem wholeRing_holds : Rows.WholeRingSaid :=
  OpenClaim.holds_of_wide 4 Try.f4 rfl rfl rfl rfl rfl rfl rfl ⟨rfl, rfl, rfl, rfl, rfl⟩ rfl rfl rfl rfl rfl (by kernel_rfl) Try.func4 (by kernel_rfl)
    (of_decide_eq_true (by kernel_rfl)) (by unfold Func.isWrapper; first | (rw [if_pos (by decide +kernel)]; kernel_rfl) | (rw [if_neg (by decide +kernel)]; exact ⟨rfl, rfl⟩))
    (fun os started H enc _ => wholeRing_lifted os started H enc)
#print axioms wholeRing_holds
end Go.Proofs.Ytmkglkdhnbjjhaa
