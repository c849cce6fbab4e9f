import Derived.Test.YtionkfnapodhbaaDoorOpenS
import Derived.Test.YtionkfnapodhbaaDoorJ20
import Derived.Lib.LaidTab
import Derived.Stop.LaidErr
import Derived.Test.YtionkfnapodhbaaDoorTie
import Derived.Test.YtionkfnapodhbaaDoorCards
import Derived.LaidMore
import Derived.LaidLaws
import Derived.SevenTiedAt
import Derived.Stop.Joined
namespace Go.Proofs.YtionkfnapodhbaaDoor
open Go.ChangeShapes Go.WideShapes Go.ChangeAt Go.RowKit Go.Deep
set_option maxRecDepth 100000
theorem door_met (os : Os) (args : Array Value) : laidMetH Tryd.prog Rows.sintableRowsRow.laid ((World.doorLaid Tryd.prog 19 os).forCall (fun _ _ => 0) ⟨#[], args, []⟩).memory :=
  laidMetH_of_parts3 (fuel := 8) (laidMet_of_run' 8 (by kernel_rfl) (by kernel_rfl)) (by kernel_rfl) (by kernel_rfl)

theorem tab_SN {W : World} {rest : List (String × DataW Unit)} (h : laidMet Tryd.prog (("gnomon/sintable.sines", Lib.tabData .u64 (SN.map fun n : Nat => (n : Int))) :: rest) W) : TabSN W := by
  have h2 := Lib.tabIs_of_head (g := 0) (t := 40) (e := 30) (n := 106) (by kernel_rfl) (by kernel_rfl) Tryd.underlying40 Tryd.underlying30 (by kernel_rfl) (by kernel_rfl) h
  intro j hj
  have h3 := h2.cell (g := 0) (by kernel_rfl) j (by rw [List.length_map]; exact hj)
  rw [h3]
  rw [List.getD_eq_getElem?_getD, List.getD_eq_getElem?_getD, List.getElem?_map, List.getElem?_eq_getElem (show j < SN.length from hj)]
  rfl
theorem tab_CN {W : World} {rest : List (String × DataW Unit)} (h : laidMet Tryd.prog (("gnomon/sintable.cosines", Lib.tabData .u64 (CN.map fun n : Nat => (n : Int))) :: rest) W) : TabCN W := by
  have h2 := Lib.tabIs_of_head (g := 1) (t := 40) (e := 30) (n := 106) (by kernel_rfl) (by kernel_rfl) Tryd.underlying40 Tryd.underlying30 (by kernel_rfl) (by kernel_rfl) h
  intro j hj
  have h3 := h2.cell (g := 1) (by kernel_rfl) j (by rw [List.length_map]; exact hj)
  rw [h3]
  rw [List.getD_eq_getElem?_getD, List.getD_eq_getElem?_getD, List.getElem?_map, List.getElem?_eq_getElem (show j < CN.length from hj)]
  rfl
theorem tab_of {W : World} (h : laidMetH Tryd.prog Rows.sintableRowsRow.laid W) : TabT W := by
  have h1 : laidMet Tryd.prog (("gnomon/sintable.sines", Lib.tabData .u64 (SN.map fun n : Nat => (n : Int))) :: ("gnomon/sintable.cosines", Lib.tabData .u64 (CN.map fun n : Nat => (n : Int))) :: []) W := h
  exact ⟨tab_SN h1, tab_CN h1.tail⟩

theorem sintableRows_lifted (os : Os) (started : os.Started) (H : Type) (enc : TypeId × Value → H) :
    ReturnsInHanded {} Tryd.checked os 3 .any (fun w args => (Rows.sintableRowsSpec.pre enc Tryd.prog Tryd.f3 [] false w args ∧ laidMetH Tryd.prog Rows.sintableRowsRow.laid w) ∧ sizedMet enc Tryd.prog Tryd.f3 (OpenSpec.ofChange Rows.sintableRowsSpec) false w args)
      (Rows.sintableRowsSpec.post enc Tryd.prog Tryd.f3 false true false false) := by
  refine returnsInHanded_of_change_and (C := Tryd.checked) (X := fun w _ => laidMetH Tryd.prog Rows.sintableRowsRow.laid w) (fun _ _ _ hh h => h.of_heap hh) ownK started (by kernel_rfl) Tryd.func3
    (ChangeSpec.witness_shaped (enc := enc) (C := Tryd.checked) (os := os) (X := fun w _ => laidMetH Tryd.prog Rows.sintableRowsRow.laid w) false (World.doorLaid Tryd.prog 19 os) #[.slice none 0 0] 8 rfl (World.shaped_of_RefB (by kernel_rfl) (by kernel_rfl)) (by kernel_rfl) (by kernel_rfl) (by kernel_rfl) (door_met os _)) ?_
  intro W base args ds gs before hval0 hW hcnd hsz0 hL _
  have hval : ∀ (j : Nat) t v, Tryd.f3.params[j]? = some t → args[j]? = some v → Value.okWide Tryd.prog W .any base t v := hval0
  have hW' := hW
  obtain ⟨p, q, hA0, hV, rfl, hfz, hnd⟩ := hW
  have hA : DataW.TrodAll enc Tryd.prog W 0 (fun _ => true) true Tryd.f3.params.toList args.toList ds p := hA0
  have hsz : (DataW.weightsEach Tryd.prog (Tryd.f3.params.toList ++ Rows.sintableRowsSpec.plain.varTypes Tryd.prog) (ds ++ gs)).all (· ≤ reachBytes) = true := hsz0
  rw [Tryd.params3] at hA hval hsz
  obtain ⟨v0, vs0, d0, ds0, p0, q0, hargs, rfl, rfl, h0, r0⟩ := trodAll_cons hA
  obtain ⟨rfl, rfl, rfl⟩ := trodAll_nil r0
  obtain rfl : args = #[v0] := by cases args; simp_all
  obtain ⟨rfl, rfl⟩ := trodVars_none hV
  have lt0 : ∀ x ∈ p0, x.block < W.heap.size := by obtain ⟨m, hm⟩ := h0; exact DataW.trod_lt m _ _ _ hm
  obtain ⟨a0, len0, cap0, rfl⟩ := okWide_slice Tryd.underlying22 (hval 0 22 v0 rfl rfl)
  obtain ⟨xs0, A0, l0⟩ := open_ati h0 hsz (j := 0) rfl rfl
  have hTab : TabT W := tab_of hL
  clear hA0 hval0 hsz0 hsz hL
  refine (sintableRows_walk A0 l0 hTab).mono fun e W' ⟨he, bel⟩ => ?_
  subst he
  exact ⟨_, rfl, _, _, _, [], _, [], hW', trodAll_mk1 (shut_bool Tryd.underlying4 _), (trodAll_cons_mk (Below.trod laidOut (by kernel_rfl) (of_decide_eq_true (by kernel_rfl)) h0 bel lt0) trodAll_mk0), rfl, bel.frame _, fun h => by cases h⟩

theorem sintableRows_said : Rows.SintableRowsSaid :=
  OpenClaim.holds_of_wide 3 Tryd.f3 rfl rfl rfl rfl rfl rfl rfl ⟨rfl, rfl, rfl, rfl, rfl⟩ rfl rfl rfl rfl rfl (by kernel_rfl) Tryd.func3 (by kernel_rfl)
    (of_decide_eq_true (by kernel_rfl)) (by unfold Func.isWrapper; first | (rw [if_pos (by decide +kernel)]; kernel_rfl) | (rw [if_neg (by decide +kernel)]; exact ⟨rfl, rfl⟩))
    (fun os started H enc _ => sintableRows_lifted os started H enc)

theorem sintableRows_card : Rows.SintableRowsCardSaid :=
  Claim7.holds_tied_plain_at .later [] [.data, .data] true Rows.sintableRowsCard.stood.harness false
    sintableRows_said (fun _ h => by cases h) (by kernel_rfl) (fun _ h => by cases h) sintableRows_row_tie rfl ⟨rfl, rfl⟩ (by kernel_rfl) rfl
    (fun f fn hf hfn => by
      obtain rfl : f = 3 := Option.some.inj ((show Tryd.prog.funcNamed "gnomon/gnomonlaw23.SintableRows" = some 3 by kernel_rfl).symm.trans hf) |>.symm
      obtain rfl : fn = Tryd.f3 := (Option.some.inj (Tryd.func3.symm.trans hfn)).symm
      exact ⟨by kernel_rfl, fun j t ht => by
        rw [Tryd.params3] at ht
        have hm : t ∈ [22] := by simpa using Array.mem_of_getElem? ht
        have hall : ([22].all fun u => !Tryd.prog.wantsStandIn u) = true := by kernel_rfl
        exact (show Tryd.prog.wantsStandIn t = false by simpa using List.all_eq_true.1 hall t hm)⟩)
    (by kernel_rfl)
#print axioms sintableRows_card
end Go.Proofs.YtionkfnapodhbaaDoor
