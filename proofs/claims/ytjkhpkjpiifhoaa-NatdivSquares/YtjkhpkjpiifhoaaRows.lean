/-
  No cell of these rows narrows 'for every input' (looked for: loops, veiled, ifaces, maps, wideKeys, modest, calm, conditions, laid).
  DERIVED. THE GIVEN ROWS OF THIS SEAT. 6 by the template 'for every input the law returns true; each argument reads behind the call as it read before'; 0 by the template 'total and deterministic' (their statements: YtjkhpkjpiifhoaaTotals.lean).
  GIVEN WITH THE SEED: the statements are not yours to turn. If you find one false, say at which input.
  Laid BY PROGRAM, IN A SANDBOX (cutbox-rows.mjs): the forced cells as the released guide's own fill.sh prints them over the translation 250fde90d6ce098c… (all of the seat's roots in one cut). By AI agents, Wed Nov 11 2026. No macro, syntax, notation, axiom, sorry.
-/
import Derived.Test.YtjkhpkjpiifhoaaChecked
import GoSem.Claim
import GoSem.ClaimJoined
import GoSem.ClaimMapViews
import Derived.JoinedTies
import Derived.KernelRfl
namespace Go.Proofs.Ytjkhpkjpiifhoaa
/- THE CELL 'sum', in the pinned program and in every row, IS THE sha256 OF THE DUMP (.gsa) THAT YtjkhpkjpiifhoaaProg.lean LOADS. Nothing in Lean hashes anything: it is a label: what it is worth is what the hold of that sum in a sandbox is worth. -/
noncomputable def Try.pinned : Pinned := { name := "ytjkhpkjpiifhoaa", sum := "250fde90d6ce098cc7c5ac6090f660c216ca8670882f5e74644c4a8957664d92", checked := Try.checked }
namespace Rows
def none {H : Type} : Left H := { results := [], args := [] }

/-- 'gnomonlaw01.NatCuts': WHATEVER THE INPUT: true; the input reads as it did. -/
def natCutsSpec : ChangeSpec := { name := "natCuts", fn := fun _ => fun
  | [d1, d2] => { results := [.lit (.bool true)], args := [d1, d2] }
  | _ => none }
def natCutsRow : OpenClaim := { program := "ytjkhpkjpiifhoaa", sum := "250fde90d6ce098cc7c5ac6090f660c216ca8670882f5e74644c4a8957664d92", func := "gnomon/gnomonlaw01.NatCuts", spec := "natCuts", inPlace := ["math/bits.Add64", "math/bits.Sub64"], apart := false }
def NatCutsSaid : Prop := natCutsRow.holds Try.pinned (OpenSpec.ofChange natCutsSpec)

/-- ITS FALSE NEIGHBOUR: 'it returns false'. Refute it at one input. -/
def natCutsWrong : ChangeSpec := { name := "natCuts", fn := fun _ => fun
  | [d1, d2] => { results := [.lit (.bool false)], args := [d1, d2] }
  | _ => none }
def NatCutsWrongFalsely : Prop := natCutsRow.holds Try.pinned (OpenSpec.ofChange natCutsWrong)

/-- 'gnomonlaw02.NatmulCasts': WHATEVER THE INPUT: true; the input reads as it did. -/
def natmulCastsSpec : ChangeSpec := { name := "natmulCasts", fn := fun _ => fun
  | [d] => { results := [.lit (.bool true)], args := [d] }
  | _ => none }
def natmulCastsRow : OpenClaim := { program := "ytjkhpkjpiifhoaa", sum := "250fde90d6ce098cc7c5ac6090f660c216ca8670882f5e74644c4a8957664d92", func := "gnomon/gnomonlaw02.NatmulCasts", spec := "natmulCasts", inPlace := ["math/bits.Add64", "math/bits.Sub64"], recurses := true, apart := false }
def NatmulCastsSaid : Prop := natmulCastsRow.holds Try.pinned (OpenSpec.ofChange natmulCastsSpec)

/-- ITS FALSE NEIGHBOUR: 'it returns false'. Refute it at one input. -/
def natmulCastsWrong : ChangeSpec := { name := "natmulCasts", fn := fun _ => fun
  | [d] => { results := [.lit (.bool false)], args := [d] }
  | _ => none }
def NatmulCastsWrongFalsely : Prop := natmulCastsRow.holds Try.pinned (OpenSpec.ofChange natmulCastsWrong)

/-- 'gnomonlaw02.NatmulJoins': WHATEVER THE INPUT: true; the input reads as it did. -/
def natmulJoinsSpec : ChangeSpec := { name := "natmulJoins", fn := fun _ => fun
  | [d1, d2, d3] => { results := [.lit (.bool true)], args := [d1, d2, d3] }
  | _ => none }
def natmulJoinsRow : OpenClaim := { program := "ytjkhpkjpiifhoaa", sum := "250fde90d6ce098cc7c5ac6090f660c216ca8670882f5e74644c4a8957664d92", func := "gnomon/gnomonlaw02.NatmulJoins", spec := "natmulJoins", inPlace := ["math/bits.Add64", "math/bits.Sub64"], recurses := true, apart := false }
def NatmulJoinsSaid : Prop := natmulJoinsRow.holds Try.pinned (OpenSpec.ofChange natmulJoinsSpec)

/-- ITS FALSE NEIGHBOUR: 'it returns false'. Refute it at one input. -/
def natmulJoinsWrong : ChangeSpec := { name := "natmulJoins", fn := fun _ => fun
  | [d1, d2, d3] => { results := [.lit (.bool false)], args := [d1, d2, d3] }
  | _ => none }
def NatmulJoinsWrongFalsely : Prop := natmulJoinsRow.holds Try.pinned (OpenSpec.ofChange natmulJoinsWrong)

/-- 'gnomonlaw03.NatdivUndoes': WHATEVER THE INPUT: true; the input reads as it did. -/
def natdivUndoesSpec : ChangeSpec := { name := "natdivUndoes", fn := fun _ => fun
  | [d1, d2, d3] => { results := [.lit (.bool true)], args := [d1, d2, d3] }
  | _ => none }
def natdivUndoesRow : OpenClaim := { program := "ytjkhpkjpiifhoaa", sum := "250fde90d6ce098cc7c5ac6090f660c216ca8670882f5e74644c4a8957664d92", func := "gnomon/gnomonlaw03.NatdivUndoes", spec := "natdivUndoes", inPlace := ["math/bits.Add64", "math/bits.Sub64"], recurses := true, named := ["math/bits.divideError", "math/bits.overflowError"], apart := false }
def NatdivUndoesSaid : Prop := natdivUndoesRow.holds Try.pinned (OpenSpec.ofChange natdivUndoesSpec)

/-- ITS FALSE NEIGHBOUR: 'it returns false'. Refute it at one input. -/
def natdivUndoesWrong : ChangeSpec := { name := "natdivUndoes", fn := fun _ => fun
  | [d1, d2, d3] => { results := [.lit (.bool false)], args := [d1, d2, d3] }
  | _ => none }
def NatdivUndoesWrongFalsely : Prop := natdivUndoesRow.holds Try.pinned (OpenSpec.ofChange natdivUndoesWrong)

/-- 'gnomonlaw03.NatdivDivides': WHATEVER THE INPUT: true; the input reads as it did. -/
def natdivDividesSpec : ChangeSpec := { name := "natdivDivides", fn := fun _ => fun
  | [d1, d2] => { results := [.lit (.bool true)], args := [d1, d2] }
  | _ => none }
def natdivDividesRow : OpenClaim := { program := "ytjkhpkjpiifhoaa", sum := "250fde90d6ce098cc7c5ac6090f660c216ca8670882f5e74644c4a8957664d92", func := "gnomon/gnomonlaw03.NatdivDivides", spec := "natdivDivides", inPlace := ["math/bits.Add64", "math/bits.Sub64"], recurses := true, named := ["math/bits.divideError", "math/bits.overflowError"], apart := false }
def NatdivDividesSaid : Prop := natdivDividesRow.holds Try.pinned (OpenSpec.ofChange natdivDividesSpec)

/-- ITS FALSE NEIGHBOUR: 'it returns false'. Refute it at one input. -/
def natdivDividesWrong : ChangeSpec := { name := "natdivDivides", fn := fun _ => fun
  | [d1, d2] => { results := [.lit (.bool false)], args := [d1, d2] }
  | _ => none }
def NatdivDividesWrongFalsely : Prop := natdivDividesRow.holds Try.pinned (OpenSpec.ofChange natdivDividesWrong)

/-- 'gnomonlaw03.NatdivSquares': WHATEVER THE INPUT: true; the input reads as it did. -/
def natdivSquaresSpec : ChangeSpec := { name := "natdivSquares", fn := fun _ => fun
  | [d] => { results := [.lit (.bool true)], args := [d] }
  | _ => none }
def natdivSquaresRow : OpenClaim := { program := "ytjkhpkjpiifhoaa", sum := "250fde90d6ce098cc7c5ac6090f660c216ca8670882f5e74644c4a8957664d92", func := "gnomon/gnomonlaw03.NatdivSquares", spec := "natdivSquares", inPlace := ["math/bits.Add64", "math/bits.Sub64"], recurses := true, named := ["math/bits.divideError", "math/bits.overflowError"], apart := false }
def NatdivSquaresSaid : Prop := natdivSquaresRow.holds Try.pinned (OpenSpec.ofChange natdivSquaresSpec)

/-- ITS FALSE NEIGHBOUR: 'it returns false'. Refute it at one input. -/
def natdivSquaresWrong : ChangeSpec := { name := "natdivSquares", fn := fun _ => fun
  | [d] => { results := [.lit (.bool false)], args := [d] }
  | _ => none }
def NatdivSquaresWrongFalsely : Prop := natdivSquaresRow.holds Try.pinned (OpenSpec.ofChange natdivSquaresWrong)

/- THE SECOND FORM. 'bulk': how many values and letters a reading holds, each counted each time it is reached (what is shared counts as often as it is met; a slice's spare places count too). A statement '..UptoSaid' is the law's where the arguments, and the package variables that the reading takes, are together of bulk at most 1048576: NARROWER than '..Said'. Prove '..Said' where nothing that the law and all that it calls make is longer than what came in: it says more and counts as full. Else prove '..UptoSaid'. A law counts once. -/
mutual
def uptoBulk {H : Type} : DataW H → Nat
  | .lit (.string bytes) => bytes.length + 1
  | .lit _ => 1
  | .nil => 1
  | .ptr d => uptoBulk d + 1
  | .slice elems spare => uptoBulkAll elems + uptoBulkAll spare + 1
  | .agg parts => uptoBulkAll parts + 1
  | .iface _ d => uptoBulk d + 1
  | .map entries => uptoBulkEntries entries + 1
  | .held _ => 1
def uptoBulkAll {H : Type} : List (DataW H) → Nat
  | [] => 0
  | d :: r => uptoBulk d + uptoBulkAll r
def uptoBulkEntries {H : Type} : List (Lit × DataW H) → Nat
  | [] => 0
  | x :: r => uptoBulkEntry x + uptoBulkEntries r
def uptoBulkEntry {H : Type} : Lit × DataW H → Nat
  | (.string bytes, d) => bytes.length + uptoBulk d + 1
  | (_, d) => uptoBulk d + 1
 end
def uptoSmall : (H : Type) → List (DataW H) → Bool := fun _ ds => decide (uptoBulkAll ds ≤ 1048576)
def OpenSpec.upto (s : _root_.Go.ChangeSpec) : _root_.Go.OpenSpec := { _root_.Go.OpenSpec.ofChange s with cond := some uptoSmall }

/-- 'gnomonlaw01.NatCuts', WHERE WHAT IT READS IS OF BULK AT MOST 1048576: true; the input reads as it did. -/
def natCutsUptoRow : OpenClaim := { program := "ytjkhpkjpiifhoaa", sum := "250fde90d6ce098cc7c5ac6090f660c216ca8670882f5e74644c4a8957664d92", func := "gnomon/gnomonlaw01.NatCuts", spec := "natCuts", inPlace := ["math/bits.Add64", "math/bits.Sub64"], apart := false, narrowed := true }
def NatCutsUptoSaid : Prop := natCutsUptoRow.holds Try.pinned (OpenSpec.upto natCutsSpec)

/-- 'gnomonlaw02.NatmulCasts', WHERE WHAT IT READS IS OF BULK AT MOST 1048576: true; the input reads as it did. -/
def natmulCastsUptoRow : OpenClaim := { program := "ytjkhpkjpiifhoaa", sum := "250fde90d6ce098cc7c5ac6090f660c216ca8670882f5e74644c4a8957664d92", func := "gnomon/gnomonlaw02.NatmulCasts", spec := "natmulCasts", inPlace := ["math/bits.Add64", "math/bits.Sub64"], recurses := true, apart := false, narrowed := true }
def NatmulCastsUptoSaid : Prop := natmulCastsUptoRow.holds Try.pinned (OpenSpec.upto natmulCastsSpec)

/-- 'gnomonlaw02.NatmulJoins', WHERE WHAT IT READS IS OF BULK AT MOST 1048576: true; the input reads as it did. -/
def natmulJoinsUptoRow : OpenClaim := { program := "ytjkhpkjpiifhoaa", sum := "250fde90d6ce098cc7c5ac6090f660c216ca8670882f5e74644c4a8957664d92", func := "gnomon/gnomonlaw02.NatmulJoins", spec := "natmulJoins", inPlace := ["math/bits.Add64", "math/bits.Sub64"], recurses := true, apart := false, narrowed := true }
def NatmulJoinsUptoSaid : Prop := natmulJoinsUptoRow.holds Try.pinned (OpenSpec.upto natmulJoinsSpec)

/-- 'gnomonlaw03.NatdivUndoes', WHERE WHAT IT READS IS OF BULK AT MOST 1048576: true; the input reads as it did. -/
def natdivUndoesUptoRow : OpenClaim := { program := "ytjkhpkjpiifhoaa", sum := "250fde90d6ce098cc7c5ac6090f660c216ca8670882f5e74644c4a8957664d92", func := "gnomon/gnomonlaw03.NatdivUndoes", spec := "natdivUndoes", inPlace := ["math/bits.Add64", "math/bits.Sub64"], recurses := true, named := ["math/bits.divideError", "math/bits.overflowError"], apart := false, narrowed := true }
def NatdivUndoesUptoSaid : Prop := natdivUndoesUptoRow.holds Try.pinned (OpenSpec.upto natdivUndoesSpec)

/-- 'gnomonlaw03.NatdivDivides', WHERE WHAT IT READS IS OF BULK AT MOST 1048576: true; the input reads as it did. -/
def natdivDividesUptoRow : OpenClaim := { program := "ytjkhpkjpiifhoaa", sum := "250fde90d6ce098cc7c5ac6090f660c216ca8670882f5e74644c4a8957664d92", func := "gnomon/gnomonlaw03.NatdivDivides", spec := "natdivDivides", inPlace := ["math/bits.Add64", "math/bits.Sub64"], recurses := true, named := ["math/bits.divideError", "math/bits.overflowError"], apart := false, narrowed := true }
def NatdivDividesUptoSaid : Prop := natdivDividesUptoRow.holds Try.pinned (OpenSpec.upto natdivDividesSpec)

/-- 'gnomonlaw03.NatdivSquares', WHERE WHAT IT READS IS OF BULK AT MOST 1048576: true; the input reads as it did. -/
def natdivSquaresUptoRow : OpenClaim := { program := "ytjkhpkjpiifhoaa", sum := "250fde90d6ce098cc7c5ac6090f660c216ca8670882f5e74644c4a8957664d92", func := "gnomon/gnomonlaw03.NatdivSquares", spec := "natdivSquares", inPlace := ["math/bits.Add64", "math/bits.Sub64"], recurses := true, named := ["math/bits.divideError", "math/bits.overflowError"], apart := false, narrowed := true }
def NatdivSquaresUptoSaid : Prop := natdivSquaresUptoRow.holds Try.pinned (OpenSpec.upto natdivSquaresSpec)

end Rows
end Go.Proofs.Ytjkhpkjpiifhoaa
