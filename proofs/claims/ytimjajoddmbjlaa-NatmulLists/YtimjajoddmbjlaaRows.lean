/-
  No cell of these rows narrows 'for every input' (looked for: loops, veiled, ifaces, maps, wideKeys, modest, calm, conditions, laid).
  DERIVED. THE GIVEN ROWS OF THIS SEAT. 3 by the template 'for every input the law returns true; each argument reads behind the call as it read before'; 0 by the template 'total and deterministic' (their statements: YtimjajoddmbjlaaTotals.lean).
  GIVEN WITH THE SEED: the statements are not yours to turn. If you find one false, say at which input.
  Laid BY PROGRAM, IN A SANDBOX (cutbox-rows.mjs): the forced cells as the released guide's own fill.sh prints them over the translation 5072656361238a91… (all of the seat's roots in one cut). By AI agents, Wed Nov 11 2026. No macro, syntax, notation, axiom, sorry.
-/
import Derived.Test.YtimjajoddmbjlaaChecked
import GoSem.Claim
import GoSem.ClaimJoined
import GoSem.ClaimMapViews
import Derived.JoinedTies
import Derived.KernelRfl
namespace Go.Proofs.Ytimjajoddmbjlaa
/- THE CELL 'sum', in the pinned program and in every row, IS THE sha256 OF THE DUMP (.gsa) THAT YtimjajoddmbjlaaProg.lean LOADS. Nothing in Lean hashes anything: it is a label: what it is worth is what the hold of that sum in a sandbox is worth. -/
noncomputable def Try.pinned : Pinned := { name := "ytimjajoddmbjlaa", sum := "5072656361238a9169b73a6700ac1357774a212cc3a9996e91964b328b69915e", checked := Try.checked }
namespace Rows
def none {H : Type} : Left H := { results := [], args := [] }

/-- 'gnomonlaw02.NatmulCasts': WHATEVER THE INPUT: true; the input reads as it did. -/
def natmulCastsSpec : ChangeSpec := { name := "natmulCasts", fn := fun _ => fun
  | [d] => { results := [.lit (.bool true)], args := [d] }
  | _ => none }
def natmulCastsRow : OpenClaim := { program := "ytimjajoddmbjlaa", sum := "5072656361238a9169b73a6700ac1357774a212cc3a9996e91964b328b69915e", func := "gnomon/gnomonlaw02.NatmulCasts", spec := "natmulCasts", inPlace := ["math/bits.Add64", "math/bits.Sub64"], recurses := true, apart := false }
def NatmulCastsSaid : Prop := natmulCastsRow.holds Try.pinned (OpenSpec.ofChange natmulCastsSpec)

/-- ITS FALSE NEIGHBOUR: 'it returns false'. Refute it at one input. -/
def natmulCastsWrong : ChangeSpec := { name := "natmulCasts", fn := fun _ => fun
  | [d] => { results := [.lit (.bool false)], args := [d] }
  | _ => none }
def NatmulCastsWrongFalsely : Prop := natmulCastsRow.holds Try.pinned (OpenSpec.ofChange natmulCastsWrong)

/-- 'gnomonlaw02.NatmulLists': WHATEVER THE INPUT: true; the input reads as it did. -/
def natmulListsSpec : ChangeSpec := { name := "natmulLists", fn := fun _ => fun
  | [d] => { results := [.lit (.bool true)], args := [d] }
  | _ => none }
def natmulListsRow : OpenClaim := { program := "ytimjajoddmbjlaa", sum := "5072656361238a9169b73a6700ac1357774a212cc3a9996e91964b328b69915e", func := "gnomon/gnomonlaw02.NatmulLists", spec := "natmulLists", inPlace := ["math/bits.Add64", "math/bits.Sub64"], recurses := true, apart := false }
def NatmulListsSaid : Prop := natmulListsRow.holds Try.pinned (OpenSpec.ofChange natmulListsSpec)

/-- ITS FALSE NEIGHBOUR: 'it returns false'. Refute it at one input. -/
def natmulListsWrong : ChangeSpec := { name := "natmulLists", fn := fun _ => fun
  | [d] => { results := [.lit (.bool false)], args := [d] }
  | _ => none }
def NatmulListsWrongFalsely : Prop := natmulListsRow.holds Try.pinned (OpenSpec.ofChange natmulListsWrong)

/-- 'gnomonlaw02.NatmulProducts': WHATEVER THE INPUT: true; the input reads as it did. -/
def natmulProductsSpec : ChangeSpec := { name := "natmulProducts", fn := fun _ => fun
  | [d] => { results := [.lit (.bool true)], args := [d] }
  | _ => none }
def natmulProductsRow : OpenClaim := { program := "ytimjajoddmbjlaa", sum := "5072656361238a9169b73a6700ac1357774a212cc3a9996e91964b328b69915e", func := "gnomon/gnomonlaw02.NatmulProducts", spec := "natmulProducts", inPlace := ["math/bits.Add64", "math/bits.Sub64"], recurses := true, apart := false }
def NatmulProductsSaid : Prop := natmulProductsRow.holds Try.pinned (OpenSpec.ofChange natmulProductsSpec)

/-- ITS FALSE NEIGHBOUR: 'it returns false'. Refute it at one input. -/
def natmulProductsWrong : ChangeSpec := { name := "natmulProducts", fn := fun _ => fun
  | [d] => { results := [.lit (.bool false)], args := [d] }
  | _ => none }
def NatmulProductsWrongFalsely : Prop := natmulProductsRow.holds Try.pinned (OpenSpec.ofChange natmulProductsWrong)

/- THE SECOND FORM. 'bulk': how many values and letters a reading holds, each counted each time it is reached (what is shared counts as often as it is met; a slice's spare places count too). A statement '..UptoSaid' is the law's where the arguments, and the package variables that the reading takes, are together of bulk at most 1048576: NARROWER than '..Said'. Prove '..Said' where nothing that the law and all that it calls make is longer than what came in: it says more and counts as full. Else prove '..UptoSaid'. A law counts once. -/
mutual
def uptoBulk {H : Type} : DataW H → Nat
  | .lit (.string bytes) => bytes.length + 1
  | .lit _ => 1
  | .nil => 1
  | .ptr d => uptoBulk d + 1
  | .slice elems spare => uptoBulkAll elems + uptoBulkAll spare + 1
  | .agg parts => uptoBulkAll parts + 1
  | .iface _ d => uptoBulk d + 1
  | .map entries => uptoBulkEntries entries + 1
  | .held _ => 1
def uptoBulkAll {H : Type} : List (DataW H) → Nat
  | [] => 0
  | d :: r => uptoBulk d + uptoBulkAll r
def uptoBulkEntries {H : Type} : List (Lit × DataW H) → Nat
  | [] => 0
  | x :: r => uptoBulkEntry x + uptoBulkEntries r
def uptoBulkEntry {H : Type} : Lit × DataW H → Nat
  | (.string bytes, d) => bytes.length + uptoBulk d + 1
  | (_, d) => uptoBulk d + 1
 end
def uptoSmall : (H : Type) → List (DataW H) → Bool := fun _ ds => decide (uptoBulkAll ds ≤ 1048576)
def OpenSpec.upto (s : _root_.Go.ChangeSpec) : _root_.Go.OpenSpec := { _root_.Go.OpenSpec.ofChange s with cond := some uptoSmall }

/-- 'gnomonlaw02.NatmulCasts', WHERE WHAT IT READS IS OF BULK AT MOST 1048576: true; the input reads as it did. -/
def natmulCastsUptoRow : OpenClaim := { program := "ytimjajoddmbjlaa", sum := "5072656361238a9169b73a6700ac1357774a212cc3a9996e91964b328b69915e", func := "gnomon/gnomonlaw02.NatmulCasts", spec := "natmulCasts", inPlace := ["math/bits.Add64", "math/bits.Sub64"], recurses := true, apart := false, narrowed := true }
def NatmulCastsUptoSaid : Prop := natmulCastsUptoRow.holds Try.pinned (OpenSpec.upto natmulCastsSpec)

/-- 'gnomonlaw02.NatmulLists', WHERE WHAT IT READS IS OF BULK AT MOST 1048576: true; the input reads as it did. -/
def natmulListsUptoRow : OpenClaim := { program := "ytimjajoddmbjlaa", sum := "5072656361238a9169b73a6700ac1357774a212cc3a9996e91964b328b69915e", func := "gnomon/gnomonlaw02.NatmulLists", spec := "natmulLists", inPlace := ["math/bits.Add64", "math/bits.Sub64"], recurses := true, apart := false, narrowed := true }
def NatmulListsUptoSaid : Prop := natmulListsUptoRow.holds Try.pinned (OpenSpec.upto natmulListsSpec)

/-- 'gnomonlaw02.NatmulProducts', WHERE WHAT IT READS IS OF BULK AT MOST 1048576: true; the input reads as it did. -/
def natmulProductsUptoRow : OpenClaim := { program := "ytimjajoddmbjlaa", sum := "5072656361238a9169b73a6700ac1357774a212cc3a9996e91964b328b69915e", func := "gnomon/gnomonlaw02.NatmulProducts", spec := "natmulProducts", inPlace := ["math/bits.Add64", "math/bits.Sub64"], recurses := true, apart := false, narrowed := true }
def NatmulProductsUptoSaid : Prop := natmulProductsUptoRow.holds Try.pinned (OpenSpec.upto natmulProductsSpec)

end Rows
end Go.Proofs.Ytimjajoddmbjlaa
