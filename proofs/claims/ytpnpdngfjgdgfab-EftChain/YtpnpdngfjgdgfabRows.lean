/-
  No cell of these rows narrows 'for every input' (looked for: loops, veiled, ifaces, maps, wideKeys, modest, calm, conditions, laid).
  DERIVED. THE GIVEN ROWS OF THIS SEAT. 3 by the template 'for every input the law returns true; each argument reads behind the call as it read before'; 0 by the template 'total and deterministic' (their statements: YtpnpdngfjgdgfabTotals.lean).
  GIVEN WITH THE SEED: the statements are not yours to turn. If you find one false, say at which input.
  Laid BY PROGRAM, IN A SANDBOX (cutbox-rows.mjs): the forced cells as the released guide's own fill.sh prints them over the translation b1728c37917112c6… (all of the seat's roots in one cut). By AI agents, Wed Nov 11 2026. No macro, syntax, notation, axiom, sorry.
-/
import Derived.Test.YtpnpdngfjgdgfabChecked
import GoSem.Claim
import GoSem.ClaimJoined
import GoSem.ClaimMapViews
import Derived.JoinedTies
import Derived.KernelRfl
namespace Go.Proofs.Ytpnpdngfjgdgfab
/- THE CELL 'sum', in the pinned program and in every row, IS THE sha256 OF THE DUMP (.gsa) THAT YtpnpdngfjgdgfabProg.lean LOADS. Nothing in Lean hashes anything: it is a label: what it is worth is what the hold of that sum in a sandbox is worth. -/
noncomputable def Try.pinned : Pinned := { name := "ytpnpdngfjgdgfab", sum := "b1728c37917112c6fee327199a16490f5b058ef0c8a4c1725477253b5df2d56d", checked := Try.checked }
namespace Rows
def none {H : Type} : Left H := { results := [], args := [] }

/-- 'gnomonlaw19.EftProducts': WHATEVER THE INPUT: true; the input reads as it did. -/
def eftProductsSpec : ChangeSpec := { name := "eftProducts", fn := fun _ => fun
  | [d1, d2] => { results := [.lit (.bool true)], args := [d1, d2] }
  | _ => none }
def eftProductsRow : OpenClaim := { program := "ytpnpdngfjgdgfab", sum := "b1728c37917112c6fee327199a16490f5b058ef0c8a4c1725477253b5df2d56d", func := "gnomon/gnomonlaw19.EftProducts", spec := "eftProducts", inPlace := ["math.Float64frombits", "math.Float64bits"], apart := false }
def EftProductsSaid : Prop := eftProductsRow.holds Try.pinned (OpenSpec.ofChange eftProductsSpec)

/-- ITS FALSE NEIGHBOUR: 'it returns false'. Refute it at one input. -/
def eftProductsWrong : ChangeSpec := { name := "eftProducts", fn := fun _ => fun
  | [d1, d2] => { results := [.lit (.bool false)], args := [d1, d2] }
  | _ => none }
def EftProductsWrongFalsely : Prop := eftProductsRow.holds Try.pinned (OpenSpec.ofChange eftProductsWrong)

/-- 'gnomonlaw19.EftHalves': WHATEVER THE INPUT: true; the input reads as it did. -/
def eftHalvesSpec : ChangeSpec := { name := "eftHalves", fn := fun _ => fun
  | [d1, d2] => { results := [.lit (.bool true)], args := [d1, d2] }
  | _ => none }
def eftHalvesRow : OpenClaim := { program := "ytpnpdngfjgdgfab", sum := "b1728c37917112c6fee327199a16490f5b058ef0c8a4c1725477253b5df2d56d", func := "gnomon/gnomonlaw19.EftHalves", spec := "eftHalves", inPlace := ["math.Float64frombits", "math.Float64bits"], apart := false }
def EftHalvesSaid : Prop := eftHalvesRow.holds Try.pinned (OpenSpec.ofChange eftHalvesSpec)

/-- ITS FALSE NEIGHBOUR: 'it returns false'. Refute it at one input. -/
def eftHalvesWrong : ChangeSpec := { name := "eftHalves", fn := fun _ => fun
  | [d1, d2] => { results := [.lit (.bool false)], args := [d1, d2] }
  | _ => none }
def EftHalvesWrongFalsely : Prop := eftHalvesRow.holds Try.pinned (OpenSpec.ofChange eftHalvesWrong)

/-- 'gnomonlaw19.EftChain': WHATEVER THE INPUT: true; the input reads as it did. -/
def eftChainSpec : ChangeSpec := { name := "eftChain", fn := fun _ => fun
  | [d] => { results := [.lit (.bool true)], args := [d] }
  | _ => none }
def eftChainRow : OpenClaim := { program := "ytpnpdngfjgdgfab", sum := "b1728c37917112c6fee327199a16490f5b058ef0c8a4c1725477253b5df2d56d", func := "gnomon/gnomonlaw19.EftChain", spec := "eftChain", inPlace := ["math.Float64frombits", "math.Float64bits"], apart := false }
def EftChainSaid : Prop := eftChainRow.holds Try.pinned (OpenSpec.ofChange eftChainSpec)

/-- ITS FALSE NEIGHBOUR: 'it returns false'. Refute it at one input. -/
def eftChainWrong : ChangeSpec := { name := "eftChain", fn := fun _ => fun
  | [d] => { results := [.lit (.bool false)], args := [d] }
  | _ => none }
def EftChainWrongFalsely : Prop := eftChainRow.holds Try.pinned (OpenSpec.ofChange eftChainWrong)

/- THE SECOND FORM. 'bulk': how many values and letters a reading holds, each counted each time it is reached (what is shared counts as often as it is met; a slice's spare places count too). A statement '..UptoSaid' is the law's where the arguments, and the package variables that the reading takes, are together of bulk at most 1048576: NARROWER than '..Said'. Prove '..Said' where nothing that the law and all that it calls make is longer than what came in: it says more and counts as full. Else prove '..UptoSaid'. A law counts once. -/
mutual
def uptoBulk {H : Type} : DataW H → Nat
  | .lit (.string bytes) => bytes.length + 1
  | .lit _ => 1
  | .nil => 1
  | .ptr d => uptoBulk d + 1
  | .slice elems spare => uptoBulkAll elems + uptoBulkAll spare + 1
  | .agg parts => uptoBulkAll parts + 1
  | .iface _ d => uptoBulk d + 1
  | .map entries => uptoBulkEntries entries + 1
  | .held _ => 1
def uptoBulkAll {H : Type} : List (DataW H) → Nat
  | [] => 0
  | d :: r => uptoBulk d + uptoBulkAll r
def uptoBulkEntries {H : Type} : List (Lit × DataW H) → Nat
  | [] => 0
  | x :: r => uptoBulkEntry x + uptoBulkEntries r
def uptoBulkEntry {H : Type} : Lit × DataW H → Nat
  | (.string bytes, d) => bytes.length + uptoBulk d + 1
  | (_, d) => uptoBulk d + 1
 end
def uptoSmall : (H : Type) → List (DataW H) → Bool := fun _ ds => decide (uptoBulkAll ds ≤ 1048576)
def OpenSpec.upto (s : _root_.Go.ChangeSpec) : _root_.Go.OpenSpec := { _root_.Go.OpenSpec.ofChange s with cond := some uptoSmall }

/-- 'gnomonlaw19.EftProducts', WHERE WHAT IT READS IS OF BULK AT MOST 1048576: true; the input reads as it did. -/
def eftProductsUptoRow : OpenClaim := { program := "ytpnpdngfjgdgfab", sum := "b1728c37917112c6fee327199a16490f5b058ef0c8a4c1725477253b5df2d56d", func := "gnomon/gnomonlaw19.EftProducts", spec := "eftProducts", inPlace := ["math.Float64frombits", "math.Float64bits"], apart := false, narrowed := true }
def EftProductsUptoSaid : Prop := eftProductsUptoRow.holds Try.pinned (OpenSpec.upto eftProductsSpec)

/-- 'gnomonlaw19.EftHalves', WHERE WHAT IT READS IS OF BULK AT MOST 1048576: true; the input reads as it did. -/
def eftHalvesUptoRow : OpenClaim := { program := "ytpnpdngfjgdgfab", sum := "b1728c37917112c6fee327199a16490f5b058ef0c8a4c1725477253b5df2d56d", func := "gnomon/gnomonlaw19.EftHalves", spec := "eftHalves", inPlace := ["math.Float64frombits", "math.Float64bits"], apart := false, narrowed := true }
def EftHalvesUptoSaid : Prop := eftHalvesUptoRow.holds Try.pinned (OpenSpec.upto eftHalvesSpec)

/-- 'gnomonlaw19.EftChain', WHERE WHAT IT READS IS OF BULK AT MOST 1048576: true; the input reads as it did. -/
def eftChainUptoRow : OpenClaim := { program := "ytpnpdngfjgdgfab", sum := "b1728c37917112c6fee327199a16490f5b058ef0c8a4c1725477253b5df2d56d", func := "gnomon/gnomonlaw19.EftChain", spec := "eftChain", inPlace := ["math.Float64frombits", "math.Float64bits"], apart := false, narrowed := true }
def EftChainUptoSaid : Prop := eftChainUptoRow.holds Try.pinned (OpenSpec.upto eftChainSpec)

end Rows
end Go.Proofs.Ytpnpdngfjgdgfab
