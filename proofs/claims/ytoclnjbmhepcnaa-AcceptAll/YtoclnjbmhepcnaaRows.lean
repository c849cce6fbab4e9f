/-
  No cell of these rows narrows 'for every input' (looked for: loops, veiled, ifaces, maps, wideKeys, modest, calm, conditions, laid).
  DERIVED. THE GIVEN ROWS OF THIS SEAT. 6 by the template 'for every input the law returns true; each argument reads behind the call as it read before'; 0 by the template 'total and deterministic' (their statements: YtoclnjbmhepcnaaTotals.lean).
  GIVEN WITH THE SEED: the statements are not yours to turn. If you find one false, say at which input.
  Laid BY PROGRAM, IN A SANDBOX (cutbox-rows.mjs): the forced cells as the released guide's own fill.sh prints them over the translation 1cac8f61a8cddd34… (all of the seat's roots in one cut). By AI agents, Wed Nov 11 2026. No macro, syntax, notation, axiom, sorry.
-/
import Derived.Test.YtoclnjbmhepcnaaChecked
import GoSem.Claim
import GoSem.ClaimJoined
import GoSem.ClaimMapViews
import Derived.JoinedTies
import Derived.KernelRfl
namespace Go.Proofs.Ytoclnjbmhepcnaa
/- THE CELL 'sum', in the pinned program and in every row, IS THE sha256 OF THE DUMP (.gsa) THAT YtoclnjbmhepcnaaProg.lean LOADS. Nothing in Lean hashes anything: it is a label: what it is worth is what the hold of that sum in a sandbox is worth. -/
noncomputable def Try.pinned : Pinned := { name := "ytoclnjbmhepcnaa", sum := "1cac8f61a8cddd340c3774138c436679aa1e643729660b88cd9cf421092a7894", checked := Try.checked }
namespace Rows
def none {H : Type} : Left H := { results := [], args := [] }

/-- 'gnomonlaw25.AcceptNarrows': WHATEVER THE INPUT: true; the input reads as it did. -/
def acceptNarrowsSpec : ChangeSpec := { name := "acceptNarrows", fn := fun _ => fun
  | [d1, d2, d3, d4] => { results := [.lit (.bool true)], args := [d1, d2, d3, d4] }
  | _ => none }
def acceptNarrowsRow : OpenClaim := { program := "ytoclnjbmhepcnaa", sum := "1cac8f61a8cddd340c3774138c436679aa1e643729660b88cd9cf421092a7894", func := "gnomon/gnomonlaw25.AcceptNarrows", spec := "acceptNarrows", inPlace := ["math.Float64frombits", "math.Float64bits"], apart := false }
def AcceptNarrowsSaid : Prop := acceptNarrowsRow.holds Try.pinned (OpenSpec.ofChange acceptNarrowsSpec)

/-- ITS FALSE NEIGHBOUR: 'it returns false'. Refute it at one input. -/
def acceptNarrowsWrong : ChangeSpec := { name := "acceptNarrows", fn := fun _ => fun
  | [d1, d2, d3, d4] => { results := [.lit (.bool false)], args := [d1, d2, d3, d4] }
  | _ => none }
def AcceptNarrowsWrongFalsely : Prop := acceptNarrowsRow.holds Try.pinned (OpenSpec.ofChange acceptNarrowsWrong)

/-- 'gnomonlaw25.AcceptFloats': WHATEVER THE INPUT: true; the input reads as it did. -/
def acceptFloatsSpec : ChangeSpec := { name := "acceptFloats", fn := fun _ => fun
  | [d1, d2] => { results := [.lit (.bool true)], args := [d1, d2] }
  | _ => none }
def acceptFloatsRow : OpenClaim := { program := "ytoclnjbmhepcnaa", sum := "1cac8f61a8cddd340c3774138c436679aa1e643729660b88cd9cf421092a7894", func := "gnomon/gnomonlaw25.AcceptFloats", spec := "acceptFloats", inPlace := ["math.Float64frombits", "math.Float64bits"], apart := false }
def AcceptFloatsSaid : Prop := acceptFloatsRow.holds Try.pinned (OpenSpec.ofChange acceptFloatsSpec)

/-- ITS FALSE NEIGHBOUR: 'it returns false'. Refute it at one input. -/
def acceptFloatsWrong : ChangeSpec := { name := "acceptFloats", fn := fun _ => fun
  | [d1, d2] => { results := [.lit (.bool false)], args := [d1, d2] }
  | _ => none }
def AcceptFloatsWrongFalsely : Prop := acceptFloatsRow.holds Try.pinned (OpenSpec.ofChange acceptFloatsWrong)

/-- 'gnomonlaw25.AcceptMirrors': WHATEVER THE INPUT: true; the input reads as it did. -/
def acceptMirrorsSpec : ChangeSpec := { name := "acceptMirrors", fn := fun _ => fun
  | [d1, d2, d3] => { results := [.lit (.bool true)], args := [d1, d2, d3] }
  | _ => none }
def acceptMirrorsRow : OpenClaim := { program := "ytoclnjbmhepcnaa", sum := "1cac8f61a8cddd340c3774138c436679aa1e643729660b88cd9cf421092a7894", func := "gnomon/gnomonlaw25.AcceptMirrors", spec := "acceptMirrors", inPlace := ["math.Float64frombits", "math.Float64bits"], apart := false }
def AcceptMirrorsSaid : Prop := acceptMirrorsRow.holds Try.pinned (OpenSpec.ofChange acceptMirrorsSpec)

/-- ITS FALSE NEIGHBOUR: 'it returns false'. Refute it at one input. -/
def acceptMirrorsWrong : ChangeSpec := { name := "acceptMirrors", fn := fun _ => fun
  | [d1, d2, d3] => { results := [.lit (.bool false)], args := [d1, d2, d3] }
  | _ => none }
def AcceptMirrorsWrongFalsely : Prop := acceptMirrorsRow.holds Try.pinned (OpenSpec.ofChange acceptMirrorsWrong)

/-- 'gnomonlaw25.AcceptSound': WHATEVER THE INPUT: true; the input reads as it did. -/
def acceptSoundSpec : ChangeSpec := { name := "acceptSound", fn := fun _ => fun
  | [d1, d2, d3] => { results := [.lit (.bool true)], args := [d1, d2, d3] }
  | _ => none }
def acceptSoundRow : OpenClaim := { program := "ytoclnjbmhepcnaa", sum := "1cac8f61a8cddd340c3774138c436679aa1e643729660b88cd9cf421092a7894", func := "gnomon/gnomonlaw25.AcceptSound", spec := "acceptSound", inPlace := ["math.Float64frombits", "math.Float64bits"], apart := false }
def AcceptSoundSaid : Prop := acceptSoundRow.holds Try.pinned (OpenSpec.ofChange acceptSoundSpec)

/-- ITS FALSE NEIGHBOUR: 'it returns false'. Refute it at one input. -/
def acceptSoundWrong : ChangeSpec := { name := "acceptSound", fn := fun _ => fun
  | [d1, d2, d3] => { results := [.lit (.bool false)], args := [d1, d2, d3] }
  | _ => none }
def AcceptSoundWrongFalsely : Prop := acceptSoundRow.holds Try.pinned (OpenSpec.ofChange acceptSoundWrong)

/-- 'gnomonlaw25.AcceptMust': WHATEVER THE INPUT: true; the input reads as it did. -/
def acceptMustSpec : ChangeSpec := { name := "acceptMust", fn := fun _ => fun
  | [d1, d2, d3] => { results := [.lit (.bool true)], args := [d1, d2, d3] }
  | _ => none }
def acceptMustRow : OpenClaim := { program := "ytoclnjbmhepcnaa", sum := "1cac8f61a8cddd340c3774138c436679aa1e643729660b88cd9cf421092a7894", func := "gnomon/gnomonlaw25.AcceptMust", spec := "acceptMust", inPlace := ["math.Float64frombits", "math.Float64bits"], apart := false }
def AcceptMustSaid : Prop := acceptMustRow.holds Try.pinned (OpenSpec.ofChange acceptMustSpec)

/-- ITS FALSE NEIGHBOUR: 'it returns false'. Refute it at one input. -/
def acceptMustWrong : ChangeSpec := { name := "acceptMust", fn := fun _ => fun
  | [d1, d2, d3] => { results := [.lit (.bool false)], args := [d1, d2, d3] }
  | _ => none }
def AcceptMustWrongFalsely : Prop := acceptMustRow.holds Try.pinned (OpenSpec.ofChange acceptMustWrong)

/-- 'gnomonlaw25.AcceptAll': WHATEVER THE INPUT: true; the input reads as it did. -/
def acceptAllSpec : ChangeSpec := { name := "acceptAll", fn := fun _ => fun
  | [d] => { results := [.lit (.bool true)], args := [d] }
  | _ => none }
def acceptAllRow : OpenClaim := { program := "ytoclnjbmhepcnaa", sum := "1cac8f61a8cddd340c3774138c436679aa1e643729660b88cd9cf421092a7894", func := "gnomon/gnomonlaw25.AcceptAll", spec := "acceptAll", inPlace := ["math.Float64frombits", "math.Float64bits"], apart := false }
def AcceptAllSaid : Prop := acceptAllRow.holds Try.pinned (OpenSpec.ofChange acceptAllSpec)

/-- ITS FALSE NEIGHBOUR: 'it returns false'. Refute it at one input. -/
def acceptAllWrong : ChangeSpec := { name := "acceptAll", fn := fun _ => fun
  | [d] => { results := [.lit (.bool false)], args := [d] }
  | _ => none }
def AcceptAllWrongFalsely : Prop := acceptAllRow.holds Try.pinned (OpenSpec.ofChange acceptAllWrong)

/- THE SECOND FORM. 'bulk': how many values and letters a reading holds, each counted each time it is reached (what is shared counts as often as it is met; a slice's spare places count too). A statement '..UptoSaid' is the law's where the arguments, and the package variables that the reading takes, are together of bulk at most 1048576: NARROWER than '..Said'. Prove '..Said' where nothing that the law and all that it calls make is longer than what came in: it says more and counts as full. Else prove '..UptoSaid'. A law counts once. -/
mutual
def uptoBulk {H : Type} : DataW H → Nat
  | .lit (.string bytes) => bytes.length + 1
  | .lit _ => 1
  | .nil => 1
  | .ptr d => uptoBulk d + 1
  | .slice elems spare => uptoBulkAll elems + uptoBulkAll spare + 1
  | .agg parts => uptoBulkAll parts + 1
  | .iface _ d => uptoBulk d + 1
  | .map entries => uptoBulkEntries entries + 1
  | .held _ => 1
def uptoBulkAll {H : Type} : List (DataW H) → Nat
  | [] => 0
  | d :: r => uptoBulk d + uptoBulkAll r
def uptoBulkEntries {H : Type} : List (Lit × DataW H) → Nat
  | [] => 0
  | x :: r => uptoBulkEntry x + uptoBulkEntries r
def uptoBulkEntry {H : Type} : Lit × DataW H → Nat
  | (.string bytes, d) => bytes.length + uptoBulk d + 1
  | (_, d) => uptoBulk d + 1
 end
def uptoSmall : (H : Type) → List (DataW H) → Bool := fun _ ds => decide (uptoBulkAll ds ≤ 1048576)
def OpenSpec.upto (s : _root_.Go.ChangeSpec) : _root_.Go.OpenSpec := { _root_.Go.OpenSpec.ofChange s with cond := some uptoSmall }

/-- 'gnomonlaw25.AcceptNarrows', WHERE WHAT IT READS IS OF BULK AT MOST 1048576: true; the input reads as it did. -/
def acceptNarrowsUptoRow : OpenClaim := { program := "ytoclnjbmhepcnaa", sum := "1cac8f61a8cddd340c3774138c436679aa1e643729660b88cd9cf421092a7894", func := "gnomon/gnomonlaw25.AcceptNarrows", spec := "acceptNarrows", inPlace := ["math.Float64frombits", "math.Float64bits"], apart := false, narrowed := true }
def AcceptNarrowsUptoSaid : Prop := acceptNarrowsUptoRow.holds Try.pinned (OpenSpec.upto acceptNarrowsSpec)

/-- 'gnomonlaw25.AcceptFloats', WHERE WHAT IT READS IS OF BULK AT MOST 1048576: true; the input reads as it did. -/
def acceptFloatsUptoRow : OpenClaim := { program := "ytoclnjbmhepcnaa", sum := "1cac8f61a8cddd340c3774138c436679aa1e643729660b88cd9cf421092a7894", func := "gnomon/gnomonlaw25.AcceptFloats", spec := "acceptFloats", inPlace := ["math.Float64frombits", "math.Float64bits"], apart := false, narrowed := true }
def AcceptFloatsUptoSaid : Prop := acceptFloatsUptoRow.holds Try.pinned (OpenSpec.upto acceptFloatsSpec)

/-- 'gnomonlaw25.AcceptMirrors', WHERE WHAT IT READS IS OF BULK AT MOST 1048576: true; the input reads as it did. -/
def acceptMirrorsUptoRow : OpenClaim := { program := "ytoclnjbmhepcnaa", sum := "1cac8f61a8cddd340c3774138c436679aa1e643729660b88cd9cf421092a7894", func := "gnomon/gnomonlaw25.AcceptMirrors", spec := "acceptMirrors", inPlace := ["math.Float64frombits", "math.Float64bits"], apart := false, narrowed := true }
def AcceptMirrorsUptoSaid : Prop := acceptMirrorsUptoRow.holds Try.pinned (OpenSpec.upto acceptMirrorsSpec)

/-- 'gnomonlaw25.AcceptSound', WHERE WHAT IT READS IS OF BULK AT MOST 1048576: true; the input reads as it did. -/
def acceptSoundUptoRow : OpenClaim := { program := "ytoclnjbmhepcnaa", sum := "1cac8f61a8cddd340c3774138c436679aa1e643729660b88cd9cf421092a7894", func := "gnomon/gnomonlaw25.AcceptSound", spec := "acceptSound", inPlace := ["math.Float64frombits", "math.Float64bits"], apart := false, narrowed := true }
def AcceptSoundUptoSaid : Prop := acceptSoundUptoRow.holds Try.pinned (OpenSpec.upto acceptSoundSpec)

/-- 'gnomonlaw25.AcceptMust', WHERE WHAT IT READS IS OF BULK AT MOST 1048576: true; the input reads as it did. -/
def acceptMustUptoRow : OpenClaim := { program := "ytoclnjbmhepcnaa", sum := "1cac8f61a8cddd340c3774138c436679aa1e643729660b88cd9cf421092a7894", func := "gnomon/gnomonlaw25.AcceptMust", spec := "acceptMust", inPlace := ["math.Float64frombits", "math.Float64bits"], apart := false, narrowed := true }
def AcceptMustUptoSaid : Prop := acceptMustUptoRow.holds Try.pinned (OpenSpec.upto acceptMustSpec)

/-- 'gnomonlaw25.AcceptAll', WHERE WHAT IT READS IS OF BULK AT MOST 1048576: true; the input reads as it did. -/
def acceptAllUptoRow : OpenClaim := { program := "ytoclnjbmhepcnaa", sum := "1cac8f61a8cddd340c3774138c436679aa1e643729660b88cd9cf421092a7894", func := "gnomon/gnomonlaw25.AcceptAll", spec := "acceptAll", inPlace := ["math.Float64frombits", "math.Float64bits"], apart := false, narrowed := true }
def AcceptAllUptoSaid : Prop := acceptAllUptoRow.holds Try.pinned (OpenSpec.upto acceptAllSpec)

end Rows
end Go.Proofs.Ytoclnjbmhepcnaa
