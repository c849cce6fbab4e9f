/-
  No cell of these rows narrows 'for every input' (looked for: loops, veiled, ifaces, maps, wideKeys, modest, calm, conditions, laid).
  DERIVED. THE GIVEN ROWS OF THIS SEAT. 6 by the template 'for every input the law returns true; each argument reads behind the call as it read before'; 0 by the template 'total and deterministic' (their statements: YtpnpdngfjgdgfaaTotals.lean).
  GIVEN WITH THE SEED: the statements are not yours to turn. If you find one false, say at which input.
  Laid BY PROGRAM, IN A SANDBOX (cutbox-rows.mjs): the forced cells as the released guide's own fill.sh prints them over the translation 15a75a8a79cdc5db… (all of the seat's roots in one cut). By AI agents, Wed Nov 11 2026. No macro, syntax, notation, axiom, sorry.
-/
import Derived.Test.YtpnpdngfjgdgfaaChecked
import GoSem.Claim
import GoSem.ClaimJoined
import GoSem.ClaimMapViews
import Derived.JoinedTies
import Derived.KernelRfl
namespace Go.Proofs.Ytpnpdngfjgdgfaa
/- THE CELL 'sum', in the pinned program and in every row, IS THE sha256 OF THE DUMP (.gsa) THAT YtpnpdngfjgdgfaaProg.lean LOADS. Nothing in Lean hashes anything: it is a label: what it is worth is what the hold of that sum in a sandbox is worth. -/
noncomputable def Try.pinned : Pinned := { name := "ytpnpdngfjgdgfaa", sum := "15a75a8a79cdc5db3ae212298a60ccc85583d88c6261bd07cd171b05280f7cd1", checked := Try.checked }
namespace Rows
def none {H : Type} : Left H := { results := [], args := [] }

/-- 'gnomonlaw19.EftAgain': WHATEVER THE INPUT: true; the input reads as it did. -/
def eftAgainSpec : ChangeSpec := { name := "eftAgain", fn := fun _ => fun
  | [d] => { results := [.lit (.bool true)], args := [d] }
  | _ => none }
def eftAgainRow : OpenClaim := { program := "ytpnpdngfjgdgfaa", sum := "15a75a8a79cdc5db3ae212298a60ccc85583d88c6261bd07cd171b05280f7cd1", func := "gnomon/gnomonlaw19.EftAgain", spec := "eftAgain", inPlace := ["math.Float64frombits", "math.Float64bits"], apart := false }
def EftAgainSaid : Prop := eftAgainRow.holds Try.pinned (OpenSpec.ofChange eftAgainSpec)

/-- ITS FALSE NEIGHBOUR: 'it returns false'. Refute it at one input. -/
def eftAgainWrong : ChangeSpec := { name := "eftAgain", fn := fun _ => fun
  | [d] => { results := [.lit (.bool false)], args := [d] }
  | _ => none }
def EftAgainWrongFalsely : Prop := eftAgainRow.holds Try.pinned (OpenSpec.ofChange eftAgainWrong)

/-- 'gnomonlaw19.EftSums': WHATEVER THE INPUT: true; the input reads as it did. -/
def eftSumsSpec : ChangeSpec := { name := "eftSums", fn := fun _ => fun
  | [d1, d2] => { results := [.lit (.bool true)], args := [d1, d2] }
  | _ => none }
def eftSumsRow : OpenClaim := { program := "ytpnpdngfjgdgfaa", sum := "15a75a8a79cdc5db3ae212298a60ccc85583d88c6261bd07cd171b05280f7cd1", func := "gnomon/gnomonlaw19.EftSums", spec := "eftSums", inPlace := ["math.Float64frombits", "math.Float64bits"], apart := false }
def EftSumsSaid : Prop := eftSumsRow.holds Try.pinned (OpenSpec.ofChange eftSumsSpec)

/-- ITS FALSE NEIGHBOUR: 'it returns false'. Refute it at one input. -/
def eftSumsWrong : ChangeSpec := { name := "eftSums", fn := fun _ => fun
  | [d1, d2] => { results := [.lit (.bool false)], args := [d1, d2] }
  | _ => none }
def EftSumsWrongFalsely : Prop := eftSumsRow.holds Try.pinned (OpenSpec.ofChange eftSumsWrong)

/-- 'gnomonlaw19.EftFasts': WHATEVER THE INPUT: true; the input reads as it did. -/
def eftFastsSpec : ChangeSpec := { name := "eftFasts", fn := fun _ => fun
  | [d1, d2] => { results := [.lit (.bool true)], args := [d1, d2] }
  | _ => none }
def eftFastsRow : OpenClaim := { program := "ytpnpdngfjgdgfaa", sum := "15a75a8a79cdc5db3ae212298a60ccc85583d88c6261bd07cd171b05280f7cd1", func := "gnomon/gnomonlaw19.EftFasts", spec := "eftFasts", inPlace := ["math.Float64frombits", "math.Float64bits"], apart := false }
def EftFastsSaid : Prop := eftFastsRow.holds Try.pinned (OpenSpec.ofChange eftFastsSpec)

/-- ITS FALSE NEIGHBOUR: 'it returns false'. Refute it at one input. -/
def eftFastsWrong : ChangeSpec := { name := "eftFasts", fn := fun _ => fun
  | [d1, d2] => { results := [.lit (.bool false)], args := [d1, d2] }
  | _ => none }
def EftFastsWrongFalsely : Prop := eftFastsRow.holds Try.pinned (OpenSpec.ofChange eftFastsWrong)

/-- 'gnomonlaw19.EftLittle': WHATEVER THE INPUT: true; the input reads as it did. -/
def eftLittleSpec : ChangeSpec := { name := "eftLittle", fn := fun _ => fun
  | [d1, d2] => { results := [.lit (.bool true)], args := [d1, d2] }
  | _ => none }
def eftLittleRow : OpenClaim := { program := "ytpnpdngfjgdgfaa", sum := "15a75a8a79cdc5db3ae212298a60ccc85583d88c6261bd07cd171b05280f7cd1", func := "gnomon/gnomonlaw19.EftLittle", spec := "eftLittle", inPlace := ["math.Float64frombits", "math.Float64bits"], apart := false }
def EftLittleSaid : Prop := eftLittleRow.holds Try.pinned (OpenSpec.ofChange eftLittleSpec)

/-- ITS FALSE NEIGHBOUR: 'it returns false'. Refute it at one input. -/
def eftLittleWrong : ChangeSpec := { name := "eftLittle", fn := fun _ => fun
  | [d1, d2] => { results := [.lit (.bool false)], args := [d1, d2] }
  | _ => none }
def EftLittleWrongFalsely : Prop := eftLittleRow.holds Try.pinned (OpenSpec.ofChange eftLittleWrong)

/-- 'gnomonlaw19.EftSides': WHATEVER THE INPUT: true; the input reads as it did. -/
def eftSidesSpec : ChangeSpec := { name := "eftSides", fn := fun _ => fun
  | [d1, d2] => { results := [.lit (.bool true)], args := [d1, d2] }
  | _ => none }
def eftSidesRow : OpenClaim := { program := "ytpnpdngfjgdgfaa", sum := "15a75a8a79cdc5db3ae212298a60ccc85583d88c6261bd07cd171b05280f7cd1", func := "gnomon/gnomonlaw19.EftSides", spec := "eftSides", inPlace := ["math.Float64frombits", "math.Float64bits"], apart := false }
def EftSidesSaid : Prop := eftSidesRow.holds Try.pinned (OpenSpec.ofChange eftSidesSpec)

/-- ITS FALSE NEIGHBOUR: 'it returns false'. Refute it at one input. -/
def eftSidesWrong : ChangeSpec := { name := "eftSides", fn := fun _ => fun
  | [d1, d2] => { results := [.lit (.bool false)], args := [d1, d2] }
  | _ => none }
def EftSidesWrongFalsely : Prop := eftSidesRow.holds Try.pinned (OpenSpec.ofChange eftSidesWrong)

/-- 'gnomonlaw19.EftSplits': WHATEVER THE INPUT: true; the input reads as it did. -/
def eftSplitsSpec : ChangeSpec := { name := "eftSplits", fn := fun _ => fun
  | [d] => { results := [.lit (.bool true)], args := [d] }
  | _ => none }
def eftSplitsRow : OpenClaim := { program := "ytpnpdngfjgdgfaa", sum := "15a75a8a79cdc5db3ae212298a60ccc85583d88c6261bd07cd171b05280f7cd1", func := "gnomon/gnomonlaw19.EftSplits", spec := "eftSplits", inPlace := ["math.Float64frombits", "math.Float64bits"], apart := false }
def EftSplitsSaid : Prop := eftSplitsRow.holds Try.pinned (OpenSpec.ofChange eftSplitsSpec)

/-- ITS FALSE NEIGHBOUR: 'it returns false'. Refute it at one input. -/
def eftSplitsWrong : ChangeSpec := { name := "eftSplits", fn := fun _ => fun
  | [d] => { results := [.lit (.bool false)], args := [d] }
  | _ => none }
def EftSplitsWrongFalsely : Prop := eftSplitsRow.holds Try.pinned (OpenSpec.ofChange eftSplitsWrong)

/- THE SECOND FORM. 'bulk': how many values and letters a reading holds, each counted each time it is reached (what is shared counts as often as it is met; a slice's spare places count too). A statement '..UptoSaid' is the law's where the arguments, and the package variables that the reading takes, are together of bulk at most 1048576: NARROWER than '..Said'. Prove '..Said' where nothing that the law and all that it calls make is longer than what came in: it says more and counts as full. Else prove '..UptoSaid'. A law counts once. -/
mutual
def uptoBulk {H : Type} : DataW H → Nat
  | .lit (.string bytes) => bytes.length + 1
  | .lit _ => 1
  | .nil => 1
  | .ptr d => uptoBulk d + 1
  | .slice elems spare => uptoBulkAll elems + uptoBulkAll spare + 1
  | .agg parts => uptoBulkAll parts + 1
  | .iface _ d => uptoBulk d + 1
  | .map entries => uptoBulkEntries entries + 1
  | .held _ => 1
def uptoBulkAll {H : Type} : List (DataW H) → Nat
  | [] => 0
  | d :: r => uptoBulk d + uptoBulkAll r
def uptoBulkEntries {H : Type} : List (Lit × DataW H) → Nat
  | [] => 0
  | x :: r => uptoBulkEntry x + uptoBulkEntries r
def uptoBulkEntry {H : Type} : Lit × DataW H → Nat
  | (.string bytes, d) => bytes.length + uptoBulk d + 1
  | (_, d) => uptoBulk d + 1
 end
def uptoSmall : (H : Type) → List (DataW H) → Bool := fun _ ds => decide (uptoBulkAll ds ≤ 1048576)
def OpenSpec.upto (s : _root_.Go.ChangeSpec) : _root_.Go.OpenSpec := { _root_.Go.OpenSpec.ofChange s with cond := some uptoSmall }

/-- 'gnomonlaw19.EftAgain', WHERE WHAT IT READS IS OF BULK AT MOST 1048576: true; the input reads as it did. -/
def eftAgainUptoRow : OpenClaim := { program := "ytpnpdngfjgdgfaa", sum := "15a75a8a79cdc5db3ae212298a60ccc85583d88c6261bd07cd171b05280f7cd1", func := "gnomon/gnomonlaw19.EftAgain", spec := "eftAgain", inPlace := ["math.Float64frombits", "math.Float64bits"], apart := false, narrowed := true }
def EftAgainUptoSaid : Prop := eftAgainUptoRow.holds Try.pinned (OpenSpec.upto eftAgainSpec)

/-- 'gnomonlaw19.EftSums', WHERE WHAT IT READS IS OF BULK AT MOST 1048576: true; the input reads as it did. -/
def eftSumsUptoRow : OpenClaim := { program := "ytpnpdngfjgdgfaa", sum := "15a75a8a79cdc5db3ae212298a60ccc85583d88c6261bd07cd171b05280f7cd1", func := "gnomon/gnomonlaw19.EftSums", spec := "eftSums", inPlace := ["math.Float64frombits", "math.Float64bits"], apart := false, narrowed := true }
def EftSumsUptoSaid : Prop := eftSumsUptoRow.holds Try.pinned (OpenSpec.upto eftSumsSpec)

/-- 'gnomonlaw19.EftFasts', WHERE WHAT IT READS IS OF BULK AT MOST 1048576: true; the input reads as it did. -/
def eftFastsUptoRow : OpenClaim := { program := "ytpnpdngfjgdgfaa", sum := "15a75a8a79cdc5db3ae212298a60ccc85583d88c6261bd07cd171b05280f7cd1", func := "gnomon/gnomonlaw19.EftFasts", spec := "eftFasts", inPlace := ["math.Float64frombits", "math.Float64bits"], apart := false, narrowed := true }
def EftFastsUptoSaid : Prop := eftFastsUptoRow.holds Try.pinned (OpenSpec.upto eftFastsSpec)

/-- 'gnomonlaw19.EftLittle', WHERE WHAT IT READS IS OF BULK AT MOST 1048576: true; the input reads as it did. -/
def eftLittleUptoRow : OpenClaim := { program := "ytpnpdngfjgdgfaa", sum := "15a75a8a79cdc5db3ae212298a60ccc85583d88c6261bd07cd171b05280f7cd1", func := "gnomon/gnomonlaw19.EftLittle", spec := "eftLittle", inPlace := ["math.Float64frombits", "math.Float64bits"], apart := false, narrowed := true }
def EftLittleUptoSaid : Prop := eftLittleUptoRow.holds Try.pinned (OpenSpec.upto eftLittleSpec)

/-- 'gnomonlaw19.EftSides', WHERE WHAT IT READS IS OF BULK AT MOST 1048576: true; the input reads as it did. -/
def eftSidesUptoRow : OpenClaim := { program := "ytpnpdngfjgdgfaa", sum := "15a75a8a79cdc5db3ae212298a60ccc85583d88c6261bd07cd171b05280f7cd1", func := "gnomon/gnomonlaw19.EftSides", spec := "eftSides", inPlace := ["math.Float64frombits", "math.Float64bits"], apart := false, narrowed := true }
def EftSidesUptoSaid : Prop := eftSidesUptoRow.holds Try.pinned (OpenSpec.upto eftSidesSpec)

/-- 'gnomonlaw19.EftSplits', WHERE WHAT IT READS IS OF BULK AT MOST 1048576: true; the input reads as it did. -/
def eftSplitsUptoRow : OpenClaim := { program := "ytpnpdngfjgdgfaa", sum := "15a75a8a79cdc5db3ae212298a60ccc85583d88c6261bd07cd171b05280f7cd1", func := "gnomon/gnomonlaw19.EftSplits", spec := "eftSplits", inPlace := ["math.Float64frombits", "math.Float64bits"], apart := false, narrowed := true }
def EftSplitsUptoSaid : Prop := eftSplitsUptoRow.holds Try.pinned (OpenSpec.upto eftSplitsSpec)

end Rows
end Go.Proofs.Ytpnpdngfjgdgfaa
