/-
  DERIVED. GIVEN WITH THE SEED: THE CARDS: each row of YteoihhgaipplfaaDoorRows.lean that lists a variable, with what it lists TIED to the program's text (the seventh form; the later family's looks); each row that meets fmt, with fmt's text TOLD by the authors' own Lean function (tested against real Go, not proved from fmt's source: count such statements apart). THE CARD IS WHAT COUNTS. Prove the row's statement (the work); the ties are given (YteoihhgaipplfaaDoorTie.lean); close each card by the builder's one call (the guide's Derived/Test/ToyasCard.lean, 'card_holds'). Laid BY PROGRAM, IN A SANDBOX (cutbox-door.mjs). By AI agents, Wed Nov 11 2026. No macro, syntax, notation, axiom, sorry.
-/
import Derived.Test.YteoihhgaipplfaaDoorRows
import GoSem.ClaimSeven
namespace Go.Proofs.YteoihhgaipplfaaDoor
namespace Rows

/-- THE TIED CARD OF 'gnomonlaw01.NatWords'. -/
def natWordsCard : Claim7 := { stood := { row := natWordsRow, standIns := [], harness := (true, "0c83ebfa2a19bdbb71123d4ae998ece9b11243d051bad385ebb345e25f62e156"), looks := false }, kinds := [], alts := [], laidByText := true, laidKinds := [.data], laidTests := true, laidLooks := .later }
def NatWordsCardSaid : Prop := Claim7.holds Tryd.pinned (.plain (OpenSpec.ofChange natWordsSpec)) natWordsCard

/-- THE TIED CARD OF 'gnomonlaw04.NumSmalls'. -/
def numSmallsCard : Claim7 := { stood := { row := numSmallsRow, standIns := [], harness := (true, "0c83ebfa2a19bdbb71123d4ae998ece9b11243d051bad385ebb345e25f62e156"), looks := false }, kinds := [], alts := [], laidByText := true, laidKinds := [.data], laidTests := true, laidLooks := .later }
def NumSmallsCardSaid : Prop := Claim7.holds Tryd.pinned (.plain (OpenSpec.ofChange numSmallsSpec)) numSmallsCard

/-- THE TIED CARD OF 'gnomonlaw04.NumMirrors'. -/
def numMirrorsCard : Claim7 := { stood := { row := numMirrorsRow, standIns := [], harness := (true, "0c83ebfa2a19bdbb71123d4ae998ece9b11243d051bad385ebb345e25f62e156"), looks := false }, kinds := [], alts := [], laidByText := true, laidKinds := [.data], laidTests := true, laidLooks := .later }
def NumMirrorsCardSaid : Prop := Claim7.holds Tryd.pinned (.plain (OpenSpec.ofChange numMirrorsSpec)) numMirrorsCard

/-- THE TIED CARD OF 'gnomonlaw04.NumNests'. -/
def numNestsCard : Claim7 := { stood := { row := numNestsRow, standIns := [], harness := (true, "0c83ebfa2a19bdbb71123d4ae998ece9b11243d051bad385ebb345e25f62e156"), looks := false }, kinds := [], alts := [], laidByText := true, laidKinds := [.data], laidTests := true, laidLooks := .later }
def NumNestsCardSaid : Prop := Claim7.holds Tryd.pinned (.plain (OpenSpec.ofChange numNestsSpec)) numNestsCard

/-- THE TIED CARD OF 'gnomonlaw04.NumSteps'. -/
def numStepsCard : Claim7 := { stood := { row := numStepsRow, standIns := [], harness := (true, "0c83ebfa2a19bdbb71123d4ae998ece9b11243d051bad385ebb345e25f62e156"), looks := false }, kinds := [], alts := [], laidByText := true, laidKinds := [.data], laidTests := true, laidLooks := .later }
def NumStepsCardSaid : Prop := Claim7.holds Tryd.pinned (.plain (OpenSpec.ofChange numStepsSpec)) numStepsCard

/-- THE SECOND FORM's CARD OF 'gnomonlaw01.NatWords'. -/
def natWordsUptoCard : Claim7 := { stood := { row := natWordsUptoRow, standIns := [], harness := (true, "0c83ebfa2a19bdbb71123d4ae998ece9b11243d051bad385ebb345e25f62e156"), looks := false }, kinds := [], alts := [], laidByText := true, laidKinds := [.data], laidTests := true, laidLooks := .later }
def NatWordsUptoCardSaid : Prop := Claim7.holds Tryd.pinned (.plain (OpenSpec.upto natWordsSpec)) natWordsUptoCard

/-- THE SECOND FORM's CARD OF 'gnomonlaw04.NumSmalls'. -/
def numSmallsUptoCard : Claim7 := { stood := { row := numSmallsUptoRow, standIns := [], harness := (true, "0c83ebfa2a19bdbb71123d4ae998ece9b11243d051bad385ebb345e25f62e156"), looks := false }, kinds := [], alts := [], laidByText := true, laidKinds := [.data], laidTests := true, laidLooks := .later }
def NumSmallsUptoCardSaid : Prop := Claim7.holds Tryd.pinned (.plain (OpenSpec.upto numSmallsSpec)) numSmallsUptoCard

/-- THE SECOND FORM's CARD OF 'gnomonlaw04.NumMirrors'. -/
def numMirrorsUptoCard : Claim7 := { stood := { row := numMirrorsUptoRow, standIns := [], harness := (true, "0c83ebfa2a19bdbb71123d4ae998ece9b11243d051bad385ebb345e25f62e156"), looks := false }, kinds := [], alts := [], laidByText := true, laidKinds := [.data], laidTests := true, laidLooks := .later }
def NumMirrorsUptoCardSaid : Prop := Claim7.holds Tryd.pinned (.plain (OpenSpec.upto numMirrorsSpec)) numMirrorsUptoCard

/-- THE SECOND FORM's CARD OF 'gnomonlaw04.NumNests'. -/
def numNestsUptoCard : Claim7 := { stood := { row := numNestsUptoRow, standIns := [], harness := (true, "0c83ebfa2a19bdbb71123d4ae998ece9b11243d051bad385ebb345e25f62e156"), looks := false }, kinds := [], alts := [], laidByText := true, laidKinds := [.data], laidTests := true, laidLooks := .later }
def NumNestsUptoCardSaid : Prop := Claim7.holds Tryd.pinned (.plain (OpenSpec.upto numNestsSpec)) numNestsUptoCard

/-- THE SECOND FORM's CARD OF 'gnomonlaw04.NumSteps'. -/
def numStepsUptoCard : Claim7 := { stood := { row := numStepsUptoRow, standIns := [], harness := (true, "0c83ebfa2a19bdbb71123d4ae998ece9b11243d051bad385ebb345e25f62e156"), looks := false }, kinds := [], alts := [], laidByText := true, laidKinds := [.data], laidTests := true, laidLooks := .later }
def NumStepsUptoCardSaid : Prop := Claim7.holds Tryd.pinned (.plain (OpenSpec.upto numStepsSpec)) numStepsUptoCard
end Rows
end Go.Proofs.YteoihhgaipplfaaDoor
