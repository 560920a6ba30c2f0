/-
  DERIVED. GIVEN WITH THE SEED: THE CARDS: each row of YthapfaohnliklaaDoorRows.lean that lists a variable, with what it lists TIED to the program's text (the seventh form; the later family's looks); each row that meets fmt, with fmt's text TOLD by the authors' own Lean function (tested against real Go, not proved from fmt's source: count such statements apart). THE CARD IS WHAT COUNTS. Prove the row's statement (the work); the ties are given (YthapfaohnliklaaDoorTie.lean); close each card by the builder's one call (the guide's Derived/Test/ToyasCard.lean, 'card_holds'). Laid BY PROGRAM, IN A SANDBOX (cutbox-door.mjs). By AI agents, Wed Nov 11 2026. No macro, syntax, notation, axiom, sorry.
-/
import Derived.Test.YthapfaohnliklaaDoorRows
import GoSem.ClaimSeven
namespace Go.Proofs.YthapfaohnliklaaDoor
namespace Rows

/-- THE TIED CARD OF 'custodiankeep.StepFew'. -/
def stepFewCard : Claim7 := { stood := { row := stepFewRow, standIns := [], harness := (true, "4c51b00bf9ecc1890280b21f2301fc0102267188f8360aeacef1b5e40c7733a5"), looks := true }, kinds := [], alts := [], laidByText := true, laidKinds := [.data], laidTests := true, laidLooks := .later }
def StepFewCardSaid : Prop := Claim7.holds Tryd.pinned (.plain (OpenSpec.ofChange stepFewSpec)) stepFewCard

/-- THE TIED CARD OF 'custodiankeep.StepLocal'. -/
def stepLocalCard : Claim7 := { stood := { row := stepLocalRow, standIns := [], harness := (true, "4c51b00bf9ecc1890280b21f2301fc0102267188f8360aeacef1b5e40c7733a5"), looks := true }, kinds := [], alts := [], laidByText := true, laidKinds := [.data], laidTests := true, laidLooks := .later }
def StepLocalCardSaid : Prop := Claim7.holds Tryd.pinned (.plain (OpenSpec.ofChange stepLocalSpec)) stepLocalCard

/-- THE TIED CARD OF 'custodiankeep.StepSame'. -/
def stepSameCard : Claim7 := { stood := { row := stepSameRow, standIns := [], harness := (true, "4c51b00bf9ecc1890280b21f2301fc0102267188f8360aeacef1b5e40c7733a5"), looks := true }, kinds := [], alts := [], laidByText := true, laidKinds := [.data], laidTests := true, laidLooks := .later }
def StepSameCardSaid : Prop := Claim7.holds Tryd.pinned (.plain (OpenSpec.ofChange stepSameSpec)) stepSameCard

/-- THE TIED CARD OF 'custodiankeep.RunTells'. -/
def runTellsCard : Claim7 := { stood := { row := runTellsRow, standIns := [], harness := (true, "4c51b00bf9ecc1890280b21f2301fc0102267188f8360aeacef1b5e40c7733a5"), looks := true }, kinds := [], alts := [], laidByText := true, laidKinds := [.data], laidTests := true, laidLooks := .later }
def RunTellsCardSaid : Prop := Claim7.holds Tryd.pinned (.plain (OpenSpec.ofChange runTellsSpec)) runTellsCard

/-- THE SECOND FORM's CARD OF 'custodiankeep.StepFew'. -/
def stepFewUptoCard : Claim7 := { stood := { row := stepFewUptoRow, standIns := [], harness := (true, "4c51b00bf9ecc1890280b21f2301fc0102267188f8360aeacef1b5e40c7733a5"), looks := true }, kinds := [], alts := [], laidByText := true, laidKinds := [.data], laidTests := true, laidLooks := .later }
def StepFewUptoCardSaid : Prop := Claim7.holds Tryd.pinned (.plain (OpenSpec.upto stepFewSpec)) stepFewUptoCard

/-- THE SECOND FORM's CARD OF 'custodiankeep.StepLocal'. -/
def stepLocalUptoCard : Claim7 := { stood := { row := stepLocalUptoRow, standIns := [], harness := (true, "4c51b00bf9ecc1890280b21f2301fc0102267188f8360aeacef1b5e40c7733a5"), looks := true }, kinds := [], alts := [], laidByText := true, laidKinds := [.data], laidTests := true, laidLooks := .later }
def StepLocalUptoCardSaid : Prop := Claim7.holds Tryd.pinned (.plain (OpenSpec.upto stepLocalSpec)) stepLocalUptoCard

/-- THE SECOND FORM's CARD OF 'custodiankeep.StepSame'. -/
def stepSameUptoCard : Claim7 := { stood := { row := stepSameUptoRow, standIns := [], harness := (true, "4c51b00bf9ecc1890280b21f2301fc0102267188f8360aeacef1b5e40c7733a5"), looks := true }, kinds := [], alts := [], laidByText := true, laidKinds := [.data], laidTests := true, laidLooks := .later }
def StepSameUptoCardSaid : Prop := Claim7.holds Tryd.pinned (.plain (OpenSpec.upto stepSameSpec)) stepSameUptoCard

/-- THE SECOND FORM's CARD OF 'custodiankeep.RunTells'. -/
def runTellsUptoCard : Claim7 := { stood := { row := runTellsUptoRow, standIns := [], harness := (true, "4c51b00bf9ecc1890280b21f2301fc0102267188f8360aeacef1b5e40c7733a5"), looks := true }, kinds := [], alts := [], laidByText := true, laidKinds := [.data], laidTests := true, laidLooks := .later }
def RunTellsUptoCardSaid : Prop := Claim7.holds Tryd.pinned (.plain (OpenSpec.upto runTellsSpec)) runTellsUptoCard
end Rows
end Go.Proofs.YthapfaohnliklaaDoor
