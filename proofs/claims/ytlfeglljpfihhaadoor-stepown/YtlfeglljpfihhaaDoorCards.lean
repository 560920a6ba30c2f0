/-
  DERIVED. GIVEN WITH THE SEED: THE CARDS: each row of YtlfeglljpfihhaaDoorRows.lean that lists a variable, with what it lists TIED to the program's text (the seventh form; the later family's looks); each row that meets fmt, with fmt's text TOLD by the authors' own Lean function (tested against real Go, not proved from fmt's source: count such statements apart). THE CARD IS WHAT COUNTS. Prove the row's statement (the work); the ties are given (YtlfeglljpfihhaaDoorTie.lean); close each card by the builder's one call (the guide's Derived/Test/ToyasCard.lean, 'card_holds'). Laid BY PROGRAM, IN A SANDBOX (cutbox-door.mjs). By AI agents, Wed Nov 11 2026. No macro, syntax, notation, axiom, sorry.
-/
import Derived.Test.YtlfeglljpfihhaaDoorRows
import GoSem.ClaimSeven
namespace Go.Proofs.YtlfeglljpfihhaaDoor
namespace Rows

/-- THE TIED CARD OF 'custodiankeep.StepSame'. -/
def stepSameCard : Claim7 := { stood := { row := stepSameRow, standIns := [], harness := (true, "8cb1e3386fe62077f25f413930d4d23059f79a19d257b28c97fe94e973107ac9"), looks := true }, kinds := [], alts := [], laidByText := true, laidKinds := [.data], laidTests := true, laidLooks := .later }
def StepSameCardSaid : Prop := Claim7.holds Tryd.pinned (.plain (OpenSpec.ofChange stepSameSpec)) stepSameCard

/-- THE TIED CARD OF 'custodiankeep.StepDown'. -/
def stepDownCard : Claim7 := { stood := { row := stepDownRow, standIns := [], harness := (true, "8cb1e3386fe62077f25f413930d4d23059f79a19d257b28c97fe94e973107ac9"), looks := true }, kinds := [], alts := [], laidByText := true, laidKinds := [.data], laidTests := true, laidLooks := .later }
def StepDownCardSaid : Prop := Claim7.holds Tryd.pinned (.plain (OpenSpec.ofChange stepDownSpec)) stepDownCard

/-- THE TIED CARD OF 'custodiankeep.StepOwn'. -/
def stepOwnCard : Claim7 := { stood := { row := stepOwnRow, standIns := [], harness := (true, "8cb1e3386fe62077f25f413930d4d23059f79a19d257b28c97fe94e973107ac9"), looks := true }, kinds := [], alts := [], laidByText := true, laidKinds := [.data], laidTests := true, laidLooks := .later }
def StepOwnCardSaid : Prop := Claim7.holds Tryd.pinned (.plain (OpenSpec.ofChange stepOwnSpec)) stepOwnCard

/-- THE TIED CARD OF 'custodiankeep.RunGuards'. -/
def runGuardsCard : Claim7 := { stood := { row := runGuardsRow, standIns := [], harness := (true, "8cb1e3386fe62077f25f413930d4d23059f79a19d257b28c97fe94e973107ac9"), looks := true }, kinds := [], alts := [], laidByText := true, laidKinds := [.data], laidTests := true, laidLooks := .later }
def RunGuardsCardSaid : Prop := Claim7.holds Tryd.pinned (.plain (OpenSpec.ofChange runGuardsSpec)) runGuardsCard

/-- THE TIED CARD OF 'custodiankeep.RunBlind'. -/
def runBlindCard : Claim7 := { stood := { row := runBlindRow, standIns := [], harness := (true, "8cb1e3386fe62077f25f413930d4d23059f79a19d257b28c97fe94e973107ac9"), looks := true }, kinds := [], alts := [], laidByText := true, laidKinds := [.data], laidTests := true, laidLooks := .later }
def RunBlindCardSaid : Prop := Claim7.holds Tryd.pinned (.plain (OpenSpec.ofChange runBlindSpec)) runBlindCard

/-- THE TIED CARD OF 'custodiankeep.SweepSafe'. -/
def sweepSafeCard : Claim7 := { stood := { row := sweepSafeRow, standIns := [], harness := (true, "8cb1e3386fe62077f25f413930d4d23059f79a19d257b28c97fe94e973107ac9"), looks := true }, kinds := [], alts := [], laidByText := true, laidKinds := [.data], laidTests := true, laidLooks := .later }
def SweepSafeCardSaid : Prop := Claim7.holds Tryd.pinned (.plain (OpenSpec.ofChange sweepSafeSpec)) sweepSafeCard

/-- THE SECOND FORM's CARD OF 'custodiankeep.StepSame'. -/
def stepSameUptoCard : Claim7 := { stood := { row := stepSameUptoRow, standIns := [], harness := (true, "8cb1e3386fe62077f25f413930d4d23059f79a19d257b28c97fe94e973107ac9"), looks := true }, kinds := [], alts := [], laidByText := true, laidKinds := [.data], laidTests := true, laidLooks := .later }
def StepSameUptoCardSaid : Prop := Claim7.holds Tryd.pinned (.plain (OpenSpec.upto stepSameSpec)) stepSameUptoCard

/-- THE SECOND FORM's CARD OF 'custodiankeep.StepDown'. -/
def stepDownUptoCard : Claim7 := { stood := { row := stepDownUptoRow, standIns := [], harness := (true, "8cb1e3386fe62077f25f413930d4d23059f79a19d257b28c97fe94e973107ac9"), looks := true }, kinds := [], alts := [], laidByText := true, laidKinds := [.data], laidTests := true, laidLooks := .later }
def StepDownUptoCardSaid : Prop := Claim7.holds Tryd.pinned (.plain (OpenSpec.upto stepDownSpec)) stepDownUptoCard

/-- THE SECOND FORM's CARD OF 'custodiankeep.StepOwn'. -/
def stepOwnUptoCard : Claim7 := { stood := { row := stepOwnUptoRow, standIns := [], harness := (true, "8cb1e3386fe62077f25f413930d4d23059f79a19d257b28c97fe94e973107ac9"), looks := true }, kinds := [], alts := [], laidByText := true, laidKinds := [.data], laidTests := true, laidLooks := .later }
def StepOwnUptoCardSaid : Prop := Claim7.holds Tryd.pinned (.plain (OpenSpec.upto stepOwnSpec)) stepOwnUptoCard

/-- THE SECOND FORM's CARD OF 'custodiankeep.RunGuards'. -/
def runGuardsUptoCard : Claim7 := { stood := { row := runGuardsUptoRow, standIns := [], harness := (true, "8cb1e3386fe62077f25f413930d4d23059f79a19d257b28c97fe94e973107ac9"), looks := true }, kinds := [], alts := [], laidByText := true, laidKinds := [.data], laidTests := true, laidLooks := .later }
def RunGuardsUptoCardSaid : Prop := Claim7.holds Tryd.pinned (.plain (OpenSpec.upto runGuardsSpec)) runGuardsUptoCard

/-- THE SECOND FORM's CARD OF 'custodiankeep.RunBlind'. -/
def runBlindUptoCard : Claim7 := { stood := { row := runBlindUptoRow, standIns := [], harness := (true, "8cb1e3386fe62077f25f413930d4d23059f79a19d257b28c97fe94e973107ac9"), looks := true }, kinds := [], alts := [], laidByText := true, laidKinds := [.data], laidTests := true, laidLooks := .later }
def RunBlindUptoCardSaid : Prop := Claim7.holds Tryd.pinned (.plain (OpenSpec.upto runBlindSpec)) runBlindUptoCard

/-- THE SECOND FORM's CARD OF 'custodiankeep.SweepSafe'. -/
def sweepSafeUptoCard : Claim7 := { stood := { row := sweepSafeUptoRow, standIns := [], harness := (true, "8cb1e3386fe62077f25f413930d4d23059f79a19d257b28c97fe94e973107ac9"), looks := true }, kinds := [], alts := [], laidByText := true, laidKinds := [.data], laidTests := true, laidLooks := .later }
def SweepSafeUptoCardSaid : Prop := Claim7.holds Tryd.pinned (.plain (OpenSpec.upto sweepSafeSpec)) sweepSafeUptoCard
end Rows
end Go.Proofs.YtlfeglljpfihhaaDoor
