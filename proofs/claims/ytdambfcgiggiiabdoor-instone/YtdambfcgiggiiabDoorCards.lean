/-
  DERIVED. GIVEN WITH THE SEED: THE CARDS: each row of YtdambfcgiggiiabDoorRows.lean that lists a variable, with what it lists TIED to the program's text (the seventh form; the later family's looks); each row that meets fmt, with fmt's text TOLD by the authors' own Lean function (tested against real Go, not proved from fmt's source: count such statements apart). THE CARD IS WHAT COUNTS. Prove the row's statement (the work); the ties are given (YtdambfcgiggiiabDoorTie.lean); close each card by the builder's one call (the guide's Derived/Test/ToyasCard.lean, 'card_holds'). Laid BY PROGRAM, IN A SANDBOX (cutbox-door.mjs). By AI agents, Wed Nov 11 2026. No macro, syntax, notation, axiom, sorry.
-/
import Derived.Test.YtdambfcgiggiiabDoorRows
import GoSem.ClaimSeven
namespace Go.Proofs.YtdambfcgiggiiabDoor
namespace Rows

/-- THE TIED CARD OF 'custodiankeep.InstOne'. -/
def instOneCard : Claim7 := { stood := { row := instOneRow, standIns := [], harness := (true, "9b424bee9b44a193f78edfe45c77c48943e7d38122981cc0b8a208004fbab70c"), looks := false }, kinds := [], alts := [], laidByText := true, laidKinds := [.data, .data, .data, .data], laidTests := true, laidLooks := .later }
def InstOneCardSaid : Prop := Claim7.holds Tryd.pinned (.plain (OpenSpec.ofChange instOneSpec)) instOneCard

/-- THE TIED CARD OF 'custodiankeep.InstJumps'. -/
def instJumpsCard : Claim7 := { stood := { row := instJumpsRow, standIns := [], harness := (true, "9b424bee9b44a193f78edfe45c77c48943e7d38122981cc0b8a208004fbab70c"), looks := false }, kinds := [], alts := [], laidByText := true, laidKinds := [.data], laidTests := true, laidLooks := .later }
def InstJumpsCardSaid : Prop := Claim7.holds Tryd.pinned (.plain (OpenSpec.ofChange instJumpsSpec)) instJumpsCard

/-- THE SECOND FORM's CARD OF 'custodiankeep.InstOne'. -/
def instOneUptoCard : Claim7 := { stood := { row := instOneUptoRow, standIns := [], harness := (true, "9b424bee9b44a193f78edfe45c77c48943e7d38122981cc0b8a208004fbab70c"), looks := false }, kinds := [], alts := [], laidByText := true, laidKinds := [.data, .data, .data, .data], laidTests := true, laidLooks := .later }
def InstOneUptoCardSaid : Prop := Claim7.holds Tryd.pinned (.plain (OpenSpec.upto instOneSpec)) instOneUptoCard

/-- THE SECOND FORM's CARD OF 'custodiankeep.InstJumps'. -/
def instJumpsUptoCard : Claim7 := { stood := { row := instJumpsUptoRow, standIns := [], harness := (true, "9b424bee9b44a193f78edfe45c77c48943e7d38122981cc0b8a208004fbab70c"), looks := false }, kinds := [], alts := [], laidByText := true, laidKinds := [.data], laidTests := true, laidLooks := .later }
def InstJumpsUptoCardSaid : Prop := Claim7.holds Tryd.pinned (.plain (OpenSpec.upto instJumpsSpec)) instJumpsUptoCard
end Rows
end Go.Proofs.YtdambfcgiggiiabDoor
