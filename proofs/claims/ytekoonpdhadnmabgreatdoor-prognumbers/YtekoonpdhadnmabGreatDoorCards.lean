/-
  DERIVED. GIVEN WITH THE SEED: THE CARDS: each row of YtekoonpdhadnmabGreatDoorRows.lean that lists a variable, with what it lists TIED to the program's text (the seventh form; the later family's looks); each row that meets fmt, with fmt's text TOLD by the authors' own Lean function (tested against real Go, not proved from fmt's source: count such statements apart). THE CARD IS WHAT COUNTS. Prove the row's statement (the work); the ties are given (YtekoonpdhadnmabGreatDoorTie.lean); close each card by the builder's one call (the guide's Derived/Test/ToyasCard.lean, 'card_holds'). Laid BY PROGRAM, IN A SANDBOX (cutbox-door.mjs). By AI agents, Wed Nov 11 2026. No macro, syntax, notation, axiom, sorry.
-/
import Derived.Test.YtekoonpdhadnmabGreatDoorRows
import GoSem.ClaimSeven
namespace Go.Proofs.YtekoonpdhadnmabGreatDoor
namespace Rows

/-- THE TIED CARD OF 'custodiankeep.ProgNumbers'. -/
def progNumbersCard : Claim7 := { stood := { row := progNumbersRow, standIns := [], harness := (true, "3229045d70d9af9c96a837ec50dd56f573adbaa1cde7d89346838b03c7f4bea3"), looks := true }, kinds := [], alts := [], laidByText := true, laidKinds := [.data, .data, .data, .data, .sentinel, .sentinel, .data, .pinned], laidTests := true, laidLooks := .later }
def ProgNumbersCardSaid : Prop := Claim7.holds Tryz.pinned (.plain (OpenSpec.ofChange progNumbersSpec)) progNumbersCard

/-- THE SECOND FORM's CARD OF 'custodiankeep.ProgNumbers'. -/
def progNumbersUptoCard : Claim7 := { stood := { row := progNumbersUptoRow, standIns := [], harness := (true, "3229045d70d9af9c96a837ec50dd56f573adbaa1cde7d89346838b03c7f4bea3"), looks := true }, kinds := [], alts := [], laidByText := true, laidKinds := [.data, .data, .data, .data, .sentinel, .sentinel, .data, .pinned], laidTests := true, laidLooks := .later }
def ProgNumbersUptoCardSaid : Prop := Claim7.holds Tryz.pinned (.plain (OpenSpec.upto progNumbersSpec)) progNumbersUptoCard
end Rows
end Go.Proofs.YtekoonpdhadnmabGreatDoor
