/-
  DERIVED. GIVEN WITH THE SEED: THE CARDS: each row of YtpggmmnjfofgcaaDoorRows.lean that lists a variable, with what it lists TIED to the program's text (the seventh form; the later family's looks); each row that meets fmt, with fmt's text TOLD by the authors' own Lean function (tested against real Go, not proved from fmt's source: count such statements apart). THE CARD IS WHAT COUNTS. Prove the row's statement (the work); the ties are given (YtpggmmnjfofgcaaDoorTie.lean); close each card by the builder's one call (the guide's Derived/Test/ToyasCard.lean, 'card_holds'). Laid BY PROGRAM, IN A SANDBOX (cutbox-door.mjs). By AI agents, Wed Nov 11 2026. No macro, syntax, notation, axiom, sorry.
-/
import Derived.Test.YtpggmmnjfofgcaaDoorRows
import GoSem.ClaimSeven
namespace Go.Proofs.YtpggmmnjfofgcaaDoor
namespace Rows

/-- THE TIED CARD OF 'custodiankeep.ProgLines'. -/
def progLinesCard : Claim7 := { stood := { row := progLinesRow, standIns := [], harness := (true, "735bc6af4865f881ee522edff6ee78458b01aef0b71c3f8e77a74a8358b6fc14"), looks := true }, kinds := [], alts := [], laidByText := true, laidKinds := [.data, .data, .data, .data, .sentinel, .sentinel, .data, .pinned], laidTests := true, laidLooks := .later }
def ProgLinesCardSaid : Prop := Claim7.holds Tryd.pinned (.plain (OpenSpec.ofChange progLinesSpec)) progLinesCard

/-- THE TIED CARD OF 'custodiankeep.ProgJumps'. -/
def progJumpsCard : Claim7 := { stood := { row := progJumpsRow, standIns := [], harness := (true, "735bc6af4865f881ee522edff6ee78458b01aef0b71c3f8e77a74a8358b6fc14"), looks := true }, kinds := [], alts := [], laidByText := true, laidKinds := [.data, .data, .data, .data, .sentinel, .sentinel, .data, .pinned], laidTests := true, laidLooks := .later }
def ProgJumpsCardSaid : Prop := Claim7.holds Tryd.pinned (.plain (OpenSpec.ofChange progJumpsSpec)) progJumpsCard

/-- THE SECOND FORM's CARD OF 'custodiankeep.ProgLines'. -/
def progLinesUptoCard : Claim7 := { stood := { row := progLinesUptoRow, standIns := [], harness := (true, "735bc6af4865f881ee522edff6ee78458b01aef0b71c3f8e77a74a8358b6fc14"), looks := true }, kinds := [], alts := [], laidByText := true, laidKinds := [.data, .data, .data, .data, .sentinel, .sentinel, .data, .pinned], laidTests := true, laidLooks := .later }
def ProgLinesUptoCardSaid : Prop := Claim7.holds Tryd.pinned (.plain (OpenSpec.upto progLinesSpec)) progLinesUptoCard

/-- THE SECOND FORM's CARD OF 'custodiankeep.ProgJumps'. -/
def progJumpsUptoCard : Claim7 := { stood := { row := progJumpsUptoRow, standIns := [], harness := (true, "735bc6af4865f881ee522edff6ee78458b01aef0b71c3f8e77a74a8358b6fc14"), looks := true }, kinds := [], alts := [], laidByText := true, laidKinds := [.data, .data, .data, .data, .sentinel, .sentinel, .data, .pinned], laidTests := true, laidLooks := .later }
def ProgJumpsUptoCardSaid : Prop := Claim7.holds Tryd.pinned (.plain (OpenSpec.upto progJumpsSpec)) progJumpsUptoCard
end Rows
end Go.Proofs.YtpggmmnjfofgcaaDoor
