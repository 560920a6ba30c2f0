/-
  DERIVED. GIVEN WITH THE SEED: THE CARDS: each row of YtlfeglljpfihhaaGreatDoorRows.lean that lists a variable, with what it lists TIED to the program's text (the seventh form; the later family's looks); each row that meets fmt, with fmt's text TOLD by the authors' own Lean function (tested against real Go, not proved from fmt's source: count such statements apart). THE CARD IS WHAT COUNTS. Prove the row's statement (the work); the ties are given (YtlfeglljpfihhaaGreatDoorTie.lean); close each card by the builder's one call (the guide's Derived/Test/ToyasCard.lean, 'card_holds'). Laid BY PROGRAM, IN A SANDBOX (cutbox-door.mjs). By AI agents, Wed Nov 11 2026. No macro, syntax, notation, axiom, sorry.
-/
import Derived.Test.YtlfeglljpfihhaaGreatDoorRows
import GoSem.ClaimSeven
namespace Go.Proofs.YtlfeglljpfihhaaGreatDoor
namespace Rows

/-- THE TIED CARD OF 'custodiankeep.RunDown'. -/
def runDownCard : Claim7 := { stood := { row := runDownRow, standIns := [], harness := (true, "125a0da31da0a1abb1a47bcfdabc79595ab6f2fcdeeceeaf9ef739a1a665fbbd"), looks := true }, kinds := [], alts := [], laidByText := true, laidKinds := [.data], laidTests := true, laidLooks := .later }
def RunDownCardSaid : Prop := Claim7.holds Tryz.pinned (.plain (OpenSpec.ofChange runDownSpec)) runDownCard

/-- THE TIED CARD OF 'custodiankeep.SweepAll'. -/
def sweepAllCard : Claim7 := { stood := { row := sweepAllRow, standIns := [], harness := (true, "125a0da31da0a1abb1a47bcfdabc79595ab6f2fcdeeceeaf9ef739a1a665fbbd"), looks := true }, kinds := [], alts := [], laidByText := true, laidKinds := [.data], laidTests := true, laidLooks := .later }
def SweepAllCardSaid : Prop := Claim7.holds Tryz.pinned (.plain (OpenSpec.ofChange sweepAllSpec)) sweepAllCard

/-- THE SECOND FORM's CARD OF 'custodiankeep.RunDown'. -/
def runDownUptoCard : Claim7 := { stood := { row := runDownUptoRow, standIns := [], harness := (true, "125a0da31da0a1abb1a47bcfdabc79595ab6f2fcdeeceeaf9ef739a1a665fbbd"), looks := true }, kinds := [], alts := [], laidByText := true, laidKinds := [.data], laidTests := true, laidLooks := .later }
def RunDownUptoCardSaid : Prop := Claim7.holds Tryz.pinned (.plain (OpenSpec.upto runDownSpec)) runDownUptoCard

/-- THE SECOND FORM's CARD OF 'custodiankeep.SweepAll'. -/
def sweepAllUptoCard : Claim7 := { stood := { row := sweepAllUptoRow, standIns := [], harness := (true, "125a0da31da0a1abb1a47bcfdabc79595ab6f2fcdeeceeaf9ef739a1a665fbbd"), looks := true }, kinds := [], alts := [], laidByText := true, laidKinds := [.data], laidTests := true, laidLooks := .later }
def SweepAllUptoCardSaid : Prop := Claim7.holds Tryz.pinned (.plain (OpenSpec.upto sweepAllSpec)) sweepAllUptoCard
end Rows
end Go.Proofs.YtlfeglljpfihhaaGreatDoor
