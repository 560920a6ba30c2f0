/-
  No cell of these rows narrows 'for every input' (looked for: loops, veiled, ifaces, maps, wideKeys, modest, calm, conditions, laid).
  DERIVED. THE GIVEN ROWS OF THIS SEAT. 6 by the template 'for every input the law returns true; each argument reads behind the call as it read before'; 0 by the template 'total and deterministic' (their statements: YtpmmgpiamginaabTotals.lean).
  GIVEN WITH THE SEED: the statements are not yours to turn. If you find one false, say at which input.
  Laid BY PROGRAM, IN A SANDBOX (cutbox-rows.mjs): the forced cells as the released guide's own fill.sh prints them over the translation eb6d441633db7dbf… (all of the seat's roots in one cut). By AI agents, Wed Nov 11 2026. No macro, syntax, notation, axiom, sorry.
-/
import Derived.Test.YtpmmgpiamginaabChecked
import GoSem.Claim
import GoSem.ClaimJoined
import GoSem.ClaimMapViews
import Derived.JoinedTies
import Derived.KernelRfl
namespace Go.Proofs.Ytpmmgpiamginaab
/- THE CELL 'sum', in the pinned program and in every row, IS THE sha256 OF THE DUMP (.gsa) THAT YtpmmgpiamginaabProg.lean LOADS. Nothing in Lean hashes anything: it is a label: what it is worth is what the hold of that sum in a sandbox is worth. -/
noncomputable def Try.pinned : Pinned := { name := "ytpmmgpiamginaab", sum := "eb6d441633db7dbfa80788cf3a3b2c044428d18a9e8d21234514530811502342", checked := Try.checked }
namespace Rows
def none {H : Type} : Left H := { results := [], args := [] }

/-- 'custodiankeep.KeysOrder': WHATEVER THE INPUT: true; the input reads as it did. -/
def keysOrderSpec : ChangeSpec := { name := "keysOrder", fn := fun _ => fun
  | [d1, d2, d3] => { results := [.lit (.bool true)], args := [d1, d2, d3] }
  | _ => none }
def keysOrderRow : OpenClaim := { program := "ytpmmgpiamginaab", sum := "eb6d441633db7dbfa80788cf3a3b2c044428d18a9e8d21234514530811502342", func := "custodian/custodiankeep.KeysOrder", spec := "keysOrder", unfollowed := true, recurses := true, apart := false }
def KeysOrderSaid : Prop := keysOrderRow.holds Try.pinned (OpenSpec.ofChange keysOrderSpec)

/-- ITS FALSE NEIGHBOUR: 'it returns false'. Refute it at one input. -/
def keysOrderWrong : ChangeSpec := { name := "keysOrder", fn := fun _ => fun
  | [d1, d2, d3] => { results := [.lit (.bool false)], args := [d1, d2, d3] }
  | _ => none }
def KeysOrderWrongFalsely : Prop := keysOrderRow.holds Try.pinned (OpenSpec.ofChange keysOrderWrong)

/-- 'custodiankeep.KeysCells': WHATEVER THE INPUT: true; the input reads as it did. -/
def keysCellsSpec : ChangeSpec := { name := "keysCells", fn := fun _ => fun
  | [d1, d2, d3] => { results := [.lit (.bool true)], args := [d1, d2, d3] }
  | _ => none }
def keysCellsRow : OpenClaim := { program := "ytpmmgpiamginaab", sum := "eb6d441633db7dbfa80788cf3a3b2c044428d18a9e8d21234514530811502342", func := "custodian/custodiankeep.KeysCells", spec := "keysCells", apart := false }
def KeysCellsSaid : Prop := keysCellsRow.holds Try.pinned (OpenSpec.ofChange keysCellsSpec)

/-- ITS FALSE NEIGHBOUR: 'it returns false'. Refute it at one input. -/
def keysCellsWrong : ChangeSpec := { name := "keysCells", fn := fun _ => fun
  | [d1, d2, d3] => { results := [.lit (.bool false)], args := [d1, d2, d3] }
  | _ => none }
def KeysCellsWrongFalsely : Prop := keysCellsRow.holds Try.pinned (OpenSpec.ofChange keysCellsWrong)

/-- 'custodiankeep.KeysNarrows': WHATEVER THE INPUT: true; the input reads as it did. -/
def keysNarrowsSpec : ChangeSpec := { name := "keysNarrows", fn := fun _ => fun
  | [d1, d2, d3, d4] => { results := [.lit (.bool true)], args := [d1, d2, d3, d4] }
  | _ => none }
def keysNarrowsRow : OpenClaim := { program := "ytpmmgpiamginaab", sum := "eb6d441633db7dbfa80788cf3a3b2c044428d18a9e8d21234514530811502342", func := "custodian/custodiankeep.KeysNarrows", spec := "keysNarrows", apart := false }
def KeysNarrowsSaid : Prop := keysNarrowsRow.holds Try.pinned (OpenSpec.ofChange keysNarrowsSpec)

/-- ITS FALSE NEIGHBOUR: 'it returns false'. Refute it at one input. -/
def keysNarrowsWrong : ChangeSpec := { name := "keysNarrows", fn := fun _ => fun
  | [d1, d2, d3, d4] => { results := [.lit (.bool false)], args := [d1, d2, d3, d4] }
  | _ => none }
def KeysNarrowsWrongFalsely : Prop := keysNarrowsRow.holds Try.pinned (OpenSpec.ofChange keysNarrowsWrong)

/-- 'custodiankeep.KeysSealed': WHATEVER THE INPUT: true; the input reads as it did. -/
def keysSealedSpec : ChangeSpec := { name := "keysSealed", fn := fun _ => fun
  | [d1, d2, d3] => { results := [.lit (.bool true)], args := [d1, d2, d3] }
  | _ => none }
def keysSealedRow : OpenClaim := { program := "ytpmmgpiamginaab", sum := "eb6d441633db7dbfa80788cf3a3b2c044428d18a9e8d21234514530811502342", func := "custodian/custodiankeep.KeysSealed", spec := "keysSealed", unfollowed := true, recurses := true, apart := false }
def KeysSealedSaid : Prop := keysSealedRow.holds Try.pinned (OpenSpec.ofChange keysSealedSpec)

/-- ITS FALSE NEIGHBOUR: 'it returns false'. Refute it at one input. -/
def keysSealedWrong : ChangeSpec := { name := "keysSealed", fn := fun _ => fun
  | [d1, d2, d3] => { results := [.lit (.bool false)], args := [d1, d2, d3] }
  | _ => none }
def KeysSealedWrongFalsely : Prop := keysSealedRow.holds Try.pinned (OpenSpec.ofChange keysSealedWrong)

/-- 'custodiankeep.KeysBack': WHATEVER THE INPUT: true; the input reads as it did. -/
def keysBackSpec : ChangeSpec := { name := "keysBack", fn := fun _ => fun
  | [d1, d2, d3] => { results := [.lit (.bool true)], args := [d1, d2, d3] }
  | _ => none }
def keysBackRow : OpenClaim := { program := "ytpmmgpiamginaab", sum := "eb6d441633db7dbfa80788cf3a3b2c044428d18a9e8d21234514530811502342", func := "custodian/custodiankeep.KeysBack", spec := "keysBack", apart := false }
def KeysBackSaid : Prop := keysBackRow.holds Try.pinned (OpenSpec.ofChange keysBackSpec)

/-- ITS FALSE NEIGHBOUR: 'it returns false'. Refute it at one input. -/
def keysBackWrong : ChangeSpec := { name := "keysBack", fn := fun _ => fun
  | [d1, d2, d3] => { results := [.lit (.bool false)], args := [d1, d2, d3] }
  | _ => none }
def KeysBackWrongFalsely : Prop := keysBackRow.holds Try.pinned (OpenSpec.ofChange keysBackWrong)

/-- 'custodiankeep.KeysMoved': WHATEVER THE INPUT: true; the input reads as it did. -/
def keysMovedSpec : ChangeSpec := { name := "keysMoved", fn := fun _ => fun
  | [d1, d2, d3] => { results := [.lit (.bool true)], args := [d1, d2, d3] }
  | _ => none }
def keysMovedRow : OpenClaim := { program := "ytpmmgpiamginaab", sum := "eb6d441633db7dbfa80788cf3a3b2c044428d18a9e8d21234514530811502342", func := "custodian/custodiankeep.KeysMoved", spec := "keysMoved", apart := false }
def KeysMovedSaid : Prop := keysMovedRow.holds Try.pinned (OpenSpec.ofChange keysMovedSpec)

/-- ITS FALSE NEIGHBOUR: 'it returns false'. Refute it at one input. -/
def keysMovedWrong : ChangeSpec := { name := "keysMoved", fn := fun _ => fun
  | [d1, d2, d3] => { results := [.lit (.bool false)], args := [d1, d2, d3] }
  | _ => none }
def KeysMovedWrongFalsely : Prop := keysMovedRow.holds Try.pinned (OpenSpec.ofChange keysMovedWrong)

/- THE SECOND FORM. 'bulk': how many values and letters a reading holds, each counted each time it is reached (what is shared counts as often as it is met; a slice's spare places count too). A statement '..UptoSaid' is the law's where the arguments, and the package variables that the reading takes, are together of bulk at most 1048576: NARROWER than '..Said'. Prove '..Said' where nothing that the law and all that it calls make is longer than what came in: it says more and counts as full. Else prove '..UptoSaid'. A law counts once. -/
mutual
def uptoBulk {H : Type} : DataW H → Nat
  | .lit (.string bytes) => bytes.length + 1
  | .lit _ => 1
  | .nil => 1
  | .ptr d => uptoBulk d + 1
  | .slice elems spare => uptoBulkAll elems + uptoBulkAll spare + 1
  | .agg parts => uptoBulkAll parts + 1
  | .iface _ d => uptoBulk d + 1
  | .map entries => uptoBulkEntries entries + 1
  | .held _ => 1
def uptoBulkAll {H : Type} : List (DataW H) → Nat
  | [] => 0
  | d :: r => uptoBulk d + uptoBulkAll r
def uptoBulkEntries {H : Type} : List (Lit × DataW H) → Nat
  | [] => 0
  | x :: r => uptoBulkEntry x + uptoBulkEntries r
def uptoBulkEntry {H : Type} : Lit × DataW H → Nat
  | (.string bytes, d) => bytes.length + uptoBulk d + 1
  | (_, d) => uptoBulk d + 1
 end
def uptoSmall : (H : Type) → List (DataW H) → Bool := fun _ ds => decide (uptoBulkAll ds ≤ 1048576)
def OpenSpec.upto (s : _root_.Go.ChangeSpec) : _root_.Go.OpenSpec := { _root_.Go.OpenSpec.ofChange s with cond := some uptoSmall }

/-- 'custodiankeep.KeysOrder', WHERE WHAT IT READS IS OF BULK AT MOST 1048576: true; the input reads as it did. -/
def keysOrderUptoRow : OpenClaim := { program := "ytpmmgpiamginaab", sum := "eb6d441633db7dbfa80788cf3a3b2c044428d18a9e8d21234514530811502342", func := "custodian/custodiankeep.KeysOrder", spec := "keysOrder", unfollowed := true, recurses := true, apart := false, narrowed := true }
def KeysOrderUptoSaid : Prop := keysOrderUptoRow.holds Try.pinned (OpenSpec.upto keysOrderSpec)

/-- 'custodiankeep.KeysCells', WHERE WHAT IT READS IS OF BULK AT MOST 1048576: true; the input reads as it did. -/
def keysCellsUptoRow : OpenClaim := { program := "ytpmmgpiamginaab", sum := "eb6d441633db7dbfa80788cf3a3b2c044428d18a9e8d21234514530811502342", func := "custodian/custodiankeep.KeysCells", spec := "keysCells", apart := false, narrowed := true }
def KeysCellsUptoSaid : Prop := keysCellsUptoRow.holds Try.pinned (OpenSpec.upto keysCellsSpec)

/-- 'custodiankeep.KeysNarrows', WHERE WHAT IT READS IS OF BULK AT MOST 1048576: true; the input reads as it did. -/
def keysNarrowsUptoRow : OpenClaim := { program := "ytpmmgpiamginaab", sum := "eb6d441633db7dbfa80788cf3a3b2c044428d18a9e8d21234514530811502342", func := "custodian/custodiankeep.KeysNarrows", spec := "keysNarrows", apart := false, narrowed := true }
def KeysNarrowsUptoSaid : Prop := keysNarrowsUptoRow.holds Try.pinned (OpenSpec.upto keysNarrowsSpec)

/-- 'custodiankeep.KeysSealed', WHERE WHAT IT READS IS OF BULK AT MOST 1048576: true; the input reads as it did. -/
def keysSealedUptoRow : OpenClaim := { program := "ytpmmgpiamginaab", sum := "eb6d441633db7dbfa80788cf3a3b2c044428d18a9e8d21234514530811502342", func := "custodian/custodiankeep.KeysSealed", spec := "keysSealed", unfollowed := true, recurses := true, apart := false, narrowed := true }
def KeysSealedUptoSaid : Prop := keysSealedUptoRow.holds Try.pinned (OpenSpec.upto keysSealedSpec)

/-- 'custodiankeep.KeysBack', WHERE WHAT IT READS IS OF BULK AT MOST 1048576: true; the input reads as it did. -/
def keysBackUptoRow : OpenClaim := { program := "ytpmmgpiamginaab", sum := "eb6d441633db7dbfa80788cf3a3b2c044428d18a9e8d21234514530811502342", func := "custodian/custodiankeep.KeysBack", spec := "keysBack", apart := false, narrowed := true }
def KeysBackUptoSaid : Prop := keysBackUptoRow.holds Try.pinned (OpenSpec.upto keysBackSpec)

/-- 'custodiankeep.KeysMoved', WHERE WHAT IT READS IS OF BULK AT MOST 1048576: true; the input reads as it did. -/
def keysMovedUptoRow : OpenClaim := { program := "ytpmmgpiamginaab", sum := "eb6d441633db7dbfa80788cf3a3b2c044428d18a9e8d21234514530811502342", func := "custodian/custodiankeep.KeysMoved", spec := "keysMoved", apart := false, narrowed := true }
def KeysMovedUptoSaid : Prop := keysMovedUptoRow.holds Try.pinned (OpenSpec.upto keysMovedSpec)

end Rows
end Go.Proofs.Ytpmmgpiamginaab
