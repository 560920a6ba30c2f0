/-
  No cell of these rows narrows 'for every input' (looked for: loops, veiled, ifaces, maps, wideKeys, modest, calm, conditions, laid).
  DERIVED. THE GIVEN ROWS OF THIS SEAT. 6 by the template 'for every input the law returns true; each argument reads behind the call as it read before'; 0 by the template 'total and deterministic' (their statements: YtpmmgpiamginaaaTotals.lean).
  GIVEN WITH THE SEED: the statements are not yours to turn. If you find one false, say at which input.
  Laid BY PROGRAM, IN A SANDBOX (cutbox-rows.mjs): the forced cells as the released guide's own fill.sh prints them over the translation 9e303ec505a5558c… (all of the seat's roots in one cut). By AI agents, Wed Nov 11 2026. No macro, syntax, notation, axiom, sorry.
-/
import Derived.Test.YtpmmgpiamginaaaChecked
import GoSem.Claim
import GoSem.ClaimJoined
import GoSem.ClaimMapViews
import Derived.JoinedTies
import Derived.KernelRfl
namespace Go.Proofs.Ytpmmgpiamginaaa
/- THE CELL 'sum', in the pinned program and in every row, IS THE sha256 OF THE DUMP (.gsa) THAT YtpmmgpiamginaaaProg.lean LOADS. Nothing in Lean hashes anything: it is a label: what it is worth is what the hold of that sum in a sandbox is worth. -/
noncomputable def Try.pinned : Pinned := { name := "ytpmmgpiamginaaa", sum := "9e303ec505a5558c125ec63a382717a497490626be712b282b6c958501304142", checked := Try.checked }
namespace Rows
def none {H : Type} : Left H := { results := [], args := [] }

/-- 'custodianlaw.KeysMay': WHATEVER THE INPUT: true; the input reads as it did. -/
def keysMaySpec : ChangeSpec := { name := "keysMay", fn := fun _ => fun
  | [d1, d2, d3] => { results := [.lit (.bool true)], args := [d1, d2, d3] }
  | _ => none }
def keysMayRow : OpenClaim := { program := "ytpmmgpiamginaaa", sum := "9e303ec505a5558c125ec63a382717a497490626be712b282b6c958501304142", func := "custodian/custodianlaw.KeysMay", spec := "keysMay", apart := false }
def KeysMaySaid : Prop := keysMayRow.holds Try.pinned (OpenSpec.ofChange keysMaySpec)

/-- ITS FALSE NEIGHBOUR: 'it returns false'. Refute it at one input. -/
def keysMayWrong : ChangeSpec := { name := "keysMay", fn := fun _ => fun
  | [d1, d2, d3] => { results := [.lit (.bool false)], args := [d1, d2, d3] }
  | _ => none }
def KeysMayWrongFalsely : Prop := keysMayRow.holds Try.pinned (OpenSpec.ofChange keysMayWrong)

/-- 'custodianlaw.KeysMoves': WHATEVER THE INPUT: true; the input reads as it did. -/
def keysMovesSpec : ChangeSpec := { name := "keysMoves", fn := fun _ => fun
  | [d1, d2] => { results := [.lit (.bool true)], args := [d1, d2] }
  | _ => none }
def keysMovesRow : OpenClaim := { program := "ytpmmgpiamginaaa", sum := "9e303ec505a5558c125ec63a382717a497490626be712b282b6c958501304142", func := "custodian/custodianlaw.KeysMoves", spec := "keysMoves", apart := false }
def KeysMovesSaid : Prop := keysMovesRow.holds Try.pinned (OpenSpec.ofChange keysMovesSpec)

/-- ITS FALSE NEIGHBOUR: 'it returns false'. Refute it at one input. -/
def keysMovesWrong : ChangeSpec := { name := "keysMoves", fn := fun _ => fun
  | [d1, d2] => { results := [.lit (.bool false)], args := [d1, d2] }
  | _ => none }
def KeysMovesWrongFalsely : Prop := keysMovesRow.holds Try.pinned (OpenSpec.ofChange keysMovesWrong)

/-- 'custodianlaw.KeysDrops': WHATEVER THE INPUT: true; the input reads as it did. -/
def keysDropsSpec : ChangeSpec := { name := "keysDrops", fn := fun _ => fun
  | [d1, d2] => { results := [.lit (.bool true)], args := [d1, d2] }
  | _ => none }
def keysDropsRow : OpenClaim := { program := "ytpmmgpiamginaaa", sum := "9e303ec505a5558c125ec63a382717a497490626be712b282b6c958501304142", func := "custodian/custodianlaw.KeysDrops", spec := "keysDrops", apart := false }
def KeysDropsSaid : Prop := keysDropsRow.holds Try.pinned (OpenSpec.ofChange keysDropsSpec)

/-- ITS FALSE NEIGHBOUR: 'it returns false'. Refute it at one input. -/
def keysDropsWrong : ChangeSpec := { name := "keysDrops", fn := fun _ => fun
  | [d1, d2] => { results := [.lit (.bool false)], args := [d1, d2] }
  | _ => none }
def KeysDropsWrongFalsely : Prop := keysDropsRow.holds Try.pinned (OpenSpec.ofChange keysDropsWrong)

/-- 'custodianlaw.KeysSeals': WHATEVER THE INPUT: true; the input reads as it did. -/
def keysSealsSpec : ChangeSpec := { name := "keysSeals", fn := fun _ => fun
  | [d1, d2] => { results := [.lit (.bool true)], args := [d1, d2] }
  | _ => none }
def keysSealsRow : OpenClaim := { program := "ytpmmgpiamginaaa", sum := "9e303ec505a5558c125ec63a382717a497490626be712b282b6c958501304142", func := "custodian/custodianlaw.KeysSeals", spec := "keysSeals", apart := false }
def KeysSealsSaid : Prop := keysSealsRow.holds Try.pinned (OpenSpec.ofChange keysSealsSpec)

/-- ITS FALSE NEIGHBOUR: 'it returns false'. Refute it at one input. -/
def keysSealsWrong : ChangeSpec := { name := "keysSeals", fn := fun _ => fun
  | [d1, d2] => { results := [.lit (.bool false)], args := [d1, d2] }
  | _ => none }
def KeysSealsWrongFalsely : Prop := keysSealsRow.holds Try.pinned (OpenSpec.ofChange keysSealsWrong)

/-- 'custodianlaw.KeysOpens': WHATEVER THE INPUT: true; the input reads as it did. -/
def keysOpensSpec : ChangeSpec := { name := "keysOpens", fn := fun _ => fun
  | [d1, d2] => { results := [.lit (.bool true)], args := [d1, d2] }
  | _ => none }
def keysOpensRow : OpenClaim := { program := "ytpmmgpiamginaaa", sum := "9e303ec505a5558c125ec63a382717a497490626be712b282b6c958501304142", func := "custodian/custodianlaw.KeysOpens", spec := "keysOpens", apart := false }
def KeysOpensSaid : Prop := keysOpensRow.holds Try.pinned (OpenSpec.ofChange keysOpensSpec)

/-- ITS FALSE NEIGHBOUR: 'it returns false'. Refute it at one input. -/
def keysOpensWrong : ChangeSpec := { name := "keysOpens", fn := fun _ => fun
  | [d1, d2] => { results := [.lit (.bool false)], args := [d1, d2] }
  | _ => none }
def KeysOpensWrongFalsely : Prop := keysOpensRow.holds Try.pinned (OpenSpec.ofChange keysOpensWrong)

/-- 'custodiankeep.KeysDown': WHATEVER THE INPUT: true; the input reads as it did. -/
def keysDownSpec : ChangeSpec := { name := "keysDown", fn := fun _ => fun
  | [d1, d2, d3] => { results := [.lit (.bool true)], args := [d1, d2, d3] }
  | _ => none }
def keysDownRow : OpenClaim := { program := "ytpmmgpiamginaaa", sum := "9e303ec505a5558c125ec63a382717a497490626be712b282b6c958501304142", func := "custodian/custodiankeep.KeysDown", spec := "keysDown", unfollowed := true, recurses := true, apart := false }
def KeysDownSaid : Prop := keysDownRow.holds Try.pinned (OpenSpec.ofChange keysDownSpec)

/-- ITS FALSE NEIGHBOUR: 'it returns false'. Refute it at one input. -/
def keysDownWrong : ChangeSpec := { name := "keysDown", fn := fun _ => fun
  | [d1, d2, d3] => { results := [.lit (.bool false)], args := [d1, d2, d3] }
  | _ => none }
def KeysDownWrongFalsely : Prop := keysDownRow.holds Try.pinned (OpenSpec.ofChange keysDownWrong)

/- THE SECOND FORM. 'bulk': how many values and letters a reading holds, each counted each time it is reached (what is shared counts as often as it is met; a slice's spare places count too). A statement '..UptoSaid' is the law's where the arguments, and the package variables that the reading takes, are together of bulk at most 1048576: NARROWER than '..Said'. Prove '..Said' where nothing that the law and all that it calls make is longer than what came in: it says more and counts as full. Else prove '..UptoSaid'. A law counts once. -/
mutual
def uptoBulk {H : Type} : DataW H → Nat
  | .lit (.string bytes) => bytes.length + 1
  | .lit _ => 1
  | .nil => 1
  | .ptr d => uptoBulk d + 1
  | .slice elems spare => uptoBulkAll elems + uptoBulkAll spare + 1
  | .agg parts => uptoBulkAll parts + 1
  | .iface _ d => uptoBulk d + 1
  | .map entries => uptoBulkEntries entries + 1
  | .held _ => 1
def uptoBulkAll {H : Type} : List (DataW H) → Nat
  | [] => 0
  | d :: r => uptoBulk d + uptoBulkAll r
def uptoBulkEntries {H : Type} : List (Lit × DataW H) → Nat
  | [] => 0
  | x :: r => uptoBulkEntry x + uptoBulkEntries r
def uptoBulkEntry {H : Type} : Lit × DataW H → Nat
  | (.string bytes, d) => bytes.length + uptoBulk d + 1
  | (_, d) => uptoBulk d + 1
 end
def uptoSmall : (H : Type) → List (DataW H) → Bool := fun _ ds => decide (uptoBulkAll ds ≤ 1048576)
def OpenSpec.upto (s : _root_.Go.ChangeSpec) : _root_.Go.OpenSpec := { _root_.Go.OpenSpec.ofChange s with cond := some uptoSmall }

/-- 'custodianlaw.KeysMay', WHERE WHAT IT READS IS OF BULK AT MOST 1048576: true; the input reads as it did. -/
def keysMayUptoRow : OpenClaim := { program := "ytpmmgpiamginaaa", sum := "9e303ec505a5558c125ec63a382717a497490626be712b282b6c958501304142", func := "custodian/custodianlaw.KeysMay", spec := "keysMay", apart := false, narrowed := true }
def KeysMayUptoSaid : Prop := keysMayUptoRow.holds Try.pinned (OpenSpec.upto keysMaySpec)

/-- 'custodianlaw.KeysMoves', WHERE WHAT IT READS IS OF BULK AT MOST 1048576: true; the input reads as it did. -/
def keysMovesUptoRow : OpenClaim := { program := "ytpmmgpiamginaaa", sum := "9e303ec505a5558c125ec63a382717a497490626be712b282b6c958501304142", func := "custodian/custodianlaw.KeysMoves", spec := "keysMoves", apart := false, narrowed := true }
def KeysMovesUptoSaid : Prop := keysMovesUptoRow.holds Try.pinned (OpenSpec.upto keysMovesSpec)

/-- 'custodianlaw.KeysDrops', WHERE WHAT IT READS IS OF BULK AT MOST 1048576: true; the input reads as it did. -/
def keysDropsUptoRow : OpenClaim := { program := "ytpmmgpiamginaaa", sum := "9e303ec505a5558c125ec63a382717a497490626be712b282b6c958501304142", func := "custodian/custodianlaw.KeysDrops", spec := "keysDrops", apart := false, narrowed := true }
def KeysDropsUptoSaid : Prop := keysDropsUptoRow.holds Try.pinned (OpenSpec.upto keysDropsSpec)

/-- 'custodianlaw.KeysSeals', WHERE WHAT IT READS IS OF BULK AT MOST 1048576: true; the input reads as it did. -/
def keysSealsUptoRow : OpenClaim := { program := "ytpmmgpiamginaaa", sum := "9e303ec505a5558c125ec63a382717a497490626be712b282b6c958501304142", func := "custodian/custodianlaw.KeysSeals", spec := "keysSeals", apart := false, narrowed := true }
def KeysSealsUptoSaid : Prop := keysSealsUptoRow.holds Try.pinned (OpenSpec.upto keysSealsSpec)

/-- 'custodianlaw.KeysOpens', WHERE WHAT IT READS IS OF BULK AT MOST 1048576: true; the input reads as it did. -/
def keysOpensUptoRow : OpenClaim := { program := "ytpmmgpiamginaaa", sum := "9e303ec505a5558c125ec63a382717a497490626be712b282b6c958501304142", func := "custodian/custodianlaw.KeysOpens", spec := "keysOpens", apart := false, narrowed := true }
def KeysOpensUptoSaid : Prop := keysOpensUptoRow.holds Try.pinned (OpenSpec.upto keysOpensSpec)

/-- 'custodiankeep.KeysDown', WHERE WHAT IT READS IS OF BULK AT MOST 1048576: true; the input reads as it did. -/
def keysDownUptoRow : OpenClaim := { program := "ytpmmgpiamginaaa", sum := "9e303ec505a5558c125ec63a382717a497490626be712b282b6c958501304142", func := "custodian/custodiankeep.KeysDown", spec := "keysDown", unfollowed := true, recurses := true, apart := false, narrowed := true }
def KeysDownUptoSaid : Prop := keysDownUptoRow.holds Try.pinned (OpenSpec.upto keysDownSpec)

end Rows
end Go.Proofs.Ytpmmgpiamginaaa
