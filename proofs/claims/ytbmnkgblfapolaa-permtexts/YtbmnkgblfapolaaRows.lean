/-
  No cell of these rows narrows 'for every input' (looked for: loops, veiled, ifaces, maps, wideKeys, modest, calm, conditions, laid).
  DERIVED. THE GIVEN ROWS OF THIS SEAT. 4 by the template 'for every input the law returns true; each argument reads behind the call as it read before'; 0 by the template 'total and deterministic' (their statements: YtbmnkgblfapolaaTotals.lean).
  GIVEN WITH THE SEED: the statements are not yours to turn. If you find one false, say at which input.
  Laid BY PROGRAM, IN A SANDBOX (cutbox-rows.mjs): the forced cells as the released guide's own fill.sh prints them over the translation 35aa537e3b242f28… (all of the seat's roots in one cut). By AI agents, Wed Nov 11 2026. No macro, syntax, notation, axiom, sorry.
-/
import Derived.Test.YtbmnkgblfapolaaChecked
import GoSem.Claim
import GoSem.ClaimJoined
import GoSem.ClaimMapViews
import Derived.JoinedTies
import Derived.KernelRfl
namespace Go.Proofs.Ytbmnkgblfapolaa
/- THE CELL 'sum', in the pinned program and in every row, IS THE sha256 OF THE DUMP (.gsa) THAT YtbmnkgblfapolaaProg.lean LOADS. Nothing in Lean hashes anything: it is a label: what it is worth is what the hold of that sum in a sandbox is worth. -/
noncomputable def Try.pinned : Pinned := { name := "ytbmnkgblfapolaa", sum := "35aa537e3b242f286b096655e50edc5a19d0291d0a6617e385fff8e335c90035", checked := Try.checked }
namespace Rows
def none {H : Type} : Left H := { results := [], args := [] }

/-- 'custodianlaw.PermTexts': WHATEVER THE INPUT: true; the input reads as it did. -/
def permTextsSpec : ChangeSpec := { name := "permTexts", fn := fun _ => fun
  | [d1, d2] => { results := [.lit (.bool true)], args := [d1, d2] }
  | _ => none }
def permTextsRow : OpenClaim := { program := "ytbmnkgblfapolaa", sum := "35aa537e3b242f286b096655e50edc5a19d0291d0a6617e385fff8e335c90035", func := "custodian/custodianlaw.PermTexts", spec := "permTexts", unfollowed := true, recurses := true, apart := false }
def PermTextsSaid : Prop := permTextsRow.holds Try.pinned (OpenSpec.ofChange permTextsSpec)

/-- ITS FALSE NEIGHBOUR: 'it returns false'. Refute it at one input. -/
def permTextsWrong : ChangeSpec := { name := "permTexts", fn := fun _ => fun
  | [d1, d2] => { results := [.lit (.bool false)], args := [d1, d2] }
  | _ => none }
def PermTextsWrongFalsely : Prop := permTextsRow.holds Try.pinned (OpenSpec.ofChange permTextsWrong)

/-- 'custodianlaw.PermWithins': WHATEVER THE INPUT: true; the input reads as it did. -/
def permWithinsSpec : ChangeSpec := { name := "permWithins", fn := fun _ => fun
  | [d1, d2] => { results := [.lit (.bool true)], args := [d1, d2] }
  | _ => none }
def permWithinsRow : OpenClaim := { program := "ytbmnkgblfapolaa", sum := "35aa537e3b242f286b096655e50edc5a19d0291d0a6617e385fff8e335c90035", func := "custodian/custodianlaw.PermWithins", spec := "permWithins", apart := false }
def PermWithinsSaid : Prop := permWithinsRow.holds Try.pinned (OpenSpec.ofChange permWithinsSpec)

/-- ITS FALSE NEIGHBOUR: 'it returns false'. Refute it at one input. -/
def permWithinsWrong : ChangeSpec := { name := "permWithins", fn := fun _ => fun
  | [d1, d2] => { results := [.lit (.bool false)], args := [d1, d2] }
  | _ => none }
def PermWithinsWrongFalsely : Prop := permWithinsRow.holds Try.pinned (OpenSpec.ofChange permWithinsWrong)

/-- 'custodiankeep.PermBack': WHATEVER THE INPUT: true; the input reads as it did. -/
def permBackSpec : ChangeSpec := { name := "permBack", fn := fun _ => fun
  | [d1, d2] => { results := [.lit (.bool true)], args := [d1, d2] }
  | _ => none }
def permBackRow : OpenClaim := { program := "ytbmnkgblfapolaa", sum := "35aa537e3b242f286b096655e50edc5a19d0291d0a6617e385fff8e335c90035", func := "custodian/custodiankeep.PermBack", spec := "permBack", unfollowed := true, recurses := true, apart := false }
def PermBackSaid : Prop := permBackRow.holds Try.pinned (OpenSpec.ofChange permBackSpec)

/-- ITS FALSE NEIGHBOUR: 'it returns false'. Refute it at one input. -/
def permBackWrong : ChangeSpec := { name := "permBack", fn := fun _ => fun
  | [d1, d2] => { results := [.lit (.bool false)], args := [d1, d2] }
  | _ => none }
def PermBackWrongFalsely : Prop := permBackRow.holds Try.pinned (OpenSpec.ofChange permBackWrong)

/-- 'custodiankeep.PermLattice': WHATEVER THE INPUT: true; the input reads as it did. -/
def permLatticeSpec : ChangeSpec := { name := "permLattice", fn := fun _ => fun
  | [d1, d2, d3] => { results := [.lit (.bool true)], args := [d1, d2, d3] }
  | _ => none }
def permLatticeRow : OpenClaim := { program := "ytbmnkgblfapolaa", sum := "35aa537e3b242f286b096655e50edc5a19d0291d0a6617e385fff8e335c90035", func := "custodian/custodiankeep.PermLattice", spec := "permLattice", unfollowed := true, recurses := true, apart := false }
def PermLatticeSaid : Prop := permLatticeRow.holds Try.pinned (OpenSpec.ofChange permLatticeSpec)

/-- ITS FALSE NEIGHBOUR: 'it returns false'. Refute it at one input. -/
def permLatticeWrong : ChangeSpec := { name := "permLattice", fn := fun _ => fun
  | [d1, d2, d3] => { results := [.lit (.bool false)], args := [d1, d2, d3] }
  | _ => none }
def PermLatticeWrongFalsely : Prop := permLatticeRow.holds Try.pinned (OpenSpec.ofChange permLatticeWrong)

/- THE SECOND FORM. 'bulk': how many values and letters a reading holds, each counted each time it is reached (what is shared counts as often as it is met; a slice's spare places count too). A statement '..UptoSaid' is the law's where the arguments, and the package variables that the reading takes, are together of bulk at most 1048576: NARROWER than '..Said'. Prove '..Said' where nothing that the law and all that it calls make is longer than what came in: it says more and counts as full. Else prove '..UptoSaid'. A law counts once. -/
mutual
def uptoBulk {H : Type} : DataW H → Nat
  | .lit (.string bytes) => bytes.length + 1
  | .lit _ => 1
  | .nil => 1
  | .ptr d => uptoBulk d + 1
  | .slice elems spare => uptoBulkAll elems + uptoBulkAll spare + 1
  | .agg parts => uptoBulkAll parts + 1
  | .iface _ d => uptoBulk d + 1
  | .map entries => uptoBulkEntries entries + 1
  | .held _ => 1
def uptoBulkAll {H : Type} : List (DataW H) → Nat
  | [] => 0
  | d :: r => uptoBulk d + uptoBulkAll r
def uptoBulkEntries {H : Type} : List (Lit × DataW H) → Nat
  | [] => 0
  | x :: r => uptoBulkEntry x + uptoBulkEntries r
def uptoBulkEntry {H : Type} : Lit × DataW H → Nat
  | (.string bytes, d) => bytes.length + uptoBulk d + 1
  | (_, d) => uptoBulk d + 1
 end
def uptoSmall : (H : Type) → List (DataW H) → Bool := fun _ ds => decide (uptoBulkAll ds ≤ 1048576)
def OpenSpec.upto (s : _root_.Go.ChangeSpec) : _root_.Go.OpenSpec := { _root_.Go.OpenSpec.ofChange s with cond := some uptoSmall }

/-- 'custodianlaw.PermTexts', WHERE WHAT IT READS IS OF BULK AT MOST 1048576: true; the input reads as it did. -/
def permTextsUptoRow : OpenClaim := { program := "ytbmnkgblfapolaa", sum := "35aa537e3b242f286b096655e50edc5a19d0291d0a6617e385fff8e335c90035", func := "custodian/custodianlaw.PermTexts", spec := "permTexts", unfollowed := true, recurses := true, apart := false, narrowed := true }
def PermTextsUptoSaid : Prop := permTextsUptoRow.holds Try.pinned (OpenSpec.upto permTextsSpec)

/-- 'custodianlaw.PermWithins', WHERE WHAT IT READS IS OF BULK AT MOST 1048576: true; the input reads as it did. -/
def permWithinsUptoRow : OpenClaim := { program := "ytbmnkgblfapolaa", sum := "35aa537e3b242f286b096655e50edc5a19d0291d0a6617e385fff8e335c90035", func := "custodian/custodianlaw.PermWithins", spec := "permWithins", apart := false, narrowed := true }
def PermWithinsUptoSaid : Prop := permWithinsUptoRow.holds Try.pinned (OpenSpec.upto permWithinsSpec)

/-- 'custodiankeep.PermBack', WHERE WHAT IT READS IS OF BULK AT MOST 1048576: true; the input reads as it did. -/
def permBackUptoRow : OpenClaim := { program := "ytbmnkgblfapolaa", sum := "35aa537e3b242f286b096655e50edc5a19d0291d0a6617e385fff8e335c90035", func := "custodian/custodiankeep.PermBack", spec := "permBack", unfollowed := true, recurses := true, apart := false, narrowed := true }
def PermBackUptoSaid : Prop := permBackUptoRow.holds Try.pinned (OpenSpec.upto permBackSpec)

/-- 'custodiankeep.PermLattice', WHERE WHAT IT READS IS OF BULK AT MOST 1048576: true; the input reads as it did. -/
def permLatticeUptoRow : OpenClaim := { program := "ytbmnkgblfapolaa", sum := "35aa537e3b242f286b096655e50edc5a19d0291d0a6617e385fff8e335c90035", func := "custodian/custodiankeep.PermLattice", spec := "permLattice", unfollowed := true, recurses := true, apart := false, narrowed := true }
def PermLatticeUptoSaid : Prop := permLatticeUptoRow.holds Try.pinned (OpenSpec.upto permLatticeSpec)

end Rows
end Go.Proofs.Ytbmnkgblfapolaa
