/-
  No cell of these rows narrows 'for every input' (looked for: loops, veiled, ifaces, maps, wideKeys, modest, calm, conditions, laid).
  DERIVED. THE GIVEN ROWS OF THIS SEAT. 5 by the template 'for every input the law returns true; each argument reads behind the call as it read before'; 0 by the template 'total and deterministic' (their statements: YthijebhhbflclaaTotals.lean).
  GIVEN WITH THE SEED: the statements are not yours to turn. If you find one false, say at which input.
  Laid BY PROGRAM, IN A SANDBOX (cutbox-rows.mjs): the forced cells as the released guide's own fill.sh prints them over the translation 9fbdfad1810a5f3a… (all of the seat's roots in one cut). By AI agents, Wed Nov 11 2026. No macro, syntax, notation, axiom, sorry.
-/
import Derived.Test.YthijebhhbflclaaChecked
import GoSem.Claim
import GoSem.ClaimJoined
import GoSem.ClaimMapViews
import Derived.JoinedTies
import Derived.KernelRfl
namespace Go.Proofs.Ythijebhhbflclaa
/- THE CELL 'sum', in the pinned program and in every row, IS THE sha256 OF THE DUMP (.gsa) THAT YthijebhhbflclaaProg.lean LOADS. Nothing in Lean hashes anything: it is a label: what it is worth is what the hold of that sum in a sandbox is worth. -/
noncomputable def Try.pinned : Pinned := { name := "ythijebhhbflclaa", sum := "9fbdfad1810a5f3a39191929dd0082fff76688b171bae17b8c1ff11c1d122238", checked := Try.checked }
namespace Rows
def none {H : Type} : Left H := { results := [], args := [] }

/-- 'custodianlaw.SweepSweeps': WHATEVER THE INPUT: true; the input reads as it did. -/
def sweepSweepsSpec : ChangeSpec := { name := "sweepSweeps", fn := fun _ => fun
  | [d1, d2, d3] => { results := [.lit (.bool true)], args := [d1, d2, d3] }
  | _ => none }
def sweepSweepsRow : OpenClaim := { program := "ythijebhhbflclaa", sum := "9fbdfad1810a5f3a39191929dd0082fff76688b171bae17b8c1ff11c1d122238", func := "custodian/custodianlaw.SweepSweeps", spec := "sweepSweeps", unfollowed := true, recurses := true, apart := false }
def SweepSweepsSaid : Prop := sweepSweepsRow.holds Try.pinned (OpenSpec.ofChange sweepSweepsSpec)

/-- ITS FALSE NEIGHBOUR: 'it returns false'. Refute it at one input. -/
def sweepSweepsWrong : ChangeSpec := { name := "sweepSweeps", fn := fun _ => fun
  | [d1, d2, d3] => { results := [.lit (.bool false)], args := [d1, d2, d3] }
  | _ => none }
def SweepSweepsWrongFalsely : Prop := sweepSweepsRow.holds Try.pinned (OpenSpec.ofChange sweepSweepsWrong)

/-- 'custodianlaw.SweepHas': WHATEVER THE INPUT: true; the input reads as it did. -/
def sweepHasSpec : ChangeSpec := { name := "sweepHas", fn := fun _ => fun
  | [d1, d2, d3] => { results := [.lit (.bool true)], args := [d1, d2, d3] }
  | _ => none }
def sweepHasRow : OpenClaim := { program := "ythijebhhbflclaa", sum := "9fbdfad1810a5f3a39191929dd0082fff76688b171bae17b8c1ff11c1d122238", func := "custodian/custodianlaw.SweepHas", spec := "sweepHas", unfollowed := true, recurses := true, apart := false }
def SweepHasSaid : Prop := sweepHasRow.holds Try.pinned (OpenSpec.ofChange sweepHasSpec)

/-- ITS FALSE NEIGHBOUR: 'it returns false'. Refute it at one input. -/
def sweepHasWrong : ChangeSpec := { name := "sweepHas", fn := fun _ => fun
  | [d1, d2, d3] => { results := [.lit (.bool false)], args := [d1, d2, d3] }
  | _ => none }
def SweepHasWrongFalsely : Prop := sweepHasRow.holds Try.pinned (OpenSpec.ofChange sweepHasWrong)

/-- 'custodiankeep.SweepNone': WHATEVER THE INPUT: true; the input reads as it did. -/
def sweepNoneSpec : ChangeSpec := { name := "sweepNone", fn := fun _ => fun
  | [d1, d2, d3] => { results := [.lit (.bool true)], args := [d1, d2, d3] }
  | _ => none }
def sweepNoneRow : OpenClaim := { program := "ythijebhhbflclaa", sum := "9fbdfad1810a5f3a39191929dd0082fff76688b171bae17b8c1ff11c1d122238", func := "custodian/custodiankeep.SweepNone", spec := "sweepNone", apart := false }
def SweepNoneSaid : Prop := sweepNoneRow.holds Try.pinned (OpenSpec.ofChange sweepNoneSpec)

/-- ITS FALSE NEIGHBOUR: 'it returns false'. Refute it at one input. -/
def sweepNoneWrong : ChangeSpec := { name := "sweepNone", fn := fun _ => fun
  | [d1, d2, d3] => { results := [.lit (.bool false)], args := [d1, d2, d3] }
  | _ => none }
def SweepNoneWrongFalsely : Prop := sweepNoneRow.holds Try.pinned (OpenSpec.ofChange sweepNoneWrong)

/-- 'custodiankeep.SweepOthers': WHATEVER THE INPUT: true; the input reads as it did. -/
def sweepOthersSpec : ChangeSpec := { name := "sweepOthers", fn := fun _ => fun
  | [d1, d2, d3] => { results := [.lit (.bool true)], args := [d1, d2, d3] }
  | _ => none }
def sweepOthersRow : OpenClaim := { program := "ythijebhhbflclaa", sum := "9fbdfad1810a5f3a39191929dd0082fff76688b171bae17b8c1ff11c1d122238", func := "custodian/custodiankeep.SweepOthers", spec := "sweepOthers", unfollowed := true, recurses := true, apart := false }
def SweepOthersSaid : Prop := sweepOthersRow.holds Try.pinned (OpenSpec.ofChange sweepOthersSpec)

/-- ITS FALSE NEIGHBOUR: 'it returns false'. Refute it at one input. -/
def sweepOthersWrong : ChangeSpec := { name := "sweepOthers", fn := fun _ => fun
  | [d1, d2, d3] => { results := [.lit (.bool false)], args := [d1, d2, d3] }
  | _ => none }
def SweepOthersWrongFalsely : Prop := sweepOthersRow.holds Try.pinned (OpenSpec.ofChange sweepOthersWrong)

/-- 'custodiankeep.SweepBoth': WHATEVER THE INPUT: true; the input reads as it did. -/
def sweepBothSpec : ChangeSpec := { name := "sweepBoth", fn := fun _ => fun
  | [d1, d2, d3, d4, d5] => { results := [.lit (.bool true)], args := [d1, d2, d3, d4, d5] }
  | _ => none }
def sweepBothRow : OpenClaim := { program := "ythijebhhbflclaa", sum := "9fbdfad1810a5f3a39191929dd0082fff76688b171bae17b8c1ff11c1d122238", func := "custodian/custodiankeep.SweepBoth", spec := "sweepBoth", apart := false }
def SweepBothSaid : Prop := sweepBothRow.holds Try.pinned (OpenSpec.ofChange sweepBothSpec)

/-- ITS FALSE NEIGHBOUR: 'it returns false'. Refute it at one input. -/
def sweepBothWrong : ChangeSpec := { name := "sweepBoth", fn := fun _ => fun
  | [d1, d2, d3, d4, d5] => { results := [.lit (.bool false)], args := [d1, d2, d3, d4, d5] }
  | _ => none }
def SweepBothWrongFalsely : Prop := sweepBothRow.holds Try.pinned (OpenSpec.ofChange sweepBothWrong)

/- THE SECOND FORM. 'bulk': how many values and letters a reading holds, each counted each time it is reached (what is shared counts as often as it is met; a slice's spare places count too). A statement '..UptoSaid' is the law's where the arguments, and the package variables that the reading takes, are together of bulk at most 1048576: NARROWER than '..Said'. Prove '..Said' where nothing that the law and all that it calls make is longer than what came in: it says more and counts as full. Else prove '..UptoSaid'. A law counts once. -/
mutual
def uptoBulk {H : Type} : DataW H → Nat
  | .lit (.string bytes) => bytes.length + 1
  | .lit _ => 1
  | .nil => 1
  | .ptr d => uptoBulk d + 1
  | .slice elems spare => uptoBulkAll elems + uptoBulkAll spare + 1
  | .agg parts => uptoBulkAll parts + 1
  | .iface _ d => uptoBulk d + 1
  | .map entries => uptoBulkEntries entries + 1
  | .held _ => 1
def uptoBulkAll {H : Type} : List (DataW H) → Nat
  | [] => 0
  | d :: r => uptoBulk d + uptoBulkAll r
def uptoBulkEntries {H : Type} : List (Lit × DataW H) → Nat
  | [] => 0
  | x :: r => uptoBulkEntry x + uptoBulkEntries r
def uptoBulkEntry {H : Type} : Lit × DataW H → Nat
  | (.string bytes, d) => bytes.length + uptoBulk d + 1
  | (_, d) => uptoBulk d + 1
 end
def uptoSmall : (H : Type) → List (DataW H) → Bool := fun _ ds => decide (uptoBulkAll ds ≤ 1048576)
def OpenSpec.upto (s : _root_.Go.ChangeSpec) : _root_.Go.OpenSpec := { _root_.Go.OpenSpec.ofChange s with cond := some uptoSmall }

/-- 'custodianlaw.SweepSweeps', WHERE WHAT IT READS IS OF BULK AT MOST 1048576: true; the input reads as it did. -/
def sweepSweepsUptoRow : OpenClaim := { program := "ythijebhhbflclaa", sum := "9fbdfad1810a5f3a39191929dd0082fff76688b171bae17b8c1ff11c1d122238", func := "custodian/custodianlaw.SweepSweeps", spec := "sweepSweeps", unfollowed := true, recurses := true, apart := false, narrowed := true }
def SweepSweepsUptoSaid : Prop := sweepSweepsUptoRow.holds Try.pinned (OpenSpec.upto sweepSweepsSpec)

/-- 'custodianlaw.SweepHas', WHERE WHAT IT READS IS OF BULK AT MOST 1048576: true; the input reads as it did. -/
def sweepHasUptoRow : OpenClaim := { program := "ythijebhhbflclaa", sum := "9fbdfad1810a5f3a39191929dd0082fff76688b171bae17b8c1ff11c1d122238", func := "custodian/custodianlaw.SweepHas", spec := "sweepHas", unfollowed := true, recurses := true, apart := false, narrowed := true }
def SweepHasUptoSaid : Prop := sweepHasUptoRow.holds Try.pinned (OpenSpec.upto sweepHasSpec)

/-- 'custodiankeep.SweepNone', WHERE WHAT IT READS IS OF BULK AT MOST 1048576: true; the input reads as it did. -/
def sweepNoneUptoRow : OpenClaim := { program := "ythijebhhbflclaa", sum := "9fbdfad1810a5f3a39191929dd0082fff76688b171bae17b8c1ff11c1d122238", func := "custodian/custodiankeep.SweepNone", spec := "sweepNone", apart := false, narrowed := true }
def SweepNoneUptoSaid : Prop := sweepNoneUptoRow.holds Try.pinned (OpenSpec.upto sweepNoneSpec)

/-- 'custodiankeep.SweepOthers', WHERE WHAT IT READS IS OF BULK AT MOST 1048576: true; the input reads as it did. -/
def sweepOthersUptoRow : OpenClaim := { program := "ythijebhhbflclaa", sum := "9fbdfad1810a5f3a39191929dd0082fff76688b171bae17b8c1ff11c1d122238", func := "custodian/custodiankeep.SweepOthers", spec := "sweepOthers", unfollowed := true, recurses := true, apart := false, narrowed := true }
def SweepOthersUptoSaid : Prop := sweepOthersUptoRow.holds Try.pinned (OpenSpec.upto sweepOthersSpec)

/-- 'custodiankeep.SweepBoth', WHERE WHAT IT READS IS OF BULK AT MOST 1048576: true; the input reads as it did. -/
def sweepBothUptoRow : OpenClaim := { program := "ythijebhhbflclaa", sum := "9fbdfad1810a5f3a39191929dd0082fff76688b171bae17b8c1ff11c1d122238", func := "custodian/custodiankeep.SweepBoth", spec := "sweepBoth", apart := false, narrowed := true }
def SweepBothUptoSaid : Prop := sweepBothUptoRow.holds Try.pinned (OpenSpec.upto sweepBothSpec)

end Rows
end Go.Proofs.Ythijebhhbflclaa
