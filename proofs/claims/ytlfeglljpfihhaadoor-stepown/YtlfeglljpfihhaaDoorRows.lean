/-
  NARROWER THAN 'FOR EVERY INPUT', by the rows' own cells (each row's printed sentence says how): StepSame: laid · StepDown: laid · StepOwn: laid · RunGuards: laid · RunBlind: laid · SweepSafe: laid.
  DERIVED. THE GIVEN ROWS OF THIS SEAT. 6 by the template 'for every input the law returns true; each argument reads behind the call as it read before'; 0 by the template 'total and deterministic' (their statements: YtlfeglljpfihhaaDoorTotals.lean).
  GIVEN WITH THE SEED: the statements are not yours to turn. If you find one false, say at which input.
  Laid BY PROGRAM, IN A SANDBOX (cutbox-rows.mjs): the forced cells as the released guide's own fill.sh prints them over the translation 24453c8faa1c54c7… (all of the seat's roots in one cut). By AI agents, Wed Nov 11 2026. No macro, syntax, notation, axiom, sorry.
-/
import Derived.Test.YtlfeglljpfihhaaDoorChecked
import GoSem.Claim
import GoSem.ClaimJoined
import GoSem.ClaimMapViews
import Derived.JoinedTies
import Derived.KernelRfl
namespace Go.Proofs.YtlfeglljpfihhaaDoor
/- THE CELL 'sum', in the pinned program and in every row, IS THE sha256 OF THE DUMP (.gsa) THAT YtlfeglljpfihhaaDoorProg.lean LOADS. Nothing in Lean hashes anything: it is a label: what it is worth is what the hold of that sum in a sandbox is worth. -/
noncomputable def Tryd.pinned : Pinned := { name := "ytlfeglljpfihhaadoor", sum := "24453c8faa1c54c70656a64b0dab94b3be45bc14a7f23d1d408160e570f5ca1a", checked := Tryd.checked }
namespace Rows
def none {H : Type} : Left H := { results := [], args := [] }

/- WHAT THE LISTED PACKAGE-LEVEL VARIABLES READ AS WHEN THE CALL BEGINS. Each datum BY PROGRAM (the guide's laid-datum.mjs) off the statement by which the dump's own 'gosem.cut.vars' lays the variable. In a bare row this is a premise. The card (YtlfeglljpfihhaaDoorCards.lean) ties it to the program's text. -/
def laid_custodian_inst_shapes {H : Type} : DataW H := .agg [.agg [.lit (.string [104, 97, 108, 116]), .lit (.int .i64 0), .lit (.int .i64 0), .lit (.int .i64 0)], .agg [.lit (.string [115, 101, 116]), .lit (.int .i64 1), .lit (.int .i64 0), .lit (.int .i64 2)], .agg [.lit (.string [99, 111, 112, 121]), .lit (.int .i64 1), .lit (.int .i64 1), .lit (.int .i64 0)], .agg [.lit (.string [97, 100, 100]), .lit (.int .i64 1), .lit (.int .i64 1), .lit (.int .i64 1)], .agg [.lit (.string [115, 117, 98]), .lit (.int .i64 1), .lit (.int .i64 1), .lit (.int .i64 1)], .agg [.lit (.string [109, 117, 108]), .lit (.int .i64 1), .lit (.int .i64 1), .lit (.int .i64 1)], .agg [.lit (.string [100, 105, 118]), .lit (.int .i64 1), .lit (.int .i64 1), .lit (.int .i64 1)], .agg [.lit (.string [108, 101, 115, 115]), .lit (.int .i64 1), .lit (.int .i64 1), .lit (.int .i64 1)], .agg [.lit (.string [106, 117, 109, 112]), .lit (.int .i64 0), .lit (.int .i64 0), .lit (.int .i64 2)], .agg [.lit (.string [105, 102]), .lit (.int .i64 1), .lit (.int .i64 0), .lit (.int .i64 2)], .agg [.lit (.string [108, 111, 97, 100]), .lit (.int .i64 1), .lit (.int .i64 1), .lit (.int .i64 2)], .agg [.lit (.string [115, 116, 111, 114, 101]), .lit (.int .i64 1), .lit (.int .i64 1), .lit (.int .i64 2)], .agg [.lit (.string [109, 111, 118, 101]), .lit (.int .i64 1), .lit (.int .i64 1), .lit (.int .i64 1)], .agg [.lit (.string [110, 97, 114, 114, 111, 119]), .lit (.int .i64 1), .lit (.int .i64 1), .lit (.int .i64 1)], .agg [.lit (.string [100, 114, 111, 112]), .lit (.int .i64 1), .lit (.int .i64 1), .lit (.int .i64 3)], .agg [.lit (.string [115, 101, 97, 108]), .lit (.int .i64 1), .lit (.int .i64 1), .lit (.int .i64 1)], .agg [.lit (.string [111, 112, 101, 110]), .lit (.int .i64 1), .lit (.int .i64 1), .lit (.int .i64 1)], .agg [.lit (.string [97, 115, 107]), .lit (.int .i64 1), .lit (.int .i64 1), .lit (.int .i64 4)], .agg [.lit (.string [99, 97, 108, 108]), .lit (.int .i64 1), .lit (.int .i64 1), .lit (.int .i64 0)], .agg [.lit (.string [98, 97, 99, 107]), .lit (.int .i64 0), .lit (.int .i64 0), .lit (.int .i64 0)], .agg [.lit (.string [104, 101, 114, 101]), .lit (.int .i64 1), .lit (.int .i64 0), .lit (.int .i64 0)], .agg [.lit (.string [99, 108, 101, 97, 114]), .lit (.int .i64 0), .lit (.int .i64 0), .lit (.int .i64 5)], .agg [.lit (.string [116, 101, 108, 108]), .lit (.int .i64 1), .lit (.int .i64 0), .lit (.int .i64 0)]]

/-- 'custodiankeep.StepSame': WHATEVER THE INPUT: true; the input reads as it did. -/
def stepSameSpec : ChangeSpec := { name := "stepSame", fn := fun _ => fun
  | [d1, d2, d3] => { results := [.lit (.bool true)], args := [d1, d2, d3] }
  | _ => none }
def stepSameRow : OpenClaim := { program := "ytlfeglljpfihhaadoor", sum := "24453c8faa1c54c70656a64b0dab94b3be45bc14a7f23d1d408160e570f5ca1a", func := "custodian/custodiankeep.StepSame", spec := "stepSame", unfollowed := true, recurses := true, named := ["custodian/inst.shapes"], plainKeys := false, apart := false, laid := [("custodian/inst.shapes", laid_custodian_inst_shapes)] }
def StepSameSaid : Prop := stepSameRow.holds Tryd.pinned (OpenSpec.ofChange stepSameSpec)

/-- ITS FALSE NEIGHBOUR: 'it returns false'. Refute it at one input. -/
def stepSameWrong : ChangeSpec := { name := "stepSame", fn := fun _ => fun
  | [d1, d2, d3] => { results := [.lit (.bool false)], args := [d1, d2, d3] }
  | _ => none }
def StepSameWrongFalsely : Prop := stepSameRow.holds Tryd.pinned (OpenSpec.ofChange stepSameWrong)

/-- 'custodiankeep.StepDown': WHATEVER THE INPUT: true; the input reads as it did. -/
def stepDownSpec : ChangeSpec := { name := "stepDown", fn := fun _ => fun
  | [d] => { results := [.lit (.bool true)], args := [d] }
  | _ => none }
def stepDownRow : OpenClaim := { program := "ytlfeglljpfihhaadoor", sum := "24453c8faa1c54c70656a64b0dab94b3be45bc14a7f23d1d408160e570f5ca1a", func := "custodian/custodiankeep.StepDown", spec := "stepDown", unfollowed := true, recurses := true, named := ["custodian/inst.shapes"], plainKeys := false, apart := false, laid := [("custodian/inst.shapes", laid_custodian_inst_shapes)] }
def StepDownSaid : Prop := stepDownRow.holds Tryd.pinned (OpenSpec.ofChange stepDownSpec)

/-- ITS FALSE NEIGHBOUR: 'it returns false'. Refute it at one input. -/
def stepDownWrong : ChangeSpec := { name := "stepDown", fn := fun _ => fun
  | [d] => { results := [.lit (.bool false)], args := [d] }
  | _ => none }
def StepDownWrongFalsely : Prop := stepDownRow.holds Tryd.pinned (OpenSpec.ofChange stepDownWrong)

/-- 'custodiankeep.StepOwn': WHATEVER THE INPUT: true; the input reads as it did. -/
def stepOwnSpec : ChangeSpec := { name := "stepOwn", fn := fun _ => fun
  | [d1, d2] => { results := [.lit (.bool true)], args := [d1, d2] }
  | _ => none }
def stepOwnRow : OpenClaim := { program := "ytlfeglljpfihhaadoor", sum := "24453c8faa1c54c70656a64b0dab94b3be45bc14a7f23d1d408160e570f5ca1a", func := "custodian/custodiankeep.StepOwn", spec := "stepOwn", unfollowed := true, recurses := true, named := ["custodian/inst.shapes"], plainKeys := false, apart := false, laid := [("custodian/inst.shapes", laid_custodian_inst_shapes)] }
def StepOwnSaid : Prop := stepOwnRow.holds Tryd.pinned (OpenSpec.ofChange stepOwnSpec)

/-- ITS FALSE NEIGHBOUR: 'it returns false'. Refute it at one input. -/
def stepOwnWrong : ChangeSpec := { name := "stepOwn", fn := fun _ => fun
  | [d1, d2] => { results := [.lit (.bool false)], args := [d1, d2] }
  | _ => none }
def StepOwnWrongFalsely : Prop := stepOwnRow.holds Tryd.pinned (OpenSpec.ofChange stepOwnWrong)

/-- 'custodiankeep.RunGuards': WHATEVER THE INPUT: true; the input reads as it did. -/
def runGuardsSpec : ChangeSpec := { name := "runGuards", fn := fun _ => fun
  | [d1, d2] => { results := [.lit (.bool true)], args := [d1, d2] }
  | _ => none }
def runGuardsRow : OpenClaim := { program := "ytlfeglljpfihhaadoor", sum := "24453c8faa1c54c70656a64b0dab94b3be45bc14a7f23d1d408160e570f5ca1a", func := "custodian/custodiankeep.RunGuards", spec := "runGuards", unfollowed := true, recurses := true, named := ["custodian/inst.shapes"], plainKeys := false, apart := false, laid := [("custodian/inst.shapes", laid_custodian_inst_shapes)] }
def RunGuardsSaid : Prop := runGuardsRow.holds Tryd.pinned (OpenSpec.ofChange runGuardsSpec)

/-- ITS FALSE NEIGHBOUR: 'it returns false'. Refute it at one input. -/
def runGuardsWrong : ChangeSpec := { name := "runGuards", fn := fun _ => fun
  | [d1, d2] => { results := [.lit (.bool false)], args := [d1, d2] }
  | _ => none }
def RunGuardsWrongFalsely : Prop := runGuardsRow.holds Tryd.pinned (OpenSpec.ofChange runGuardsWrong)

/-- 'custodiankeep.RunBlind': WHATEVER THE INPUT: true; the input reads as it did. -/
def runBlindSpec : ChangeSpec := { name := "runBlind", fn := fun _ => fun
  | [d1, d2, d3] => { results := [.lit (.bool true)], args := [d1, d2, d3] }
  | _ => none }
def runBlindRow : OpenClaim := { program := "ytlfeglljpfihhaadoor", sum := "24453c8faa1c54c70656a64b0dab94b3be45bc14a7f23d1d408160e570f5ca1a", func := "custodian/custodiankeep.RunBlind", spec := "runBlind", unfollowed := true, recurses := true, named := ["custodian/inst.shapes"], plainKeys := false, apart := false, laid := [("custodian/inst.shapes", laid_custodian_inst_shapes)] }
def RunBlindSaid : Prop := runBlindRow.holds Tryd.pinned (OpenSpec.ofChange runBlindSpec)

/-- ITS FALSE NEIGHBOUR: 'it returns false'. Refute it at one input. -/
def runBlindWrong : ChangeSpec := { name := "runBlind", fn := fun _ => fun
  | [d1, d2, d3] => { results := [.lit (.bool false)], args := [d1, d2, d3] }
  | _ => none }
def RunBlindWrongFalsely : Prop := runBlindRow.holds Tryd.pinned (OpenSpec.ofChange runBlindWrong)

/-- 'custodiankeep.SweepSafe': WHATEVER THE INPUT: true; the input reads as it did. -/
def sweepSafeSpec : ChangeSpec := { name := "sweepSafe", fn := fun _ => fun
  | [d1, d2, d3, d4, d5] => { results := [.lit (.bool true)], args := [d1, d2, d3, d4, d5] }
  | _ => none }
def sweepSafeRow : OpenClaim := { program := "ytlfeglljpfihhaadoor", sum := "24453c8faa1c54c70656a64b0dab94b3be45bc14a7f23d1d408160e570f5ca1a", func := "custodian/custodiankeep.SweepSafe", spec := "sweepSafe", unfollowed := true, recurses := true, named := ["custodian/inst.shapes"], plainKeys := false, apart := false, laid := [("custodian/inst.shapes", laid_custodian_inst_shapes)] }
def SweepSafeSaid : Prop := sweepSafeRow.holds Tryd.pinned (OpenSpec.ofChange sweepSafeSpec)

/-- ITS FALSE NEIGHBOUR: 'it returns false'. Refute it at one input. -/
def sweepSafeWrong : ChangeSpec := { name := "sweepSafe", fn := fun _ => fun
  | [d1, d2, d3, d4, d5] => { results := [.lit (.bool false)], args := [d1, d2, d3, d4, d5] }
  | _ => none }
def SweepSafeWrongFalsely : Prop := sweepSafeRow.holds Tryd.pinned (OpenSpec.ofChange sweepSafeWrong)

/- THE SECOND FORM. 'bulk': how many values and letters a reading holds, each counted each time it is reached (what is shared counts as often as it is met; a slice's spare places count too). A statement '..UptoSaid' is the law's where the arguments, and the package variables that the reading takes, are together of bulk at most 1048576: NARROWER than '..Said'. Prove '..Said' where nothing that the law and all that it calls make is longer than what came in: it says more and counts as full. Else prove '..UptoSaid'. A law counts once. -/
mutual
def uptoBulk {H : Type} : DataW H → Nat
  | .lit (.string bytes) => bytes.length + 1
  | .lit _ => 1
  | .nil => 1
  | .ptr d => uptoBulk d + 1
  | .slice elems spare => uptoBulkAll elems + uptoBulkAll spare + 1
  | .agg parts => uptoBulkAll parts + 1
  | .iface _ d => uptoBulk d + 1
  | .map entries => uptoBulkEntries entries + 1
  | .held _ => 1
def uptoBulkAll {H : Type} : List (DataW H) → Nat
  | [] => 0
  | d :: r => uptoBulk d + uptoBulkAll r
def uptoBulkEntries {H : Type} : List (Lit × DataW H) → Nat
  | [] => 0
  | x :: r => uptoBulkEntry x + uptoBulkEntries r
def uptoBulkEntry {H : Type} : Lit × DataW H → Nat
  | (.string bytes, d) => bytes.length + uptoBulk d + 1
  | (_, d) => uptoBulk d + 1
 end
def uptoSmall : (H : Type) → List (DataW H) → Bool := fun _ ds => decide (uptoBulkAll ds ≤ 1048576)
def OpenSpec.upto (s : _root_.Go.ChangeSpec) : _root_.Go.OpenSpec := { _root_.Go.OpenSpec.ofChange s with cond := some uptoSmall }

/-- 'custodiankeep.StepSame', WHERE WHAT IT READS IS OF BULK AT MOST 1048576: true; the input reads as it did. -/
def stepSameUptoRow : OpenClaim := { program := "ytlfeglljpfihhaadoor", sum := "24453c8faa1c54c70656a64b0dab94b3be45bc14a7f23d1d408160e570f5ca1a", func := "custodian/custodiankeep.StepSame", spec := "stepSame", unfollowed := true, recurses := true, named := ["custodian/inst.shapes"], plainKeys := false, apart := false, laid := [("custodian/inst.shapes", laid_custodian_inst_shapes)], narrowed := true }
def StepSameUptoSaid : Prop := stepSameUptoRow.holds Tryd.pinned (OpenSpec.upto stepSameSpec)

/-- 'custodiankeep.StepDown', WHERE WHAT IT READS IS OF BULK AT MOST 1048576: true; the input reads as it did. -/
def stepDownUptoRow : OpenClaim := { program := "ytlfeglljpfihhaadoor", sum := "24453c8faa1c54c70656a64b0dab94b3be45bc14a7f23d1d408160e570f5ca1a", func := "custodian/custodiankeep.StepDown", spec := "stepDown", unfollowed := true, recurses := true, named := ["custodian/inst.shapes"], plainKeys := false, apart := false, laid := [("custodian/inst.shapes", laid_custodian_inst_shapes)], narrowed := true }
def StepDownUptoSaid : Prop := stepDownUptoRow.holds Tryd.pinned (OpenSpec.upto stepDownSpec)

/-- 'custodiankeep.StepOwn', WHERE WHAT IT READS IS OF BULK AT MOST 1048576: true; the input reads as it did. -/
def stepOwnUptoRow : OpenClaim := { program := "ytlfeglljpfihhaadoor", sum := "24453c8faa1c54c70656a64b0dab94b3be45bc14a7f23d1d408160e570f5ca1a", func := "custodian/custodiankeep.StepOwn", spec := "stepOwn", unfollowed := true, recurses := true, named := ["custodian/inst.shapes"], plainKeys := false, apart := false, laid := [("custodian/inst.shapes", laid_custodian_inst_shapes)], narrowed := true }
def StepOwnUptoSaid : Prop := stepOwnUptoRow.holds Tryd.pinned (OpenSpec.upto stepOwnSpec)

/-- 'custodiankeep.RunGuards', WHERE WHAT IT READS IS OF BULK AT MOST 1048576: true; the input reads as it did. -/
def runGuardsUptoRow : OpenClaim := { program := "ytlfeglljpfihhaadoor", sum := "24453c8faa1c54c70656a64b0dab94b3be45bc14a7f23d1d408160e570f5ca1a", func := "custodian/custodiankeep.RunGuards", spec := "runGuards", unfollowed := true, recurses := true, named := ["custodian/inst.shapes"], plainKeys := false, apart := false, laid := [("custodian/inst.shapes", laid_custodian_inst_shapes)], narrowed := true }
def RunGuardsUptoSaid : Prop := runGuardsUptoRow.holds Tryd.pinned (OpenSpec.upto runGuardsSpec)

/-- 'custodiankeep.RunBlind', WHERE WHAT IT READS IS OF BULK AT MOST 1048576: true; the input reads as it did. -/
def runBlindUptoRow : OpenClaim := { program := "ytlfeglljpfihhaadoor", sum := "24453c8faa1c54c70656a64b0dab94b3be45bc14a7f23d1d408160e570f5ca1a", func := "custodian/custodiankeep.RunBlind", spec := "runBlind", unfollowed := true, recurses := true, named := ["custodian/inst.shapes"], plainKeys := false, apart := false, laid := [("custodian/inst.shapes", laid_custodian_inst_shapes)], narrowed := true }
def RunBlindUptoSaid : Prop := runBlindUptoRow.holds Tryd.pinned (OpenSpec.upto runBlindSpec)

/-- 'custodiankeep.SweepSafe', WHERE WHAT IT READS IS OF BULK AT MOST 1048576: true; the input reads as it did. -/
def sweepSafeUptoRow : OpenClaim := { program := "ytlfeglljpfihhaadoor", sum := "24453c8faa1c54c70656a64b0dab94b3be45bc14a7f23d1d408160e570f5ca1a", func := "custodian/custodiankeep.SweepSafe", spec := "sweepSafe", unfollowed := true, recurses := true, named := ["custodian/inst.shapes"], plainKeys := false, apart := false, laid := [("custodian/inst.shapes", laid_custodian_inst_shapes)], narrowed := true }
def SweepSafeUptoSaid : Prop := sweepSafeUptoRow.holds Tryd.pinned (OpenSpec.upto sweepSafeSpec)

end Rows
end Go.Proofs.YtlfeglljpfihhaaDoor
