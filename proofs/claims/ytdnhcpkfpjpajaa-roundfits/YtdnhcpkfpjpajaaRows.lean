/-
  No cell of these rows narrows 'for every input' (looked for: loops, veiled, ifaces, maps, wideKeys, modest, calm, conditions, laid).
  DERIVED. THE GIVEN ROWS OF THIS SEAT. 6 by the template 'for every input the law returns true; each argument reads behind the call as it read before'; 0 by the template 'total and deterministic' (their statements: YtdnhcpkfpjpajaaTotals.lean).
  GIVEN WITH THE SEED: the statements are not yours to turn. If you find one false, say at which input.
  Laid BY PROGRAM, IN A SANDBOX (cutbox-rows.mjs): the forced cells as the released guide's own fill.sh prints them over the translation f2b757624f0458ca… (all of the seat's roots in one cut). By AI agents, Wed Nov 11 2026. No macro, syntax, notation, axiom, sorry.
-/
import Derived.Test.YtdnhcpkfpjpajaaChecked
import GoSem.Claim
import GoSem.ClaimJoined
import GoSem.ClaimMapViews
import Derived.JoinedTies
import Derived.KernelRfl
namespace Go.Proofs.Ytdnhcpkfpjpajaa
/- THE CELL 'sum', in the pinned program and in every row, IS THE sha256 OF THE DUMP (.gsa) THAT YtdnhcpkfpjpajaaProg.lean LOADS. Nothing in Lean hashes anything: it is a label: what it is worth is what the hold of that sum in a sandbox is worth. -/
noncomputable def Try.pinned : Pinned := { name := "ytdnhcpkfpjpajaa", sum := "f2b757624f0458caa9655fd8227f8be58e1ebb444d26905302a3b89ce7755a6e", checked := Try.checked }
namespace Rows
def none {H : Type} : Left H := { results := [], args := [] }

/-- 'custodianlaw.RoundOuts': WHATEVER THE INPUT: true; the input reads as it did. -/
def roundOutsSpec : ChangeSpec := { name := "roundOuts", fn := fun _ => fun
  | [d1, d2] => { results := [.lit (.bool true)], args := [d1, d2] }
  | _ => none }
def roundOutsRow : OpenClaim := { program := "ytdnhcpkfpjpajaa", sum := "f2b757624f0458caa9655fd8227f8be58e1ebb444d26905302a3b89ce7755a6e", func := "custodian/custodianlaw.RoundOuts", spec := "roundOuts", apart := false }
def RoundOutsSaid : Prop := roundOutsRow.holds Try.pinned (OpenSpec.ofChange roundOutsSpec)

/-- ITS FALSE NEIGHBOUR: 'it returns false'. Refute it at one input. -/
def roundOutsWrong : ChangeSpec := { name := "roundOuts", fn := fun _ => fun
  | [d1, d2] => { results := [.lit (.bool false)], args := [d1, d2] }
  | _ => none }
def RoundOutsWrongFalsely : Prop := roundOutsRow.holds Try.pinned (OpenSpec.ofChange roundOutsWrong)

/-- 'custodianlaw.RoundShorts': WHATEVER THE INPUT: true; the input reads as it did. -/
def roundShortsSpec : ChangeSpec := { name := "roundShorts", fn := fun _ => fun
  | [d1, d2] => { results := [.lit (.bool true)], args := [d1, d2] }
  | _ => none }
def roundShortsRow : OpenClaim := { program := "ytdnhcpkfpjpajaa", sum := "f2b757624f0458caa9655fd8227f8be58e1ebb444d26905302a3b89ce7755a6e", func := "custodian/custodianlaw.RoundShorts", spec := "roundShorts", apart := false }
def RoundShortsSaid : Prop := roundShortsRow.holds Try.pinned (OpenSpec.ofChange roundShortsSpec)

/-- ITS FALSE NEIGHBOUR: 'it returns false'. Refute it at one input. -/
def roundShortsWrong : ChangeSpec := { name := "roundShorts", fn := fun _ => fun
  | [d1, d2] => { results := [.lit (.bool false)], args := [d1, d2] }
  | _ => none }
def RoundShortsWrongFalsely : Prop := roundShortsRow.holds Try.pinned (OpenSpec.ofChange roundShortsWrong)

/-- 'custodianlaw.RoundLongs': WHATEVER THE INPUT: true; the input reads as it did. -/
def roundLongsSpec : ChangeSpec := { name := "roundLongs", fn := fun _ => fun
  | [d] => { results := [.lit (.bool true)], args := [d] }
  | _ => none }
def roundLongsRow : OpenClaim := { program := "ytdnhcpkfpjpajaa", sum := "f2b757624f0458caa9655fd8227f8be58e1ebb444d26905302a3b89ce7755a6e", func := "custodian/custodianlaw.RoundLongs", spec := "roundLongs", apart := false }
def RoundLongsSaid : Prop := roundLongsRow.holds Try.pinned (OpenSpec.ofChange roundLongsSpec)

/-- ITS FALSE NEIGHBOUR: 'it returns false'. Refute it at one input. -/
def roundLongsWrong : ChangeSpec := { name := "roundLongs", fn := fun _ => fun
  | [d] => { results := [.lit (.bool false)], args := [d] }
  | _ => none }
def RoundLongsWrongFalsely : Prop := roundLongsRow.holds Try.pinned (OpenSpec.ofChange roundLongsWrong)

/-- 'custodianlaw.RoundFits': WHATEVER THE INPUT: true; the input reads as it did. -/
def roundFitsSpec : ChangeSpec := { name := "roundFits", fn := fun _ => fun
  | [d1, d2] => { results := [.lit (.bool true)], args := [d1, d2] }
  | _ => none }
def roundFitsRow : OpenClaim := { program := "ytdnhcpkfpjpajaa", sum := "f2b757624f0458caa9655fd8227f8be58e1ebb444d26905302a3b89ce7755a6e", func := "custodian/custodianlaw.RoundFits", spec := "roundFits", apart := false }
def RoundFitsSaid : Prop := roundFitsRow.holds Try.pinned (OpenSpec.ofChange roundFitsSpec)

/-- ITS FALSE NEIGHBOUR: 'it returns false'. Refute it at one input. -/
def roundFitsWrong : ChangeSpec := { name := "roundFits", fn := fun _ => fun
  | [d1, d2] => { results := [.lit (.bool false)], args := [d1, d2] }
  | _ => none }
def RoundFitsWrongFalsely : Prop := roundFitsRow.holds Try.pinned (OpenSpec.ofChange roundFitsWrong)

/-- 'custodiankeep.RoundAround': WHATEVER THE INPUT: true; the input reads as it did. -/
def roundAroundSpec : ChangeSpec := { name := "roundAround", fn := fun _ => fun
  | [d1, d2] => { results := [.lit (.bool true)], args := [d1, d2] }
  | _ => none }
def roundAroundRow : OpenClaim := { program := "ytdnhcpkfpjpajaa", sum := "f2b757624f0458caa9655fd8227f8be58e1ebb444d26905302a3b89ce7755a6e", func := "custodian/custodiankeep.RoundAround", spec := "roundAround", apart := false }
def RoundAroundSaid : Prop := roundAroundRow.holds Try.pinned (OpenSpec.ofChange roundAroundSpec)

/-- ITS FALSE NEIGHBOUR: 'it returns false'. Refute it at one input. -/
def roundAroundWrong : ChangeSpec := { name := "roundAround", fn := fun _ => fun
  | [d1, d2] => { results := [.lit (.bool false)], args := [d1, d2] }
  | _ => none }
def RoundAroundWrongFalsely : Prop := roundAroundRow.holds Try.pinned (OpenSpec.ofChange roundAroundWrong)

/-- 'custodiankeep.RoundTight': WHATEVER THE INPUT: true; the input reads as it did. -/
def roundTightSpec : ChangeSpec := { name := "roundTight", fn := fun _ => fun
  | [d1, d2] => { results := [.lit (.bool true)], args := [d1, d2] }
  | _ => none }
def roundTightRow : OpenClaim := { program := "ytdnhcpkfpjpajaa", sum := "f2b757624f0458caa9655fd8227f8be58e1ebb444d26905302a3b89ce7755a6e", func := "custodian/custodiankeep.RoundTight", spec := "roundTight", apart := false }
def RoundTightSaid : Prop := roundTightRow.holds Try.pinned (OpenSpec.ofChange roundTightSpec)

/-- ITS FALSE NEIGHBOUR: 'it returns false'. Refute it at one input. -/
def roundTightWrong : ChangeSpec := { name := "roundTight", fn := fun _ => fun
  | [d1, d2] => { results := [.lit (.bool false)], args := [d1, d2] }
  | _ => none }
def RoundTightWrongFalsely : Prop := roundTightRow.holds Try.pinned (OpenSpec.ofChange roundTightWrong)

/- THE SECOND FORM. 'bulk': how many values and letters a reading holds, each counted each time it is reached (what is shared counts as often as it is met; a slice's spare places count too). A statement '..UptoSaid' is the law's where the arguments, and the package variables that the reading takes, are together of bulk at most 1048576: NARROWER than '..Said'. Prove '..Said' where nothing that the law and all that it calls make is longer than what came in: it says more and counts as full. Else prove '..UptoSaid'. A law counts once. -/
mutual
def uptoBulk {H : Type} : DataW H → Nat
  | .lit (.string bytes) => bytes.length + 1
  | .lit _ => 1
  | .nil => 1
  | .ptr d => uptoBulk d + 1
  | .slice elems spare => uptoBulkAll elems + uptoBulkAll spare + 1
  | .agg parts => uptoBulkAll parts + 1
  | .iface _ d => uptoBulk d + 1
  | .map entries => uptoBulkEntries entries + 1
  | .held _ => 1
def uptoBulkAll {H : Type} : List (DataW H) → Nat
  | [] => 0
  | d :: r => uptoBulk d + uptoBulkAll r
def uptoBulkEntries {H : Type} : List (Lit × DataW H) → Nat
  | [] => 0
  | x :: r => uptoBulkEntry x + uptoBulkEntries r
def uptoBulkEntry {H : Type} : Lit × DataW H → Nat
  | (.string bytes, d) => bytes.length + uptoBulk d + 1
  | (_, d) => uptoBulk d + 1
 end
def uptoSmall : (H : Type) → List (DataW H) → Bool := fun _ ds => decide (uptoBulkAll ds ≤ 1048576)
def OpenSpec.upto (s : _root_.Go.ChangeSpec) : _root_.Go.OpenSpec := { _root_.Go.OpenSpec.ofChange s with cond := some uptoSmall }

/-- 'custodianlaw.RoundOuts', WHERE WHAT IT READS IS OF BULK AT MOST 1048576: true; the input reads as it did. -/
def roundOutsUptoRow : OpenClaim := { program := "ytdnhcpkfpjpajaa", sum := "f2b757624f0458caa9655fd8227f8be58e1ebb444d26905302a3b89ce7755a6e", func := "custodian/custodianlaw.RoundOuts", spec := "roundOuts", apart := false, narrowed := true }
def RoundOutsUptoSaid : Prop := roundOutsUptoRow.holds Try.pinned (OpenSpec.upto roundOutsSpec)

/-- 'custodianlaw.RoundShorts', WHERE WHAT IT READS IS OF BULK AT MOST 1048576: true; the input reads as it did. -/
def roundShortsUptoRow : OpenClaim := { program := "ytdnhcpkfpjpajaa", sum := "f2b757624f0458caa9655fd8227f8be58e1ebb444d26905302a3b89ce7755a6e", func := "custodian/custodianlaw.RoundShorts", spec := "roundShorts", apart := false, narrowed := true }
def RoundShortsUptoSaid : Prop := roundShortsUptoRow.holds Try.pinned (OpenSpec.upto roundShortsSpec)

/-- 'custodianlaw.RoundLongs', WHERE WHAT IT READS IS OF BULK AT MOST 1048576: true; the input reads as it did. -/
def roundLongsUptoRow : OpenClaim := { program := "ytdnhcpkfpjpajaa", sum := "f2b757624f0458caa9655fd8227f8be58e1ebb444d26905302a3b89ce7755a6e", func := "custodian/custodianlaw.RoundLongs", spec := "roundLongs", apart := false, narrowed := true }
def RoundLongsUptoSaid : Prop := roundLongsUptoRow.holds Try.pinned (OpenSpec.upto roundLongsSpec)

/-- 'custodianlaw.RoundFits', WHERE WHAT IT READS IS OF BULK AT MOST 1048576: true; the input reads as it did. -/
def roundFitsUptoRow : OpenClaim := { program := "ytdnhcpkfpjpajaa", sum := "f2b757624f0458caa9655fd8227f8be58e1ebb444d26905302a3b89ce7755a6e", func := "custodian/custodianlaw.RoundFits", spec := "roundFits", apart := false, narrowed := true }
def RoundFitsUptoSaid : Prop := roundFitsUptoRow.holds Try.pinned (OpenSpec.upto roundFitsSpec)

/-- 'custodiankeep.RoundAround', WHERE WHAT IT READS IS OF BULK AT MOST 1048576: true; the input reads as it did. -/
def roundAroundUptoRow : OpenClaim := { program := "ytdnhcpkfpjpajaa", sum := "f2b757624f0458caa9655fd8227f8be58e1ebb444d26905302a3b89ce7755a6e", func := "custodian/custodiankeep.RoundAround", spec := "roundAround", apart := false, narrowed := true }
def RoundAroundUptoSaid : Prop := roundAroundUptoRow.holds Try.pinned (OpenSpec.upto roundAroundSpec)

/-- 'custodiankeep.RoundTight', WHERE WHAT IT READS IS OF BULK AT MOST 1048576: true; the input reads as it did. -/
def roundTightUptoRow : OpenClaim := { program := "ytdnhcpkfpjpajaa", sum := "f2b757624f0458caa9655fd8227f8be58e1ebb444d26905302a3b89ce7755a6e", func := "custodian/custodiankeep.RoundTight", spec := "roundTight", apart := false, narrowed := true }
def RoundTightUptoSaid : Prop := roundTightUptoRow.holds Try.pinned (OpenSpec.upto roundTightSpec)

end Rows
end Go.Proofs.Ytdnhcpkfpjpajaa
