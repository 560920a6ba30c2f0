/- package sweep: is a key struck. -/
import Derived.Test.YthijebhhbflclaaRows
import Derived.Test.YthijebhhbflclaaBits
import Derived.Test.YthijebhhbflclaaKeyPure
import Derived.Test.YthijebhhbflclaaCellPure
import Derived.Test.YthijebhhbflclaaValsArg
import Derived.Test.YthijebhhbflclaaMemPure
import Derived.Test.YthijebhhbflclaaMachArg
import Derived.Test.YthijebhhbflclaaStepChk
import Derived.Test.YthijebhhbflclaaStepChk2
import Derived.Test.YthijebhhbflclaaMachMid
import Derived.Test.YthijebhhbflclaaSweepPure
import Derived.WalkKit
import Derived.ProofKit
import Derived.OpenShut
import Derived.Deep.MidRow
import Derived.Deep.CutBlock
namespace Go.Proofs.Ythijebhhbflclaa
open Go.ChangeShapes Go.WideShapes Go.ChangeAt Go.RowKit
set_option linter.unusedSimpArgs false
set_option linter.unusedVariables false
set_option maxRecDepth 100000

def brm (b n c : Int) : Array Value := #[.int .i64 b, .int .i64 (b + n), .int .i64 c]
set_option maxHeartbeats 2000000 in
theorem sweep_strikes (S : Nat) (b n c : Int) (k : K5) (w : World) (hb : 0 ≤ b ∧ 0 ≤ n ∧ b + n ≤ 400) (hk : ok5 k) (hS : Box w S (brm b n c)) :
    Calls Try.prog 41 #[.pointer (some ⟨S, 0, none⟩), .agg #[.int .i64 k.p, .int .i64 k.b, .int .i64 k.l, .int .i64 k.a, .int .i64 k.s]] w fun e w' => e = .returned (.bool (strk b n k)) ∧ Below w.heap.size w w' := by
  have hk' := ok5_lit hk
  have q : ∀ o, w.cell? ⟨S, o, none⟩ = (#[.int .i64 b, .int .i64 (b + n), .int .i64 c] : Array Value)[o]? := hS.cell
  have hlt := hS.lt
  have n1 : ¬ S = w.heap.size := by omega
  have n2 : ¬ w.heap.size = S := by omega
  have s0 : IntKind.i64.wrap (k.b + k.l) = k.b + k.l := by rw [IntKind.wrap_i64]; omega
  unfold strk
  go_enter Try.func41, Try.ntmps41
  go_wp2
  go_region
  all_goals go_wp2
  all_goals go_ret
  all_goals
    refine ⟨?_, ((Below.refl _ _).alloc (Nat.le_refl _) _).drew⟩
    show Ending.returned (.bool (decide _)) = _
    rw [Int.max_def, Int.min_def]
    congr 2
    apply decide_eq_decide.2
    constructor <;> intro h <;> (repeat (first | split at h | split)) <;> omega
end Go.Proofs.Ythijebhhbflclaa
