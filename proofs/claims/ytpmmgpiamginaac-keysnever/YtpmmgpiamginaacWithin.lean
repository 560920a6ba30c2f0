/- Both readings of 'has b all that a has', the program's and the document's, answer one and the same, and touch no memory. -/
import Derived.Test.YtpmmgpiamginaacRows
import Derived.Test.YtpmmgpiamginaacBits
import Derived.WalkKit
import Derived.ProofKit
import Derived.OpenShut
namespace Go.Proofs.Ytpmmgpiamginaac
open Go.ChangeShapes Go.WideShapes Go.ChangeAt Go.RowKit

theorem perm_within (a b : Int) (w : World) :
    Calls Try.prog 7 #[.int .i64 a, .int .i64 b] w fun e w' => e = .returned (.bool (inB a b)) ∧ w' = w := by
  unfold inB
  go_enter Try.func7, Try.ntmps7
  go_wp2
  go_ret
  exact ⟨rfl, rfl⟩
end Go.Proofs.Ytpmmgpiamginaac
