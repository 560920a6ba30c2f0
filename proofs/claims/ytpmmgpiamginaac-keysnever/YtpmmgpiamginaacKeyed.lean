/- The closed fact on keys that the laws open with: it answers true, and turns nothing that was in memory. -/
import Derived.Test.YtpmmgpiamginaacRows
import Derived.Test.YtpmmgpiamginaacBits
import Derived.Test.YtpmmgpiamginaacWithin
import Derived.Test.YtpmmgpiamginaacKeyPure
import Derived.Test.YtpmmgpiamginaacKeys
import Derived.WalkKit
import Derived.ProofKit
import Derived.OpenShut
namespace Go.Proofs.Ytpmmgpiamginaac
open Go.ChangeShapes Go.WideShapes Go.ChangeAt Go.RowKit

theorem keyed_true (w : World) : Calls Try.prog 5 #[] w fun e w' => e = .returned (.bool true) ∧ Below w.heap.size w w' := by
  have n0 : narrowK 3 2 8 4 0 3 = ⟨3, 4, 3, 4, 0, 0⟩ := rfl
  have c0 : chkE 128 0 0 0 0 = 1 := by decide
  have k0 : kb 3 2 8 4 0 := by unfold kb; omega
  have k1 : kb 128 0 0 0 0 := by unfold kb; omega
  go_enter Try.func5, Try.ntmps5
  go_wp2_with (first | (go_at_call 11; refine (keys_narrow _ _ _ _ _ _ _ k0).mono ?_; rintro e w1 ⟨rfl, hB⟩) | (go_at_call 8; refine (keys_check _ _ _ _ _ _ k1).mono ?_; rintro e w2 ⟨rfl, hC⟩))
  go_ret
  exact ⟨rfl, Below.step0 (hB.alloc hB.size _) hC⟩
end Go.Proofs.Ytpmmgpiamginaac
