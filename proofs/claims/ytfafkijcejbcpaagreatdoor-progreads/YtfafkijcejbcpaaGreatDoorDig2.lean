/- The document's own Digits are Go's. -/
import Derived.Test.YtfafkijcejbcpaaGreatDoorRows
import Derived.Test.YtfafkijcejbcpaaGreatDoorKeyPure
import Derived.Test.YtfafkijcejbcpaaGreatDoorCellPure
import Derived.Test.YtfafkijcejbcpaaGreatDoorDigRef
import Derived.Test.YtfafkijcejbcpaaGreatDoorTextPure
import Derived.WalkKit
import Derived.ProofKit
namespace Go.Proofs.YtfafkijcejbcpaaGreatDoor
open Go.ChangeShapes Go.WideShapes Go.ChangeAt Go.RowKit

theorem b8_dig (d : Nat) (h : d < 10) : b8 (48 + (d : Int)) = UInt8.ofNat (48 + d) := by
  unfold b8
  congr 1
  omega
theorem dg_dec (u : Nat) (hu : u < 10 ^ 20) : dg u = Lib.decDigits u := by
  induction u using Nat.strongRecOn with
  | _ u ih =>
    by_cases h : u < 10
    · rw [dg_low h, Lib.decDigits, dif_pos h, b8_dig u h]
    · rw [dg_high h hu, Lib.decDigits, dif_neg h, ih (u / 10) (by omega) (by omega), b8_dig _ (by omega)]
theorem dgI_itoa (n : Int) (hn : -1000000000000000 ≤ n ∧ n ≤ 1000000000000000) : dgI n = bL (Lib.itoa n) := by
  unfold dgI Lib.itoa dgB
  have e : dg n.natAbs = Lib.decDigits n.natAbs := dg_dec _ (by omega)
  rw [e]
  by_cases h : n < 0
  · rw [if_pos h, if_pos h]
    exact bL_add [45] (Lib.decDigits n.natAbs)
  · rw [if_neg h, if_neg h, show n.natAbs = n.toNat by omega]
    rfl
theorem ref_dig (n : Int) (w : World) (hn : -1000000000000000 ≤ n ∧ n ≤ 1000000000000000) :
    Calls Tryz.prog 51 #[.int .i64 n] w fun e w' => e = .returned (.string (bL (Lib.itoa n))) ∧ Below w.heap.size w w' := by
  rw [← dgI_itoa n hn]
  exact ref_digits n w hn
end Go.Proofs.YtfafkijcejbcpaaGreatDoor
