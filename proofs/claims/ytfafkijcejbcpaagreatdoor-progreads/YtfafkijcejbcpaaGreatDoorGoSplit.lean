/- strings.Split at one byte, on lists of bytes. -/
import Derived.Test.YtfafkijcejbcpaaGreatDoorRows
import Derived.Test.YtfafkijcejbcpaaGreatDoorKeyPure
import Derived.Test.YtfafkijcejbcpaaGreatDoorShelf
import Derived.Test.YtfafkijcejbcpaaGreatDoorTextPure
import Derived.Test.YtfafkijcejbcpaaGreatDoorSplitPure
import Derived.WalkKit
import Derived.ProofKit
namespace Go.Proofs.YtfafkijcejbcpaaGreatDoor
open Go.ChangeShapes Go.WideShapes Go.ChangeAt Go.RowKit

theorem countB_one (l : List UInt8) (c : UInt8) : Lib.countB (bL l) ⟨#[c]⟩ = l.count c := by
  show Lib.count (bL l).data.toList [c] = _
  rw [bL_list, Lib.count_one]
theorem map_data : ∀ xs : List ByteArray, (xs.map (·.data.toList)).map bL = xs
  | [] => rfl
  | x :: xs => by rw [List.map_cons, List.map_cons, map_data xs, ← bL_of]
theorem split_one (l : List UInt8) (c : UInt8) : Lib.splitB ⟨#[c]⟩ 0 (Lib.countB (bL l) ⟨#[c]⟩) (bL l) = (sp c l).map bL := by
  rw [countB_one, ← map_data (Lib.splitB _ _ _ _), Lib.splitB_data]
  show (Lib.splitK [c] 0 (l.count c) (bL l).data.toList).map bL = _
  rw [bL_list, splitK_sp]
/-- strings.Split at one byte. -/
theorem go_split (l : List UInt8) (c : UInt8) (w : World) (m : Int) (hM : w.cell? ⟨0, 0, none⟩ = some (.int .i64 m)) (hl : l.length < 4294967281) :
    Calls Tryz.prog 9 #[.string (bL l), .string ⟨#[c]⟩] w fun e w' => e = .returned (.slice (some ⟨w.heap.size, 0, none⟩) (l.count c + 1) (l.count c + 1)) ∧ w' = w.alloc (.cells ((sp c l).map fun x => Value.string (bL x)).toArray 9) := by
  have h := Tryz.strings_Split (bL l) ⟨#[c]⟩ m w (by rw [bL_size]; exact hl) hM (Nat.le_refl 1)
  rw [split_one, countB_one, List.map_map] at h
  exact h
end Go.Proofs.YtfafkijcejbcpaaGreatDoor
