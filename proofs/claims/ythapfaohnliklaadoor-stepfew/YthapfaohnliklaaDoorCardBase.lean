/- What every card of this seat leans on: that the cell of the library's number MaxLen holds an int. -/
import Derived.Test.YthapfaohnliklaaDoorRows
import Derived.WalkKit
import Derived.ProofKit
import GoSem.PinnedTables
namespace Go.Proofs.YthapfaohnliklaaDoor
open Go.ChangeShapes Go.WideShapes Go.ChangeAt Go.RowKit

/-- The four numbers of an instruction are ints. -/
def ib (o a b c : Int) : Prop :=
  (-9223372036854775808 ≤ o ∧ o ≤ 9223372036854775807) ∧ (-9223372036854775808 ≤ a ∧ a ≤ 9223372036854775807) ∧ (-9223372036854775808 ≤ b ∧ b ≤ 9223372036854775807) ∧ (-9223372036854775808 ≤ c ∧ c ≤ 9223372036854775807)
end Go.Proofs.YthapfaohnliklaaDoor
