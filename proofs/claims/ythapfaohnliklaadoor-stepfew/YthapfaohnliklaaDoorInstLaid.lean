/- The variables of Go's library that a row lists beside the project's table: the powers of ten, and strconv's two errors: what the walks ask of them, read off the list; and that nothing a call makes turns them. -/
import Derived.Test.YthapfaohnliklaaDoorRows
import Derived.Test.YthapfaohnliklaaDoorKeyPure
import Derived.Test.YthapfaohnliklaaDoorInstShape
import Derived.WalkKit
import Derived.ProofKit
import Derived.Lib.LaidTab
namespace Go.Proofs.YthapfaohnliklaaDoor
open Go.ChangeShapes Go.WideShapes Go.ChangeAt Go.RowKit

theorem var_below {P : Program} {w w' : World} {name : String} {cs : Array Value} (h : w.var? P name = some cs) (hb : Below w.heap.size w w') : w'.var? P name = some cs := by
  unfold World.var? at h ⊢
  cases hg : P.globalNamed name with
  | none => rw [hg] at h; cases h
  | some g =>
    rw [hg] at h
    simp only [Option.bind_some] at h ⊢
    have hlt : g < w.heap.size := by
      rcases Nat.lt_or_ge g w.heap.size with k | k
      · exact k
      · rw [Array.getElem?_eq_none k] at h; cases h
    rw [hb.block g hlt]
    exact h
end Go.Proofs.YthapfaohnliklaaDoor
