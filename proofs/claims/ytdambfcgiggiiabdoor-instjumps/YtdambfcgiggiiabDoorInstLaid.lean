/- The variables of Go's library that a row lists beside the project's table: the powers of ten, and strconv's two errors: what the walks ask of them, read off the list; and that nothing a call makes turns them. -/
import Derived.Test.YtdambfcgiggiiabDoorRows
import Derived.Test.YtdambfcgiggiiabDoorKeyPure
import Derived.Test.YtdambfcgiggiiabDoorInstShape
import Derived.WalkKit
import Derived.ProofKit
import Derived.Lib.LaidTab
import Derived.Shelf.Strconv.Itoa3
namespace Go.Proofs.YtdambfcgiggiiabDoor
open Go.ChangeShapes Go.WideShapes Go.ChangeAt Go.RowKit

theorem var_below {P : Program} {w w' : World} {name : String} {cs : Array Value} (h : w.var? P name = some cs) (hb : Below w.heap.size w w') : w'.var? P name = some cs := by
  unfold World.var? at h ⊢
  cases hg : P.globalNamed name with
  | none => rw [hg] at h; cases h
  | some g =>
    rw [hg] at h
    simp only [Option.bind_some] at h ⊢
    have hlt : g < w.heap.size := by
      rcases Nat.lt_or_ge g w.heap.size with k | k
      · exact k
      · rw [Array.getElem?_eq_none k] at h; cases h
    rw [hb.block g hlt]
    exact h
/-- The powers of ten lie there. -/
def Pw (w : World) : Prop := Lib.TabIs Tryd.prog w "internal/strconv.uint64pow10" .u64 Lib.pow10Tab
theorem Pw.below {w w' : World} (h : Pw w) (hb : Below w.heap.size w w') : Pw w' := var_below h hb
theorem cells_pow : Tryd.prog.cellsOf 52 = 20 := by kernel_rfl
theorem cells_u64 : Tryd.prog.cellsOf 44 = 1 := by kernel_rfl
theorem pw_of_laid {w : World} {l : List (String × DataW Unit)} (h : laidMet Tryd.prog l w) (hm : ("internal/strconv.uint64pow10", Rows.laid_internal_strconv_uint64pow10) ∈ l) : Pw w := by
  obtain ⟨ps, hv, _⟩ := h
  obtain ⟨g, t, cs, fuel, p, h1, h2, h3, h4⟩ := laid_mem hv _ _ hm
  obtain rfl : g = 1 := (Option.some.inj ((show Tryd.prog.globalNamed "internal/strconv.uint64pow10" = some 1 by kernel_rfl).symm.trans h1)).symm
  obtain rfl : t = 52 := (Option.some.inj ((show (Tryd.prog.globals[1]?).map (·.type) = some 52 by kernel_rfl).symm.trans h2)).symm
  have h5 : DataW.trod (fun _ => ()) Tryd.prog w 0 (fun _ => true) false fuel 52 cs.toList = some (Lib.tabData .u64 Lib.pow10Tab, p) := h4
  have e := Lib.cells_of_tab Tryd.underlying52 Tryd.underlying44 cells_u64 cells_pow h5
  unfold Pw Lib.TabIs
  rw [h3, ← e]
end Go.Proofs.YtdambfcgiggiiabDoor
