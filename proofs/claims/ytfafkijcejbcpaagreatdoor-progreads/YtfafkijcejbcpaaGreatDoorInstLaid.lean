/- The variables of Go's library that a row lists beside the project's table: the powers of ten, and strconv's two errors: what the walks ask of them, read off the list; and that nothing a call makes turns them. -/
import Derived.Test.YtfafkijcejbcpaaGreatDoorRows
import Derived.Test.YtfafkijcejbcpaaGreatDoorKeyPure
import Derived.Test.YtfafkijcejbcpaaGreatDoorInstShape
import Derived.WalkKit
import Derived.ProofKit
import Derived.Lib.LaidTab
import Derived.Shelf.Strconv.Itoa3
namespace Go.Proofs.YtfafkijcejbcpaaGreatDoor
open Go.ChangeShapes Go.WideShapes Go.ChangeAt Go.RowKit

theorem var_below {P : Program} {w w' : World} {name : String} {cs : Array Value} (h : w.var? P name = some cs) (hb : Below w.heap.size w w') : w'.var? P name = some cs := by
  unfold World.var? at h ⊢
  cases hg : P.globalNamed name with
  | none => rw [hg] at h; cases h
  | some g =>
    rw [hg] at h
    simp only [Option.bind_some] at h ⊢
    have hlt : g < w.heap.size := by
      rcases Nat.lt_or_ge g w.heap.size with k | k
      · exact k
      · rw [Array.getElem?_eq_none k] at h; cases h
    rw [hb.block g hlt]
    exact h
/-- The powers of ten lie there. -/
def Pw (w : World) : Prop := Lib.TabIs Tryz.prog w "internal/strconv.uint64pow10" .u64 Lib.pow10Tab
theorem Pw.below {w w' : World} (h : Pw w) (hb : Below w.heap.size w w') : Pw w' := var_below h hb
theorem cells_pow : Tryz.prog.cellsOf 140 = 20 := by kernel_rfl
theorem cells_u64 : Tryz.prog.cellsOf 124 = 1 := by kernel_rfl
theorem pw_of_laid {w : World} {l : List (String × DataW Unit)} (h : laidMet Tryz.prog l w) (hm : ("internal/strconv.uint64pow10", Rows.laid_internal_strconv_uint64pow10) ∈ l) : Pw w := by
  obtain ⟨ps, hv, _⟩ := h
  obtain ⟨g, t, cs, fuel, p, h1, h2, h3, h4⟩ := laid_mem hv _ _ hm
  obtain rfl : g = 6 := (Option.some.inj ((show Tryz.prog.globalNamed "internal/strconv.uint64pow10" = some 6 by kernel_rfl).symm.trans h1)).symm
  obtain rfl : t = 140 := (Option.some.inj ((show (Tryz.prog.globals[6]?).map (·.type) = some 140 by kernel_rfl).symm.trans h2)).symm
  have h5 : DataW.trod (fun _ => ()) Tryz.prog w 0 (fun _ => true) false fuel 140 cs.toList = some (Lib.tabData .u64 Lib.pow10Tab, p) := h4
  have e := Lib.cells_of_tab Tryz.underlying140 Tryz.underlying124 cells_u64 cells_pow h5
  unfold Pw Lib.TabIs
  rw [h3, ← e]
/-- strconv's two errors lie there. -/
def Er (w : World) : Prop := (∃ tp p, w.var? Tryz.prog "strconv.ErrSyntax" = some #[.iface tp p]) ∧ ∃ tp p, w.var? Tryz.prog "strconv.ErrRange" = some #[.iface tp p]
theorem Er.below {w w' : World} (h : Er w) (hb : Below w.heap.size w w') : Er w' := by
  obtain ⟨⟨t1, p1, h1⟩, t2, p2, h2⟩ := h
  exact ⟨⟨t1, p1, var_below h1 hb⟩, t2, p2, var_below h2 hb⟩
set_option maxRecDepth 1000000 in
theorem iface_of {w : World} {fuel : Nat} {cs : List Value} {nm : String} {d : DataW Unit} {p : List MemPlace}
    (h : DataW.trod (fun _ => ()) Tryz.prog w 0 (fun _ => true) false fuel 78 cs = some (.iface nm d, p)) : ∃ u v, cs = [.iface u v] := by
  cases fuel with
  | zero => simp [DataW.trod] at h
  | succ n =>
    unfold DataW.trod at h
    rw [Tryz.underlying78] at h
    split at h <;> simp_all
theorem er_of_laid {w : World} {l : List (String × DataW Unit)} (h : laidMet Tryz.prog l w) (hm1 : ("strconv.ErrSyntax", Rows.laid_strconv_ErrSyntax) ∈ l) (hm2 : ("strconv.ErrRange", Rows.laid_strconv_ErrRange) ∈ l) : Er w := by
  obtain ⟨ps, hv, _⟩ := h
  constructor
  · obtain ⟨g, t, cs, fuel, p, h1, h2, h3, h4⟩ := laid_mem hv _ _ hm1
    obtain rfl : g = 4 := (Option.some.inj ((show Tryz.prog.globalNamed "strconv.ErrSyntax" = some 4 by kernel_rfl).symm.trans h1)).symm
    obtain rfl : t = 78 := (Option.some.inj ((show (Tryz.prog.globals[4]?).map (·.type) = some 78 by kernel_rfl).symm.trans h2)).symm
    obtain ⟨u, v, e⟩ := iface_of h4
    exact ⟨u, v, h3.trans (by cases cs; simp_all)⟩
  · obtain ⟨g, t, cs, fuel, p, h1, h2, h3, h4⟩ := laid_mem hv _ _ hm2
    obtain rfl : g = 5 := (Option.some.inj ((show Tryz.prog.globalNamed "strconv.ErrRange" = some 5 by kernel_rfl).symm.trans h1)).symm
    obtain rfl : t = 78 := (Option.some.inj ((show (Tryz.prog.globals[5]?).map (·.type) = some 78 by kernel_rfl).symm.trans h2)).symm
    obtain ⟨u, v, e⟩ := iface_of h4
    exact ⟨u, v, h3.trans (by cases cs; simp_all)⟩
end Go.Proofs.YtfafkijcejbcpaaGreatDoor
