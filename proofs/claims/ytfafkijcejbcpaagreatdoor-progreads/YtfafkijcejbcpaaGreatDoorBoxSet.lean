/- A cell of a box that is set; other boxes stay. -/
import Derived.Test.YtfafkijcejbcpaaGreatDoorRows
import Derived.Test.YtfafkijcejbcpaaGreatDoorKeyPure
import Derived.WalkKit
import Derived.ProofKit
namespace Go.Proofs.YtfafkijcejbcpaaGreatDoor
open Go.ChangeShapes Go.WideShapes Go.ChangeAt Go.RowKit
theorem Box.set {w : World} {k : Nat} {c : Array Value} (h : Box w k c) (i : Nat) (v : Value) (hi : i < c.size) : Box (w.setCell ⟨k, i, none⟩ v) k (c.setIfInBounds i v) := by
  refine ⟨by simpa [World.setCell] using h.1, fun o => ?_, fun o => by rw [World.frozen?_setCell]; exact h.2.2 o⟩
  by_cases e : o = i
  · subst e
    have : w.cell? ⟨k, o, none⟩ = some c[o] := by rw [h.2.1]; simp [hi]
    rw [World.cell?_setCell_same _ _ _ this, Array.getElem?_setIfInBounds]; simp [hi]
  · rw [World.cell?_setCell_other _ _ _ _ (fun x => e (by injection x with _ x _; exact x.symm)), h.2.1, Array.getElem?_setIfInBounds_ne (Ne.symm e)]
theorem Box.setOther {w : World} {k k' i : Nat} {c : Array Value} {v : Value} (h : Box w k c) (hk : k ≠ k') : Box (w.setCell ⟨k', i, none⟩ v) k c := by
  refine ⟨by simpa [World.setCell] using h.1, fun o => ?_, fun o => by rw [World.frozen?_setCell]; exact h.2.2 o⟩
  rw [World.cell?_setCell_other _ _ _ _ (fun x => hk (by injection x with x _ _; exact x.symm)), h.2.1]
end Go.Proofs.YtfafkijcejbcpaaGreatDoor
