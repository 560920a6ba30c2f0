/- Plain: a row that was made is filled, one by one. -/
import Derived.Test.YthijebhhbflclaaRows
import Derived.Test.YthijebhhbflclaaKeyPure
import Derived.Test.YthijebhhbflclaaCellPure
import Derived.Test.YthijebhhbflclaaValsArg
import Derived.Test.YthijebhhbflclaaMemPure
import Derived.Test.YthijebhhbflclaaMachArg
import Derived.Test.YthijebhhbflclaaMachMid
import Derived.WalkKit
import Derived.ProofKit
import Derived.Deep.MidRow
namespace Go.Proofs.Ythijebhhbflclaa
open Go.ChangeShapes Go.WideShapes Go.ChangeAt Go.RowKit
set_option linter.unusedVariables false

/-- Some cells of a block are set. -/
theorem box_part {g : Nat} : ∀ (cs : List Value) (o : Nat) (w : World) (D : Array Value), Box w g D → o + cs.length ≤ D.size →
    ∃ D', Box (w.setCells g o cs) g D' ∧ D'.size = D.size ∧ (∀ j, j < cs.length → D'[o + j]? = cs[j]?) ∧ ∀ j, (j < o ∨ o + cs.length ≤ j) → D'[j]? = D[j]?
  | [], o, w, D, h, _ => ⟨D, h, rfl, fun j hj => absurd hj (Nat.not_lt_zero _), fun _ _ => rfl⟩
  | v :: r, o, w, D, h, ho => by
    rw [List.length_cons] at ho
    obtain ⟨L⟩ := D
    have hL : o + (r.length + 1) ≤ L.length := ho
    have h1 := Box.setL' (v := v) (j := o) h (by omega)
    obtain ⟨D', h2, h3, h4, h5⟩ := box_part r (o + 1) _ _ h1 (by rw [List.size_toArray, List.length_set]; omega)
    refine ⟨D', h2, by rw [h3, List.size_toArray, List.length_set]; rfl, fun j hj => ?_, fun j hj => ?_⟩
    · cases j with
      | zero =>
        rw [Nat.add_zero, h5 o (by omega), List.getElem?_toArray, List.getElem?_set_self (by omega)]
        rfl
      | succ j =>
        have := h4 j (by rw [List.length_cons] at hj; omega)
        rw [show o + (j + 1) = o + 1 + j by omega, this]
        rfl
    · rw [List.length_cons] at hj
      rw [h5 j (by omega), List.getElem?_toArray, List.getElem?_set_ne (by omega)]
      exact (List.getElem?_toArray (xs := L)).symm
section
variable {P : Program} {ops : Array Oper} {rest : List Oper} {o : Oper} {a : Act} {w : World} {Q : Exit → Act → World → Prop}
theorem pl_store_part (hg : o.guard = none) (ty : TypeId) (y z : Operand) (ho : o.op = .store ty y z) (g off : Nat) (cs : List Value) (hy : a.eval y = .pointer (some ⟨g, off, none⟩)) (hz : a.eval z = .agg cs.toArray) (D : Array Value) (hb : Box w g D) (hd : off + cs.length ≤ D.size)
    (hi : (P.info? ty).map (·.size) = some cs.length) (h1 : ∀ u ∈ cs, u.oneCell' = true)
    (h : ∀ W D', Off g w W → Box W g D' → D'.size = D.size → (∀ j, j < cs.length → D'[off + j]? = cs[j]?) → (∀ j, (j < off ∨ off + cs.length ≤ j) → D'[j]? = D[j]?) → wpList P ops Q rest (a.put o.dst undef) W) : wpList P ops Q (o :: rest) a w := by
  have ht : w.there g off cs.toArray.size := fun j hj => by
    rw [List.size_toArray] at hj
    rw [hb.cell]
    exact ⟨by rw [Array.getElem?_eq_getElem (by omega)]; rfl, hb.free _⟩
  obtain ⟨D', h2, h3, h4, h5⟩ := box_part cs off w D hb hd
  exact wpList_plain hg fun _ hK => wp_store_mid ty y z ho g off cs.toArray hy hz ht (by rw [List.size_toArray]; exact hi) (all_oneCell_toArray h1) (hK _ _ (h _ D' (Off.cells g cs off w (Off.refl g w) (.inl rfl)) h2 h3 h4 h5))
end
/-- A block that was not there is turned besides. -/
theorem Off.new {S g : Nat} {a b c : World} (h : Off S a b) (k : Off g b c) (hg : a.heap.size ≤ g) : Off S a c :=
  ⟨k.os.trans h.os, k.tape.trans h.tape, k.output.trans h.output, Nat.le_trans h.size k.size, fun i hi hn => (k.block i (Nat.lt_of_lt_of_le hi h.size) (by omega)).trans (h.block i hi hn)⟩
/-- What lies at the front of a row. -/
def Pre (D : Array Value) (cs : List Value) : Prop := ∀ (j : Nat) u, cs[j]? = some u → D[j]? = some u
theorem pre_nil (D : Array Value) : Pre D [] := fun j u h => by simp at h
theorem pre_snoc {D D' : Array Value} {xs cs : List Value} {off : Nat} (hx : xs.length = off) (h : Pre D xs) (h4 : ∀ j, j < cs.length → D'[off + j]? = cs[j]?) (h5 : ∀ j, (j < off ∨ off + cs.length ≤ j) → D'[j]? = D[j]?) : Pre D' (xs ++ cs) := fun j u hj => by
  rcases Nat.lt_or_ge j off with hlt | hge
  · rw [List.getElem?_append_left (by omega)] at hj
    rw [h5 j (.inl hlt)]
    exact h j u hj
  · rw [List.getElem?_append_right (by omega), hx] at hj
    have hjc : j - off < cs.length := (List.getElem?_eq_some_iff.1 hj).1
    have := h4 (j - off) hjc
    rw [show off + (j - off) = j by omega] at this
    rw [this]
    exact hj
theorem pre_row {w : World} {g : Nat} {D : Array Value} {cs : List Value} (hb : Box w g D) (h : Pre D cs) : RowAt w (some ⟨g, 0, none⟩) cs :=
  .inr ⟨g, 0, rfl, hb.lt, fun j u hj => by rw [Nat.zero_add, hb.cell]; exact h j u hj⟩
theorem take_snoc {α β : Type} {f : α → β} {xs : List α} {k : Nat} {x : α} (h : xs[k]? = some x) : (xs.take (k + 1)).map f = (xs.take k).map f ++ [f x] := by
  obtain ⟨hk, e⟩ := List.getElem?_eq_some_iff.1 h
  rw [List.take_add_one, h, List.map_append]
  rfl
end Go.Proofs.Ythijebhhbflclaa
