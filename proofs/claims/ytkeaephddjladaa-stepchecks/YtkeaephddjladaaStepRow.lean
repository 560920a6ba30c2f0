/- Rows that a call made: where they lie. -/
import Derived.Test.YtkeaephddjladaaRows
import Derived.Test.YtkeaephddjladaaKeyPure
import Derived.Test.YtkeaephddjladaaCellPure
import Derived.Test.YtkeaephddjladaaValsArg
import Derived.Test.YtkeaephddjladaaMemPure
import Derived.Test.YtkeaephddjladaaMachArg
import Derived.WalkKit
import Derived.ProofKit
import Derived.OpenShut
import Derived.Laws.OwnMore
import Derived.Laws.Rows
import Derived.Deep.AppendLies
import Derived.Deep.MidRow
namespace Go.Proofs.Ytkeaephddjladaa
open Go.ChangeShapes Go.WideShapes Go.ChangeAt Go.RowKit
theorem info_v : ∃ i, Try.prog.info? 25 = some i ∧ i.zero = some (.agg #[.bool false, .int .i64 0, .int .i64 0, .int .i64 0, .int .i64 0, .int .i64 0, .int .i64 0]) ∧ i.size = 7 ∧ i.bytes = 56 := by
  refine ⟨_, rfl, ?_, ?_, ?_⟩ <;> kernel_rfl
theorem own_row {w : World} {base : Nat} {e : TypeId} {size : Nat} {v : Value} {n : Nat} {xs : List Value} (h : w.ownsRow base e size v n xs) : ∃ a c, v = .slice a n c ∧ n ≤ c ∧ RowAt w a xs ∧ (∀ x ∈ a, base ≤ x.block) := by
  obtain ⟨hl, h⟩ := h
  rcases h with ⟨rfl, h0⟩ | ⟨g, cap, cur, rfl, hb, hc, hcap, _, hcur, htk⟩
  · exact ⟨none, 0, by rw [h0], by omega, .inl (List.length_eq_zero_iff.1 (by rw [hl, h0, Nat.zero_mul])), fun x hx => by cases hx⟩
  · refine ⟨_, _, rfl, hcap, .inr ⟨g, 0, rfl, (Array.getElem?_eq_some_iff.1 hc).1, fun j u hj => ?_⟩, fun x hx => by cases hx; exact hb⟩
    rw [Nat.zero_add, World.cell?, hc]
    rw [← htk] at hj
    have hj2 : j < n * size := by
      rcases Nat.lt_or_ge j (n * size) with h1 | h1
      · exact h1
      · rw [List.getElem?_eq_none (by rw [List.length_take]; omega)] at hj; cases hj
    rw [List.getElem?_take_of_lt hj2] at hj
    simpa using hj
theorem row_box {w : World} {g : Nat} {cs : List Value} (hb : Box w g cs.toArray) : RowAt w (some ⟨g, 0, none⟩) cs := by
  refine .inr ⟨g, 0, rfl, hb.lt, fun j u hj => ?_⟩
  rw [Nat.zero_add, hb.cell, List.getElem?_toArray]
  exact hj
theorem one_mv (vs : List MV) : ∀ u ∈ vs.flatMap mvC, u.oneCell' = true := mv_one vs
end Go.Proofs.Ytkeaephddjladaa
