/- Rows that a call made: where they lie. -/
import Derived.Test.YtlfeglljpfihhaaRows
import Derived.Test.YtlfeglljpfihhaaKeyPure
import Derived.Test.YtlfeglljpfihhaaCellPure
import Derived.Test.YtlfeglljpfihhaaValsArg
import Derived.Test.YtlfeglljpfihhaaMemPure
import Derived.Test.YtlfeglljpfihhaaMachArg
import Derived.WalkKit
import Derived.ProofKit
import Derived.OpenShut
import Derived.Laws.OwnMore
import Derived.Laws.Rows
import Derived.Deep.AppendLies
import Derived.Deep.MidRow
namespace Go.Proofs.Ytlfeglljpfihhaa
open Go.ChangeShapes Go.WideShapes Go.ChangeAt Go.RowKit
set_option maxRecDepth 100000
theorem info_v : ∃ i, Try.prog.info? 25 = some i ∧ i.zero = some (.agg #[.bool false, .int .i64 0, .int .i64 0, .int .i64 0, .int .i64 0, .int .i64 0, .int .i64 0]) ∧ i.size = 7 ∧ i.bytes = 56 := by
  refine ⟨_, rfl, ?_, ?_, ?_⟩ <;> kernel_rfl
theorem own_row {w : World} {base : Nat} {e : TypeId} {size : Nat} {v : Value} {n : Nat} {xs : List Value} (h : w.ownsRow base e size v n xs) : ∃ a c, v = .slice a n c ∧ n ≤ c ∧ RowAt w a xs ∧ (∀ x ∈ a, base ≤ x.block) := by
  obtain ⟨hl, h⟩ := h
  rcases h with ⟨rfl, h0⟩ | ⟨g, cap, cur, rfl, hb, hc, hcap, _, hcur, htk⟩
  · exact ⟨none, 0, by rw [h0], by omega, .inl (List.length_eq_zero_iff.1 (by rw [hl, h0, Nat.zero_mul])), fun x hx => by cases hx⟩
  · refine ⟨_, _, rfl, hcap, .inr ⟨g, 0, rfl, (Array.getElem?_eq_some_iff.1 hc).1, fun j u hj => ?_⟩, fun x hx => by cases hx; exact hb⟩
    rw [Nat.zero_add, World.cell?, hc]
    rw [← htk] at hj
    have hj2 : j < n * size := by
      rcases Nat.lt_or_ge j (n * size) with h1 | h1
      · exact h1
      · rw [List.getElem?_eq_none (by rw [List.length_take]; omega)] at hj; cases hj
    rw [List.getElem?_take_of_lt hj2] at hj
    simpa using hj
theorem row_box {w : World} {g : Nat} {cs : List Value} (hb : Box w g cs.toArray) : RowAt w (some ⟨g, 0, none⟩) cs := by
  refine .inr ⟨g, 0, rfl, hb.lt, fun j u hj => ?_⟩
  rw [Nat.zero_add, hb.cell, List.getElem?_toArray]
  exact hj
theorem one_mv (vs : List MV) : ∀ u ∈ vs.flatMap mvC, u.oneCell' = true := mv_one vs
theorem set_flatM (vs : List MV) (k : Nat) (v : MV) (hk : k < vs.length) :
    (((((((vs.flatMap mvC).set (k * 7) (.bool v.i)).set (k * 7 + 1) (.int .i64 v.n)).set (k * 7 + 2) (.int .i64 v.p)).set (k * 7 + 3) (.int .i64 v.b)).set (k * 7 + 4) (.int .i64 v.l)).set (k * 7 + 5) (.int .i64 v.a)).set (k * 7 + 6) (.int .i64 v.s) = (vs.set k v).flatMap mvC := by
  apply List.ext_getElem?
  intro j
  rcases Nat.lt_or_ge j (vs.length * 7) with hj | hj
  · have e : j = j / 7 * 7 + j % 7 := by omega
    have hq : j / 7 < vs.length := by omega
    have h7 : j % 7 < 7 := by omega
    generalize j / 7 = q at *
    generalize j % 7 = r at *
    subst e
    by_cases hqk : q = k
    · subst hqk
      rw [mv_cell (vs.set q v) q v r (by rw [List.getElem?_set_self hq]) h7]
      have hl : q * 7 + 6 < (vs.flatMap mvC).length := by rw [mv_len]; omega
      generalize vs.flatMap mvC = L at *
      have hr : r = 0 ∨ r = 1 ∨ r = 2 ∨ r = 3 ∨ r = 4 ∨ r = 5 ∨ r = 6 := by omega
      rcases hr with rfl | rfl | rfl | rfl | rfl | rfl | rfl 
      · rw [Nat.add_zero]
        repeat rw [List.getElem?_set_ne (by omega)]
        exact List.getElem?_set_self (by omega)
      all_goals
        repeat rw [List.getElem?_set_ne (by omega)]
        exact List.getElem?_set_self (by simp only [List.length_set]; omega)
    · obtain ⟨x, hx⟩ : ∃ x, vs[q]? = some x := ⟨_, List.getElem?_eq_getElem hq⟩
      rw [mv_cell (vs.set k v) q x r (by rw [List.getElem?_set_ne (Ne.symm hqk)]; exact hx) h7]
      repeat rw [List.getElem?_set_ne (by omega)]
      exact mv_cell vs q x r hx h7
  · rw [List.getElem?_eq_none (by simp only [List.length_set]; rw [mv_len]; omega), List.getElem?_eq_none (by rw [mv_len, List.length_set]; omega)]
end Go.Proofs.Ytlfeglljpfihhaa
