/- Plain: rows that an append made; a machine whose lists are its own. -/
import Derived.Test.YtlfeglljpfihhaaGreatDoorRows
import Derived.Test.YtlfeglljpfihhaaGreatDoorCardBaseX
import Derived.Test.YtlfeglljpfihhaaGreatDoorValArgX
import Derived.Test.YtlfeglljpfihhaaGreatDoorMemPureX
import Derived.Test.YtlfeglljpfihhaaGreatDoorStepChkX
import Derived.Test.YtlfeglljpfihhaaGreatDoorStepRowX
import Derived.WalkKit
import Derived.ProofKit
import Derived.OpenShut
import Derived.Deep.MidRow
import Derived.Deep.AppendLies
import Derived.Deep.RegionLaw
import Derived.ArgAppend
namespace Go.Proofs.YtlfeglljpfihhaaGreatDoor
open Go.ChangeShapes Go.WideShapes Go.ChangeAt Go.RowKit
set_option linter.unusedSimpArgs false
set_option linter.unusedVariables false
set_option maxRecDepth 100000

theorem own_row2 {w : World} {base : Nat} {e : TypeId} {size : Nat} {v : Value} {n : Nat} {xs : List Value} (h : w.ownsRow base e size v n xs) : ∃ a c, v = .slice a n c ∧ (n ≤ c ∧ c ≤ maxLen) ∧ RowAt w a xs ∧ (∀ x ∈ a, base ≤ x.block ∧ x.block < w.heap.size) := by
  obtain ⟨a, c, hv, hc, hr, hb⟩ := own_row h
  refine ⟨a, c, hv, ?_, hr, fun x hx => ⟨hb x hx, ?_⟩⟩
  · obtain ⟨hl, h⟩ := h
    rcases h with ⟨h1, h0⟩ | ⟨g, cap, cur, h1, hb, hcc, hcap, hmax, hcur, htk⟩
    · rw [hv] at h1
      cases h1
      exact ⟨hc, Nat.zero_le _⟩
    · rw [hv] at h1
      cases h1
      exact ⟨hc, hmax⟩
  · obtain ⟨hl, h⟩ := h
    rcases h with ⟨h1, h0⟩ | ⟨g, cap, cur, h1, hb, hcc, hcap, hmax, hcur, htk⟩
    · rw [hv] at h1
      cases h1
      cases hx
    · rw [hv] at h1
      cases h1
      cases hx
      exact (Array.getElem?_eq_some_iff.1 hcc).1
/-- A row that lies beyond two blocks stands when cells of the first are set. -/
theorem three_rowsA {w : World} {b : Nat} {a : Option Addr} {cs : List Value} (hg : ∀ y ∈ a, b + 1 < y.block) (h : RowAt w a cs) (u1 u2 u3 : Value) : RowAt (((w.setCell ⟨b, 61, none⟩ u1).setCell ⟨b, 62, none⟩ u2).setCell ⟨b, 63, none⟩ u3) a cs := by
  rcases h with h | ⟨g, off, rfl, hB, hc⟩
  · exact .inl h
  · have hne : g ≠ b := by have := hg ⟨g, off, none⟩ rfl; simp only at this; omega
    have hO : Off b w (((w.setCell ⟨b, 61, none⟩ u1).setCell ⟨b, 62, none⟩ u2).setCell ⟨b, 63, none⟩ u3) := (((Off.refl _ _).set _ _).set _ _).set _ _
    refine .inr ⟨g, off, rfl, Nat.lt_of_lt_of_le hB hO.size, fun j u hj => ?_⟩
    rw [World.cell?_of_block (w := w) (a := ⟨g, off + j, none⟩) (hO.block g hB hne)]
    exact hc j u hj
theorem rows_cellsA {w : World} {b : Nat} {a : Option Addr} {cs : List Value} (hg : ∀ y ∈ a, b + 1 < y.block) (h : RowAt w a cs) (vs : List Value) : RowAt (w.setCells (b + 1) 0 vs) a cs := by
  rcases h with h | ⟨g, off, rfl, hB, hc⟩
  · exact .inl h
  · have hlt := hg ⟨g, off, none⟩ rfl
    simp only at hlt
    have hb := below_cells (B := w.heap.size + 1) (a := w) (b + 1) vs 0 w
    refine .inr ⟨g, off, rfl, by rw [size_cells]; exact hB, fun j u hj => ?_⟩
    rw [World.cell?_setCells_out _ _ _ _ _ (by simp only; omega)]
    exact hc j u hj
/-- Its lists lie in memory of its own: from block b on, up to block n. -/
structure OwnQ (b n : Nat) (x : MC) (q : MA) : Prop where
  m : ∀ y ∈ q.m, b ≤ y.block ∧ y.block < n
  s : ∀ y ∈ q.s, b ≤ y.block ∧ y.block < n
  o : ∀ y ∈ q.o, b ≤ y.block ∧ y.block < n
  cm : x.m.length ≤ q.cm ∧ q.cm ≤ maxLen
  cs : x.s.length ≤ q.cs ∧ q.cs ≤ maxLen
  co : x.o.length ≤ q.co ∧ q.co ≤ maxLen
theorem one_row {w : World} {b : Nat} {a : Option Addr} {cs : List Value} (hg : ∀ y ∈ a, b < y.block) (h : RowAt w a cs) (p : Addr) (hp : p.block ≤ b) (u : Value) : RowAt (w.setCell p u) a cs := by
  rcases h with h | ⟨g, off, rfl, hB, hc⟩
  · exact .inl h
  · have hlt := hg ⟨g, off, none⟩ rfl
    simp only at hlt
    have hO : Off p.block w (w.setCell p u) := ⟨rfl, rfl, rfl, by simp [World.setCell], fun k _ hn => Below.heap_setCell _ _ _ _ hn⟩
    refine .inr ⟨g, off, rfl, Nat.lt_of_lt_of_le hB hO.size, fun j v hj => ?_⟩
    rw [World.cell?_of_block (w := w) (a := ⟨g, off + j, none⟩) (hO.block g hB (by omega))]
    exact hc j v hj
theorem wpList_app {P : Program} (w : World) {ops : Array Oper} {rest : List Oper} {o : Oper} {a : Act} {Q : Exit → Act → World → Prop}
    (hg : o.guard = none) (s x : Operand) (t : TypeId) (hop : o.op = Op.call { callee := Callee.builtin Builtin.append, args := #[s, x], argTypes := #[t, t] })
    (e : TypeId) (i : TypeInfo) (z : Value) (size bytes : Nat) (h1 : P.underlying t = some (.slice e)) (h2 : P.info? e = some i) (h3 : i.zero = some z) (h4 : i.size = size) (h5 : i.bytes = bytes) (h6 : z.cells.size = size) (h7 : 0 < size)
    (g0 : Nat) (hs : a.eval s = .slice (some ⟨g0, 0, none⟩) 0 0) (hg0 : g0 < w.heap.size)
    (sa : Option Addr) (n c : Nat) (L : List Value) (hx : a.eval x = .slice sa n c) (hn : L.length = n * size) (hrow : RowAt w sa L) (h1c : ∀ u ∈ L, u.oneCell' = true) (b2 : n * bytes ≤ 140737488355328) (b3 : n ≤ maxLen)
    (hK : ∀ a' c' w', Below w.heap.size w w' → (n ≤ c' ∧ c' ≤ maxLen) → RowAt w' a' L → (∀ y ∈ a', g0 ≤ y.block ∧ y.block < w'.heap.size) → wpList P ops Q rest (a.put o.dst (.slice a' n c')) w') :
    wpList P ops Q (o :: rest) a w := by
  rcases Nat.eq_zero_or_pos n with h0 | hp
  · subst h0
    obtain rfl : L = [] := List.length_eq_zero_iff.1 (by simpa using hn)
    have hk := hK (some ⟨g0, 0, none⟩) 0 w (Below.refl _ _) ⟨Nat.le_refl _, Nat.zero_le _⟩ (.inl rfl) (fun y hy => by cases hy; exact ⟨Nat.le_refl _, hg0⟩)
    refine wpList_plain hg fun K hK' => ?_
    unfold Oper.wp
    have hr : (Builtin.append_ #[t, t] o.type #[.slice (some ⟨g0, 0, none⟩) 0 0, .slice sa 0 c]).run P w = .ok (.slice (some ⟨g0, 0, none⟩) 0 0) w := by
      cases sa <;> simp [Builtin.append_, run_underlying h1, Builtin.lenOf, Builtin.firstCells, sizeOf, typeInfo, h2, loadCells, loadCellsFrom, storeCells, go_sem]
    simp [execOp, hop, resolve, invoke, builtin, hs, hx, hr, Result.andThen]
    exact hK' _ _ hk
  · rcases hrow with h0 | ⟨B, off, rfl, hB, hc⟩
    · have h9 : n * size = 0 := by rw [← hn, h0]; rfl
      rcases Nat.mul_eq_zero.1 h9 with h | h <;> omega
    · refine wpList_append_grows w hg s x t hop e i z size bytes h1 h2 h3 h4 h5 h6 h7 (some ⟨g0, 0, none⟩) 0 0 [] hs (fun h => by cases h) (by simp) (fun b hb j u hj => by simp at hj) ⟨B, off, none⟩ n c L hx (by omega) (fun j u hj => by rw [addr_add]; exact hc j u hj) h1c (by omega) (by omega) (by rw [Nat.zero_add]; exact b2) ?_
      intro V w1 hown hgrow
      rw [Nat.zero_add, List.nil_append] at hown
      obtain ⟨a', c', hV, hcap, hrow, hfar⟩ := own_row2 hown
      rw [hV]
      exact hK a' c' w1 (Below.grown (Below.refl _ _) hgrow (Nat.le_refl _) (fun k e => by cases e)) hcap hrow (fun y hy => ⟨by have := (hfar y hy).1; omega, (hfar y hy).2⟩)
end Go.Proofs.YtlfeglljpfihhaaGreatDoor
