/- Plain: a machine in a block: its key and its lists are others. -/
import Derived.Test.YtlfeglljpfihhaaRows
import Derived.Test.YtlfeglljpfihhaaKeyPure
import Derived.Test.YtlfeglljpfihhaaCellPure
import Derived.Test.YtlfeglljpfihhaaValsArg
import Derived.Test.YtlfeglljpfihhaaMemPure
import Derived.Test.YtlfeglljpfihhaaMachArg
import Derived.Test.YtlfeglljpfihhaaStepChk
import Derived.Test.YtlfeglljpfihhaaStepChk2
import Derived.Test.YtlfeglljpfihhaaMachMid
import Derived.WalkKit
namespace Go.Proofs.Ytlfeglljpfihhaa
open Go.ChangeShapes Go.WideShapes Go.ChangeAt Go.RowKit
set_option linter.unusedVariables false
section
variable {w : World} {B : Nat} {y : MC} {q : MA}
theorem app_set {A : List Value} (hA : A.length = 56) {T : List Value} {j : Nat} {v : Value} : (A ++ T).set (56 + j) v = A ++ T.set j v := by
  rw [List.set_append_right _ _ (by omega), hA, Nat.add_sub_cancel_left]
theorem tail_set (h8 : y.r.length = 8) (j : Nat) (v : Value) : (mcC y q).set (56 + j) v = y.r.flatMap mvC ++ (mcT y q).set j v := by
  have hl : (y.r.flatMap mvC).length = 56 := by rw [mv_len, h8]
  unfold mcC
  rw [List.set_append_right _ _ (by omega), hl, Nat.add_sub_cancel_left]
/-- The cells behind the registers. -/
structure McT (w : World) (B : Nat) (y : MC) (q : MA) : Prop where
  k0 : w.cell? ⟨B, 56, none⟩ = some (.int .i64 y.k.p)
  k1 : w.cell? ⟨B, 57, none⟩ = some (.int .i64 y.k.b)
  k2 : w.cell? ⟨B, 58, none⟩ = some (.int .i64 y.k.l)
  k3 : w.cell? ⟨B, 59, none⟩ = some (.int .i64 y.k.a)
  k4 : w.cell? ⟨B, 60, none⟩ = some (.int .i64 y.k.s)
  lm : w.cell? ⟨B, 61, none⟩ = some (.slice q.m y.m.length q.cm)
  ls : w.cell? ⟨B, 62, none⟩ = some (.slice q.s y.s.length q.cs)
  lo : w.cell? ⟨B, 63, none⟩ = some (.slice q.o y.o.length q.co)
theorem mc_tail (h : Box w B (mcC y q).toArray) (h8 : y.r.length = 8) : McT w B y q := by
  obtain ⟨-, -, -, c0, c1, c2, c3, c4, c5, c6, c7⟩ := mc_cells y q h8
  exact ⟨by rw [h.cell, c0], by rw [h.cell, c1], by rw [h.cell, c2], by rw [h.cell, c3], by rw [h.cell, c4], by rw [h.cell, c5], by rw [h.cell, c6], by rw [h.cell, c7]⟩
theorem box_setK (h : Box w B (mcC y q).toArray) (h8 : y.r.length = 8) (k : K5) :
    Box (((((w.setCell ⟨B, 56, none⟩ (.int .i64 k.p)).setCell ⟨B, 57, none⟩ (.int .i64 k.b)).setCell ⟨B, 58, none⟩ (.int .i64 k.l)).setCell ⟨B, 59, none⟩ (.int .i64 k.a)).setCell ⟨B, 60, none⟩ (.int .i64 k.s)) B (mcC { y with k := k } q).toArray := by
  have hl := mc_length (q := q) h8
  have b := ((((h.setL' (v := .int .i64 k.p) (j := 56 + 0) (by omega)).setL' (v := .int .i64 k.b) (j := 56 + 1) (by simp only [List.length_set]; omega)).setL' (v := .int .i64 k.l) (j := 56 + 2) (by simp only [List.length_set]; omega)).setL' (v := .int .i64 k.a) (j := 56 + 3) (by simp only [List.length_set]; omega)).setL' (v := .int .i64 k.s) (j := 56 + 4) (by simp only [List.length_set]; omega)
  have e : (((((mcC y q).set (56 + 0) (.int .i64 k.p)).set (56 + 1) (.int .i64 k.b)).set (56 + 2) (.int .i64 k.l)).set (56 + 3) (.int .i64 k.a)).set (56 + 4) (.int .i64 k.s) = mcC { y with k := k } q := by
    have hl : (y.r.flatMap mvC).length = 56 := by rw [mv_len, h8]
    unfold mcC
    rw [app_set hl, app_set hl, app_set hl, app_set hl, app_set hl]
    rfl
  rw [e] at b
  exact b
theorem box_setM (h : Box w B (mcC y q).toArray) (h8 : y.r.length = 8) (m : List MV) (a : Option Addr) (c : Nat) : Box (w.setCell ⟨B, 61, none⟩ (.slice a m.length c)) B (mcC { y with m := m } { q with m := a, cm := c }).toArray := by
  have b := h.setL' (v := .slice a m.length c) (j := 56 + 5) (by rw [mc_length h8]; omega)
  rw [tail_set h8] at b
  exact b
theorem box_setS (h : Box w B (mcC y q).toArray) (h8 : y.r.length = 8) (m : List FR) (a : Option Addr) (c : Nat) : Box (w.setCell ⟨B, 62, none⟩ (.slice a m.length c)) B (mcC { y with s := m } { q with s := a, cs := c }).toArray := by
  have b := h.setL' (v := .slice a m.length c) (j := 56 + 6) (by rw [mc_length h8]; omega)
  rw [tail_set h8] at b
  exact b
theorem box_setO (h : Box w B (mcC y q).toArray) (h8 : y.r.length = 8) (m : List Int) (a : Option Addr) (c : Nat) : Box (w.setCell ⟨B, 63, none⟩ (.slice a m.length c)) B (mcC { y with o := m } { q with o := a, co := c }).toArray := by
  have b := h.setL' (v := .slice a m.length c) (j := 56 + 7) (by rw [mc_length h8]; omega)
  rw [tail_set h8] at b
  exact b
end
theorem RowAt.offS {S : Nat} {a b : World} {p : Option Addr} {cs : List Value} (hr : RowAt a p cs) (hS : a.heap.size ≤ S) (h : Off S a b) : RowAt b p cs := by
  rcases hr with h0 | ⟨B, off, rfl, hB, hc⟩
  · exact .inl h0
  · refine .inr ⟨B, off, rfl, Nat.lt_of_lt_of_le hB h.size, fun j u hj => ?_⟩
    rw [World.cell?_of_block (w := a) (a := ⟨B, off + j, none⟩) (h.block B hB (by omega))]
    exact hc j u hj
theorem RowAt.off {S : Nat} {a b : World} {g o : Nat} {cs : List Value} (hr : RowAt a (some ⟨g, o, none⟩) cs) (hS : g ≠ S) (h : Off S a b) : RowAt b (some ⟨g, o, none⟩) cs := by
  rcases hr with h0 | ⟨B, off, e, hB, hc⟩
  · exact .inl h0
  · cases e
    refine .inr ⟨g, o, rfl, Nat.lt_of_lt_of_le hB h.size, fun j u hj => ?_⟩
    rw [World.cell?_of_block (w := a) (a := ⟨g, o + j, none⟩) (h.block g hB hS)]
    exact hc j u hj
end Go.Proofs.Ytlfeglljpfihhaa
