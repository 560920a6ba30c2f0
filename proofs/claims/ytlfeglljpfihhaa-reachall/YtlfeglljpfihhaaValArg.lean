/- A value that comes in as an argument: taken apart into its bool and six numbers, and read again behind the call. -/
import Derived.Test.YtlfeglljpfihhaaRows
import Derived.Test.YtlfeglljpfihhaaKeyArg
import Derived.WalkKit
import Derived.ProofKit
import Derived.OpenShut
namespace Go.Proofs.Ytlfeglljpfihhaa
open Go.ChangeShapes Go.WideShapes Go.ChangeAt Go.RowKit
set_option maxRecDepth 100000

theorem array7 {α : Type} {cs : Array α} (h : cs.size = 7) : ∃ c0 c1 c2 c3 c4 c5 c6, cs = #[c0, c1, c2, c3, c4, c5, c6] := by
  obtain ⟨l⟩ := cs
  match l, h with
  | [c0, c1, c2, c3, c4, c5, c6], _ => exact ⟨c0, c1, c2, c3, c4, c5, c6, rfl⟩
theorem list3 {α : Type} {l : List α} (h : l.length = 3) : ∃ c0 c1 c2, l = [c0, c1, c2] := by
  match l, h with
  | [c0, c1, c2], _ => exact ⟨c0, c1, c2, rfl⟩
theorem cells_val : Try.prog.cellsOf 25 = 7 := by kernel_rfl
theorem cells_bool : Try.prog.cellsOf 4 = 1 := by kernel_rfl

section
variable {H : Type} {enc : TypeId × Value → H} {w : World} {base : Nat} {spare : Nat → Bool} {held : Bool}
theorem one_bool {n : Nat} {c : Value} {y : DataW H × List MemPlace} (h : some y = DataW.trod enc Try.prog w base spare held n 4 [c]) :
    ∃ x : Bool, c = .bool x ∧ y = (.lit (.bool x), []) := by
  obtain ⟨x, e, rfl⟩ := DataW.trod_bool Try.underlying4 h.symm
  simp at e
  exact ⟨x, e, rfl⟩
theorem five_key {n : Nat} {c0 c1 c2 c3 c4 : Value} {y : DataW H × List MemPlace} (h : some y = DataW.trod enc Try.prog w base spare held n 23 [c0, c1, c2, c3, c4]) :
    ∃ x0 x1 x2 x3 x4 : Int, c0 = .int .i64 x0 ∧ c1 = .int .i64 x1 ∧ c2 = .int .i64 x2 ∧ c3 = .int .i64 x3 ∧ c4 = .int .i64 x4 ∧
      y = (.agg [.lit (.int .i64 x0), .lit (.int .i64 x1), .lit (.int .i64 x2), .lit (.int .i64 x3), .lit (.int .i64 x4)], []) ∧
      (Lit.int .i64 x0).wf = true ∧ (Lit.int .i64 x1).wf = true ∧ (Lit.int .i64 x2).wf = true ∧ (Lit.int .i64 x3).wf = true ∧ (Lit.int .i64 x4).wf = true := by
  obtain ⟨xs, n, _, hx, _, hlen, hg⟩ := DataW.trod_struct Try.underlying23 h.symm
  obtain ⟨y0, y1, y2, y3, y4, rfl⟩ := list5 hlen
  have g0 := hg 0 _ rfl
  have g1 := hg 1 _ rfl
  have g2 := hg 2 _ rfl
  have g3 := hg 3 _ rfl
  have g4 := hg 4 _ rfl
  simp [cells_int] at g0 g1 g2 g3 g4
  obtain ⟨x0, rfl, rfl, w0⟩ := one_int g0.symm
  obtain ⟨x1, rfl, rfl, w1⟩ := one_int g1.symm
  obtain ⟨x2, rfl, rfl, w2⟩ := one_int g2.symm
  obtain ⟨x3, rfl, rfl, w3⟩ := one_int g3.symm
  obtain ⟨x4, rfl, rfl, w4⟩ := one_int g4.symm
  exact ⟨x0, x1, x2, x3, x4, rfl, rfl, rfl, rfl, rfl, by simpa using hx, w0, w1, w2, w3, w4⟩
theorem open_val {r : Reach} {b0 : Nat} {v : Value} {d : DataW H} {p : List MemPlace} (hv : Value.okWide Try.prog w r b0 25 v)
    (h : DataW.Trod enc Try.prog w base spare held 25 v d p) :
    ∃ (i : Bool) (n x0 x1 x2 x3 x4 : Int), v = .agg #[.bool i, .int .i64 n, .int .i64 x0, .int .i64 x1, .int .i64 x2, .int .i64 x3, .int .i64 x4] ∧
      d = .agg [.lit (.bool i), .lit (.int .i64 n), .agg [.lit (.int .i64 x0), .lit (.int .i64 x1), .lit (.int .i64 x2), .lit (.int .i64 x3), .lit (.int .i64 x4)]] ∧ p = [] ∧
      (Lit.int .i64 n).wf = true ∧ (Lit.int .i64 x0).wf = true ∧ (Lit.int .i64 x1).wf = true ∧ (Lit.int .i64 x2).wf = true ∧ (Lit.int .i64 x3).wf = true ∧ (Lit.int .i64 x4).wf = true := by
  obtain ⟨cs, rfl, hsz⟩ := okWide_struct Try.underlying25 hv
  obtain ⟨c0, c1, c2, c3, c4, c5, c6, rfl⟩ := array7 (hsz.trans cells_val)
  obtain ⟨fuel, hf⟩ := h
  obtain ⟨xs, n, _, hx, _, hlen, hg⟩ := DataW.trod_struct Try.underlying25 hf
  obtain ⟨y0, y1, y2, rfl⟩ := list3 hlen
  have g0 := hg 0 _ rfl
  have g1 := hg 1 _ rfl
  have g2 := hg 2 _ rfl
  simp [Value.cells, cells_int, cells_bool, cells_key] at g0 g1 g2
  obtain ⟨i, rfl, rfl⟩ := one_bool g0.symm
  obtain ⟨m, rfl, rfl, wn⟩ := one_int g1.symm
  obtain ⟨x0, x1, x2, x3, x4, rfl, rfl, rfl, rfl, rfl, rfl, w0, w1, w2, w3, w4⟩ := five_key g2.symm
  simp only [Prod.mk.injEq] at hx
  exact ⟨i, m, x0, x1, x2, x3, x4, rfl, by simpa using hx.1, by simpa using hx.2, wn, w0, w1, w2, w3, w4⟩
theorem shut_val {i : Bool} {n x0 x1 x2 x3 x4 : Int} (wn : (Lit.int .i64 n).wf = true) (w0 : (Lit.int .i64 x0).wf = true) (w1 : (Lit.int .i64 x1).wf = true) (w2 : (Lit.int .i64 x2).wf = true) (w3 : (Lit.int .i64 x3).wf = true) (w4 : (Lit.int .i64 x4).wf = true) :
    DataW.Trod enc Try.prog w base spare held 25 (.agg #[.bool i, .int .i64 n, .int .i64 x0, .int .i64 x1, .int .i64 x2, .int .i64 x3, .int .i64 x4])
      (.agg [.lit (.bool i), .lit (.int .i64 n), .agg [.lit (.int .i64 x0), .lit (.int .i64 x1), .lit (.int .i64 x2), .lit (.int .i64 x3), .lit (.int .i64 x4)]]) [] := by
  have one : ∀ (k : Nat) (x : Int), (Lit.int .i64 x).wf = true → DataW.trod enc Try.prog w base spare held (k + 1) 3 [.int .i64 x] = some (.lit (.int .i64 x), []) := fun k x hx => by
    simp [DataW.trod, Try.underlying3, hx]
  have oneb : DataW.trod enc Try.prog w base spare held 2 4 [.bool i] = some (.lit (.bool i), []) := by
    simp [DataW.trod, Try.underlying4]
  have key : DataW.trod enc Try.prog w base spare held 2 23 [.int .i64 x0, .int .i64 x1, .int .i64 x2, .int .i64 x3, .int .i64 x4] =
      some (.agg [.lit (.int .i64 x0), .lit (.int .i64 x1), .lit (.int .i64 x2), .lit (.int .i64 x3), .lit (.int .i64 x4)], []) := by
    have t := trod_struct_mk (enc := enc) (w := w) (base := base) (spare := spare) (held := held) (n := 1) (cs := [.int .i64 x0, .int .i64 x1, .int .i64 x2, .int .i64 x3, .int .i64 x4])
      (xs := [(.lit (.int .i64 x0), []), (.lit (.int .i64 x1), []), (.lit (.int .i64 x2), []), (.lit (.int .i64 x3), []), (.lit (.int .i64 x4), [])]) Try.underlying23 (by simp [cells_key])
      (by simp [cells_int, one 0 _ w0, one 0 _ w1, one 0 _ w2, one 0 _ w3, one 0 _ w4])
    simpa using t
  have t := trod_struct_mk (enc := enc) (w := w) (base := base) (spare := spare) (held := held) (n := 2) (cs := [.bool i, .int .i64 n, .int .i64 x0, .int .i64 x1, .int .i64 x2, .int .i64 x3, .int .i64 x4])
    (xs := [(.lit (.bool i), []), (.lit (.int .i64 n), []), (.agg [.lit (.int .i64 x0), .lit (.int .i64 x1), .lit (.int .i64 x2), .lit (.int .i64 x3), .lit (.int .i64 x4)], [])]) Try.underlying25 (by simp [cells_val])
    (by simp [cells_int, cells_bool, cells_key, oneb, one 1 _ wn, key])
  exact ⟨3, by simpa [Value.cells] using t⟩
end
end Go.Proofs.Ytlfeglljpfihhaa
