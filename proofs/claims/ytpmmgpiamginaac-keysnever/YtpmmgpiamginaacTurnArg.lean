/- A list of turns that comes in as an argument: each turn's three numbers. -/
import Derived.Test.YtpmmgpiamginaacRows
import Derived.Test.YtpmmgpiamginaacKeyArg
import Derived.WalkKit
import Derived.ProofKit
import Derived.OpenShut
import Derived.Deep.Slices
namespace Go.Proofs.Ytpmmgpiamginaac
open Go.ChangeShapes Go.WideShapes Go.ChangeAt Go.RowKit

theorem cells_turn : Try.prog.cellsOf 33 = 3 := by kernel_rfl
theorem list3 {α : Type} {l : List α} (h : l.length = 3) : ∃ c0 c1 c2, l = [c0, c1, c2] := by
  match l, h with
  | [c0, c1, c2], _ => exact ⟨c0, c1, c2, rfl⟩
theorem addr_add (B off n : Nat) : (⟨B, off, none⟩ : Addr).add n = ⟨B, off + n, none⟩ := by unfold Addr.add; split <;> simp_all
/-- What the walk is told of a list of turns. -/
def IsTurns (w : World) (a : Option Addr) (len : Nat) : Prop :=
  len ≤ maxLen ∧ (len = 0 ∨ ∃ B off : Nat, a = some ⟨B, off, none⟩ ∧ B < w.heap.size ∧ ∀ i, i < len → ∃ x y z : Int, (-9223372036854775808 ≤ x ∧ x ≤ 9223372036854775807) ∧ (-9223372036854775808 ≤ y ∧ y ≤ 9223372036854775807) ∧ (-9223372036854775808 ≤ z ∧ z ≤ 9223372036854775807) ∧
    w.cell? ⟨B, off + i * 3, none⟩ = some (.int .i64 x) ∧ w.cell? ⟨B, off + i * 3 + 1, none⟩ = some (.int .i64 y) ∧ w.cell? ⟨B, off + i * 3 + 2, none⟩ = some (.int .i64 z))
section
variable {H : Type} {enc : TypeId × Value → H} {w : World}
theorem cell_lt {w : World} {a : Addr} {v : Value} (h : w.cell? a = some v) : a.block < w.heap.size := by
  rcases Nat.lt_or_ge a.block w.heap.size with hl | hg
  · exact hl
  · unfold World.cell? at h
    rw [Array.getElem?_eq_none hg] at h
    simp at h
theorem open_turns {a : Option Addr} {len cap : Nat} {d : DataW H} {p : List MemPlace} (h : DataW.Trod enc Try.prog w 0 (fun _ => true) true 30 (.slice a len cap) d p) : IsTurns w a len := by
  obtain ⟨fuel, hf⟩ := h
  rcases Go.Deep.open_slice Try.underlying30 hf with ⟨hcs, _⟩ | ⟨a', len', cap', m, n, D, Pl, hcs, _, hl, hm, hmm, _, hx⟩
  · simp [Value.cells] at hcs
    obtain ⟨rfl, rfl, rfl⟩ := hcs
    exact ⟨by unfold maxLen; omega, .inl rfl⟩
  · simp [Value.cells] at hcs
    obtain ⟨rfl, rfl, rfl⟩ := hcs
    have hm' : m = cap := by simpa using hmm
    subst hm'
    refine ⟨Nat.le_trans hl hm, ?_⟩
    rcases Nat.eq_zero_or_pos len with h0 | hpos
    · exact .inl h0
    right
    obtain ⟨B, off, sp⟩ := a'
    have key : ∀ i, i < len → ∃ x y z : Int, (Lit.int .i64 x).wf = true ∧ (Lit.int .i64 y).wf = true ∧ (Lit.int .i64 z).wf = true ∧
        w.cell? ((Addr.add ⟨B, off, sp⟩ (i * 3)).add 0) = some (.int .i64 x) ∧ w.cell? ((Addr.add ⟨B, off, sp⟩ (i * 3)).add 1) = some (.int .i64 y) ∧ w.cell? ((Addr.add ⟨B, off, sp⟩ (i * 3)).add 2) = some (.int .i64 z) := by
      intro i hi
      obtain ⟨cs, h1, h2⟩ := hx i (by omega)
      rw [cells_turn] at h1
      obtain ⟨_, hlen, hcell⟩ := World.cells?_some h1
      obtain ⟨c0, c1, c2, rfl⟩ := list3 hlen
      obtain ⟨xs, k, _, _, _, hxl, hg⟩ := DataW.trod_struct Try.underlying33 h2
      obtain ⟨y0, y1, y2, rfl⟩ := list3 hxl
      have g0 := hg 0 _ rfl
      have g1 := hg 1 _ rfl
      have g2 := hg 2 _ rfl
      simp [cells_int] at g0 g1 g2
      obtain ⟨x, rfl, _, w0⟩ := one_int g0.symm
      obtain ⟨y, rfl, _, w1⟩ := one_int g1.symm
      obtain ⟨z, rfl, _, w2⟩ := one_int g2.symm
      exact ⟨x, y, z, w0, w1, w2, hcell 0 (by omega), hcell 1 (by omega), hcell 2 (by omega)⟩
    obtain ⟨x, _, _, _, _, _, h0, _⟩ := key 0 hpos
    have hsp : sp = none := by simpa [Addr.add] using World.cell?_spot h0
    subst hsp
    refine ⟨B, off, rfl, by simpa [Addr.add] using cell_lt h0, fun i hi => ?_⟩
    obtain ⟨x, y, z, w0, w1, w2, e0, e1, e2⟩ := key i hi
    rw [addr_add, addr_add] at e0 e1 e2
    exact ⟨x, y, z, bounds_i64 w0, bounds_i64 w1, bounds_i64 w2, e0, e1, e2⟩
end
end Go.Proofs.Ytpmmgpiamginaac
