/- A list of numbers that comes in as an argument. -/
import Derived.Test.YtfafkijcejbcpaaGreatDoorRows
import Derived.Test.YtfafkijcejbcpaaGreatDoorInstArg
import Derived.WalkKit
import Derived.ProofKit
import Derived.OpenShut
import Derived.Deep.Slices
namespace Go.Proofs.YtfafkijcejbcpaaGreatDoor
open Go.ChangeShapes Go.WideShapes Go.ChangeAt Go.RowKit

theorem addr_add (B off n : Nat) : (⟨B, off, none⟩ : Addr).add n = ⟨B, off + n, none⟩ := by unfold Addr.add; split <;> simp_all
/-- Where a list of numbers lies. -/
def IntsAt (w : World) (a : Option Addr) (xs : List Int) : Prop :=
  xs.length = 0 ∨ ∃ B off : Nat, a = some ⟨B, off, none⟩ ∧ B < w.heap.size ∧ ∀ i, i < xs.length → w.cell? ⟨B, off + i, none⟩ = some (.int .i64 (xs.getD i 0))
theorem IntsAt.below {w w' : World} {a : Option Addr} {xs : List Int} (h : IntsAt w a xs) (hb : Below w.heap.size w w') : IntsAt w' a xs := by
  rcases h with h | ⟨B, off, e, hB, hc⟩
  · exact .inl h
  · exact .inr ⟨B, off, e, Nat.lt_of_lt_of_le hB hb.size, fun i hi => by rw [hb.cell (p := ⟨B, off + i, none⟩) hB]; exact hc i hi⟩
def inB64 (xs : List Int) : Prop := ∀ x ∈ xs, -9223372036854775808 ≤ x ∧ x ≤ 9223372036854775807
section
variable {H : Type} {enc : TypeId × Value → H} {w : World}
theorem cell_lt {w : World} {a : Addr} {v : Value} (h : w.cell? a = some v) : a.block < w.heap.size := by
  rcases Nat.lt_or_ge a.block w.heap.size with hl | hg
  · exact hl
  · unfold World.cell? at h
    rw [Array.getElem?_eq_none hg] at h
    simp at h
theorem list_of (n : Nat) (P : Nat → Int → Prop) (h : ∀ i, i < n → ∃ x, P i x) : ∃ xs : List Int, xs.length = n ∧ ∀ i, i < n → P i (xs.getD i 0) := by
  induction n with
  | zero => exact ⟨[], rfl, fun i hi => by omega⟩
  | succ n ih =>
    obtain ⟨xs, e, hp⟩ := ih (fun i hi => h i (by omega))
    obtain ⟨x, hx⟩ := h n (by omega)
    refine ⟨xs ++ [x], by simp [e], fun i hi => ?_⟩
    rcases Nat.lt_or_ge i n with h1 | h1
    · have := hp i h1
      simpa [List.getD, List.getElem?_append_left (show i < xs.length by omega)] using this
    · obtain rfl : i = n := by omega
      have : (xs ++ [x]).getD i 0 = x := by subst e; simp [List.getD]
      rw [this]; exact hx
theorem open_ints {a : Option Addr} {len cap : Nat} {d : DataW H} {p : List MemPlace} (h : DataW.Trod enc Tryz.prog w 0 (fun _ => true) true 22 (.slice a len cap) d p) : ∃ xs : List Int, xs.length = len ∧ len ≤ maxLen ∧ inB64 xs ∧ IntsAt w a xs := by
  obtain ⟨fuel, hf⟩ := h
  rcases Go.Deep.open_slice Tryz.underlying22 hf with ⟨hcs, _⟩ | ⟨a', len', cap', m, n, D, Pl, hcs, _, hl, hm, hmm, _, hx⟩
  · simp [Value.cells] at hcs
    obtain ⟨rfl, rfl, rfl⟩ := hcs
    exact ⟨[], rfl, by unfold maxLen; omega, fun x hx => by simp at hx, .inl rfl⟩
  · simp [Value.cells] at hcs
    obtain ⟨rfl, rfl, rfl⟩ := hcs
    have hm' : m = cap := by simpa using hmm
    subst hm'
    obtain ⟨B, off, sp⟩ := a'
    have key : ∀ i, i < len → ∃ x : Int, (Lit.int .i64 x).wf = true ∧ w.cell? (Addr.add ⟨B, off, sp⟩ i) = some (.int .i64 x) := by
      intro i hi
      obtain ⟨cs, h1, h2⟩ := hx i (by omega)
      rw [cells_int] at h1
      obtain ⟨_, hlen, hcell⟩ := World.cells?_some h1
      obtain ⟨c0, rfl⟩ : ∃ c0, cs = [c0] := by
        match cs, hlen with
        | [c0], _ => exact ⟨c0, rfl⟩
      obtain ⟨x, rfl, _, w0⟩ := one_int h2.symm
      have h0 := hcell 0 (by omega)
      simp only [Nat.mul_one] at h0
      refine ⟨x, w0, ?_⟩
      have e : ∀ A : Addr, A.add 0 = A := fun A => by obtain ⟨B, o, s⟩ := A; cases s <;> simp [Addr.add]
      rw [e] at h0
      exact h0
    obtain ⟨xs, hxl, hp⟩ := list_of len (fun i x => (Lit.int .i64 x).wf = true ∧ w.cell? (Addr.add ⟨B, off, sp⟩ i) = some (.int .i64 x)) key
    refine ⟨xs, hxl, Nat.le_trans hl hm, ?_, ?_⟩
    · intro x hx
      obtain ⟨i, hi, e⟩ := List.mem_iff_getElem.1 hx
      have := (hp i (by omega)).1
      rw [List.getD_eq_getElem?_getD, List.getElem?_eq_getElem hi, Option.getD_some, e] at this
      exact bounds_i64 this
    · rcases Nat.eq_zero_or_pos len with h0 | hpos
      · exact .inl (by omega)
      right
      have h0 := (hp 0 hpos).2
      have hsp : sp = none := by simpa [Addr.add] using World.cell?_spot h0
      subst hsp
      refine ⟨B, off, rfl, by simpa [Addr.add] using cell_lt h0, fun i hi => ?_⟩
      have := (hp i (by omega)).2
      rw [addr_add] at this
      exact this
end
end Go.Proofs.YtfafkijcejbcpaaGreatDoor
