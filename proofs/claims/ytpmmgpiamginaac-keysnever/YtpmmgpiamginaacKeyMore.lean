/- Plain: more on keys' numbers, and on boxes of cells of which one is written. -/
import Derived.Test.YtpmmgpiamginaacRows
import Derived.Test.YtpmmgpiamginaacBits
import Derived.Test.YtpmmgpiamginaacKeyPure
import Derived.WalkKit
import Derived.Below
namespace Go.Proofs.Ytpmmgpiamginaac
open Go.RowKit

theorem may_zero {p b l a s q : Int} (h : mayE p b l a s q = 0) : s = 0 ∧ inB q p = true ∧ covB b l a = true := by
  unfold mayE at h
  by_cases hs : s = 0
  · rw [if_pos hs] at h
    cases hi : inB q p
    · rw [hi] at h; simp at h
    · rw [hi] at h
      cases hc : covB b l a
      · rw [hc] at h; simp at h
      · exact ⟨hs, rfl, rfl⟩
  · rw [if_neg hs] at h; omega
theorem may_of {p b l a s q : Int} (h1 : s = 0) (h2 : inB q p = true) (h3 : covB b l a = true) : mayE p b l a s q = 0 := by
  unfold mayE; rw [if_pos h1, h2, h3]; rfl
theorem ok_uns {p b l a s : Int} (hu : unsE p b l a s = 0) : ok p b l a s ∧ s = 0 := by
  unfold unsE at hu
  by_cases h : ok p b l a s
  · rw [if_pos h] at hu
    by_cases hs : s = 0
    · exact ⟨h, hs⟩
    · rw [if_neg hs] at hu; omega
  · rw [if_neg h] at hu; omega
theorem uns_ok {p b l a s : Int} (h : ok p b l a s) (hs : s = 0) : unsE p b l a s = 0 := by unfold unsE; rw [if_pos h, if_pos hs]
theorem kb_of_ok {p b l a s : Int} (h : ok p b l a s) : kb p b l a s := by unfold ok at h; unfold kb; omega
theorem ok_at {p b l a s n : Int} (h : ok p b l a s) (hn : 0 ≤ a + n ∧ a + n ≤ 400) : ok p b l (a + n) s := by unfold ok at *; omega
theorem kb_zero : kb 0 0 0 0 0 := by unfold kb; omega

/-- What comes of each call: an error and the key of noughts, or no error. -/
theorem move_cases (p b l a s n : Int) : (∃ E, moveK p b l a s n = ⟨0, 0, 0, 0, 0, E⟩ ∧ (E != 0) = true) ∨ (ok p b l a s ∧ s = 0 ∧ (0 ≤ a + n ∧ a + n ≤ 400) ∧ moveK p b l a s n = ⟨p, b, l, a + n, s, 0⟩) := by
  unfold moveK
  by_cases hu : unsE p b l a s = 0
  · have ho := ok_uns hu
    rw [if_pos hu]
    by_cases hn : 0 ≤ a + n ∧ a + n ≤ 400
    · rw [if_pos hn]; exact .inr ⟨ho.1, ho.2, hn, rfl⟩
    · rw [if_neg hn]; exact .inl ⟨13, rfl, rfl⟩
  · rw [if_neg hu]; exact .inl ⟨_, rfl, by simpa using hu⟩
theorem narrow_cases (p b l a s n : Int) : (∃ E, narrowK p b l a s n = ⟨0, 0, 0, 0, 0, E⟩ ∧ (E != 0) = true) ∨ (ok p b l a s ∧ s = 0 ∧ (b ≤ a ∧ 0 ≤ n ∧ a + n ≤ b + l) ∧ narrowK p b l a s n = ⟨p, a, n, a, s, 0⟩) := by
  unfold narrowK
  by_cases hu : unsE p b l a s = 0
  · have ho := ok_uns hu
    rw [if_pos hu]
    by_cases hn : b ≤ a ∧ 0 ≤ n ∧ a + n ≤ b + l
    · rw [if_pos hn]; exact .inr ⟨ho.1, ho.2, hn, rfl⟩
    · rw [if_neg hn]; exact .inl ⟨13, rfl, rfl⟩
  · rw [if_neg hu]; exact .inl ⟨_, rfl, by simpa using hu⟩
theorem drop_cases (p b l a s n : Int) : (∃ E, dropK p b l a s n = ⟨0, 0, 0, 0, 0, E⟩ ∧ (E != 0) = true) ∨ (ok p b l a s ∧ s = 0 ∧ dropK p b l a s n = ⟨bits .and .i64 p n, b, l, a, s, 0⟩) := by
  unfold dropK
  by_cases hu : unsE p b l a s = 0
  · have ho := ok_uns hu
    rw [if_pos hu]; exact .inr ⟨ho.1, ho.2, rfl⟩
  · rw [if_neg hu]; exact .inl ⟨_, rfl, by simpa using hu⟩
theorem seal_cases (p b l a s p' b' l' a' s' : Int) : (∃ E, sealK p b l a s p' b' l' a' s' = ⟨0, 0, 0, 0, 0, E⟩ ∧ (E != 0) = true) ∨
    (ok p b l a s ∧ ok p' b' l' a' s' ∧ s = 0 ∧ s' = 0 ∧ inB 32 p' = true ∧ covB b' l' a' = true ∧ (1 ≤ a' ∧ a' ≤ 63) ∧ sealK p b l a s p' b' l' a' s' = ⟨p, b, l, a, a', 0⟩) := by
  unfold sealK
  by_cases ho : ok p b l a s ∧ ok p' b' l' a' s'
  · rw [if_pos ho]
    by_cases hs : s = 0
    · rw [if_pos hs]
      by_cases hm : mayE p' b' l' a' s' 32 = 0
      · rw [if_pos hm]
        by_cases hn : 1 ≤ a' ∧ a' ≤ 63
        · rw [if_pos hn]
          have := may_zero hm
          exact .inr ⟨ho.1, ho.2, hs, this.1, this.2.1, this.2.2, hn, rfl⟩
        · rw [if_neg hn]; exact .inl ⟨13, rfl, rfl⟩
      · rw [if_neg hm]; exact .inl ⟨_, rfl, by simpa using hm⟩
    · rw [if_neg hs]; exact .inl ⟨11, rfl, rfl⟩
  · rw [if_neg ho]; exact .inl ⟨1, rfl, rfl⟩
theorem open_cases (p b l a s p' b' l' a' s' : Int) : (∃ E, openK p b l a s p' b' l' a' s' = ⟨0, 0, 0, 0, 0, E⟩ ∧ (E != 0) = true) ∨
    (ok p b l a s ∧ ok p' b' l' a' s' ∧ ¬ s = 0 ∧ s' = 0 ∧ inB 64 p' = true ∧ covB b' l' a' = true ∧ s = a' ∧ openK p b l a s p' b' l' a' s' = ⟨p, b, l, a, 0, 0⟩) := by
  unfold openK
  by_cases ho : ok p b l a s ∧ ok p' b' l' a' s'
  · rw [if_pos ho]
    by_cases hs : s = 0
    · rw [if_pos hs]; exact .inl ⟨11, rfl, rfl⟩
    · rw [if_neg hs]
      by_cases hm : mayE p' b' l' a' s' 64 = 0
      · rw [if_pos hm]
        by_cases hn : s = a'
        · rw [if_pos hn]
          have := may_zero hm
          exact .inr ⟨ho.1, ho.2, hs, this.1, this.2.1, this.2.2, hn, rfl⟩
        · rw [if_neg hn]; exact .inl ⟨11, rfl, rfl⟩
      · rw [if_neg hm]; exact .inl ⟨_, rfl, by simpa using hm⟩
  · rw [if_neg ho]; exact .inl ⟨1, rfl, rfl⟩

theorem and_small (p n : Int) (h : 0 ≤ p ∧ p ≤ 127) : 0 ≤ bits .and .i64 p n ∧ bits .and .i64 p n ≤ 127 := by
  have e : bits .and .i64 p n = IntKind.i64.wrap (((BitVec.ofInt 64 p &&& BitVec.ofInt 64 n).toNat : Nat) : Int) := rfl
  have h0 : ((2 ^ 64 : Nat) : Int) = 18446744073709551616 := by decide
  have h1 : (BitVec.ofInt 64 p).toNat ≤ 127 := by
    rw [BitVec.toNat_ofInt, h0]
    have : p % 18446744073709551616 = p := Int.emod_eq_of_lt h.1 (by omega)
    rw [this]; omega
  have h2 : (BitVec.ofInt 64 p &&& BitVec.ofInt 64 n).toNat ≤ 127 := by
    rw [BitVec.toNat_and]
    exact Nat.le_trans Nat.and_le_left h1
  rw [e, IntKind.wrap_i64]
  omega
theorem and_swap (p n m : Int) : bits .and .i64 (bits .and .i64 p n) m = bits .and .i64 (bits .and .i64 p m) n :=
  bt_ext _ _ (and_b _ _) (and_b _ _) fun i _ => by simp only [bt_and]; cases bt p i <;> cases bt n i <;> cases bt m i <;> rfl
theorem and_both (p n m : Int) : bits .and .i64 p (bits .and .i64 n m) = bits .and .i64 (bits .and .i64 p n) m :=
  bt_ext _ _ (and_b _ _) (and_b _ _) fun i _ => by simp only [bt_and]; cases bt p i <;> cases bt n i <;> cases bt m i <;> rfl
theorem drop_ok {p b l a s n : Int} (h : ok p b l a s) (hs : s = 0) : dropK p b l a s n = ⟨bits .and .i64 p n, b, l, a, s, 0⟩ := by
  unfold dropK; rw [if_pos (uns_ok h hs)]
theorem ok_and {p b l a s n : Int} (h : ok p b l a s) : ok (bits .and .i64 p n) b l a s := by
  have := and_small p n ⟨h.1, h.2.1⟩
  unfold ok at *; omega
/-- One cell of a box written; a cell of another block written. -/
theorem Box.set {w : World} {k : Nat} {c : Array Value} (h : Box w k c) (i : Nat) (v : Value) (hi : i < c.size) : Box (w.setCell ⟨k, i, none⟩ v) k (c.setIfInBounds i v) := by
  refine ⟨by simpa [World.setCell] using h.1, fun o => ?_, fun o => by rw [World.frozen?_setCell]; exact h.2.2 o⟩
  by_cases e : o = i
  · subst e
    have : w.cell? ⟨k, o, none⟩ = some c[o] := by rw [h.2.1]; simp [hi]
    rw [World.cell?_setCell_same _ _ _ this, Array.getElem?_setIfInBounds]; simp [hi]
  · rw [World.cell?_setCell_other _ _ _ _ (fun x => e (by injection x with _ x _; exact x.symm)), h.2.1, Array.getElem?_setIfInBounds_ne (Ne.symm e)]
theorem Box.setOther {w : World} {k k' i : Nat} {c : Array Value} {v : Value} (h : Box w k c) (hk : k ≠ k') : Box (w.setCell ⟨k', i, none⟩ v) k c := by
  refine ⟨by simpa [World.setCell] using h.1, fun o => ?_, fun o => by rw [World.frozen?_setCell]; exact h.2.2 o⟩
  rw [World.cell?_setCell_other _ _ _ _ (fun x => hk (by injection x with x _ _; exact x.symm)), h.2.1]
theorem Box.newSet (w : World) (a : Addr) (v : Value) (c : Array Value) (t : TypeId) : Box ((w.setCell a v).alloc (.cells c t)) w.heap.size c := by
  have h := Box.new (w.setCell a v) c t
  have e : (w.setCell a v).heap.size = w.heap.size := by simp [World.setCell]
  rwa [e] at h
theorem set_alloc {w w1 : World} (h : Below w.heap.size w w1) {k i : Nat} {v : Value} (hk : w.heap.size ≤ k) (x : Obj) : Below w.heap.size w ((w1.setCell ⟨k, i, none⟩ v).alloc x) :=
  (h.setCell (p := ⟨k, i, none⟩) hk v).alloc (h.setCell (p := ⟨k, i, none⟩) hk v).size x
end Go.Proofs.Ytpmmgpiamginaac
