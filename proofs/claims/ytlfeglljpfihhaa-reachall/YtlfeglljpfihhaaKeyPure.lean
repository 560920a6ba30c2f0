/- Plain: what chapter 3 says of keys, on numbers; no program is in it. -/
import Derived.Test.YtlfeglljpfihhaaRows
import Derived.Test.YtlfeglljpfihhaaBits
import Derived.WalkKit
import Derived.Below
namespace Go.Proofs.Ytlfeglljpfihhaa
open Go.RowKit

/-- A key that is told, and what went wrong. -/
structure KK where
  p : Int
  b : Int
  l : Int
  a : Int
  s : Int
  e : Int

/-- The five numbers of a key are ints. -/
def kb (p b l a s : Int) : Prop :=
  (-9223372036854775808 ≤ p ∧ p ≤ 9223372036854775807) ∧ (-9223372036854775808 ≤ b ∧ b ≤ 9223372036854775807) ∧ (-9223372036854775808 ≤ l ∧ l ≤ 9223372036854775807) ∧
  (-9223372036854775808 ≤ a ∧ a ≤ 9223372036854775807) ∧ (-9223372036854775808 ≤ s ∧ s ≤ 9223372036854775807)
def ok (p b l a s : Int) : Prop := 0 ≤ p ∧ p ≤ 127 ∧ 0 ≤ l ∧ 0 ≤ b ∧ b + l ≤ 400 ∧ 0 ≤ a ∧ a ≤ 400 ∧ 0 ≤ s ∧ s ≤ 63
def decOk (p b l a s : Int) : Decidable (ok p b l a s) := inferInstanceAs (Decidable (0 ≤ p ∧ p ≤ 127 ∧ 0 ≤ l ∧ 0 ≤ b ∧ b + l ≤ 400 ∧ 0 ≤ a ∧ a ≤ 400 ∧ 0 ≤ s ∧ s ≤ 63))
def chkE (p b l a s : Int) : Int := @ite Int (ok p b l a s) (decOk p b l a s) 0 1
theorem chk_yes {p b l a s : Int} (h : ok p b l a s) : chkE p b l a s = 0 := by unfold chkE; exact if_pos h
theorem chk_no {p b l a s : Int} (h : ¬ ok p b l a s) : chkE p b l a s = 1 := by unfold chkE; exact if_neg h
def btw (n lo hi : Int) : Bool := decide (lo ≤ n ∧ n ≤ hi)
def covB (b l x : Int) : Bool := decide (0 < l ∧ b ≤ x ∧ x - b < l)
def cwB (b l b' l' : Int) : Bool := decide (l ≤ 0 ∨ (b' ≤ b ∧ b + l ≤ b' + l'))
def undB (p b l s p' b' l' s' : Int) : Bool := cwB b l b' l' && inB p p' && (s' == 0 || s == s')
def unsE (p b l a s : Int) : Int := @ite Int (ok p b l a s) (decOk p b l a s) (if s = 0 then 0 else 11) 1
def errK (e : Int) : KK := ⟨0, 0, 0, 0, 0, e⟩
def moveK (p b l a s n : Int) : KK := if unsE p b l a s = 0 then (if 0 ≤ a + n ∧ a + n ≤ 400 then ⟨p, b, l, a + n, s, 0⟩ else errK 13) else errK (unsE p b l a s)
def narrowK (p b l a s n : Int) : KK := if unsE p b l a s = 0 then (if b ≤ a ∧ 0 ≤ n ∧ a + n ≤ b + l then ⟨p, a, n, a, s, 0⟩ else errK 13) else errK (unsE p b l a s)
def dropK (p b l a s n : Int) : KK := if unsE p b l a s = 0 then ⟨bits .and .i64 p n, b, l, a, s, 0⟩ else errK (unsE p b l a s)
def decBoth (p b l a s p' b' l' a' s' : Int) : Decidable (ok p b l a s ∧ ok p' b' l' a' s') := @instDecidableAnd _ _ (decOk p b l a s) (decOk p' b' l' a' s')
def bothE (p b l a s p' b' l' a' s' : Int) : Int := @ite Int (ok p b l a s ∧ ok p' b' l' a' s') (decBoth p b l a s p' b' l' a' s') 0 1
def mayE (p b l a s q : Int) : Int := if s = 0 then (if inB q p then (if covB b l a then 0 else 13) else 12) else 11
def sealK (p b l a s p' b' l' a' s' : Int) : KK :=
  @ite KK (ok p b l a s ∧ ok p' b' l' a' s') (decBoth p b l a s p' b' l' a' s')
    (if s = 0 then (if mayE p' b' l' a' s' 32 = 0 then (if 1 ≤ a' ∧ a' ≤ 63 then ⟨p, b, l, a, a', 0⟩ else errK 13) else errK (mayE p' b' l' a' s' 32)) else errK 11)
    (errK 1)
def openK (p b l a s p' b' l' a' s' : Int) : KK :=
  @ite KK (ok p b l a s ∧ ok p' b' l' a' s') (decBoth p b l a s p' b' l' a' s')
    (if s = 0 then errK 11 else (if mayE p' b' l' a' s' 64 = 0 then (if s = a' then ⟨p, b, l, a, 0, 0⟩ else errK 11) else errK (mayE p' b' l' a' s' 64)))
    (errK 1)

theorem bcell {W w1 : World} (hb : Below W.heap.size W w1) : (∀ b o, b < W.heap.size → w1.cell? ⟨b, o, none⟩ = W.cell? ⟨b, o, none⟩) ∧ (∀ b o, b < W.heap.size → w1.frozen? ⟨b, o, none⟩ = W.frozen? ⟨b, o, none⟩) :=
  ⟨fun b o h => hb.cell (p := ⟨b, o, none⟩) h, fun b o h => hb.frozen (p := ⟨b, o, none⟩) h⟩
theorem cell_new (w : World) (c : Array Value) (t : TypeId) (o : Nat) : (w.alloc (.cells c t)).cell? ⟨w.heap.size, o, none⟩ = c[o]? := by
  simp
theorem cell_old (w : World) (x : Obj) (k o : Nat) (h : k < w.heap.size) : (w.alloc x).cell? ⟨k, o, none⟩ = w.cell? ⟨k, o, none⟩ := by
  exact ((Below.refl w.heap.size w).alloc (Nat.le_refl _) x).cell (p := ⟨k, o, none⟩) h
theorem frozen_new (w : World) (c : Array Value) (t : TypeId) (o : Nat) : (w.alloc (.cells c t)).frozen? ⟨w.heap.size, o, none⟩ = false := by
  rw [frozen?_alloc_cells]; simp [World.frozen?]
theorem frozen_old (w : World) (x : Obj) (k o : Nat) (h : k < w.heap.size) : (w.alloc x).frozen? ⟨k, o, none⟩ = w.frozen? ⟨k, o, none⟩ := by
  exact ((Below.refl w.heap.size w).alloc (Nat.le_refl _) x).frozen (p := ⟨k, o, none⟩) h
/-- In world w the block k holds just these cells, and they may be written. -/
def Box (w : World) (k : Nat) (c : Array Value) : Prop := k < w.heap.size ∧ (∀ o, w.cell? ⟨k, o, none⟩ = c[o]?) ∧ (∀ o, w.frozen? ⟨k, o, none⟩ = false)
theorem Box.lt {w : World} {k : Nat} {c : Array Value} (h : Box w k c) : k < w.heap.size := h.1
theorem Box.cell {w : World} {k : Nat} {c : Array Value} (h : Box w k c) : ∀ o, w.cell? ⟨k, o, none⟩ = c[o]? := h.2.1
theorem Box.free {w : World} {k : Nat} {c : Array Value} (h : Box w k c) : ∀ o, w.frozen? ⟨k, o, none⟩ = false := h.2.2
theorem Box.new (w : World) (c : Array Value) (t : TypeId) : Box (w.alloc (.cells c t)) w.heap.size c := ⟨by simp, fun o => cell_new _ _ _ _, fun o => frozen_new _ _ _ _⟩
theorem Box.new1 (w : World) (x : Obj) (c : Array Value) (t : TypeId) : Box ((w.alloc x).alloc (.cells c t)) (w.heap.size + 1) c := by
  have := Box.new (w.alloc x) c t
  rwa [World.size_alloc] at this
theorem Box.new2 (w : World) (x y : Obj) (c : Array Value) (t : TypeId) : Box (((w.alloc x).alloc y).alloc (.cells c t)) (w.heap.size + 2) c := by
  have := Box.new ((w.alloc x).alloc y) c t
  rwa [World.size_alloc, World.size_alloc] at this
theorem Box.alloc {w : World} {k : Nat} {c : Array Value} (h : Box w k c) (x : Obj) : Box (w.alloc x) k c :=
  ⟨by have := h.1; simp; omega, fun o => by rw [cell_old _ _ _ _ h.1]; exact h.2.1 o, fun o => by rw [frozen_old _ _ _ _ h.1]; exact h.2.2 o⟩
theorem Box.below {w w' : World} {k : Nat} {c : Array Value} (h : Box w k c) (hb : Below w.heap.size w w') : Box w' k c :=
  ⟨Nat.lt_of_lt_of_le h.1 hb.size, fun o => by rw [hb.cell (p := ⟨k, o, none⟩) h.1]; exact h.2.1 o, fun o => by rw [hb.frozen (p := ⟨k, o, none⟩) h.1]; exact h.2.2 o⟩
/-- A call behind what has happened so far. -/
theorem Below.step {B : Nat} {w W w' : World} (h : Below B w W) (hb : Below W.heap.size W w') (hB : B ≤ W.heap.size) : Below B w w' := h.trans (hb.mono hB)
theorem Below.step0 {w W w' : World} (h : Below w.heap.size w W) (hb : Below W.heap.size W w') : Below w.heap.size w w' := h.trans (hb.mono h.size)
theorem two {w : World} (x y : Obj) : Below w.heap.size w ((w.alloc x).alloc y) := ((Below.refl _ _).alloc (Nat.le_refl _) _).alloc (by simp) _
theorem three {w : World} (x y z : Obj) : Below w.heap.size w (((w.alloc x).alloc y).alloc z) := (two x y).alloc (by simp; omega) _
end Go.Proofs.Ytlfeglljpfihhaa
