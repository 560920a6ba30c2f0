/- What every card of this seat leans on: that the cell of the library's number MaxLen holds an int. Plain facts on bits of ints, on which the proofs on package perm lean; no program is in them. Plain: what chapter 3 says of keys, on numbers; no program is in it. -/
import Derived.Test.YtlfeglljpfihhaaGreatDoorRows
import Derived.WalkKit
import Derived.ProofKit
import GoSem.PinnedTables
import Derived.Below
namespace Go.Proofs.YtlfeglljpfihhaaGreatDoor
section
open Go.ChangeShapes Go.WideShapes Go.ChangeAt Go.RowKit

/-- The four numbers of an instruction are ints. -/
def ib (o a b c : Int) : Prop :=
  (-9223372036854775808 ≤ o ∧ o ≤ 9223372036854775807) ∧ (-9223372036854775808 ≤ a ∧ a ≤ 9223372036854775807) ∧ (-9223372036854775808 ≤ b ∧ b ≤ 9223372036854775807) ∧ (-9223372036854775808 ≤ c ∧ c ≤ 9223372036854775807)
end
section
open Go.RowKit

/-- Bit i of the 64 bits of a. -/
def bt (a : Int) (i : Nat) : Bool := (BitVec.ofInt 64 a).getLsbD i

theorem div_mod_two (a : Int) (i : Nat) (hi : i < 64) : a % 18446744073709551616 / 2 ^ i % 2 = a / 2 ^ i % 2 := by
  obtain ⟨q, r, hq, hr⟩ : ∃ q r, a = 18446744073709551616 * q + r ∧ a % 18446744073709551616 = r := ⟨a / 18446744073709551616, a % 18446744073709551616, by omega, rfl⟩
  rw [hr, hq]
  have e : (18446744073709551616 : Int) = 2 * 2 ^ (63 - i) * 2 ^ i := by
    rw [Int.mul_assoc, ← Int.pow_add, show 63 - i + i = 63 by omega]; rfl
  have hp : (2 : Int) ^ i ≠ 0 := Int.ne_of_gt (Int.pow_pos (by decide))
  have e2 : (18446744073709551616 : Int) * q + r = r + (2 * 2 ^ (63 - i) * q) * 2 ^ i := by
    rw [e]; generalize (2 : Int) ^ i = x; generalize (2 : Int) ^ (63 - i) = y
    rw [Int.add_comm, Int.mul_assoc, Int.mul_assoc, Int.mul_assoc, Int.mul_comm x q]
    simp only [Int.mul_assoc]
  rw [e2, Int.add_mul_ediv_right _ _ hp, Int.mul_assoc]
  omega

theorem bt_eq (a : Int) (i : Nat) (hi : i < 64) : bt a i = decide (a / 2 ^ i % 2 = 1) := by
  unfold bt
  rw [← BitVec.testBit_toNat, BitVec.toNat_ofInt, Nat.testBit_eq_decide_div_mod_eq]
  rw [← div_mod_two a i hi]
  have h0 : 0 ≤ a % 18446744073709551616 := Int.emod_nonneg _ (by decide)
  obtain ⟨n, hn⟩ := Int.eq_ofNat_of_zero_le h0
  have e : (a % ((2 ^ 64 : Nat) : Int)).toNat = n := by
    have : ((2 ^ 64 : Nat) : Int) = 18446744073709551616 := by decide
    rw [this, hn]; rfl
  rw [e, hn]
  have e3 : ((n : Int) / 2 ^ i % 2 = 1) = (n / 2 ^ i % 2 = 1) := by
    have : ((n : Int) / 2 ^ i % 2) = ((n / 2 ^ i % 2 : Nat) : Int) := by push_cast; rfl
    rw [this]; apply propext; omega
  simp only [e3]

theorem wrap_nat_zero (n : Nat) (h : n < 18446744073709551616) : (IntKind.i64.wrap (n : Int) = 0) ↔ n = 0 := by
  rw [IntKind.wrap_i64]; omega

/-- Has b all that a has? -/
def inB (a b : Int) : Bool := bits .andNot .i64 a b == 0

theorem inB_iff (a b : Int) : inB a b = true ↔ ∀ i, i < 64 → bt a i = true → bt b i = true := by
  unfold inB
  rw [beq_iff_eq]
  show IntKind.i64.wrap ((BitVec.ofInt 64 a &&& ~~~BitVec.ofInt 64 b).toNat : Nat) = 0 ↔ _
  rw [wrap_nat_zero _ (BitVec.isLt _)]
  constructor
  · intro h i hi ha
    have h0 : (BitVec.ofInt 64 a &&& ~~~BitVec.ofInt 64 b) = 0#64 := BitVec.eq_of_toNat_eq (by simpa using h)
    have h1 : (BitVec.ofInt 64 a &&& ~~~BitVec.ofInt 64 b).getLsbD i = false := by rw [h0]; simp
    rw [BitVec.getLsbD_and, BitVec.getLsbD_not] at h1
    unfold bt at ha ⊢
    rw [ha] at h1
    simpa [hi] using h1
  · intro h
    have h0 : (BitVec.ofInt 64 a &&& ~~~BitVec.ofInt 64 b) = 0#64 := by
      apply BitVec.eq_of_getLsbD_eq
      intro i hi
      have h2 := h i hi
      unfold bt at h2
      rw [BitVec.getLsbD_and, BitVec.getLsbD_not]
      cases ha : (BitVec.ofInt 64 a).getLsbD i <;> simp_all
    rw [h0]; rfl

theorem ofInt_wrap (n : Nat) (_h : n < 18446744073709551616) : BitVec.ofInt 64 (IntKind.i64.wrap (n : Int)) = BitVec.ofNat 64 n := by
  apply BitVec.eq_of_toNat_eq
  rw [BitVec.toNat_ofInt, BitVec.toNat_ofNat, IntKind.wrap_i64]
  have : ((2 ^ 64 : Nat) : Int) = 18446744073709551616 := by decide
  rw [this]
  have : (2 ^ 64 : Nat) = 18446744073709551616 := by decide
  rw [this]
  omega

theorem bt_and (a b : Int) (i : Nat) : bt (bits .and .i64 a b) i = (bt a i && bt b i) := by
  have e : bits .and .i64 a b = IntKind.i64.wrap ((BitVec.ofInt 64 a &&& BitVec.ofInt 64 b).toNat : Nat) := rfl
  unfold bt
  rw [e, ofInt_wrap _ (BitVec.isLt _), BitVec.ofNat_toNat, BitVec.setWidth_eq, BitVec.getLsbD_and]

theorem bt_or (a b : Int) (i : Nat) : bt (bits .or .i64 a b) i = (bt a i || bt b i) := by
  have e : bits .or .i64 a b = IntKind.i64.wrap ((BitVec.ofInt 64 a ||| BitVec.ofInt 64 b).toNat : Nat) := rfl
  unfold bt
  rw [e, ofInt_wrap _ (BitVec.isLt _), BitVec.ofNat_toNat, BitVec.setWidth_eq, BitVec.getLsbD_or]

theorem and_one (n : Int) : bits .and .i64 n 1 = n % 2 := by
  have e : bits .and .i64 n 1 = IntKind.i64.wrap ((BitVec.ofInt 64 n &&& BitVec.ofInt 64 1).toNat : Nat) := rfl
  have h1 : (BitVec.ofInt 64 1).toNat = 1 := by decide
  rw [e, BitVec.toNat_and, h1, Nat.and_one_is_mod, BitVec.toNat_ofInt, IntKind.wrap_i64]
  have : ((2 ^ 64 : Nat) : Int) = 18446744073709551616 := by decide
  rw [this]
  omega

theorem bit_yes (a : Int) (k : Nat) (hk : k < 64) (h : bt a k = true) : bits .and .i64 (a / 2 ^ k) 1 = 1 := by
  rw [bt_eq a k hk] at h; rw [and_one]; exact of_decide_eq_true h
theorem bit_no (a : Int) (k : Nat) (hk : k < 64) (h : bt a k = false) : bits .and .i64 (a / 2 ^ k) 1 = 0 := by
  rw [bt_eq a k hk] at h; rw [and_one]; have := of_decide_eq_false h; omega

theorem and_b (a b : Int) : -9223372036854775808 ≤ bits .and .i64 a b ∧ bits .and .i64 a b ≤ 9223372036854775807 := by
  have e : bits .and .i64 a b = IntKind.i64.wrap ((BitVec.ofInt 64 a &&& BitVec.ofInt 64 b).toNat : Nat) := rfl
  rw [e, IntKind.wrap_i64]; omega
theorem or_b (a b : Int) : -9223372036854775808 ≤ bits .or .i64 a b ∧ bits .or .i64 a b ≤ 9223372036854775807 := by
  have e : bits .or .i64 a b = IntKind.i64.wrap ((BitVec.ofInt 64 a ||| BitVec.ofInt 64 b).toNat : Nat) := rfl
  rw [e, IntKind.wrap_i64]; omega

theorem bt_ext (a b : Int) (ha : -9223372036854775808 ≤ a ∧ a ≤ 9223372036854775807) (hb : -9223372036854775808 ≤ b ∧ b ≤ 9223372036854775807)
    (h : ∀ i, i < 64 → bt a i = bt b i) : a = b := by
  have e : BitVec.ofInt 64 a = BitVec.ofInt 64 b := BitVec.eq_of_getLsbD_eq h
  have e2 := congrArg BitVec.toNat e
  rw [BitVec.toNat_ofInt, BitVec.toNat_ofInt] at e2
  have : ((2 ^ 64 : Nat) : Int) = 18446744073709551616 := by decide
  rw [this] at e2
  omega

theorem in_refl (a : Int) : inB a a = true := (inB_iff a a).2 fun _ _ h => h
theorem in_trans (a b c : Int) (h : inB a b = true) (k : inB b c = true) : inB a c = true :=
  (inB_iff a c).2 fun i hi x => (inB_iff b c).1 k i hi ((inB_iff a b).1 h i hi x)
theorem in_anti (a b : Int) (ha : -9223372036854775808 ≤ a ∧ a ≤ 9223372036854775807) (hb : -9223372036854775808 ≤ b ∧ b ≤ 9223372036854775807)
    (h : inB a b = true) (k : inB b a = true) : a = b := by
  refine bt_ext a b ha hb fun i hi => ?_
  have h1 := (inB_iff a b).1 h i hi
  have h2 := (inB_iff b a).1 k i hi
  cases x : bt a i <;> cases y : bt b i <;> simp_all
theorem in_and_l (a b : Int) : inB (bits .and .i64 a b) a = true := (inB_iff _ _).2 fun i _ h => by rw [bt_and] at h; simp_all
theorem in_and_r (a b : Int) : inB (bits .and .i64 a b) b = true := (inB_iff _ _).2 fun i _ h => by rw [bt_and] at h; simp_all
theorem in_or_l (a b : Int) : inB a (bits .or .i64 a b) = true := (inB_iff _ _).2 fun i _ h => by rw [bt_or]; simp_all
theorem in_or_r (a b : Int) : inB b (bits .or .i64 a b) = true := (inB_iff _ _).2 fun i _ h => by rw [bt_or]; simp_all
theorem in_and (a b c : Int) : inB c (bits .and .i64 a b) = (inB c a && inB c b) := by
  rw [Bool.eq_iff_iff, Bool.and_eq_true]
  constructor
  · exact fun h => ⟨in_trans _ _ _ h (in_and_l a b), in_trans _ _ _ h (in_and_r a b)⟩
  · rintro ⟨h, k⟩
    refine (inB_iff _ _).2 fun i hi x => ?_
    rw [bt_and, (inB_iff c a).1 h i hi x, (inB_iff c b).1 k i hi x]; rfl
theorem in_or (a b c : Int) : inB (bits .or .i64 a b) c = (inB a c && inB b c) := by
  rw [Bool.eq_iff_iff, Bool.and_eq_true]
  constructor
  · exact fun h => ⟨in_trans _ _ _ (in_or_l a b) h, in_trans _ _ _ (in_or_r a b) h⟩
  · rintro ⟨h, k⟩
    refine (inB_iff _ _).2 fun i hi x => ?_
    rw [bt_or, Bool.or_eq_true] at x
    exact x.elim ((inB_iff a c).1 h i hi) ((inB_iff b c).1 k i hi)
end
section
open Go.RowKit

/-- A key that is told, and what went wrong. -/
structure KK where
  p : Int
  b : Int
  l : Int
  a : Int
  s : Int
  e : Int

/-- The five numbers of a key are ints. -/
def kb (p b l a s : Int) : Prop :=
  (-9223372036854775808 ≤ p ∧ p ≤ 9223372036854775807) ∧ (-9223372036854775808 ≤ b ∧ b ≤ 9223372036854775807) ∧ (-9223372036854775808 ≤ l ∧ l ≤ 9223372036854775807) ∧
  (-9223372036854775808 ≤ a ∧ a ≤ 9223372036854775807) ∧ (-9223372036854775808 ≤ s ∧ s ≤ 9223372036854775807)
def ok (p b l a s : Int) : Prop := 0 ≤ p ∧ p ≤ 127 ∧ 0 ≤ l ∧ 0 ≤ b ∧ b + l ≤ 400 ∧ 0 ≤ a ∧ a ≤ 400 ∧ 0 ≤ s ∧ s ≤ 63
def decOk (p b l a s : Int) : Decidable (ok p b l a s) := inferInstanceAs (Decidable (0 ≤ p ∧ p ≤ 127 ∧ 0 ≤ l ∧ 0 ≤ b ∧ b + l ≤ 400 ∧ 0 ≤ a ∧ a ≤ 400 ∧ 0 ≤ s ∧ s ≤ 63))
def chkE (p b l a s : Int) : Int := @ite Int (ok p b l a s) (decOk p b l a s) 0 1
theorem chk_yes {p b l a s : Int} (h : ok p b l a s) : chkE p b l a s = 0 := by unfold chkE; exact if_pos h
theorem chk_no {p b l a s : Int} (h : ¬ ok p b l a s) : chkE p b l a s = 1 := by unfold chkE; exact if_neg h
def btw (n lo hi : Int) : Bool := decide (lo ≤ n ∧ n ≤ hi)
def covB (b l x : Int) : Bool := decide (0 < l ∧ b ≤ x ∧ x - b < l)
def cwB (b l b' l' : Int) : Bool := decide (l ≤ 0 ∨ (b' ≤ b ∧ b + l ≤ b' + l'))
def undB (p b l s p' b' l' s' : Int) : Bool := cwB b l b' l' && inB p p' && (s' == 0 || s == s')
def unsE (p b l a s : Int) : Int := @ite Int (ok p b l a s) (decOk p b l a s) (if s = 0 then 0 else 11) 1
def errK (e : Int) : KK := ⟨0, 0, 0, 0, 0, e⟩
def moveK (p b l a s n : Int) : KK := if unsE p b l a s = 0 then (if 0 ≤ a + n ∧ a + n ≤ 400 then ⟨p, b, l, a + n, s, 0⟩ else errK 13) else errK (unsE p b l a s)
def narrowK (p b l a s n : Int) : KK := if unsE p b l a s = 0 then (if b ≤ a ∧ 0 ≤ n ∧ a + n ≤ b + l then ⟨p, a, n, a, s, 0⟩ else errK 13) else errK (unsE p b l a s)
def dropK (p b l a s n : Int) : KK := if unsE p b l a s = 0 then ⟨bits .and .i64 p n, b, l, a, s, 0⟩ else errK (unsE p b l a s)
def decBoth (p b l a s p' b' l' a' s' : Int) : Decidable (ok p b l a s ∧ ok p' b' l' a' s') := @instDecidableAnd _ _ (decOk p b l a s) (decOk p' b' l' a' s')
def bothE (p b l a s p' b' l' a' s' : Int) : Int := @ite Int (ok p b l a s ∧ ok p' b' l' a' s') (decBoth p b l a s p' b' l' a' s') 0 1
def mayE (p b l a s q : Int) : Int := if s = 0 then (if inB q p then (if covB b l a then 0 else 13) else 12) else 11
def sealK (p b l a s p' b' l' a' s' : Int) : KK :=
  @ite KK (ok p b l a s ∧ ok p' b' l' a' s') (decBoth p b l a s p' b' l' a' s')
    (if s = 0 then (if mayE p' b' l' a' s' 32 = 0 then (if 1 ≤ a' ∧ a' ≤ 63 then ⟨p, b, l, a, a', 0⟩ else errK 13) else errK (mayE p' b' l' a' s' 32)) else errK 11)
    (errK 1)
def openK (p b l a s p' b' l' a' s' : Int) : KK :=
  @ite KK (ok p b l a s ∧ ok p' b' l' a' s') (decBoth p b l a s p' b' l' a' s')
    (if s = 0 then errK 11 else (if mayE p' b' l' a' s' 64 = 0 then (if s = a' then ⟨p, b, l, a, 0, 0⟩ else errK 11) else errK (mayE p' b' l' a' s' 64)))
    (errK 1)

theorem bcell {W w1 : World} (hb : Below W.heap.size W w1) : (∀ b o, b < W.heap.size → w1.cell? ⟨b, o, none⟩ = W.cell? ⟨b, o, none⟩) ∧ (∀ b o, b < W.heap.size → w1.frozen? ⟨b, o, none⟩ = W.frozen? ⟨b, o, none⟩) :=
  ⟨fun b o h => hb.cell (p := ⟨b, o, none⟩) h, fun b o h => hb.frozen (p := ⟨b, o, none⟩) h⟩
theorem cell_new (w : World) (c : Array Value) (t : TypeId) (o : Nat) : (w.alloc (.cells c t)).cell? ⟨w.heap.size, o, none⟩ = c[o]? := by
  simp
theorem cell_old (w : World) (x : Obj) (k o : Nat) (h : k < w.heap.size) : (w.alloc x).cell? ⟨k, o, none⟩ = w.cell? ⟨k, o, none⟩ := by
  exact ((Below.refl w.heap.size w).alloc (Nat.le_refl _) x).cell (p := ⟨k, o, none⟩) h
theorem frozen_new (w : World) (c : Array Value) (t : TypeId) (o : Nat) : (w.alloc (.cells c t)).frozen? ⟨w.heap.size, o, none⟩ = false := by
  rw [frozen?_alloc_cells]; simp [World.frozen?]
theorem frozen_old (w : World) (x : Obj) (k o : Nat) (h : k < w.heap.size) : (w.alloc x).frozen? ⟨k, o, none⟩ = w.frozen? ⟨k, o, none⟩ := by
  exact ((Below.refl w.heap.size w).alloc (Nat.le_refl _) x).frozen (p := ⟨k, o, none⟩) h
/-- In world w the block k holds just these cells, and they may be written. -/
def Box (w : World) (k : Nat) (c : Array Value) : Prop := k < w.heap.size ∧ (∀ o, w.cell? ⟨k, o, none⟩ = c[o]?) ∧ (∀ o, w.frozen? ⟨k, o, none⟩ = false)
theorem Box.lt {w : World} {k : Nat} {c : Array Value} (h : Box w k c) : k < w.heap.size := h.1
theorem Box.cell {w : World} {k : Nat} {c : Array Value} (h : Box w k c) : ∀ o, w.cell? ⟨k, o, none⟩ = c[o]? := h.2.1
theorem Box.free {w : World} {k : Nat} {c : Array Value} (h : Box w k c) : ∀ o, w.frozen? ⟨k, o, none⟩ = false := h.2.2
theorem Box.new (w : World) (c : Array Value) (t : TypeId) : Box (w.alloc (.cells c t)) w.heap.size c := ⟨by simp, fun o => cell_new _ _ _ _, fun o => frozen_new _ _ _ _⟩
theorem Box.new1 (w : World) (x : Obj) (c : Array Value) (t : TypeId) : Box ((w.alloc x).alloc (.cells c t)) (w.heap.size + 1) c := by
  have := Box.new (w.alloc x) c t
  rwa [World.size_alloc] at this
theorem Box.new2 (w : World) (x y : Obj) (c : Array Value) (t : TypeId) : Box (((w.alloc x).alloc y).alloc (.cells c t)) (w.heap.size + 2) c := by
  have := Box.new ((w.alloc x).alloc y) c t
  rwa [World.size_alloc, World.size_alloc] at this
theorem Box.alloc {w : World} {k : Nat} {c : Array Value} (h : Box w k c) (x : Obj) : Box (w.alloc x) k c :=
  ⟨by have := h.1; simp; omega, fun o => by rw [cell_old _ _ _ _ h.1]; exact h.2.1 o, fun o => by rw [frozen_old _ _ _ _ h.1]; exact h.2.2 o⟩
theorem Box.below {w w' : World} {k : Nat} {c : Array Value} (h : Box w k c) (hb : Below w.heap.size w w') : Box w' k c :=
  ⟨Nat.lt_of_lt_of_le h.1 hb.size, fun o => by rw [hb.cell (p := ⟨k, o, none⟩) h.1]; exact h.2.1 o, fun o => by rw [hb.frozen (p := ⟨k, o, none⟩) h.1]; exact h.2.2 o⟩
/-- A call behind what has happened so far. -/
theorem Below.step {B : Nat} {w W w' : World} (h : Below B w W) (hb : Below W.heap.size W w') (hB : B ≤ W.heap.size) : Below B w w' := h.trans (hb.mono hB)
theorem Below.step0 {w W w' : World} (h : Below w.heap.size w W) (hb : Below W.heap.size W w') : Below w.heap.size w w' := h.trans (hb.mono h.size)
theorem two {w : World} (x y : Obj) : Below w.heap.size w ((w.alloc x).alloc y) := ((Below.refl _ _).alloc (Nat.le_refl _) _).alloc (by simp) _
theorem three {w : World} (x y z : Obj) : Below w.heap.size w (((w.alloc x).alloc y).alloc z) := (two x y).alloc (by simp; omega) _
end
end Go.Proofs.YtlfeglljpfihhaaGreatDoor
