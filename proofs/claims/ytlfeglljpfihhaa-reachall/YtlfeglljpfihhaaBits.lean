/- Plain facts on bits of ints, on which the proofs on package perm lean; no program is in them. -/
import Derived.Test.YtlfeglljpfihhaaRows
import Derived.WalkKit
namespace Go.Proofs.Ytlfeglljpfihhaa
open Go.RowKit

/-- Bit i of the 64 bits of a. -/
def bt (a : Int) (i : Nat) : Bool := (BitVec.ofInt 64 a).getLsbD i

theorem div_mod_two (a : Int) (i : Nat) (hi : i < 64) : a % 18446744073709551616 / 2 ^ i % 2 = a / 2 ^ i % 2 := by
  obtain ⟨q, r, hq, hr⟩ : ∃ q r, a = 18446744073709551616 * q + r ∧ a % 18446744073709551616 = r := ⟨a / 18446744073709551616, a % 18446744073709551616, by omega, rfl⟩
  rw [hr, hq]
  have e : (18446744073709551616 : Int) = 2 * 2 ^ (63 - i) * 2 ^ i := by
    rw [Int.mul_assoc, ← Int.pow_add, show 63 - i + i = 63 by omega]; rfl
  have hp : (2 : Int) ^ i ≠ 0 := Int.ne_of_gt (Int.pow_pos (by decide))
  have e2 : (18446744073709551616 : Int) * q + r = r + (2 * 2 ^ (63 - i) * q) * 2 ^ i := by
    rw [e]; generalize (2 : Int) ^ i = x; generalize (2 : Int) ^ (63 - i) = y
    rw [Int.add_comm, Int.mul_assoc, Int.mul_assoc, Int.mul_assoc, Int.mul_comm x q]
    simp only [Int.mul_assoc]
  rw [e2, Int.add_mul_ediv_right _ _ hp, Int.mul_assoc]
  omega

theorem bt_eq (a : Int) (i : Nat) (hi : i < 64) : bt a i = decide (a / 2 ^ i % 2 = 1) := by
  unfold bt
  rw [← BitVec.testBit_toNat, BitVec.toNat_ofInt, Nat.testBit_eq_decide_div_mod_eq]
  rw [← div_mod_two a i hi]
  have h0 : 0 ≤ a % 18446744073709551616 := Int.emod_nonneg _ (by decide)
  obtain ⟨n, hn⟩ := Int.eq_ofNat_of_zero_le h0
  have e : (a % ((2 ^ 64 : Nat) : Int)).toNat = n := by
    have : ((2 ^ 64 : Nat) : Int) = 18446744073709551616 := by decide
    rw [this, hn]; rfl
  rw [e, hn]
  have e3 : ((n : Int) / 2 ^ i % 2 = 1) = (n / 2 ^ i % 2 = 1) := by
    have : ((n : Int) / 2 ^ i % 2) = ((n / 2 ^ i % 2 : Nat) : Int) := by push_cast; rfl
    rw [this]; apply propext; omega
  simp only [e3]

theorem wrap_nat_zero (n : Nat) (h : n < 18446744073709551616) : (IntKind.i64.wrap (n : Int) = 0) ↔ n = 0 := by
  rw [IntKind.wrap_i64]; omega

/-- Has b all that a has? -/
def inB (a b : Int) : Bool := bits .andNot .i64 a b == 0

theorem inB_iff (a b : Int) : inB a b = true ↔ ∀ i, i < 64 → bt a i = true → bt b i = true := by
  unfold inB
  rw [beq_iff_eq]
  show IntKind.i64.wrap ((BitVec.ofInt 64 a &&& ~~~BitVec.ofInt 64 b).toNat : Nat) = 0 ↔ _
  rw [wrap_nat_zero _ (BitVec.isLt _)]
  constructor
  · intro h i hi ha
    have h0 : (BitVec.ofInt 64 a &&& ~~~BitVec.ofInt 64 b) = 0#64 := BitVec.eq_of_toNat_eq (by simpa using h)
    have h1 : (BitVec.ofInt 64 a &&& ~~~BitVec.ofInt 64 b).getLsbD i = false := by rw [h0]; simp
    rw [BitVec.getLsbD_and, BitVec.getLsbD_not] at h1
    unfold bt at ha ⊢
    rw [ha] at h1
    simpa [hi] using h1
  · intro h
    have h0 : (BitVec.ofInt 64 a &&& ~~~BitVec.ofInt 64 b) = 0#64 := by
      apply BitVec.eq_of_getLsbD_eq
      intro i hi
      have h2 := h i hi
      unfold bt at h2
      rw [BitVec.getLsbD_and, BitVec.getLsbD_not]
      cases ha : (BitVec.ofInt 64 a).getLsbD i <;> simp_all
    rw [h0]; rfl

theorem ofInt_wrap (n : Nat) (_h : n < 18446744073709551616) : BitVec.ofInt 64 (IntKind.i64.wrap (n : Int)) = BitVec.ofNat 64 n := by
  apply BitVec.eq_of_toNat_eq
  rw [BitVec.toNat_ofInt, BitVec.toNat_ofNat, IntKind.wrap_i64]
  have : ((2 ^ 64 : Nat) : Int) = 18446744073709551616 := by decide
  rw [this]
  have : (2 ^ 64 : Nat) = 18446744073709551616 := by decide
  rw [this]
  omega

theorem bt_and (a b : Int) (i : Nat) : bt (bits .and .i64 a b) i = (bt a i && bt b i) := by
  have e : bits .and .i64 a b = IntKind.i64.wrap ((BitVec.ofInt 64 a &&& BitVec.ofInt 64 b).toNat : Nat) := rfl
  unfold bt
  rw [e, ofInt_wrap _ (BitVec.isLt _), BitVec.ofNat_toNat, BitVec.setWidth_eq, BitVec.getLsbD_and]

theorem bt_or (a b : Int) (i : Nat) : bt (bits .or .i64 a b) i = (bt a i || bt b i) := by
  have e : bits .or .i64 a b = IntKind.i64.wrap ((BitVec.ofInt 64 a ||| BitVec.ofInt 64 b).toNat : Nat) := rfl
  unfold bt
  rw [e, ofInt_wrap _ (BitVec.isLt _), BitVec.ofNat_toNat, BitVec.setWidth_eq, BitVec.getLsbD_or]

theorem and_one (n : Int) : bits .and .i64 n 1 = n % 2 := by
  have e : bits .and .i64 n 1 = IntKind.i64.wrap ((BitVec.ofInt 64 n &&& BitVec.ofInt 64 1).toNat : Nat) := rfl
  have h1 : (BitVec.ofInt 64 1).toNat = 1 := by decide
  rw [e, BitVec.toNat_and, h1, Nat.and_one_is_mod, BitVec.toNat_ofInt, IntKind.wrap_i64]
  have : ((2 ^ 64 : Nat) : Int) = 18446744073709551616 := by decide
  rw [this]
  omega

theorem bit_yes (a : Int) (k : Nat) (hk : k < 64) (h : bt a k = true) : bits .and .i64 (a / 2 ^ k) 1 = 1 := by
  rw [bt_eq a k hk] at h; rw [and_one]; exact of_decide_eq_true h
theorem bit_no (a : Int) (k : Nat) (hk : k < 64) (h : bt a k = false) : bits .and .i64 (a / 2 ^ k) 1 = 0 := by
  rw [bt_eq a k hk] at h; rw [and_one]; have := of_decide_eq_false h; omega

theorem and_b (a b : Int) : -9223372036854775808 ≤ bits .and .i64 a b ∧ bits .and .i64 a b ≤ 9223372036854775807 := by
  have e : bits .and .i64 a b = IntKind.i64.wrap ((BitVec.ofInt 64 a &&& BitVec.ofInt 64 b).toNat : Nat) := rfl
  rw [e, IntKind.wrap_i64]; omega
theorem or_b (a b : Int) : -9223372036854775808 ≤ bits .or .i64 a b ∧ bits .or .i64 a b ≤ 9223372036854775807 := by
  have e : bits .or .i64 a b = IntKind.i64.wrap ((BitVec.ofInt 64 a ||| BitVec.ofInt 64 b).toNat : Nat) := rfl
  rw [e, IntKind.wrap_i64]; omega

theorem bt_ext (a b : Int) (ha : -9223372036854775808 ≤ a ∧ a ≤ 9223372036854775807) (hb : -9223372036854775808 ≤ b ∧ b ≤ 9223372036854775807)
    (h : ∀ i, i < 64 → bt a i = bt b i) : a = b := by
  have e : BitVec.ofInt 64 a = BitVec.ofInt 64 b := BitVec.eq_of_getLsbD_eq h
  have e2 := congrArg BitVec.toNat e
  rw [BitVec.toNat_ofInt, BitVec.toNat_ofInt] at e2
  have : ((2 ^ 64 : Nat) : Int) = 18446744073709551616 := by decide
  rw [this] at e2
  omega

theorem in_refl (a : Int) : inB a a = true := (inB_iff a a).2 fun _ _ h => h
theorem in_trans (a b c : Int) (h : inB a b = true) (k : inB b c = true) : inB a c = true :=
  (inB_iff a c).2 fun i hi x => (inB_iff b c).1 k i hi ((inB_iff a b).1 h i hi x)
theorem in_anti (a b : Int) (ha : -9223372036854775808 ≤ a ∧ a ≤ 9223372036854775807) (hb : -9223372036854775808 ≤ b ∧ b ≤ 9223372036854775807)
    (h : inB a b = true) (k : inB b a = true) : a = b := by
  refine bt_ext a b ha hb fun i hi => ?_
  have h1 := (inB_iff a b).1 h i hi
  have h2 := (inB_iff b a).1 k i hi
  cases x : bt a i <;> cases y : bt b i <;> simp_all
theorem in_and_l (a b : Int) : inB (bits .and .i64 a b) a = true := (inB_iff _ _).2 fun i _ h => by rw [bt_and] at h; simp_all
theorem in_and_r (a b : Int) : inB (bits .and .i64 a b) b = true := (inB_iff _ _).2 fun i _ h => by rw [bt_and] at h; simp_all
theorem in_or_l (a b : Int) : inB a (bits .or .i64 a b) = true := (inB_iff _ _).2 fun i _ h => by rw [bt_or]; simp_all
theorem in_or_r (a b : Int) : inB b (bits .or .i64 a b) = true := (inB_iff _ _).2 fun i _ h => by rw [bt_or]; simp_all
theorem in_and (a b c : Int) : inB c (bits .and .i64 a b) = (inB c a && inB c b) := by
  rw [Bool.eq_iff_iff, Bool.and_eq_true]
  constructor
  · exact fun h => ⟨in_trans _ _ _ h (in_and_l a b), in_trans _ _ _ h (in_and_r a b)⟩
  · rintro ⟨h, k⟩
    refine (inB_iff _ _).2 fun i hi x => ?_
    rw [bt_and, (inB_iff c a).1 h i hi x, (inB_iff c b).1 k i hi x]; rfl
theorem in_or (a b c : Int) : inB (bits .or .i64 a b) c = (inB a c && inB b c) := by
  rw [Bool.eq_iff_iff, Bool.and_eq_true]
  constructor
  · exact fun h => ⟨in_trans _ _ _ (in_or_l a b) h, in_trans _ _ _ (in_or_r a b) h⟩
  · rintro ⟨h, k⟩
    refine (inB_iff _ _).2 fun i hi x => ?_
    rw [bt_or, Bool.or_eq_true] at x
    exact x.elim ((inB_iff a c).1 h i hi) ((inB_iff b c).1 k i hi)

end Go.Proofs.Ytlfeglljpfihhaa
