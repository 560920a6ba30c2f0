/- The calls of package num answer what chapter 1 says of them, for whatever numbers, and touch no memory. -/
import Derived.Test.YtlfeglljpfihhaaRows
import Derived.WalkKit
import Derived.ProofKit
import Derived.OpenShut
namespace Go.Proofs.Ytlfeglljpfihhaa
open Go.ChangeShapes Go.WideShapes Go.ChangeAt Go.RowKit

theorem wb (a : Int) : -2147483648 ≤ wrap32 a ∧ wrap32 a ≤ 2147483647 := by unfold wrap32; omega
theorem ret_int {k : IntKind} {a b : Int} (h : a = b) : Ending.returned (.int k a) = .returned (.int k b) := by rw [h]
theorem mul_b (a b : Int) (ha : -2147483648 ≤ a ∧ a ≤ 2147483647) (hb : -2147483648 ≤ b ∧ b ≤ 2147483647) :
    -4611686018427387904 ≤ a * b ∧ a * b ≤ 4611686018427387904 := by
  have h : (a * b).natAbs ≤ 2147483648 * 2147483648 := by
    rw [Int.natAbs_mul]; exact Nat.mul_le_mul (by omega) (by omega)
  omega
theorem div_b (a b : Int) (ha : -2147483648 ≤ a ∧ a ≤ 2147483647) : -2147483648 ≤ a.tdiv b ∧ a.tdiv b ≤ 2147483648 := by
  have h : (a.tdiv b).natAbs ≤ a.natAbs := by rw [Int.natAbs_tdiv]; exact Nat.div_le_self _ _
  omega
theorem w_bmod (n : Int) : wrap32 n = Int.bmod n 4294967296 := by unfold wrap32 Int.bmod; simp only []; split <;> omega
theorem w_add (a b : Int) : wrap32 (wrap32 a + wrap32 b) = wrap32 (a + b) := by simp only [w_bmod, Int.bmod_add_bmod, Int.add_bmod_bmod]
theorem w_sub (a b : Int) : wrap32 (wrap32 a - wrap32 b) = wrap32 (a - b) := by simp only [w_bmod, Int.bmod_sub_bmod, Int.sub_bmod_bmod]
theorem w_mul (a b : Int) : wrap32 (wrap32 a * wrap32 b) = wrap32 (a * b) := by simp only [w_bmod, Int.bmod_mul_bmod, Int.mul_bmod_bmod]
theorem w_w (a : Int) : wrap32 (wrap32 a) = wrap32 a := by simp only [w_bmod, Int.bmod_bmod]
theorem w_in (a : Int) (h : -2147483648 ≤ a ∧ a ≤ 2147483647) : wrap32 a = a := by unfold wrap32; omega
def addI (a b : Int) : Int := wrap32 (wrap32 a + wrap32 b)
def subI (a b : Int) : Int := wrap32 (wrap32 a - wrap32 b)
def mulI (a b : Int) : Int := wrap32 (wrap32 a * wrap32 b)
theorem addI_w (a b : Int) : addI a b = wrap32 (a + b) := w_add a b
theorem subI_w (a b : Int) : subI a b = wrap32 (a - b) := w_sub a b
theorem mulI_w (a b : Int) : mulI a b = wrap32 (a * b) := w_mul a b
def lessI (a b : Int) : Int := if wrap32 a < wrap32 b then 1 else 0

theorem num_wrap (a : Int) (w : World) :
    Calls Try.prog 55 #[.int .i64 a] w fun e w' => e = .returned (.int .i64 (wrap32 a)) ∧ w' = w := by
  have h1 := (wb a).1
  have h2 := (wb a).2
  go_enter Try.func55, Try.ntmps55
  go_wp2
  go_ret
  exact ⟨rfl, rfl⟩
theorem ref_rest (n m : Int) (w : World) (hn : -9223372036854775808 ≤ n ∧ n ≤ 9223372036854775807) (hm : 1 ≤ m ∧ m ≤ 4611686018427387904) :
    Calls Try.prog 18 #[.int .i64 n, .int .i64 m] w fun e w' => e = .returned (.int .i64 (n % m)) ∧ w' = w := by
  have m0 : ¬ m = 0 := by omega
  have b1 := Int.emod_nonneg n m0
  have b2 := Int.emod_lt_of_pos n (b := m) (by omega)
  by_cases h : 0 ≤ n
  · go_enter Try.func18, Try.ntmps18
    go_wp2
    go_ret
    exact ⟨rfl, rfl⟩
  · have e1 := Int.tmod_eq_emod (a := n) (b := m)
    have e2 : (m.natAbs : Int) = m := by omega
    by_cases hd : m ∣ n
    · rw [if_pos (Or.inr hd), Int.natCast_zero, Int.sub_zero] at e1
      have e3 := Int.emod_eq_zero_of_dvd hd
      rw [e3] at e1
      rw [e3]
      clear hd e2 b1 b2 e3
      go_enter Try.func18, Try.ntmps18
      go_wp2
      go_ret
      exact ⟨rfl, rfl⟩
    · rw [if_neg (by simp only [hd, or_false]; exact h), e2] at e1
      have e3 : n % m = n.tmod m + m := by omega
      have l1 : n.tmod m < 0 := by omega
      have l2 : - m ≤ n.tmod m := by omega
      have l3 : 0 ≤ n.tmod m + m := by omega
      rw [e3]
      clear hd e1 e2 b1 b2 e3
      go_enter Try.func18, Try.ntmps18
      go_wp2
      go_ret
      exact ⟨rfl, rfl⟩
end Go.Proofs.Ytlfeglljpfihhaa
