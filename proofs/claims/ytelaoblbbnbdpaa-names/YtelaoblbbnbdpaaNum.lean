/- The calls of package num answer what chapter 1 says of them, for whatever numbers, and touch no memory. -/
import Derived.Test.YtelaoblbbnbdpaaRows
import Derived.WalkKit
import Derived.ProofKit
import Derived.OpenShut
namespace Go.Proofs.Ytelaoblbbnbdpaa
open Go.ChangeShapes Go.WideShapes Go.ChangeAt Go.RowKit

theorem wb (a : Int) : -2147483648 ≤ wrap32 a ∧ wrap32 a ≤ 2147483647 := by unfold wrap32; omega
theorem ret_int {k : IntKind} {a b : Int} (h : a = b) : Ending.returned (.int k a) = .returned (.int k b) := by rw [h]
theorem mul_b (a b : Int) (ha : -2147483648 ≤ a ∧ a ≤ 2147483647) (hb : -2147483648 ≤ b ∧ b ≤ 2147483647) :
    -4611686018427387904 ≤ a * b ∧ a * b ≤ 4611686018427387904 := by
  have h : (a * b).natAbs ≤ 2147483648 * 2147483648 := by
    rw [Int.natAbs_mul]; exact Nat.mul_le_mul (by omega) (by omega)
  omega
theorem div_b (a b : Int) (ha : -2147483648 ≤ a ∧ a ≤ 2147483647) : -2147483648 ≤ a.tdiv b ∧ a.tdiv b ≤ 2147483648 := by
  have h : (a.tdiv b).natAbs ≤ a.natAbs := by rw [Int.natAbs_tdiv]; exact Nat.div_le_self _ _
  omega
theorem w_bmod (n : Int) : wrap32 n = Int.bmod n 4294967296 := by unfold wrap32 Int.bmod; simp only []; split <;> omega
theorem w_add (a b : Int) : wrap32 (wrap32 a + wrap32 b) = wrap32 (a + b) := by simp only [w_bmod, Int.bmod_add_bmod, Int.add_bmod_bmod]
theorem w_sub (a b : Int) : wrap32 (wrap32 a - wrap32 b) = wrap32 (a - b) := by simp only [w_bmod, Int.bmod_sub_bmod, Int.sub_bmod_bmod]
theorem w_mul (a b : Int) : wrap32 (wrap32 a * wrap32 b) = wrap32 (a * b) := by simp only [w_bmod, Int.bmod_mul_bmod, Int.mul_bmod_bmod]
theorem w_w (a : Int) : wrap32 (wrap32 a) = wrap32 a := by simp only [w_bmod, Int.bmod_bmod]
theorem w_in (a : Int) (h : -2147483648 ≤ a ∧ a ≤ 2147483647) : wrap32 a = a := by unfold wrap32; omega
def addI (a b : Int) : Int := wrap32 (wrap32 a + wrap32 b)
def subI (a b : Int) : Int := wrap32 (wrap32 a - wrap32 b)
def mulI (a b : Int) : Int := wrap32 (wrap32 a * wrap32 b)
theorem addI_w (a b : Int) : addI a b = wrap32 (a + b) := w_add a b
theorem subI_w (a b : Int) : subI a b = wrap32 (a - b) := w_sub a b
theorem mulI_w (a b : Int) : mulI a b = wrap32 (a * b) := w_mul a b
def lessI (a b : Int) : Int := if wrap32 a < wrap32 b then 1 else 0

theorem num_wrap (a : Int) (w : World) :
    Calls Try.prog 10 #[.int .i64 a] w fun e w' => e = .returned (.int .i64 (wrap32 a)) ∧ w' = w := by
  have h1 := (wb a).1
  have h2 := (wb a).2
  go_enter Try.func10, Try.ntmps10
  go_wp2
  go_ret
  exact ⟨rfl, rfl⟩
theorem num_add (a b : Int) (w : World) :
    Calls Try.prog 12 #[.int .i64 a, .int .i64 b] w fun e w' => e = .returned (.int .i64 (addI a b)) ∧ w' = w := by
  unfold addI
  have h1 := wb a
  have h2 := wb b
  go_enter Try.func12, Try.ntmps12
  go_wp2_with (go_at_call 10; refine (num_wrap _ _).mono ?_; rintro e w' ⟨rfl, rfl⟩)
  go_ret
  exact ⟨rfl, rfl⟩
theorem num_sub (a b : Int) (w : World) :
    Calls Try.prog 14 #[.int .i64 a, .int .i64 b] w fun e w' => e = .returned (.int .i64 (subI a b)) ∧ w' = w := by
  unfold subI
  have h1 := wb a
  have h2 := wb b
  go_enter Try.func14, Try.ntmps14
  go_wp2_with (go_at_call 10; refine (num_wrap _ _).mono ?_; rintro e w' ⟨rfl, rfl⟩)
  go_ret
  exact ⟨rfl, rfl⟩
theorem num_mul (a b : Int) (w : World) :
    Calls Try.prog 15 #[.int .i64 a, .int .i64 b] w fun e w' => e = .returned (.int .i64 (mulI a b)) ∧ w' = w := by
  unfold mulI
  have h1 := mul_b _ _ (wb a) (wb b)
  go_enter Try.func15, Try.ntmps15
  go_wp2_with (go_at_call 10; refine (num_wrap _ _).mono ?_; rintro e w' ⟨rfl, rfl⟩)
  go_ret
  exact ⟨rfl, rfl⟩
theorem num_less (a b : Int) (w : World) :
    Calls Try.prog 16 #[.int .i64 a, .int .i64 b] w fun e w' => e = .returned (.int .i64 (lessI a b)) ∧ w' = w := by
  unfold lessI
  by_cases h : wrap32 a < wrap32 b
  · rw [if_pos h]
    go_enter Try.func16, Try.ntmps16
    go_wp2_with (go_at_call 10; refine (num_wrap _ _).mono ?_; rintro e w' ⟨rfl, rfl⟩)
    go_ret
    exact ⟨rfl, rfl⟩
  · rw [if_neg h]
    go_enter Try.func16, Try.ntmps16
    go_wp2_with (go_at_call 10; refine (num_wrap _ _).mono ?_; rintro e w' ⟨rfl, rfl⟩)
    go_ret
    exact ⟨rfl, rfl⟩
theorem num_div_no (a b : Int) (w : World) (h : wrap32 b = 0) :
    Calls Try.prog 17 #[.int .i64 a, .int .i64 b] w fun e w' => e = .returned (.tuple #[.int .i64 0, .int .i64 14]) ∧ w' = w := by
  go_enter Try.func17, Try.ntmps17
  go_wp2_with (go_at_call 10; refine (num_wrap _ _).mono ?_; rintro e w' ⟨rfl, rfl⟩)
  go_ret2
  exact ⟨rfl, rfl⟩
theorem num_div_yes (a b : Int) (w : World) (h : (wrap32 b == 0) = false) :
    Calls Try.prog 17 #[.int .i64 a, .int .i64 b] w fun e w' => e = .returned (.tuple #[.int .i64 (wrap32 ((wrap32 a).tdiv (wrap32 b))), .int .i64 0]) ∧ w' = w := by
  have h1 := div_b (wrap32 a) (wrap32 b) (wb a)
  have h0 : ¬ wrap32 b = 0 := by simpa using h
  go_enter Try.func17, Try.ntmps17
  go_wp2_with (go_at_call 10; refine (num_wrap _ _).mono ?_; rintro e w' ⟨rfl, rfl⟩)
  go_ret2
  exact ⟨rfl, rfl⟩
def divI (a b : Int) : Int := if wrap32 b = 0 then 0 else wrap32 ((wrap32 a).tdiv (wrap32 b))
def divE (b : Int) : Int := if wrap32 b = 0 then 14 else 0
theorem num_div (a b : Int) (w : World) :
    Calls Try.prog 17 #[.int .i64 a, .int .i64 b] w fun e w' => e = .returned (.tuple #[.int .i64 (divI a b), .int .i64 (divE b)]) ∧ w' = w := by
  unfold divI divE
  by_cases h : wrap32 b = 0
  · simp only [h, if_true]; exact num_div_no a b w h
  · simp only [h, if_false]; exact num_div_yes a b w (by simpa using h)
theorem ref_rest (n m : Int) (w : World) (hn : -9223372036854775808 ≤ n ∧ n ≤ 9223372036854775807) (hm : 1 ≤ m ∧ m ≤ 4611686018427387904) :
    Calls Try.prog 19 #[.int .i64 n, .int .i64 m] w fun e w' => e = .returned (.int .i64 (n % m)) ∧ w' = w := by
  have m0 : ¬ m = 0 := by omega
  have b1 := Int.emod_nonneg n m0
  have b2 := Int.emod_lt_of_pos n (b := m) (by omega)
  by_cases h : 0 ≤ n
  · go_enter Try.func19, Try.ntmps19
    go_wp2
    go_ret
    exact ⟨rfl, rfl⟩
  · have e1 := Int.tmod_eq_emod (a := n) (b := m)
    have e2 : (m.natAbs : Int) = m := by omega
    by_cases hd : m ∣ n
    · rw [if_pos (Or.inr hd), Int.natCast_zero, Int.sub_zero] at e1
      have e3 := Int.emod_eq_zero_of_dvd hd
      rw [e3] at e1
      rw [e3]
      clear hd e2 b1 b2 e3
      go_enter Try.func19, Try.ntmps19
      go_wp2
      go_ret
      exact ⟨rfl, rfl⟩
    · rw [if_neg (by simp only [hd, or_false]; exact h), e2] at e1
      have e3 : n % m = n.tmod m + m := by omega
      have l1 : n.tmod m < 0 := by omega
      have l2 : - m ≤ n.tmod m := by omega
      have l3 : 0 ≤ n.tmod m + m := by omega
      rw [e3]
      clear hd e1 e2 b1 b2 e3
      go_enter Try.func19, Try.ntmps19
      go_wp2
      go_ret
      exact ⟨rfl, rfl⟩
theorem wrap32_of_ge (a : Int) (h : 2147483648 ≤ a % 4294967296) : wrap32 a = a % 4294967296 - 4294967296 := by unfold wrap32; omega
theorem wrap32_of_lt (a : Int) (h : a % 4294967296 < 2147483648) : wrap32 a = a % 4294967296 := by unfold wrap32; omega
theorem ref_wrap (a : Int) (w : World) (ha : -9223372036854775808 ≤ a ∧ a ≤ 9223372036854775807) :
    Calls Try.prog 11 #[.int .i64 a] w fun e w' => e = .returned (.int .i64 (wrap32 a)) ∧ w' = w := by
  have b1 : 0 ≤ a % 4294967296 := by omega
  have b2 : a % 4294967296 < 4294967296 := by omega
  by_cases h : 2147483648 ≤ a % 4294967296
  · rw [wrap32_of_ge a h]
    go_enter Try.func11, Try.ntmps11
    go_wp2_with (go_at_call 19; refine (ref_rest _ _ _ ha (by omega)).mono ?_; rintro e w' ⟨rfl, rfl⟩)
    go_ret
    exact ⟨rfl, rfl⟩
  · rw [wrap32_of_lt a (by omega)]
    go_enter Try.func11, Try.ntmps11
    go_wp2_with (go_at_call 19; refine (ref_rest _ _ _ ha (by omega)).mono ?_; rintro e w' ⟨rfl, rfl⟩)
    go_ret
    exact ⟨rfl, rfl⟩
theorem ref_truth (b : Bool) (w : World) :
    Calls Try.prog 20 #[.bool b] w fun e w' => e = .returned (.int .i64 (if b then 1 else 0)) ∧ w' = w := by
  cases b
  all_goals
    go_enter Try.func20, Try.ntmps20
    go_wp2
    go_ret
    exact ⟨rfl, rfl⟩
theorem ref_calc0 (a b : Int) (w : World) (ha : -9223372036854775808 ≤ a ∧ a ≤ 9223372036854775807) (hb : -9223372036854775808 ≤ b ∧ b ≤ 9223372036854775807) :
    Calls Try.prog 13 #[.int .i64 a, .int .i64 b, .int .i64 0] w fun e w' => e = .returned (.int .i64 (addI a b)) ∧ w' = w := by
  unfold addI
  have h1 := wb a
  have h2 := wb b
  go_enter Try.func13, Try.ntmps13
  go_wp2_with (go_at_call 11; refine (ref_wrap _ _ (by omega)).mono ?_; rintro e w' ⟨rfl, rfl⟩)
  go_ret
  exact ⟨rfl, rfl⟩
theorem ref_calc1 (a b : Int) (w : World) (ha : -9223372036854775808 ≤ a ∧ a ≤ 9223372036854775807) (hb : -9223372036854775808 ≤ b ∧ b ≤ 9223372036854775807) :
    Calls Try.prog 13 #[.int .i64 a, .int .i64 b, .int .i64 1] w fun e w' => e = .returned (.int .i64 (subI a b)) ∧ w' = w := by
  unfold subI
  have h1 := wb a
  have h2 := wb b
  go_enter Try.func13, Try.ntmps13
  go_wp2_with (go_at_call 11; refine (ref_wrap _ _ (by omega)).mono ?_; rintro e w' ⟨rfl, rfl⟩)
  go_ret
  exact ⟨rfl, rfl⟩
theorem ref_calc2 (a b : Int) (w : World) (ha : -9223372036854775808 ≤ a ∧ a ≤ 9223372036854775807) (hb : -9223372036854775808 ≤ b ∧ b ≤ 9223372036854775807) :
    Calls Try.prog 13 #[.int .i64 a, .int .i64 b, .int .i64 2] w fun e w' => e = .returned (.int .i64 (mulI a b)) ∧ w' = w := by
  unfold mulI
  have h1 := mul_b _ _ (wb a) (wb b)
  go_enter Try.func13, Try.ntmps13
  go_wp2_with (go_at_call 11; refine (ref_wrap _ _ (by omega)).mono ?_; rintro e w' ⟨rfl, rfl⟩)
  go_ret
  exact ⟨rfl, rfl⟩
theorem ref_calc3 (a b : Int) (w : World) (ha : -9223372036854775808 ≤ a ∧ a ≤ 9223372036854775807) (hb : -9223372036854775808 ≤ b ∧ b ≤ 9223372036854775807) :
    Calls Try.prog 13 #[.int .i64 a, .int .i64 b, .int .i64 3] w fun e w' => e = .returned (.int .i64 (lessI a b)) ∧ w' = w := by
  unfold lessI
  by_cases h : wrap32 a < wrap32 b
  · rw [if_pos h]
    go_enter Try.func13, Try.ntmps13
    go_wp2_with (first | (go_at_call 11; refine (ref_wrap _ _ (by omega)).mono ?_; rintro e w' ⟨rfl, rfl⟩) | (go_at_call 20; refine (ref_truth _ _).mono ?_; rintro e w' ⟨rfl, rfl⟩))
    go_ret
    exact ⟨rfl, rfl⟩
  · rw [if_neg h]
    go_enter Try.func13, Try.ntmps13
    go_wp2_with (first | (go_at_call 11; refine (ref_wrap _ _ (by omega)).mono ?_; rintro e w' ⟨rfl, rfl⟩) | (go_at_call 20; refine (ref_truth _ _).mono ?_; rintro e w' ⟨rfl, rfl⟩))
    go_ret
    exact ⟨rfl, rfl⟩
def calcI (a b k : Int) : Int := if k = 0 then addI a b else if k = 1 then subI a b else if k = 2 then mulI a b else lessI a b
theorem ref_calc (a b k : Int) (w : World) (ha : -9223372036854775808 ≤ a ∧ a ≤ 9223372036854775807) (hb : -9223372036854775808 ≤ b ∧ b ≤ 9223372036854775807) (hk : 0 ≤ k ∧ k ≤ 3) :
    Calls Try.prog 13 #[.int .i64 a, .int .i64 b, .int .i64 k] w fun e w' => e = .returned (.int .i64 (calcI a b k)) ∧ w' = w := by
  unfold calcI
  by_cases h0 : k = 0
  · subst h0; exact ref_calc0 a b w ha hb
  · by_cases h1 : k = 1
    · subst h1; exact ref_calc1 a b w ha hb
    · by_cases h2 : k = 2
      · subst h2; exact ref_calc2 a b w ha hb
      · obtain rfl : k = 3 := by omega
        exact ref_calc3 a b w ha hb
theorem ref_div (a b : Int) (w : World) (ha : -9223372036854775808 ≤ a ∧ a ≤ 9223372036854775807) (hb : -9223372036854775808 ≤ b ∧ b ≤ 9223372036854775807) :
    Calls Try.prog 18 #[.int .i64 a, .int .i64 b] w fun e w' => e = .returned (.tuple #[.int .i64 (divI a b), .int .i64 (divE b)]) ∧ w' = w := by
  unfold divI divE
  have h1 := wb a
  have h2 := wb b
  by_cases h : wrap32 b = 0
  · simp only [h, if_true]
    go_enter Try.func18, Try.ntmps18
    go_wp2_with (go_at_call 11; refine (ref_wrap _ _ (by omega)).mono ?_; rintro e w' ⟨rfl, rfl⟩)
    go_ret2
    exact ⟨rfl, rfl⟩
  · simp only [h, if_false]
    have h3 := div_b (wrap32 a) (wrap32 b) (wb a)
    by_cases p : wrap32 a < 0
    · by_cases q : wrap32 b < 0
      · go_enter Try.func18, Try.ntmps18
        go_wp2_with (go_at_call 11; refine (ref_wrap _ _ (by omega)).mono ?_; rintro e w' ⟨rfl, rfl⟩)
        go_ret2
        exact ⟨rfl, rfl⟩
      · have dq : decide (wrap32 b < 0) = false := by simpa using q
        go_enter Try.func18, Try.ntmps18
        go_wp2_with (go_at_call 11; refine (ref_wrap _ _ (by omega)).mono ?_; rintro e w' ⟨rfl, rfl⟩)
        go_ret2
        exact ⟨rfl, rfl⟩
    · by_cases q : wrap32 b < 0
      · have dp : decide (wrap32 a < 0) = false := by simpa using p
        go_enter Try.func18, Try.ntmps18
        go_wp2_with (go_at_call 11; refine (ref_wrap _ _ (by omega)).mono ?_; rintro e w' ⟨rfl, rfl⟩)
        go_ret2
        exact ⟨rfl, rfl⟩
      · have dp : decide (wrap32 a < 0) = false := by simpa using p
        have dq : decide (wrap32 b < 0) = false := by simpa using q
        go_enter Try.func18, Try.ntmps18
        go_wp2_with (go_at_call 11; refine (ref_wrap _ _ (by omega)).mono ?_; rintro e w' ⟨rfl, rfl⟩)
        go_ret2
        exact ⟨rfl, rfl⟩
end Go.Proofs.Ytelaoblbbnbdpaa
