/- What package cell's Check and Same, and the document's own CellCheck, answer, for whatever value: what chapter 5 says; they turn nothing that was in memory. -/
import Derived.Test.YtlfeglljpfihhaaRows
import Derived.Test.YtlfeglljpfihhaaBits
import Derived.Test.YtlfeglljpfihhaaKeyPure
import Derived.Test.YtlfeglljpfihhaaKeyChk
import Derived.Test.YtlfeglljpfihhaaCellPure
import Derived.WalkKit
import Derived.ProofKit
import Derived.OpenShut
namespace Go.Proofs.Ytlfeglljpfihhaa
open Go.ChangeShapes Go.WideShapes Go.ChangeAt Go.RowKit

theorem cell_checkkey (i : Bool) (n p b l a s : Int) (w : World) (hb : vb n p b l a s) :
    Calls Try.prog 52 #[.agg #[.bool i, .int .i64 n, .int .i64 p, .int .i64 b, .int .i64 l, .int .i64 a, .int .i64 s]] w fun e w' => e = .returned (.int .i64 (keyE n p b l a s)) ∧ Below w.heap.size w w' := by
  have K := hb.2
  unfold keyE
  by_cases ho : ok p b l a s
  · have hk := chk_yes ho
    rw [if_pos ho]
    by_cases hn : n = 0
    · rw [if_pos hn]
      have hn' : (n == 0) = true := by simpa using hn
      clear hn ho
      go_enter Try.func52, Try.ntmps52
      go_wp2_with (go_at_call 36; refine (keys_check _ _ _ _ _ _ K).mono ?_; rintro e w' ⟨rfl, hbb⟩; have B1 := (Box.new _ _ _).below hbb; have q1 := B1.cell; have hB := Below.step0 ((Below.refl _ _).alloc (Nat.le_refl _) _) hbb)
      go_ret
      exact ⟨rfl, hB⟩
    · rw [if_neg hn]
      have hn' : (n == 0) = false := by simpa using hn
      clear hn ho
      go_enter Try.func52, Try.ntmps52
      go_wp2_with (go_at_call 36; refine (keys_check _ _ _ _ _ _ K).mono ?_; rintro e w' ⟨rfl, hbb⟩; have B1 := (Box.new _ _ _).below hbb; have q1 := B1.cell; have hB := Below.step0 ((Below.refl _ _).alloc (Nat.le_refl _) _) hbb)
      go_ret
      exact ⟨rfl, hB⟩
  · have hk := chk_no ho
    rw [if_neg ho]
    clear ho
    go_enter Try.func52, Try.ntmps52
    go_wp2_with (go_at_call 36; refine (keys_check _ _ _ _ _ _ K).mono ?_; rintro e w' ⟨rfl, hbb⟩; have B1 := (Box.new _ _ _).below hbb; have q1 := B1.cell; have hB := Below.step0 ((Below.refl _ _).alloc (Nat.le_refl _) _) hbb)
    go_ret
    exact ⟨rfl, hB⟩
theorem cell_checknumber (i : Bool) (n p b l a s : Int) (w : World) (hb : vb n p b l a s) :
    Calls Try.prog 53 #[.agg #[.bool i, .int .i64 n, .int .i64 p, .int .i64 b, .int .i64 l, .int .i64 a, .int .i64 s]] w fun e w' => e = .returned (.int .i64 (numE n p b l a s)) ∧ Below w.heap.size w w' := by
  unfold numE
  by_cases h1 : n < -2147483648
  · rw [if_neg (by omega)]
    go_enter Try.func53, Try.ntmps53
    go_wp2
    go_ret
    exact ⟨rfl, (Below.refl _ _).alloc (Nat.le_refl _) _⟩
  by_cases h2 : 2147483647 < n
  · rw [if_neg (by omega)]
    clear h1
    go_enter Try.func53, Try.ntmps53
    go_wp2
    go_ret
    exact ⟨rfl, (Below.refl _ _).alloc (Nat.le_refl _) _⟩
  rw [if_pos (by omega)]
  by_cases h3 : p = 0 ∧ b = 0 ∧ l = 0 ∧ a = 0 ∧ s = 0
  · rw [if_pos h3]
    obtain ⟨rfl, rfl, rfl, rfl, rfl⟩ := h3
    go_enter Try.func53, Try.ntmps53
    go_wp2
    go_ret
    exact ⟨rfl, (Below.refl _ _).alloc (Nat.le_refl _) _⟩
  · rw [if_neg h3]
    go_enter Try.func53, Try.ntmps53
    go_wp2
    all_goals go_ret
    all_goals exact ⟨rfl, (Below.refl _ _).alloc (Nat.le_refl _) _⟩
theorem same_refl (i : Bool) (n p b l a s : Int) : sameB i n p b l a s i n p b l a s = true := by simp [sameB]
theorem same_iff (i : Bool) (n p b l a s : Int) (i' : Bool) (n' p' b' l' a' s' : Int) : sameB i n p b l a s i' n' p' b' l' a' s' = true ↔ (i = i' ∧ n = n' ∧ p = p' ∧ b = b' ∧ l = l' ∧ a = a' ∧ s = s') := by simp [sameB]
theorem cell_check (i : Bool) (n p b l a s : Int) (w : World) (hb : vb n p b l a s) :
    Calls Try.prog 35 #[.agg #[.bool i, .int .i64 n, .int .i64 p, .int .i64 b, .int .i64 l, .int .i64 a, .int .i64 s]] w fun e w' => e = .returned (.int .i64 (chkV i n p b l a s)) ∧ Below w.heap.size w w' := by
  cases i
  · show Calls _ _ _ _ fun e w' => e = .returned (.int .i64 (numE n p b l a s)) ∧ _
    go_enter Try.func35, Try.ntmps35
    go_wp2_with (go_at_call 53; refine (cell_checknumber _ _ _ _ _ _ _ _ hb).mono ?_; rintro e w' ⟨rfl, hbb⟩; have hB := Below.step0 ((Below.refl _ _).alloc (Nat.le_refl _) _) hbb)
    go_ret
    exact ⟨rfl, hB⟩
  · show Calls _ _ _ _ fun e w' => e = .returned (.int .i64 (keyE n p b l a s)) ∧ _
    go_enter Try.func35, Try.ntmps35
    go_wp2_with (go_at_call 52; refine (cell_checkkey _ _ _ _ _ _ _ _ hb).mono ?_; rintro e w' ⟨rfl, hbb⟩; have hB := Below.step0 ((Below.refl _ _).alloc (Nat.le_refl _) _) hbb)
    go_ret
    exact ⟨rfl, hB⟩
theorem ref_cellcheck (i : Bool) (n p b l a s : Int) (w : World) :
    Calls Try.prog 26 #[.agg #[.bool i, .int .i64 n, .int .i64 p, .int .i64 b, .int .i64 l, .int .i64 a, .int .i64 s]] w fun e w' => e = .returned (.int .i64 (chkV i n p b l a s)) ∧ Below w.heap.size w w' := by
  cases i
  · show Calls _ _ _ _ fun e w' => e = .returned (.int .i64 (numE n p b l a s)) ∧ _
    unfold numE
    by_cases h1 : -2147483648 ≤ n ∧ n ≤ 2147483647
    · have c1 : outB n (-2147483648) 2147483647 = false := by unfold outB; rw [decide_eq_false_iff_not]; omega
      rw [if_pos h1]
      clear h1
      by_cases h3 : p = 0 ∧ b = 0 ∧ l = 0 ∧ a = 0 ∧ s = 0
      · rw [if_pos h3]
        obtain ⟨rfl, rfl, rfl, rfl, rfl⟩ := h3
        go_enter Try.func26, Try.ntmps26
        go_wp2_with (go_at_call 28; refine (ref_isnumber _ _).mono ?_; rintro e w' ⟨rfl, rfl⟩)
        go_ret
        exact ⟨rfl, (Below.refl _ _).alloc (Nat.le_refl _) _⟩
      · rw [if_neg h3]
        go_enter Try.func26, Try.ntmps26
        go_wp2_with (go_at_call 28; refine (ref_isnumber _ _).mono ?_; rintro e w' ⟨rfl, rfl⟩)
        all_goals go_ret
        all_goals exact ⟨rfl, (Below.refl _ _).alloc (Nat.le_refl _) _⟩
    · have c1 : outB n (-2147483648) 2147483647 = true := by unfold outB; rw [decide_eq_true_eq]; omega
      rw [if_neg h1]
      clear h1
      go_enter Try.func26, Try.ntmps26
      go_wp2_with (go_at_call 28; refine (ref_isnumber _ _).mono ?_; rintro e w' ⟨rfl, rfl⟩)
      go_ret
      exact ⟨rfl, (Below.refl _ _).alloc (Nat.le_refl _) _⟩
  · show Calls _ _ _ _ fun e w' => e = .returned (.int .i64 (keyE n p b l a s)) ∧ _
    unfold keyE
    by_cases ho : ok p b l a s
    · have hk := chk_yes ho
      rw [if_pos ho]
      clear ho
      by_cases hn : n = 0
      · rw [if_pos hn]
        have hn' : (n == 0) = true := by simpa using hn
        clear hn
        go_enter Try.func26, Try.ntmps26
        go_wp2_with (go_at_call 46; refine (ref_check _ _ _ _ _ _).mono ?_; rintro e w' ⟨rfl, hbb⟩; have B1 := (Box.new _ _ _).below hbb; have q1 := B1.cell; have hB := Below.step0 ((Below.refl _ _).alloc (Nat.le_refl _) _) hbb)
        go_ret
        exact ⟨rfl, hB⟩
      · rw [if_neg hn]
        have hn' : (n == 0) = false := by simpa using hn
        clear hn
        go_enter Try.func26, Try.ntmps26
        go_wp2_with (go_at_call 46; refine (ref_check _ _ _ _ _ _).mono ?_; rintro e w' ⟨rfl, hbb⟩; have B1 := (Box.new _ _ _).below hbb; have q1 := B1.cell; have hB := Below.step0 ((Below.refl _ _).alloc (Nat.le_refl _) _) hbb)
        go_ret
        exact ⟨rfl, hB⟩
    · have hk := chk_no ho
      rw [if_neg ho]
      clear ho
      go_enter Try.func26, Try.ntmps26
      go_wp2_with (go_at_call 46; refine (ref_check _ _ _ _ _ _).mono ?_; rintro e w' ⟨rfl, hbb⟩; have B1 := (Box.new _ _ _).below hbb; have q1 := B1.cell; have hB := Below.step0 ((Below.refl _ _).alloc (Nat.le_refl _) _) hbb)
      go_ret
      exact ⟨rfl, hB⟩
end Go.Proofs.Ytlfeglljpfihhaa
