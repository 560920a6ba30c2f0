/- What package cell's Check and Same, and the document's own CellCheck, answer, for whatever value: what chapter 5 says; they turn nothing that was in memory. Both readings of 'has b all that a has', the program's and the document's, answer one and the same, and touch no memory. -/
import Derived.Test.YtlfeglljpfihhaaGreatDoorRows
import Derived.Test.YtlfeglljpfihhaaGreatDoorCardBaseX
import Derived.Test.YtlfeglljpfihhaaGreatDoorKeyChkX
import Derived.Test.YtlfeglljpfihhaaGreatDoorValArgX
import Derived.WalkKit
import Derived.ProofKit
import Derived.OpenShut
namespace Go.Proofs.YtlfeglljpfihhaaGreatDoor
section
open Go.ChangeShapes Go.WideShapes Go.ChangeAt Go.RowKit

theorem cell_checkkey (i : Bool) (n p b l a s : Int) (w : World) (hb : vb n p b l a s) :
    Calls Tryz.prog 69 #[.agg #[.bool i, .int .i64 n, .int .i64 p, .int .i64 b, .int .i64 l, .int .i64 a, .int .i64 s]] w fun e w' => e = .returned (.int .i64 (keyE n p b l a s)) ∧ Below w.heap.size w w' := by
  have K := hb.2
  unfold keyE
  by_cases ho : ok p b l a s
  · have hk := chk_yes ho
    rw [if_pos ho]
    by_cases hn : n = 0
    · rw [if_pos hn]
      have hn' : (n == 0) = true := by simpa using hn
      clear hn ho
      go_enter Tryz.func69, Tryz.ntmps69
      go_wp2_with (go_at_call 42; refine (keys_check _ _ _ _ _ _ K).mono ?_; rintro e w' ⟨rfl, hbb⟩; have B1 := (Box.new _ _ _).below hbb; have q1 := B1.cell; have hB := Below.step0 ((Below.refl _ _).alloc (Nat.le_refl _) _) hbb)
      go_ret
      exact ⟨rfl, hB⟩
    · rw [if_neg hn]
      have hn' : (n == 0) = false := by simpa using hn
      clear hn ho
      go_enter Tryz.func69, Tryz.ntmps69
      go_wp2_with (go_at_call 42; refine (keys_check _ _ _ _ _ _ K).mono ?_; rintro e w' ⟨rfl, hbb⟩; have B1 := (Box.new _ _ _).below hbb; have q1 := B1.cell; have hB := Below.step0 ((Below.refl _ _).alloc (Nat.le_refl _) _) hbb)
      go_ret
      exact ⟨rfl, hB⟩
  · have hk := chk_no ho
    rw [if_neg ho]
    clear ho
    go_enter Tryz.func69, Tryz.ntmps69
    go_wp2_with (go_at_call 42; refine (keys_check _ _ _ _ _ _ K).mono ?_; rintro e w' ⟨rfl, hbb⟩; have B1 := (Box.new _ _ _).below hbb; have q1 := B1.cell; have hB := Below.step0 ((Below.refl _ _).alloc (Nat.le_refl _) _) hbb)
    go_ret
    exact ⟨rfl, hB⟩
theorem cell_checknumber (i : Bool) (n p b l a s : Int) (w : World) (hb : vb n p b l a s) :
    Calls Tryz.prog 70 #[.agg #[.bool i, .int .i64 n, .int .i64 p, .int .i64 b, .int .i64 l, .int .i64 a, .int .i64 s]] w fun e w' => e = .returned (.int .i64 (numE n p b l a s)) ∧ Below w.heap.size w w' := by
  unfold numE
  by_cases h1 : n < -2147483648
  · rw [if_neg (by omega)]
    go_enter Tryz.func70, Tryz.ntmps70
    go_wp2
    go_ret
    exact ⟨rfl, (Below.refl _ _).alloc (Nat.le_refl _) _⟩
  by_cases h2 : 2147483647 < n
  · rw [if_neg (by omega)]
    clear h1
    go_enter Tryz.func70, Tryz.ntmps70
    go_wp2
    go_ret
    exact ⟨rfl, (Below.refl _ _).alloc (Nat.le_refl _) _⟩
  rw [if_pos (by omega)]
  by_cases h3 : p = 0 ∧ b = 0 ∧ l = 0 ∧ a = 0 ∧ s = 0
  · rw [if_pos h3]
    obtain ⟨rfl, rfl, rfl, rfl, rfl⟩ := h3
    go_enter Tryz.func70, Tryz.ntmps70
    go_wp2
    go_ret
    exact ⟨rfl, (Below.refl _ _).alloc (Nat.le_refl _) _⟩
  · rw [if_neg h3]
    go_enter Tryz.func70, Tryz.ntmps70
    go_wp2
    all_goals go_ret
    all_goals exact ⟨rfl, (Below.refl _ _).alloc (Nat.le_refl _) _⟩
theorem same_refl (i : Bool) (n p b l a s : Int) : sameB i n p b l a s i n p b l a s = true := by simp [sameB]
theorem same_iff (i : Bool) (n p b l a s : Int) (i' : Bool) (n' p' b' l' a' s' : Int) : sameB i n p b l a s i' n' p' b' l' a' s' = true ↔ (i = i' ∧ n = n' ∧ p = p' ∧ b = b' ∧ l = l' ∧ a = a' ∧ s = s') := by simp [sameB]
theorem cell_check (i : Bool) (n p b l a s : Int) (w : World) (hb : vb n p b l a s) :
    Calls Tryz.prog 41 #[.agg #[.bool i, .int .i64 n, .int .i64 p, .int .i64 b, .int .i64 l, .int .i64 a, .int .i64 s]] w fun e w' => e = .returned (.int .i64 (chkV i n p b l a s)) ∧ Below w.heap.size w w' := by
  cases i
  · show Calls _ _ _ _ fun e w' => e = .returned (.int .i64 (numE n p b l a s)) ∧ _
    go_enter Tryz.func41, Tryz.ntmps41
    go_wp2_with (go_at_call 70; refine (cell_checknumber _ _ _ _ _ _ _ _ hb).mono ?_; rintro e w' ⟨rfl, hbb⟩; have hB := Below.step0 ((Below.refl _ _).alloc (Nat.le_refl _) _) hbb)
    go_ret
    exact ⟨rfl, hB⟩
  · show Calls _ _ _ _ fun e w' => e = .returned (.int .i64 (keyE n p b l a s)) ∧ _
    go_enter Tryz.func41, Tryz.ntmps41
    go_wp2_with (go_at_call 69; refine (cell_checkkey _ _ _ _ _ _ _ _ hb).mono ?_; rintro e w' ⟨rfl, hbb⟩; have hB := Below.step0 ((Below.refl _ _).alloc (Nat.le_refl _) _) hbb)
    go_ret
    exact ⟨rfl, hB⟩
end
section
open Go.ChangeShapes Go.WideShapes Go.ChangeAt Go.RowKit

theorem perm_within (a b : Int) (w : World) :
    Calls Tryz.prog 35 #[.int .i64 a, .int .i64 b] w fun e w' => e = .returned (.bool (inB a b)) ∧ w' = w := by
  unfold inB
  go_enter Tryz.func35, Tryz.ntmps35
  go_wp2
  go_ret
  exact ⟨rfl, rfl⟩
end
end Go.Proofs.YtlfeglljpfihhaaGreatDoor
