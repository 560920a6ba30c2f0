/- keys.Check, and the document's own KeyCheck and IsNumber, answer what chapters 1 and 3 say of them, for whatever numbers, and turn nothing that was in memory. -/
import Derived.Test.YtlfeglljpfihhaaGreatDoorRows
import Derived.Test.YtlfeglljpfihhaaGreatDoorCardBaseX
import Derived.WalkKit
import Derived.ProofKit
import Derived.OpenShut
namespace Go.Proofs.YtlfeglljpfihhaaGreatDoor
open Go.ChangeShapes Go.WideShapes Go.ChangeAt Go.RowKit

theorem ok_lit {p b l a s : Int} (h : ok p b l a s) : 0 ≤ p ∧ p ≤ 127 ∧ 0 ≤ l ∧ 0 ≤ b ∧ b + l ≤ 400 ∧ 0 ≤ a ∧ a ≤ 400 ∧ 0 ≤ s ∧ s ≤ 63 := h
theorem keys_between (n lo hi : Int) (w : World) :
    Calls Tryz.prog 71 #[.int .i64 n, .int .i64 lo, .int .i64 hi] w fun e w' => e = .returned (.bool (btw n lo hi)) ∧ w' = w := by
  unfold btw
  by_cases h1 : lo ≤ n
  · by_cases h2 : n ≤ hi
    · rw [decide_eq_true (And.intro h1 h2)]
      go_enter Tryz.func71, Tryz.ntmps71
      go_wp2
      go_ret
      exact ⟨rfl, rfl⟩
    · rw [decide_eq_false (fun h => h2 h.2)]
      go_enter Tryz.func71, Tryz.ntmps71
      go_wp2
      go_ret
      exact ⟨rfl, rfl⟩
  · rw [decide_eq_false (fun h => h1 h.1)]
    go_enter Tryz.func71, Tryz.ntmps71
    go_wp2
    go_ret
    exact ⟨rfl, rfl⟩

theorem keys_check (p b l a s : Int) (w : World) (hb : kb p b l a s) :
    Calls Tryz.prog 42 #[.agg #[.int .i64 p, .int .i64 b, .int .i64 l, .int .i64 a, .int .i64 s]] w fun e w' => e = .returned (.int .i64 (chkE p b l a s)) ∧ Below w.heap.size w w' := by
  obtain ⟨b1, b2, b3, b4, b5⟩ := hb
  have cs : btw p 0 127 = false ∨ (btw p 0 127 = true ∧ l < 0) ∨ (btw p 0 127 = true ∧ ¬ l < 0 ∧ btw b 0 (400 - l) = false) ∨ (btw p 0 127 = true ∧ ¬ l < 0 ∧ btw b 0 (400 - l) = true ∧ btw a 0 400 = false) ∨
    (btw p 0 127 = true ∧ ¬ l < 0 ∧ btw b 0 (400 - l) = true ∧ btw a 0 400 = true ∧ btw s 0 63 = false) ∨ (btw p 0 127 = true ∧ ¬ l < 0 ∧ btw b 0 (400 - l) = true ∧ btw a 0 400 = true ∧ btw s 0 63 = true) := by
    by_cases h : l < 0 <;> cases btw p 0 127 <;> cases btw b 0 (400 - l) <;> cases btw a 0 400 <;> cases btw s 0 63 <;> simp [h]
  have yes : btw p 0 127 = true ∧ ¬ l < 0 ∧ btw b 0 (400 - l) = true ∧ btw a 0 400 = true ∧ btw s 0 63 = true → chkE p b l a s = 0 := by
    intro ⟨h1, h2, h3, h4, h5⟩
    simp only [btw, decide_eq_true_eq] at h1 h3 h4 h5
    exact chk_yes (by unfold ok; omega)
  have no : ¬ (btw p 0 127 = true ∧ ¬ l < 0 ∧ btw b 0 (400 - l) = true ∧ btw a 0 400 = true ∧ btw s 0 63 = true) → chkE p b l a s = 1 := by
    intro h
    simp only [btw, decide_eq_true_eq] at h
    exact chk_no (by unfold ok; omega)
  rcases cs with h1 | ⟨h1, h2⟩ | ⟨h1, h2, h3⟩ | ⟨h1, h2, h3, h4⟩ | ⟨h1, h2, h3, h4, h5⟩ | ⟨h1, h2, h3, h4, h5⟩
  · rw [no (by simp [h1])]
    clear yes no b1 b2 b3 b4 b5
    go_enter Tryz.func42, Tryz.ntmps42
    go_wp2_with (go_at_call 71; refine (keys_between _ _ _ _).mono ?_; rintro e w' ⟨rfl, rfl⟩)
    go_ret
    exact ⟨rfl, (Below.refl _ _).alloc (Nat.le_refl _) _⟩
  · rw [no (by simp [h2])]
    clear yes no b1 b2 b4 b5
    go_enter Tryz.func42, Tryz.ntmps42
    go_wp2_with (go_at_call 71; refine (keys_between _ _ _ _).mono ?_; rintro e w' ⟨rfl, rfl⟩)
    go_ret
    exact ⟨rfl, (Below.refl _ _).alloc (Nat.le_refl _) _⟩
  · rw [no (by simp [h3])]
    clear yes no b1 b2 b4 b5
    go_enter Tryz.func42, Tryz.ntmps42
    go_wp2_with (go_at_call 71; refine (keys_between _ _ _ _).mono ?_; rintro e w' ⟨rfl, rfl⟩)
    go_ret
    exact ⟨rfl, (Below.refl _ _).alloc (Nat.le_refl _) _⟩
  · rw [no (by simp [h4])]
    clear yes no b1 b2 b4 b5
    go_enter Tryz.func42, Tryz.ntmps42
    go_wp2_with (go_at_call 71; refine (keys_between _ _ _ _).mono ?_; rintro e w' ⟨rfl, rfl⟩)
    go_ret
    exact ⟨rfl, (Below.refl _ _).alloc (Nat.le_refl _) _⟩
  · rw [no (by simp [h5])]
    clear yes no b1 b2 b4 b5
    go_enter Tryz.func42, Tryz.ntmps42
    go_wp2_with (go_at_call 71; refine (keys_between _ _ _ _).mono ?_; rintro e w' ⟨rfl, rfl⟩)
    go_ret
    exact ⟨rfl, (Below.refl _ _).alloc (Nat.le_refl _) _⟩
  · rw [yes ⟨h1, h2, h3, h4, h5⟩]
    clear yes no b1 b2 b4 b5
    go_enter Tryz.func42, Tryz.ntmps42
    go_wp2_with (go_at_call 71; refine (keys_between _ _ _ _).mono ?_; rintro e w' ⟨rfl, rfl⟩)
    go_ret
    exact ⟨rfl, (Below.refl _ _).alloc (Nat.le_refl _) _⟩

end Go.Proofs.YtlfeglljpfihhaaGreatDoor
