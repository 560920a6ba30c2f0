/- keys.Check, and the document's own KeyCheck and IsNumber, answer what chapters 1 and 3 say of them, for whatever numbers, and turn nothing that was in memory. -/
import Derived.Test.YtlfeglljpfihhaaRows
import Derived.Test.YtlfeglljpfihhaaBits
import Derived.Test.YtlfeglljpfihhaaKeyPure
import Derived.WalkKit
import Derived.ProofKit
import Derived.OpenShut
namespace Go.Proofs.Ytlfeglljpfihhaa
open Go.ChangeShapes Go.WideShapes Go.ChangeAt Go.RowKit

theorem ok_lit {p b l a s : Int} (h : ok p b l a s) : 0 ≤ p ∧ p ≤ 127 ∧ 0 ≤ l ∧ 0 ≤ b ∧ b + l ≤ 400 ∧ 0 ≤ a ∧ a ≤ 400 ∧ 0 ≤ s ∧ s ≤ 63 := h
theorem keys_between (n lo hi : Int) (w : World) :
    Calls Try.prog 54 #[.int .i64 n, .int .i64 lo, .int .i64 hi] w fun e w' => e = .returned (.bool (btw n lo hi)) ∧ w' = w := by
  unfold btw
  by_cases h1 : lo ≤ n
  · by_cases h2 : n ≤ hi
    · rw [decide_eq_true (And.intro h1 h2)]
      go_enter Try.func54, Try.ntmps54
      go_wp2
      go_ret
      exact ⟨rfl, rfl⟩
    · rw [decide_eq_false (fun h => h2 h.2)]
      go_enter Try.func54, Try.ntmps54
      go_wp2
      go_ret
      exact ⟨rfl, rfl⟩
  · rw [decide_eq_false (fun h => h1 h.1)]
    go_enter Try.func54, Try.ntmps54
    go_wp2
    go_ret
    exact ⟨rfl, rfl⟩

theorem keys_check (p b l a s : Int) (w : World) (hb : kb p b l a s) :
    Calls Try.prog 36 #[.agg #[.int .i64 p, .int .i64 b, .int .i64 l, .int .i64 a, .int .i64 s]] w fun e w' => e = .returned (.int .i64 (chkE p b l a s)) ∧ Below w.heap.size w w' := by
  obtain ⟨b1, b2, b3, b4, b5⟩ := hb
  have cs : btw p 0 127 = false ∨ (btw p 0 127 = true ∧ l < 0) ∨ (btw p 0 127 = true ∧ ¬ l < 0 ∧ btw b 0 (400 - l) = false) ∨ (btw p 0 127 = true ∧ ¬ l < 0 ∧ btw b 0 (400 - l) = true ∧ btw a 0 400 = false) ∨
    (btw p 0 127 = true ∧ ¬ l < 0 ∧ btw b 0 (400 - l) = true ∧ btw a 0 400 = true ∧ btw s 0 63 = false) ∨ (btw p 0 127 = true ∧ ¬ l < 0 ∧ btw b 0 (400 - l) = true ∧ btw a 0 400 = true ∧ btw s 0 63 = true) := by
    by_cases h : l < 0 <;> cases btw p 0 127 <;> cases btw b 0 (400 - l) <;> cases btw a 0 400 <;> cases btw s 0 63 <;> simp [h]
  have yes : btw p 0 127 = true ∧ ¬ l < 0 ∧ btw b 0 (400 - l) = true ∧ btw a 0 400 = true ∧ btw s 0 63 = true → chkE p b l a s = 0 := by
    intro ⟨h1, h2, h3, h4, h5⟩
    simp only [btw, decide_eq_true_eq] at h1 h3 h4 h5
    exact chk_yes (by unfold ok; omega)
  have no : ¬ (btw p 0 127 = true ∧ ¬ l < 0 ∧ btw b 0 (400 - l) = true ∧ btw a 0 400 = true ∧ btw s 0 63 = true) → chkE p b l a s = 1 := by
    intro h
    simp only [btw, decide_eq_true_eq] at h
    exact chk_no (by unfold ok; omega)
  rcases cs with h1 | ⟨h1, h2⟩ | ⟨h1, h2, h3⟩ | ⟨h1, h2, h3, h4⟩ | ⟨h1, h2, h3, h4, h5⟩ | ⟨h1, h2, h3, h4, h5⟩
  · rw [no (by simp [h1])]
    clear yes no b1 b2 b3 b4 b5
    go_enter Try.func36, Try.ntmps36
    go_wp2_with (go_at_call 54; refine (keys_between _ _ _ _).mono ?_; rintro e w' ⟨rfl, rfl⟩)
    go_ret
    exact ⟨rfl, (Below.refl _ _).alloc (Nat.le_refl _) _⟩
  · rw [no (by simp [h2])]
    clear yes no b1 b2 b4 b5
    go_enter Try.func36, Try.ntmps36
    go_wp2_with (go_at_call 54; refine (keys_between _ _ _ _).mono ?_; rintro e w' ⟨rfl, rfl⟩)
    go_ret
    exact ⟨rfl, (Below.refl _ _).alloc (Nat.le_refl _) _⟩
  · rw [no (by simp [h3])]
    clear yes no b1 b2 b4 b5
    go_enter Try.func36, Try.ntmps36
    go_wp2_with (go_at_call 54; refine (keys_between _ _ _ _).mono ?_; rintro e w' ⟨rfl, rfl⟩)
    go_ret
    exact ⟨rfl, (Below.refl _ _).alloc (Nat.le_refl _) _⟩
  · rw [no (by simp [h4])]
    clear yes no b1 b2 b4 b5
    go_enter Try.func36, Try.ntmps36
    go_wp2_with (go_at_call 54; refine (keys_between _ _ _ _).mono ?_; rintro e w' ⟨rfl, rfl⟩)
    go_ret
    exact ⟨rfl, (Below.refl _ _).alloc (Nat.le_refl _) _⟩
  · rw [no (by simp [h5])]
    clear yes no b1 b2 b4 b5
    go_enter Try.func36, Try.ntmps36
    go_wp2_with (go_at_call 54; refine (keys_between _ _ _ _).mono ?_; rintro e w' ⟨rfl, rfl⟩)
    go_ret
    exact ⟨rfl, (Below.refl _ _).alloc (Nat.le_refl _) _⟩
  · rw [yes ⟨h1, h2, h3, h4, h5⟩]
    clear yes no b1 b2 b4 b5
    go_enter Try.func36, Try.ntmps36
    go_wp2_with (go_at_call 54; refine (keys_between _ _ _ _).mono ?_; rintro e w' ⟨rfl, rfl⟩)
    go_ret
    exact ⟨rfl, (Below.refl _ _).alloc (Nat.le_refl _) _⟩

def outB (n lo hi : Int) : Bool := decide (n < lo ∨ hi < n)
theorem ref_outside (n lo hi : Int) (w : World) :
    Calls Try.prog 47 #[.int .i64 n, .int .i64 lo, .int .i64 hi] w fun e w' => e = .returned (.bool (outB n lo hi)) ∧ w' = w := by
  unfold outB
  by_cases h1 : n < lo
  · rw [decide_eq_true (Or.inl h1)]
    go_enter Try.func47, Try.ntmps47
    go_wp2
    go_ret
    exact ⟨rfl, rfl⟩
  · by_cases h2 : hi < n
    · rw [decide_eq_true (Or.inr h2)]
      go_enter Try.func47, Try.ntmps47
      go_wp2
      go_ret
      exact ⟨rfl, rfl⟩
    · rw [decide_eq_false (fun h => h.elim h1 h2)]
      go_enter Try.func47, Try.ntmps47
      go_wp2
      go_ret
      exact ⟨rfl, rfl⟩
theorem ref_check (p b l a s : Int) (w : World) :
    Calls Try.prog 46 #[.agg #[.int .i64 p, .int .i64 b, .int .i64 l, .int .i64 a, .int .i64 s]] w fun e w' => e = .returned (.int .i64 (chkE p b l a s)) ∧ Below w.heap.size w w' := by
  have yes : outB p 0 127 = false → outB b 0 400 = false → outB l 0 400 = false → ¬ 400 < b + l → outB a 0 400 = false → outB s 0 63 = false → chkE p b l a s = 0 := by
    simp only [outB, decide_eq_false_iff_not]
    intro h1 h2 h3 h4 h5 h6
    exact chk_yes (by unfold ok; omega)
  have no : (outB p 0 127 = true ∨ outB b 0 400 = true ∨ outB l 0 400 = true ∨ 400 < b + l ∨ outB a 0 400 = true ∨ outB s 0 63 = true) → chkE p b l a s = 1 := by
    simp only [outB, decide_eq_true_eq]
    intro h
    refine chk_no (fun h' => ?_)
    have := ok_lit h'
    omega
  have bd : outB b 0 400 = false → outB l 0 400 = false → (0 ≤ b ∧ b ≤ 400 ∧ 0 ≤ l ∧ l ≤ 400) := by
    simp only [outB, decide_eq_false_iff_not]; omega
  have cs : (outB p 0 127 = true ∧ chkE p b l a s = 1) ∨ (outB p 0 127 = false ∧ outB b 0 400 = true ∧ chkE p b l a s = 1) ∨ (outB p 0 127 = false ∧ outB b 0 400 = false ∧ outB l 0 400 = true ∧ chkE p b l a s = 1) ∨
    (outB p 0 127 = false ∧ outB b 0 400 = false ∧ outB l 0 400 = false ∧ (0 ≤ b ∧ b ≤ 400 ∧ 0 ≤ l ∧ l ≤ 400) ∧ 400 < b + l ∧ chkE p b l a s = 1) ∨
    (outB p 0 127 = false ∧ outB b 0 400 = false ∧ outB l 0 400 = false ∧ (0 ≤ b ∧ b ≤ 400 ∧ 0 ≤ l ∧ l ≤ 400) ∧ ¬ 400 < b + l ∧ outB a 0 400 = true ∧ chkE p b l a s = 1) ∨
    (outB p 0 127 = false ∧ outB b 0 400 = false ∧ outB l 0 400 = false ∧ (0 ≤ b ∧ b ≤ 400 ∧ 0 ≤ l ∧ l ≤ 400) ∧ ¬ 400 < b + l ∧ outB a 0 400 = false ∧ outB s 0 63 = true ∧ chkE p b l a s = 1) ∨
    (outB p 0 127 = false ∧ outB b 0 400 = false ∧ outB l 0 400 = false ∧ (0 ≤ b ∧ b ≤ 400 ∧ 0 ≤ l ∧ l ≤ 400) ∧ ¬ 400 < b + l ∧ outB a 0 400 = false ∧ outB s 0 63 = false ∧ chkE p b l a s = 0) := by
    cases h1 : outB p 0 127
    · cases h2 : outB b 0 400
      · cases h3 : outB l 0 400
        · have h4 := bd h2 h3
          by_cases h5 : 400 < b + l
          · exact .inr (.inr (.inr (.inl ⟨rfl, rfl, rfl, h4, h5, no (by simp [h5])⟩)))
          · cases h6 : outB a 0 400
            · cases h7 : outB s 0 63
              · exact .inr (.inr (.inr (.inr (.inr (.inr ⟨rfl, rfl, rfl, h4, h5, rfl, rfl, yes h1 h2 h3 h5 h6 h7⟩)))))
              · exact .inr (.inr (.inr (.inr (.inr (.inl ⟨rfl, rfl, rfl, h4, h5, rfl, rfl, no (by simp [h7])⟩)))))
            · exact .inr (.inr (.inr (.inr (.inl ⟨rfl, rfl, rfl, h4, h5, rfl, no (by simp [h6])⟩))))
        · exact .inr (.inr (.inl ⟨rfl, rfl, rfl, no (by simp [h3])⟩))
      · exact .inr (.inl ⟨rfl, rfl, no (by simp [h2])⟩)
    · exact .inl ⟨rfl, no (by simp [h1])⟩
  clear yes no bd
  rcases cs with ⟨h1, hm⟩ | ⟨h1, h2, hm⟩ | ⟨h1, h2, h3, hm⟩ | ⟨h1, h2, h3, h4, h5, hm⟩ | ⟨h1, h2, h3, h4, h5, h6, hm⟩ | ⟨h1, h2, h3, h4, h5, h6, h7, hm⟩ | ⟨h1, h2, h3, h4, h5, h6, h7, hm⟩
  all_goals
    rw [hm]
    clear hm
    go_enter Try.func46, Try.ntmps46
    go_wp2_with (go_at_call 47; refine (ref_outside _ _ _ _).mono ?_; rintro e w' ⟨rfl, rfl⟩)
    go_ret
    exact ⟨rfl, (Below.refl _ _).alloc (Nat.le_refl _) _⟩
theorem ref_isnumber (n : Int) (w : World) :
    Calls Try.prog 28 #[.int .i64 n] w fun e w' => e = .returned (.bool (!outB n (-2147483648) 2147483647)) ∧ w' = w := by
  cases h : outB n (-2147483648) 2147483647
  all_goals
    go_enter Try.func28, Try.ntmps28
    go_wp2_with (go_at_call 47; refine (ref_outside _ _ _ _).mono ?_; rintro e w' ⟨rfl, rfl⟩)
    go_ret
    exact ⟨rfl, rfl⟩
end Go.Proofs.Ytlfeglljpfihhaa
