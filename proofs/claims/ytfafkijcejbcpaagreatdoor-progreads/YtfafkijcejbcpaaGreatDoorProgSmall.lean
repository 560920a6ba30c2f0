/- package prog: isLetter, isName, isNumber, in one def each: what chapter 7 says of a NAME and a NUMBER. -/
import Derived.Test.YtfafkijcejbcpaaGreatDoorRows
import Derived.Test.YtfafkijcejbcpaaGreatDoorKeyPure
import Derived.Test.YtfafkijcejbcpaaGreatDoorShelf
import Derived.Test.YtfafkijcejbcpaaGreatDoorInstShape
import Derived.Test.YtfafkijcejbcpaaGreatDoorInstLaid
import Derived.Test.YtfafkijcejbcpaaGreatDoorInstDev
import Derived.Test.YtfafkijcejbcpaaGreatDoorTextPure
import Derived.Test.YtfafkijcejbcpaaGreatDoorParsePure
import Derived.Test.YtfafkijcejbcpaaGreatDoorInstText
import Derived.Test.YtfafkijcejbcpaaGreatDoorInstOp
import Derived.Test.YtfafkijcejbcpaaGreatDoorInstCut
import Derived.Test.YtfafkijcejbcpaaGreatDoorInstParse2
import Derived.Test.YtfafkijcejbcpaaGreatDoorProgPure
import Derived.WalkKit
import Derived.ProofKit
import Derived.Laws.Closers25
namespace Go.Proofs.YtfafkijcejbcpaaGreatDoor
open Go.ChangeShapes Go.WideShapes Go.ChangeAt Go.RowKit
set_option linter.unusedSimpArgs false

theorem prog_isLetter (r : Int) (w : World) :
    Calls Tryz.prog 58 #[.int .i32 r] w fun e w' => e = .returned (.bool (decide (97 ≤ r ∧ r ≤ 122))) ∧ w' = w := by
  by_cases h1 : 97 ≤ r
  · by_cases h2 : r ≤ 122
    · rw [decide_eq_true (And.intro h1 h2)]
      go_enter Tryz.func58, Tryz.ntmps58
      go_wp2
      go_ret
      exact ⟨rfl, rfl⟩
    · rw [decide_eq_false (fun h => h2 h.2)]
      go_enter Tryz.func58, Tryz.ntmps58
      go_wp2
      go_ret
      exact ⟨by simp [h2], rfl⟩
  · rw [decide_eq_false (fun h => h1 h.1)]
    go_enter Tryz.func58, Tryz.ntmps58
    go_wp2
    go_ret
    exact ⟨rfl, rfl⟩
theorem prog_isNumber (n : Int) (w : World) :
    Calls Tryz.prog 76 #[.int .i64 n] w fun e w' => e = .returned (.bool (decide (-2147483648 ≤ n ∧ n ≤ 2147483647))) ∧ w' = w := by
  by_cases h1 : -2147483648 ≤ n
  · by_cases h2 : n ≤ 2147483647
    · rw [decide_eq_true (And.intro h1 h2)]
      go_enter Tryz.func76, Tryz.ntmps76
      go_wp2
      go_ret
      exact ⟨rfl, rfl⟩
    · rw [decide_eq_false (fun h => h2 h.2)]
      go_enter Tryz.func76, Tryz.ntmps76
      go_wp2
      go_ret
      exact ⟨by simp [h2], rfl⟩
  · rw [decide_eq_false (fun h => h1 h.1)]
    go_enter Tryz.func76, Tryz.ntmps76
    go_wp2
    go_ret
    exact ⟨rfl, rfl⟩
theorem prog_sign (r : Nat) (w : World) :
    Calls Tryz.prog 60 #[.int .i32 (r : Int)] w fun e w' => e = .returned (.bool (pN r)) ∧ w' = w := by
  have cL := prog_isLetter (r : Int) w
  unfold pN
  by_cases h1 : 97 ≤ r ∧ r ≤ 122
  · have g : decide (97 ≤ (r : Int) ∧ (r : Int) ≤ 122) = true := decide_eq_true (by omega)
    rw [g] at cL
    rw [decide_eq_false (fun h => h h1), Bool.false_and]
    go_enter Tryz.func60, Tryz.ntmps60
    go_wp2_with (go_at_call 58; refine cL.mono ?_; rintro e w' ⟨rfl, rfl⟩)
    go_ret
    exact ⟨rfl, rfl⟩
  · have g : decide (97 ≤ (r : Int) ∧ (r : Int) ≤ 122) = false := decide_eq_false (by omega)
    rw [g] at cL
    rw [decide_eq_true h1, Bool.true_and]
    by_cases h2 : r < 48
    · have g2 : (r : Int) < 48 := by omega
      rw [decide_eq_true (Or.inl h2)]
      clear h1 h2 g
      go_enter Tryz.func60, Tryz.ntmps60
      go_wp2_with (go_at_call 58; refine cL.mono ?_; rintro e w' ⟨rfl, rfl⟩)
      go_ret
      exact ⟨rfl, rfl⟩
    · have g2 : ¬ (r : Int) < 48 := by omega
      by_cases h3 : 57 < r
      · have g3 : 57 < (r : Int) := by omega
        rw [decide_eq_true (Or.inr h3)]
        clear h1 h2 g h3
        go_enter Tryz.func60, Tryz.ntmps60
        go_wp2_with (go_at_call 58; refine cL.mono ?_; rintro e w' ⟨rfl, rfl⟩)
        go_ret
        exact ⟨rfl, rfl⟩
      · have g3 : ¬ 57 < (r : Int) := by omega
        have e2 : decide ((r : Int) < 48) = false := decide_eq_false g2
        have e3 : decide (57 < (r : Int)) = false := decide_eq_false g3
        rw [decide_eq_false (fun h => h.elim h2 h3)]
        clear h1 h2 g h3 g2 g3
        go_enter Tryz.func60, Tryz.ntmps60
        go_wp2_with (go_at_call 58; refine cL.mono ?_; rintro e w' ⟨rfl, rfl⟩)
        go_ret
        exact ⟨rfl, rfl⟩
theorem pred_name (w : World) : PredAt Tryz.prog 60 #[] encR pN w := fun W x _ =>
  (prog_sign x W).mono fun e w' ⟨he, hw⟩ => ⟨he, 0, by rw [hw]; rfl⟩
theorem prog_contains (l : List UInt8) (w : World) :
    Calls Tryz.prog 59 #[.string (bL l), .func (.func 60) #[] #[]] w fun e w' => e = .returned (.bool (!l.all okC)) ∧ Below w.heap.size w w' := by
  have h := Tryz.strings_ContainsFunc 60 #[] (enters_of Tryz.func60 (by kernel_rfl) rfl) pN (bL l) w (pred_name w)
  rw [idx_all] at h
  exact h
set_option maxRecDepth 100000 in
theorem prog_isName (l : List UInt8) (w : World) (hl : l.length ≤ 140737488355328) :
    Calls Tryz.prog 42 #[.string (bL l)] w fun e w' => e = .returned (.bool (nameL l)) ∧ Below w.heap.size w w' := by
  cases l with
  | nil =>
    show Calls Tryz.prog 42 #[.string ⟨#[]⟩] w fun e w' => e = .returned (.bool false) ∧ Below w.heap.size w w'
    go_enter Tryz.func42, Tryz.ntmps42
    go_wp2
    go_ret
    exact ⟨rfl, Below.refl _ _⟩
  | cons c t =>
    have cC := prog_contains (c :: t) w
    have cL := prog_isLetter (c.toNat : Int) w
    have hne : (bL (c :: t)).toList.isEmpty = false := by rw [← decide_eq_emptyBytes]; exact decide_eq_false (fun h => by cases h)
    have hw : wrap32 (c.toNat : Int) = (c.toNat : Int) := by have := c.toNat_lt; unfold wrap32; omega
    have hz : (bL (c :: t)).size = t.length + 1 := bL_size _
    have hg : ∀ h : 0 < (bL (c :: t)).size, ((bL (c :: t))[0]'h) = c := fun h => rfl
    unfold nameL
    by_cases h12 : t.length + 1 ≤ 12
    · have g12 : ¬ (12 : Int) < ((bL (c :: t)).size : Int) := by omega
      have e12 : decide (1 ≤ (c :: t).length ∧ (c :: t).length ≤ 12) = true := decide_eq_true ⟨by simp, by simpa using h12⟩
      rw [e12, Bool.true_and]
      show Calls _ _ _ _ fun e w' => e = .returned (.bool (isLet c && _)) ∧ _
      have el : isLet c = decide (97 ≤ (c.toNat : Int) ∧ (c.toNat : Int) ≤ 122) := by unfold isLet; congr 1; simp; omega
      rw [← el] at cL
      clear el e12
      generalize (c :: t).all okC = A at *
      generalize bL (c :: t) = S at *
      cases hL : isLet c <;> rw [hL] at cL <;> clear hL
      · go_enter Tryz.func42, Tryz.ntmps42
        go_wp2_with (go_at_call 58; refine cL.mono ?_; rintro e w' ⟨rfl, rfl⟩)
        go_ret
        exact ⟨rfl, Below.refl _ _⟩
      · go_enter Tryz.func42, Tryz.ntmps42
        go_wp2_with (first | (go_at_call 58; refine cL.mono ?_; rintro e w' ⟨rfl, rfl⟩) | (go_at_call 59; refine cC.mono ?_; rintro e w' ⟨rfl, hB⟩))
        go_ret
        exact ⟨by simp, hB⟩
    · have g12 : (12 : Int) < ((bL (c :: t)).size : Int) := by omega
      have e12 : decide (1 ≤ (c :: t).length ∧ (c :: t).length ≤ 12) = false := decide_eq_false (fun h => h12 (by simpa using h.2))
      rw [e12, Bool.false_and, Bool.false_and]
      generalize bL (c :: t) = S at *
      go_enter Tryz.func42, Tryz.ntmps42
      go_wp2
      go_ret
      exact ⟨rfl, Below.refl _ _⟩
end Go.Proofs.YtfafkijcejbcpaaGreatDoor
