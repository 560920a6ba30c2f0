/- custodiankeep.named: which registers an instruction names. -/
import Derived.Test.YthapfaohnliklaaDoorRows
import Derived.Test.YthapfaohnliklaaDoorBits
import Derived.Test.YthapfaohnliklaaDoorKeyPure
import Derived.Test.YthapfaohnliklaaDoorInstDev
import Derived.Test.YthapfaohnliklaaDoorMachArg
import Derived.Test.YthapfaohnliklaaDoorStepMid2
import Derived.Test.YthapfaohnliklaaDoorStepApart
import Derived.WalkKit
import Derived.ProofKit
import Derived.WalkLawsBesides
namespace Go.Proofs.YthapfaohnliklaaDoor
open Go.ChangeShapes Go.WideShapes Go.ChangeAt Go.RowKit
set_option linter.unusedSimpArgs false
set_option linter.unusedVariables false
set_option maxRecDepth 100000
set_option maxHeartbeats 1000000 in
theorem keep_named (i : ID) (r : Nat) (w : World) (hr : r < 8) :
    Calls Tryd.prog 13 #[.agg #[.int .i64 i.o, .int .i64 i.a, .int .i64 i.b, .int .i64 i.c], .int .i64 (r : Int)] w fun e w' => e = .returned (.bool (namedB i r)) ∧ Below w.heap.size w w' := by
  obtain ⟨o, a, b, c, e⟩ := i
  have gm : min r 64 = r := by omega
  have hB : Below w.heap.size w (w.alloc (.cells #[.int .i64 o, .int .i64 a, .int .i64 b, .int .i64 c] 37)) := (Below.refl _ _).alloc (Nat.le_refl _) _
  obtain ⟨A, hA⟩ : ∃ A, ((r : Int) == a) = A := ⟨_, rfl⟩
  obtain ⟨B, hBb⟩ : ∃ B, ((r : Int) == b) = B := ⟨_, rfl⟩
  obtain ⟨C, hC⟩ : ∃ C, ((r : Int) == c) = C := ⟨_, rfl⟩
  obtain ⟨D, hD⟩ : ∃ D, (bits .and .i64 (c / 2 ^ r) 1 == 1) = D := ⟨_, rfl⟩
  have hD' : bitC c r = D := hD
  obtain ⟨V, hV⟩ : ∃ V, namedB ⟨o, a, b, c, e⟩ r = V := ⟨_, rfl⟩
  rw [hV]
  unfold namedB at hV
  dsimp only at hV
  rw [hA, hBb, hC, hD'] at hV
  clear hD'
  by_cases h0 : o = 18
  · have g0 : (o == 18) = true := by simpa using h0
    subst h0
    simp at hV
    subst hV
    all_goals (go_enter Tryd.func13, Tryd.ntmps13; go_wp2; go_ret; exact ⟨rfl, hB⟩)
  · skip
    by_cases h1 : o = 19
    · have g1 : (o == 19) = true := by simpa using h1
      have g0 : (o == 18) = false := by simpa using h0
      subst h1
      simp at hV
      clear h0
      subst hV
      all_goals (go_enter Tryd.func13, Tryd.ntmps13; go_wp2; go_ret; exact ⟨rfl, hB⟩)
    · skip
      by_cases h2 : o = 21
      · have g2 : (o == 21) = true := by simpa using h2
        have g0 : (o == 18) = false := by simpa using h0
        have g1 : (o == 19) = false := by simpa using h1
        subst h2
        simp at hV
        clear h0 h1
        subst hV
        all_goals (go_enter Tryd.func13, Tryd.ntmps13; go_wp2; go_ret; exact ⟨rfl, hB⟩)
      · skip
        by_cases h3 : o = 3
        · have g3 : (o == 3) = true := by simpa using h3
          have g0 : (o == 18) = false := by simpa using h0
          have g1 : (o == 19) = false := by simpa using h1
          have g2 : (o == 21) = false := by simpa using h2
          subst h3
          simp at hV
          clear h0 h1 h2
          subst hV
          cases A <;> cases B <;> cases C
          all_goals (go_enter Tryd.func13, Tryd.ntmps13; go_wp2; go_ret; exact ⟨rfl, hB⟩)
        · skip
          by_cases h4 : o = 4
          · have g4 : (o == 4) = true := by simpa using h4
            have g0 : (o == 18) = false := by simpa using h0
            have g1 : (o == 19) = false := by simpa using h1
            have g2 : (o == 21) = false := by simpa using h2
            have g3 : (o == 3) = false := by simpa using h3
            subst h4
            simp at hV
            clear h0 h1 h2 h3
            subst hV
            cases A <;> cases B <;> cases C
            all_goals (go_enter Tryd.func13, Tryd.ntmps13; go_wp2; go_ret; exact ⟨rfl, hB⟩)
          · skip
            by_cases h5 : o = 5
            · have g5 : (o == 5) = true := by simpa using h5
              have g0 : (o == 18) = false := by simpa using h0
              have g1 : (o == 19) = false := by simpa using h1
              have g2 : (o == 21) = false := by simpa using h2
              have g3 : (o == 3) = false := by simpa using h3
              have g4 : (o == 4) = false := by simpa using h4
              subst h5
              simp at hV
              clear h0 h1 h2 h3 h4
              subst hV
              cases A <;> cases B <;> cases C
              all_goals (go_enter Tryd.func13, Tryd.ntmps13; go_wp2; go_ret; exact ⟨rfl, hB⟩)
            · skip
              by_cases h6 : o = 6
              · have g6 : (o == 6) = true := by simpa using h6
                have g0 : (o == 18) = false := by simpa using h0
                have g1 : (o == 19) = false := by simpa using h1
                have g2 : (o == 21) = false := by simpa using h2
                have g3 : (o == 3) = false := by simpa using h3
                have g4 : (o == 4) = false := by simpa using h4
                have g5 : (o == 5) = false := by simpa using h5
                subst h6
                simp at hV
                clear h0 h1 h2 h3 h4 h5
                subst hV
                cases A <;> cases B <;> cases C
                all_goals (go_enter Tryd.func13, Tryd.ntmps13; go_wp2; go_ret; exact ⟨rfl, hB⟩)
              · skip
                by_cases h7 : o = 7
                · have g7 : (o == 7) = true := by simpa using h7
                  have g0 : (o == 18) = false := by simpa using h0
                  have g1 : (o == 19) = false := by simpa using h1
                  have g2 : (o == 21) = false := by simpa using h2
                  have g3 : (o == 3) = false := by simpa using h3
                  have g4 : (o == 4) = false := by simpa using h4
                  have g5 : (o == 5) = false := by simpa using h5
                  have g6 : (o == 6) = false := by simpa using h6
                  subst h7
                  simp at hV
                  clear h0 h1 h2 h3 h4 h5 h6
                  subst hV
                  cases A <;> cases B <;> cases C
                  all_goals (go_enter Tryd.func13, Tryd.ntmps13; go_wp2; go_ret; exact ⟨rfl, hB⟩)
                · skip
                  by_cases h8 : o = 12
                  · have g8 : (o == 12) = true := by simpa using h8
                    have g0 : (o == 18) = false := by simpa using h0
                    have g1 : (o == 19) = false := by simpa using h1
                    have g2 : (o == 21) = false := by simpa using h2
                    have g3 : (o == 3) = false := by simpa using h3
                    have g4 : (o == 4) = false := by simpa using h4
                    have g5 : (o == 5) = false := by simpa using h5
                    have g6 : (o == 6) = false := by simpa using h6
                    have g7 : (o == 7) = false := by simpa using h7
                    subst h8
                    simp at hV
                    clear h0 h1 h2 h3 h4 h5 h6 h7
                    subst hV
                    cases A <;> cases B <;> cases C
                    all_goals (go_enter Tryd.func13, Tryd.ntmps13; go_wp2; go_ret; exact ⟨rfl, hB⟩)
                  · skip
                    by_cases h9 : o = 13
                    · have g9 : (o == 13) = true := by simpa using h9
                      have g0 : (o == 18) = false := by simpa using h0
                      have g1 : (o == 19) = false := by simpa using h1
                      have g2 : (o == 21) = false := by simpa using h2
                      have g3 : (o == 3) = false := by simpa using h3
                      have g4 : (o == 4) = false := by simpa using h4
                      have g5 : (o == 5) = false := by simpa using h5
                      have g6 : (o == 6) = false := by simpa using h6
                      have g7 : (o == 7) = false := by simpa using h7
                      have g8 : (o == 12) = false := by simpa using h8
                      subst h9
                      simp at hV
                      clear h0 h1 h2 h3 h4 h5 h6 h7 h8
                      subst hV
                      cases A <;> cases B <;> cases C
                      all_goals (go_enter Tryd.func13, Tryd.ntmps13; go_wp2; go_ret; exact ⟨rfl, hB⟩)
                    · skip
                      by_cases h10 : o = 15
                      · have g10 : (o == 15) = true := by simpa using h10
                        have g0 : (o == 18) = false := by simpa using h0
                        have g1 : (o == 19) = false := by simpa using h1
                        have g2 : (o == 21) = false := by simpa using h2
                        have g3 : (o == 3) = false := by simpa using h3
                        have g4 : (o == 4) = false := by simpa using h4
                        have g5 : (o == 5) = false := by simpa using h5
                        have g6 : (o == 6) = false := by simpa using h6
                        have g7 : (o == 7) = false := by simpa using h7
                        have g8 : (o == 12) = false := by simpa using h8
                        have g9 : (o == 13) = false := by simpa using h9
                        subst h10
                        simp at hV
                        clear h0 h1 h2 h3 h4 h5 h6 h7 h8 h9
                        subst hV
                        cases A <;> cases B <;> cases C
                        all_goals (go_enter Tryd.func13, Tryd.ntmps13; go_wp2; go_ret; exact ⟨rfl, hB⟩)
                      · skip
                        by_cases h11 : o = 16
                        · have g11 : (o == 16) = true := by simpa using h11
                          have g0 : (o == 18) = false := by simpa using h0
                          have g1 : (o == 19) = false := by simpa using h1
                          have g2 : (o == 21) = false := by simpa using h2
                          have g3 : (o == 3) = false := by simpa using h3
                          have g4 : (o == 4) = false := by simpa using h4
                          have g5 : (o == 5) = false := by simpa using h5
                          have g6 : (o == 6) = false := by simpa using h6
                          have g7 : (o == 7) = false := by simpa using h7
                          have g8 : (o == 12) = false := by simpa using h8
                          have g9 : (o == 13) = false := by simpa using h9
                          have g10 : (o == 15) = false := by simpa using h10
                          subst h11
                          simp at hV
                          clear h0 h1 h2 h3 h4 h5 h6 h7 h8 h9 h10
                          subst hV
                          cases A <;> cases B <;> cases C
                          all_goals (go_enter Tryd.func13, Tryd.ntmps13; go_wp2; go_ret; exact ⟨rfl, hB⟩)
                        · skip
                          have g0 : (o == 18) = false := by simpa using h0
                          have g1 : (o == 19) = false := by simpa using h1
                          have g2 : (o == 21) = false := by simpa using h2
                          have g3 : (o == 3) = false := by simpa using h3
                          have g4 : (o == 4) = false := by simpa using h4
                          have g5 : (o == 5) = false := by simpa using h5
                          have g6 : (o == 6) = false := by simpa using h6
                          have g7 : (o == 7) = false := by simpa using h7
                          have g8 : (o == 12) = false := by simpa using h8
                          have g9 : (o == 13) = false := by simpa using h9
                          have g10 : (o == 15) = false := by simpa using h10
                          have g11 : (o == 16) = false := by simpa using h11
                          simp [h0, h1, h2, h3, h4, h5, h6, h7, h8, h9, h10, h11] at hV
                          subst hV
                          clear h0 h1 h2 h3 h4 h5 h6 h7 h8 h9 h10 h11
                          cases A <;> cases B
                          all_goals (go_enter Tryd.func13, Tryd.ntmps13; go_wp2; go_ret; exact ⟨rfl, hB⟩)
end Go.Proofs.YthapfaohnliklaaDoor
