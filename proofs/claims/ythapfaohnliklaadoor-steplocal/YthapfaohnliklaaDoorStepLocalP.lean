/- Plain: a register that an instruction does not name is of no matter, and stays. custodiankeep.named: which registers an instruction names. A box that holds a whole machine: one of its registers is stored, and read. -/
import Derived.Test.YthapfaohnliklaaDoorRows
import Derived.Test.YthapfaohnliklaaDoorBits
import Derived.Test.YthapfaohnliklaaDoorKeyPure
import Derived.Test.YthapfaohnliklaaDoorCellPure
import Derived.Test.YthapfaohnliklaaDoorValsArg
import Derived.Test.YthapfaohnliklaaDoorMemPure
import Derived.Test.YthapfaohnliklaaDoorNum
import Derived.Test.YthapfaohnliklaaDoorInstDev
import Derived.Test.YthapfaohnliklaaDoorMachArg
import Derived.Test.YthapfaohnliklaaDoorStepChk
import Derived.Test.YthapfaohnliklaaDoorStepSmall
import Derived.Test.YthapfaohnliklaaDoorStepMid
import Derived.Test.YthapfaohnliklaaDoorStepMid2
import Derived.Test.YthapfaohnliklaaDoorStepBack
import Derived.Test.YthapfaohnliklaaDoorStepCall
import Derived.Test.YthapfaohnliklaaDoorStepFetch
import Derived.Test.YthapfaohnliklaaDoorStepAct
import Derived.Test.YthapfaohnliklaaDoorStepActs
import Derived.Test.YthapfaohnliklaaDoorStepStep
import Derived.Test.YthapfaohnliklaaDoorStepTop
import Derived.Test.YthapfaohnliklaaDoorStepKeep
import Derived.Test.YthapfaohnliklaaDoorKeepOp
import Derived.WalkKit
import Derived.ProofKit
import Derived.WalkLawsBesides
import Derived.Test.YthapfaohnliklaaDoorStepOff
import Derived.Test.YthapfaohnliklaaDoorStepOwn
import Derived.Test.YthapfaohnliklaaDoorRangeW
import Derived.Test.YthapfaohnliklaaDoorInMid
import Derived.Deep.MidRow
namespace Go.Proofs.YthapfaohnliklaaDoor
section
open Go.RowKit
set_option linter.unusedVariables false

/-- The same, with register r another one. -/
def AR.putA (A : AR) (r : Nat) (v : MV) : AR := match A with
  | .no t => .no t
  | .ok x n => .ok (putR x r v) n
/-- Is register r named? -/
def namedB (i : ID) (r : Nat) : Bool :=
  if i.o = 18 ∨ i.o = 19 then true
  else if i.o = 21 then bitC i.c r
  else if i.o = 3 ∨ i.o = 4 ∨ i.o = 5 ∨ i.o = 6 ∨ i.o = 7 ∨ i.o = 12 ∨ i.o = 13 ∨ i.o = 15 ∨ i.o = 16 then ((r : Int) == i.a || (r : Int) == i.b || (r : Int) == i.c)
  else ((r : Int) == i.a || (r : Int) == i.b)
section
variable {x : MC} {r : Nat} {v : MV}
theorem reg_put {a : Int} (ha : 0 ≤ a) (h : ¬ (r : Int) = a) : reg (putR x r v) a = reg x a := by
  unfold reg putR
  dsimp only
  rw [List.getD_eq_getElem?_getD, List.getD_eq_getElem?_getD, List.getElem?_set_ne (by omega)]
theorem put_put {a : Nat} {u : MV} (h : ¬ r = a) : putR (putR x r v) a u = putR (putR x a u) r v := by
  unfold putR
  dsimp only
  rw [List.set_comm _ _ h]
theorem key_put {a : Int} {K : KK} {n : K5} (h : ¬ r = a.toNat) : keyR (putR x r v) a K n = (keyR x a K n).putA r v := by
  unfold keyR
  split
  · rw [put_put h]; rfl
  · rfl
theorem calc_put {i : ID} {n : K5} {b c : MV} (h : ¬ r = i.a.toNat) : calcR (putR x r v) i n b c = (calcR x i n b c).putA r v := by
  unfold calcR
  split
  · rfl
  · split
    · rfl
    · split
      · rfl
      · rw [put_put h]; rfl
theorem jump_put {i : ID} {n : K5} : jumpR (putR x r v) i n = (jumpR x i n).putA r v := by
  unfold jumpR
  show (if 0 ≤ x.k.a + i.c ∧ x.k.a + i.c ≤ 400 then AR.ok (putR x r v) { n with a := x.k.a + i.c } else .no (.e 13)) = _
  split <;> rfl
theorem clr_put {c : Int} (h : bitC c r = false) (l : List MV) (k : Nat) : clrN c (l.set r v) k = (clrN c l k).set r v := by
  induction k with
  | zero => rfl
  | succ k ih =>
    unfold clrN
    rw [ih]
    split
    · rename_i hb
      rw [List.set_comm _ _ (fun e => by subst e; rw [h] at hb; cases hb)]
    · rfl
/-- What an instruction does, with a register that it does not name another one. -/
theorem act_local {i : ID} {n : K5} (hi : okI i) (hn : namedB i r = false) : actR (putR x r v) i n = (actR x i n).putA r v := by
  obtain ⟨⟨o1, o2⟩, a1, a2, b1, b2, c1, c2⟩ := chkD_ok hi
  obtain ⟨c3, -, -⟩ := okI_c hi
  obtain ⟨O, hO⟩ := Int.eq_ofNat_of_zero_le o1
  have hO23 : O = 0 ∨ O = 1 ∨ O = 2 ∨ O = 3 ∨ O = 4 ∨ O = 5 ∨ O = 6 ∨ O = 7 ∨ O = 8 ∨ O = 9 ∨ O = 10 ∨ O = 11 ∨ O = 12 ∨ O = 13 ∨ O = 14 ∨ O = 15 ∨ O = 16 ∨ O = 17 ∨ O = 18 ∨ O = 19 ∨ O = 20 ∨ O = 21 ∨ O = 22 := by omega
  unfold namedB at hn
  unfold actR
  rw [hO, Int.toNat_natCast]
  rw [hO] at hn c3
  rcases hO23 with rfl | rfl | rfl | rfl | rfl | rfl | rfl | rfl | rfl | rfl | rfl | rfl | rfl | rfl | rfl | rfl | rfl | rfl | rfl | rfl | rfl | rfl | rfl
  all_goals simp only
  all_goals first
    | (exfalso; simp at hn; done)
    | (have hc : bitC i.c r = false := by simpa using hn
       show AR.ok { putR x r v with r := clrN i.c (x.r.set r v) 8 } n = _
       rw [clr_put hc]
       rfl)
    | (obtain ⟨⟨ha, hb⟩, hc⟩ : (¬ (r : Int) = i.a ∧ ¬ (r : Int) = i.b) ∧ ¬ (r : Int) = i.c := by simpa [not_or] using hn
       have hcc := c3 (by omega)
       rw [reg_put b1 hb, reg_put hcc.1 hc]
       first
         | exact calc_put (by omega)
         | (split
            · split
              · first | rfl | exact key_put (by omega)
              · first | rfl | exact key_put (by omega)
            · rfl))
    | (obtain ⟨ha, hb⟩ : ¬ (r : Int) = i.a ∧ ¬ (r : Int) = i.b := by simpa [not_or] using hn
       have ra : reg (putR x r v) i.a = reg x i.a := reg_put a1 ha
       have rb : reg (putR x r v) i.b = reg x i.b := reg_put b1 hb
       have na : ¬ r = i.a.toNat := by omega
       try rw [ra]
       try rw [rb]
       try rw [show (putR x r v).m = x.m from rfl]
       try rw [show (putR x r v).s = x.s from rfl]
       try rw [show (putR x r v).o = x.o from rfl]
       try rw [show (putR x r v).k = x.k from rfl]
       first
         | rfl
         | exact jump_put
         | (rw [put_put na]; rfl)
         | (split <;> first | rfl | exact key_put na | (split <;> first | rfl | exact jump_put | (rw [put_put na]; rfl)) | (rw [put_put na]; rfl)))
theorem fet_put : fetI (putR x r v) = fetI x := rfl
theorem step_put (hi : okI (insAt x)) (hf : fetI x = 0) (hn : namedB (insAt x) r = false) : stepA (putR x r v) = (stepA x).putA r v := by
  unfold stepA
  rw [fet_put, if_pos hf, if_pos hf]
  exact act_local hi hn
/-- P19: what is not named is of no matter, and stays. -/
theorem step_local (h8 : x.r.length = 8) (hE : stpE x = 0) (hE' : mcE (putR x r v) = 0) (hn : namedB (opI x) r = false) : stpE (putR x r v) = 0 ∧ stpM (putR x r v) = putR (stpM x) r v := by
  obtain ⟨hG, hf, hi, x', n', -, hM, hA⟩ := step_eff h8 hE
  rw [opI_fet hG hf] at hn
  have h1 := step_put (v := v) hi hf hn
  rw [hA] at h1
  unfold stpE stpM
  rw [if_pos hE', if_pos hE', h1, if_pos hG.e, hA]
  exact ⟨rfl, rfl⟩
end
end
section
open Go.ChangeShapes Go.WideShapes Go.ChangeAt Go.RowKit
set_option linter.unusedSimpArgs false
set_option linter.unusedVariables false
set_option maxRecDepth 100000
set_option maxHeartbeats 1000000 in
theorem keep_named (i : ID) (r : Nat) (w : World) (hr : r < 8) :
    Calls Tryd.prog 13 #[.agg #[.int .i64 i.o, .int .i64 i.a, .int .i64 i.b, .int .i64 i.c], .int .i64 (r : Int)] w fun e w' => e = .returned (.bool (namedB i r)) ∧ Below w.heap.size w w' := by
  obtain ⟨o, a, b, c, e⟩ := i
  have gm : min r 64 = r := by omega
  have hB : Below w.heap.size w (w.alloc (.cells #[.int .i64 o, .int .i64 a, .int .i64 b, .int .i64 c] 37)) := (Below.refl _ _).alloc (Nat.le_refl _) _
  obtain ⟨A, hA⟩ : ∃ A, ((r : Int) == a) = A := ⟨_, rfl⟩
  obtain ⟨B, hBb⟩ : ∃ B, ((r : Int) == b) = B := ⟨_, rfl⟩
  obtain ⟨C, hC⟩ : ∃ C, ((r : Int) == c) = C := ⟨_, rfl⟩
  obtain ⟨D, hD⟩ : ∃ D, (bits .and .i64 (c / 2 ^ r) 1 == 1) = D := ⟨_, rfl⟩
  have hD' : bitC c r = D := hD
  obtain ⟨V, hV⟩ : ∃ V, namedB ⟨o, a, b, c, e⟩ r = V := ⟨_, rfl⟩
  rw [hV]
  unfold namedB at hV
  dsimp only at hV
  rw [hA, hBb, hC, hD'] at hV
  clear hD'
  by_cases h0 : o = 18
  · have g0 : (o == 18) = true := by simpa using h0
    subst h0
    simp at hV
    subst hV
    all_goals (go_enter Tryd.func13, Tryd.ntmps13; go_wp2; go_ret; exact ⟨rfl, hB⟩)
  · skip
    by_cases h1 : o = 19
    · have g1 : (o == 19) = true := by simpa using h1
      have g0 : (o == 18) = false := by simpa using h0
      subst h1
      simp at hV
      clear h0
      subst hV
      all_goals (go_enter Tryd.func13, Tryd.ntmps13; go_wp2; go_ret; exact ⟨rfl, hB⟩)
    · skip
      by_cases h2 : o = 21
      · have g2 : (o == 21) = true := by simpa using h2
        have g0 : (o == 18) = false := by simpa using h0
        have g1 : (o == 19) = false := by simpa using h1
        subst h2
        simp at hV
        clear h0 h1
        subst hV
        all_goals (go_enter Tryd.func13, Tryd.ntmps13; go_wp2; go_ret; exact ⟨rfl, hB⟩)
      · skip
        by_cases h3 : o = 3
        · have g3 : (o == 3) = true := by simpa using h3
          have g0 : (o == 18) = false := by simpa using h0
          have g1 : (o == 19) = false := by simpa using h1
          have g2 : (o == 21) = false := by simpa using h2
          subst h3
          simp at hV
          clear h0 h1 h2
          subst hV
          cases A <;> cases B <;> cases C
          all_goals (go_enter Tryd.func13, Tryd.ntmps13; go_wp2; go_ret; exact ⟨rfl, hB⟩)
        · skip
          by_cases h4 : o = 4
          · have g4 : (o == 4) = true := by simpa using h4
            have g0 : (o == 18) = false := by simpa using h0
            have g1 : (o == 19) = false := by simpa using h1
            have g2 : (o == 21) = false := by simpa using h2
            have g3 : (o == 3) = false := by simpa using h3
            subst h4
            simp at hV
            clear h0 h1 h2 h3
            subst hV
            cases A <;> cases B <;> cases C
            all_goals (go_enter Tryd.func13, Tryd.ntmps13; go_wp2; go_ret; exact ⟨rfl, hB⟩)
          · skip
            by_cases h5 : o = 5
            · have g5 : (o == 5) = true := by simpa using h5
              have g0 : (o == 18) = false := by simpa using h0
              have g1 : (o == 19) = false := by simpa using h1
              have g2 : (o == 21) = false := by simpa using h2
              have g3 : (o == 3) = false := by simpa using h3
              have g4 : (o == 4) = false := by simpa using h4
              subst h5
              simp at hV
              clear h0 h1 h2 h3 h4
              subst hV
              cases A <;> cases B <;> cases C
              all_goals (go_enter Tryd.func13, Tryd.ntmps13; go_wp2; go_ret; exact ⟨rfl, hB⟩)
            · skip
              by_cases h6 : o = 6
              · have g6 : (o == 6) = true := by simpa using h6
                have g0 : (o == 18) = false := by simpa using h0
                have g1 : (o == 19) = false := by simpa using h1
                have g2 : (o == 21) = false := by simpa using h2
                have g3 : (o == 3) = false := by simpa using h3
                have g4 : (o == 4) = false := by simpa using h4
                have g5 : (o == 5) = false := by simpa using h5
                subst h6
                simp at hV
                clear h0 h1 h2 h3 h4 h5
                subst hV
                cases A <;> cases B <;> cases C
                all_goals (go_enter Tryd.func13, Tryd.ntmps13; go_wp2; go_ret; exact ⟨rfl, hB⟩)
              · skip
                by_cases h7 : o = 7
                · have g7 : (o == 7) = true := by simpa using h7
                  have g0 : (o == 18) = false := by simpa using h0
                  have g1 : (o == 19) = false := by simpa using h1
                  have g2 : (o == 21) = false := by simpa using h2
                  have g3 : (o == 3) = false := by simpa using h3
                  have g4 : (o == 4) = false := by simpa using h4
                  have g5 : (o == 5) = false := by simpa using h5
                  have g6 : (o == 6) = false := by simpa using h6
                  subst h7
                  simp at hV
                  clear h0 h1 h2 h3 h4 h5 h6
                  subst hV
                  cases A <;> cases B <;> cases C
                  all_goals (go_enter Tryd.func13, Tryd.ntmps13; go_wp2; go_ret; exact ⟨rfl, hB⟩)
                · skip
                  by_cases h8 : o = 12
                  · have g8 : (o == 12) = true := by simpa using h8
                    have g0 : (o == 18) = false := by simpa using h0
                    have g1 : (o == 19) = false := by simpa using h1
                    have g2 : (o == 21) = false := by simpa using h2
                    have g3 : (o == 3) = false := by simpa using h3
                    have g4 : (o == 4) = false := by simpa using h4
                    have g5 : (o == 5) = false := by simpa using h5
                    have g6 : (o == 6) = false := by simpa using h6
                    have g7 : (o == 7) = false := by simpa using h7
                    subst h8
                    simp at hV
                    clear h0 h1 h2 h3 h4 h5 h6 h7
                    subst hV
                    cases A <;> cases B <;> cases C
                    all_goals (go_enter Tryd.func13, Tryd.ntmps13; go_wp2; go_ret; exact ⟨rfl, hB⟩)
                  · skip
                    by_cases h9 : o = 13
                    · have g9 : (o == 13) = true := by simpa using h9
                      have g0 : (o == 18) = false := by simpa using h0
                      have g1 : (o == 19) = false := by simpa using h1
                      have g2 : (o == 21) = false := by simpa using h2
                      have g3 : (o == 3) = false := by simpa using h3
                      have g4 : (o == 4) = false := by simpa using h4
                      have g5 : (o == 5) = false := by simpa using h5
                      have g6 : (o == 6) = false := by simpa using h6
                      have g7 : (o == 7) = false := by simpa using h7
                      have g8 : (o == 12) = false := by simpa using h8
                      subst h9
                      simp at hV
                      clear h0 h1 h2 h3 h4 h5 h6 h7 h8
                      subst hV
                      cases A <;> cases B <;> cases C
                      all_goals (go_enter Tryd.func13, Tryd.ntmps13; go_wp2; go_ret; exact ⟨rfl, hB⟩)
                    · skip
                      by_cases h10 : o = 15
                      · have g10 : (o == 15) = true := by simpa using h10
                        have g0 : (o == 18) = false := by simpa using h0
                        have g1 : (o == 19) = false := by simpa using h1
                        have g2 : (o == 21) = false := by simpa using h2
                        have g3 : (o == 3) = false := by simpa using h3
                        have g4 : (o == 4) = false := by simpa using h4
                        have g5 : (o == 5) = false := by simpa using h5
                        have g6 : (o == 6) = false := by simpa using h6
                        have g7 : (o == 7) = false := by simpa using h7
                        have g8 : (o == 12) = false := by simpa using h8
                        have g9 : (o == 13) = false := by simpa using h9
                        subst h10
                        simp at hV
                        clear h0 h1 h2 h3 h4 h5 h6 h7 h8 h9
                        subst hV
                        cases A <;> cases B <;> cases C
                        all_goals (go_enter Tryd.func13, Tryd.ntmps13; go_wp2; go_ret; exact ⟨rfl, hB⟩)
                      · skip
                        by_cases h11 : o = 16
                        · have g11 : (o == 16) = true := by simpa using h11
                          have g0 : (o == 18) = false := by simpa using h0
                          have g1 : (o == 19) = false := by simpa using h1
                          have g2 : (o == 21) = false := by simpa using h2
                          have g3 : (o == 3) = false := by simpa using h3
                          have g4 : (o == 4) = false := by simpa using h4
                          have g5 : (o == 5) = false := by simpa using h5
                          have g6 : (o == 6) = false := by simpa using h6
                          have g7 : (o == 7) = false := by simpa using h7
                          have g8 : (o == 12) = false := by simpa using h8
                          have g9 : (o == 13) = false := by simpa using h9
                          have g10 : (o == 15) = false := by simpa using h10
                          subst h11
                          simp at hV
                          clear h0 h1 h2 h3 h4 h5 h6 h7 h8 h9 h10
                          subst hV
                          cases A <;> cases B <;> cases C
                          all_goals (go_enter Tryd.func13, Tryd.ntmps13; go_wp2; go_ret; exact ⟨rfl, hB⟩)
                        · skip
                          have g0 : (o == 18) = false := by simpa using h0
                          have g1 : (o == 19) = false := by simpa using h1
                          have g2 : (o == 21) = false := by simpa using h2
                          have g3 : (o == 3) = false := by simpa using h3
                          have g4 : (o == 4) = false := by simpa using h4
                          have g5 : (o == 5) = false := by simpa using h5
                          have g6 : (o == 6) = false := by simpa using h6
                          have g7 : (o == 7) = false := by simpa using h7
                          have g8 : (o == 12) = false := by simpa using h8
                          have g9 : (o == 13) = false := by simpa using h9
                          have g10 : (o == 15) = false := by simpa using h10
                          have g11 : (o == 16) = false := by simpa using h11
                          simp [h0, h1, h2, h3, h4, h5, h6, h7, h8, h9, h10, h11] at hV
                          subst hV
                          clear h0 h1 h2 h3 h4 h5 h6 h7 h8 h9 h10 h11
                          cases A <;> cases B
                          all_goals (go_enter Tryd.func13, Tryd.ntmps13; go_wp2; go_ret; exact ⟨rfl, hB⟩)
end
section
open Go.ChangeShapes Go.WideShapes Go.ChangeAt Go.RowKit
set_option linter.unusedSimpArgs false
set_option linter.unusedVariables false
set_option maxRecDepth 100000

theorem set_regM (x : MC) (q : MA) (k : Nat) (v : MV) (h8 : x.r.length = 8) (hk : k < 8) :
    ((((((((mcC x q).set (k * 7) (.bool v.i)).set (k * 7 + 1) (.int .i64 v.n)).set (k * 7 + 2) (.int .i64 v.p)).set (k * 7 + 3) (.int .i64 v.b)).set (k * 7 + 4) (.int .i64 v.l)).set (k * 7 + 5) (.int .i64 v.a)).set (k * 7 + 6) (.int .i64 v.s)) = mcC (putR x k v) q := by
  have hl : (x.r.flatMap mvC).length = 56 := by rw [mv_len, h8]
  have e := set_flatM x.r k v (by omega)
  unfold mcC mcT putR
  rw [← e]
  have hs : ∀ (A B : List Value) (j : Nat) (u : Value), j < A.length → (A ++ B).set j u = A.set j u ++ B := fun A B j u hj => List.set_append_left _ _ hj
  rw [hs _ _ _ _ (by omega), hs _ _ _ _ (by rw [List.length_set]; omega), hs _ _ _ _ (by simp only [List.length_set]; omega), hs _ _ _ _ (by simp only [List.length_set]; omega), hs _ _ _ _ (by simp only [List.length_set]; omega), hs _ _ _ _ (by simp only [List.length_set]; omega), hs _ _ _ _ (by simp only [List.length_set]; omega)]
theorem put_r8 {x : MC} {k : Nat} {v : MV} (h8 : x.r.length = 8) : (putR x k v).r.length = 8 := by
  unfold putR
  rw [List.length_set]
  exact h8
theorem mc_len64 {x : MC} {q : MA} (h8 : x.r.length = 8) : (mcC x q).length = 64 := by
  unfold mcC
  rw [List.length_append, mv_len, h8]
  rfl
section
variable {w : World} {S : Nat} {x : MC} {q : MA} {k : Nat}
theorem box_put (h : Box w S (mcC x q).toArray) (h8 : x.r.length = 8) (hk : k < 8) (u : MV) : Box (w.setCells S (k * 7) (mvC u)) S (mcC (putR x k u) q).toArray := by
  have hl := mc_len64 (q := q) h8
  have b := ((((((h.setL (v := .bool u.i) (j := k * 7) (by omega)).setL (v := .int .i64 u.n) (j := k * 7 + 1) (by simp only [List.length_set]; omega)).setL (v := .int .i64 u.p) (j := k * 7 + 2) (by simp only [List.length_set]; omega)).setL (v := .int .i64 u.b) (j := k * 7 + 3) (by simp only [List.length_set]; omega)).setL (v := .int .i64 u.l) (j := k * 7 + 4) (by simp only [List.length_set]; omega)).setL (v := .int .i64 u.a) (j := k * 7 + 5) (by simp only [List.length_set]; omega)).setL (v := .int .i64 u.s) (j := k * 7 + 6) (by simp only [List.length_set]; omega)
  rw [set_regM x q k u h8 hk] at b
  exact b
theorem box_reg {v : MV} (h : Box w S (mcC x q).toArray) (h8 : x.r.length = 8) (hv : x.r[k]? = some v) : At7 w S (k * 7) v := by
  have hk : k < 8 := by have := (List.getElem?_eq_some_iff.1 hv).1; omega
  have hl : (x.r.flatMap mvC).length = 56 := by rw [mv_len, h8]
  have g : ∀ j u, j < 7 → (mvC v)[j]? = some u → w.cell? ⟨S, k * 7 + j, none⟩ = some u := fun j u hj hu => by
    rw [h.cell, List.getElem?_toArray]
    unfold mcC
    rw [List.getElem?_append_left (by omega), mv_cell x.r k v j hv hj]
    exact hu
  exact ⟨g 0 _ (by omega) rfl, g 1 _ (by omega) rfl, g 2 _ (by omega) rfl, g 3 _ (by omega) rfl, g 4 _ (by omega) rfl, g 5 _ (by omega) rfl, g 6 _ (by omega) rfl⟩
theorem info_val7 : (Tryd.prog.info? 25).map (·.size) = some 7 := by kernel_rfl
theorem val_one (v : MV) : ∀ u ∈ mvC v, u.oneCell' = true := by
  intro u hu
  simp only [mvC, List.mem_cons, List.not_mem_nil, or_false] at hu
  rcases hu with rfl | rfl | rfl | rfl | rfl | rfl | rfl <;> rfl
/-- A register is stored, by a plain statement. -/
theorem pl_store_reg {ops : Array Oper} {rest : List Oper} {o : Oper} {a : Act} {Q : Exit → Act → World → Prop} (hg : o.guard = none) (y z : Operand) (ho : o.op = .store 25 y z) (u : MV)
    (hy : a.eval y = .pointer (some ⟨S, k * 7, none⟩)) (hz : a.eval z = .agg (mvC u).toArray) (hb : Box w S (mcC x q).toArray) (h8 : x.r.length = 8) (hk : k < 8)
    (h : ∀ W, Off S w W → Box W S (mcC (putR x k u) q).toArray → wpList Tryd.prog ops Q rest (a.put o.dst undef) W) : wpList Tryd.prog ops Q (o :: rest) a w := by
  have hl := mc_len64 (q := q) h8
  have ht : w.there S (k * 7) (mvC u).toArray.size := fun j hj => by
    have hj7 : j < 7 := hj
    rw [hb.cell]
    exact ⟨by rw [List.getElem?_toArray, List.getElem?_eq_getElem (by omega)]; rfl, hb.free _⟩
  exact wpList_plain hg fun _ hK => wp_store_mid _ y z ho S (k * 7) (mvC u).toArray hy hz ht (by rw [info_val7]; rfl) (all_oneCell_toArray (val_one u)) (hK _ _ (h _ (Off.cells S (mvC u) (k * 7) w (Off.refl S w) (.inl rfl)) (box_put hb h8 hk u)))
end
end
end Go.Proofs.YthapfaohnliklaaDoor
