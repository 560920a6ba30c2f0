/- For whatever two ints, the law NumDivides returns true: Euclid's division of numbers of 32 bits, the rest smaller than the divisor and of the dividend's sign; no condition. -/
import Derived.Test.YtelaoblbbnbdpaaRows
import Derived.Test.YtelaoblbbnbdpaaNum
import Derived.WalkKit
import Derived.ProofKit
import Derived.OpenShut
namespace Go.Proofs.Ytelaoblbbnbdpaa.numDivides
open Go.ChangeShapes Go.WideShapes Go.ChangeAt Go.RowKit
set_option linter.unusedVariables false      -- a walk need not use every 'w<i>' (that an integer argument fits its kind)

theorem own : ownKnob Try.prog.godebug = none := by kernel_rfl

theorem f1 : divI (-7) 2 = -3 := by unfold divI wrap32; decide
theorem f2 : divE 2 = 0 := by unfold divE wrap32; decide
theorem rest_b (A B : Int) (hA : -2147483648 ≤ A ∧ A ≤ 2147483647) (hB : -2147483648 ≤ B ∧ B ≤ 2147483647) (hb : ¬ B = 0) (hm : ¬ (A = -2147483648 ∧ B = -1)) :
    divE B = 0 ∧ (-2147483648 ≤ divI A B * B ∧ divI A B * B ≤ 2147483648) ∧ (A - divI A B * B = 0 ∨ (A - divI A B * B < 0 ∧ A < 0) ∨ (0 < A - divI A B * B ∧ 0 < A)) ∧
    (0 < B → -B < A - divI A B * B ∧ A - divI A B * B < B) ∧ (B < 0 → B < A - divI A B * B ∧ A - divI A B * B < -B) := by
  have e1 : divE B = 0 := by unfold divE; rw [w_in B hB, if_neg hb]
  have bn : B.natAbs ≠ 0 := by omega
  have n1 : (A.tdiv B).natAbs = A.natAbs / B.natAbs := Int.natAbs_tdiv A B
  have e2 : divI A B = A.tdiv B := by
    unfold divI; rw [w_in B hB, w_in A hA, if_neg hb]
    have d := div_b A B hA
    apply w_in
    refine ⟨d.1, ?_⟩
    by_cases c : B.natAbs = 1
    · by_cases c1 : B = 1
      · rw [c1, Int.tdiv_one]; omega
      · obtain rfl : B = -1 := by omega
        have := Int.tdiv_neg (a := A) (b := 1)
        rw [Int.tdiv_one] at this
        omega
    · have := Nat.div_le_div_left (a := A.natAbs) (show 2 ≤ B.natAbs by omega) (by omega)
      omega
  rw [e2]
  have e3 : A - A.tdiv B * B = A.tmod B := by have := Int.tmod_add_tdiv_mul A B; omega
  have m1 : (A.tmod B).natAbs = A.natAbs % B.natAbs := Int.natAbs_tmod A B
  have m2 := Nat.mod_lt A.natAbs (show B.natAbs > 0 by omega)
  have m3 := Nat.mod_le A.natAbs B.natAbs
  have s1 : 0 ≤ A → 0 ≤ A.tmod B := fun h => Int.tmod_nonneg B h
  have s2 : A ≤ 0 → A.tmod B ≤ 0 := by
    intro h
    have := Int.tmod_nonneg B (a := -A) (by omega)
    rw [Int.neg_tmod] at this
    omega
  rw [e3]
  refine ⟨e1, by omega, by omega, fun _ => by omega, fun _ => by omega⟩

/-! ### STEP 1: THE WALK: the Go text returns true. 'Grown w w'': the world has at most new blocks (Derived/RowKit3.lean). Part the cases AHEAD of 'go_enter' where a test parts the walk; take each callee by a contract of your own. -/
set_option maxHeartbeats 4000000 in
theorem walk (a0 : Int) (a1 : Int) (w0 : (Lit.int .i64 a0).wf = true) (w1 : (Lit.int .i64 a1).wf = true) (w : World) :
    Calls Try.prog 8 #[.int .i64 a0, .int .i64 a1] w fun e w' => e = .returned (.bool true) ∧ Grown w w' := by
  have b0 := bounds_i64 w0
  have b1 := bounds_i64 w1
  have f1 := f1
  have f2 := f2
  by_cases hb : wrap32 a1 = 0
  · have g1 : divI (wrap32 a0) (wrap32 a1) = 0 := by unfold divI; rw [w_w, hb]; rfl
    have g2 : divE (wrap32 a1) = 14 := by unfold divE; rw [w_w, hb]; rfl
    rw [hb] at g1 g2
    go_enter Try.func8, Try.ntmps8
    go_wp2_with (first | (go_at_call 10; refine (num_wrap _ _).mono ?_; rintro e w' ⟨rfl, rfl⟩) | (go_at_call 17; refine (num_div _ _ _).mono ?_; rintro e w' ⟨rfl, rfl⟩))
    go_ret
    exact ⟨rfl, Grown.refl _⟩
  · by_cases hm : wrap32 a0 = -2147483648 ∧ wrap32 a1 = -1
    · obtain ⟨m0, m1⟩ := hm
      have g1 : divI (-2147483648) (-1) = -2147483648 := by unfold divI wrap32; decide
      have g2 : divE (-1) = 0 := by unfold divE wrap32; decide
      clear hb
      go_enter Try.func8, Try.ntmps8
      go_wp2_with (first | (go_at_call 10; refine (num_wrap _ _).mono ?_; rintro e w' ⟨rfl, rfl⟩) | (go_at_call 17; refine (num_div _ _ _).mono ?_; rintro e w' ⟨rfl, rfl⟩))
      go_ret
      exact ⟨rfl, Grown.refl _⟩
    · obtain ⟨g1, g2, g3, g4, g5⟩ := rest_b _ _ (wb a0) (wb a1) hb hm
      have h0 := wb a0
      have h1 := wb a1
      have hm2 : (wrap32 a0 == -2147483648) = false ∨ ((wrap32 a0 == -2147483648) = true ∧ (wrap32 a1 == -1) = false) := by
        simp only [beq_iff_eq, beq_eq_false_iff_ne, ne_eq]; omega
      have hb2 : (wrap32 a1 == 0) = false := by simpa using hb
      have hs : (0 < wrap32 a1) ∨ (wrap32 a1 < 0) := by omega
      have g3' : (wrap32 a0 - divI (wrap32 a0) (wrap32 a1) * wrap32 a1 = 0) ∨ ((wrap32 a0 - divI (wrap32 a0) (wrap32 a1) * wrap32 a1 == 0) = false ∧ wrap32 a0 - divI (wrap32 a0) (wrap32 a1) * wrap32 a1 < 0 ∧ wrap32 a0 < 0) ∨ ((wrap32 a0 - divI (wrap32 a0) (wrap32 a1) * wrap32 a1 == 0) = false ∧ 0 < wrap32 a0 - divI (wrap32 a0) (wrap32 a1) * wrap32 a1 ∧ decide (wrap32 a0 - divI (wrap32 a0) (wrap32 a1) * wrap32 a1 < 0) = false ∧ decide (wrap32 a0 < 0) = false) := by
        simp only [beq_eq_false_iff_ne, ne_eq, decide_eq_false_iff_not]; omega
      have g45 : (0 < wrap32 a1 ∧ -wrap32 a1 < wrap32 a0 - divI (wrap32 a0) (wrap32 a1) * wrap32 a1 ∧ wrap32 a0 - divI (wrap32 a0) (wrap32 a1) * wrap32 a1 < wrap32 a1) ∨ (wrap32 a1 < 0 ∧ wrap32 a1 < wrap32 a0 - divI (wrap32 a0) (wrap32 a1) * wrap32 a1 ∧ wrap32 a0 - divI (wrap32 a0) (wrap32 a1) * wrap32 a1 < - wrap32 a1) := by omega
      clear hm g3 g4 g5 hs hb b0 b1 w0 w1
      rcases hm2 with t1 | ⟨t1, t2⟩ <;> rcases g3' with u1 | ⟨u1, u2, u3⟩ | ⟨u1, u2, u3, u4⟩ <;> rcases g45 with ⟨v1, v2, v3⟩ | ⟨v1, v2, v3⟩
      all_goals
        go_enter Try.func8, Try.ntmps8
        go_wp2_with (first | (go_at_call 10; refine (num_wrap _ _).mono ?_; rintro e w' ⟨rfl, rfl⟩) | (go_at_call 17; refine (num_div _ _ _).mono ?_; rintro e w' ⟨rfl, rfl⟩))
        go_ret
        exact ⟨rfl, Grown.refl _⟩

/-! ### THE ROW's STEP: WRITTEN OUT: LEAVE IT -/
set_option maxRecDepth 100000 in
theorem lifted (os : Os) (started : os.Started) (H : Type) (enc : TypeId × Value → H) :
    ReturnsInHanded {} Try.checked os 8 .any (Rows.numDividesSpec.pre6 enc Try.prog Try.f8 Rows.numDividesRow.domain false) (Rows.numDividesSpec.post enc Try.prog Try.f8 false true false false) := by
  refine returnsInHanded_of_change (C := Try.checked) own started (by kernel_rfl) Try.func8
    (ChangeSpec.witness6 (enc := enc) (C := Try.checked) false ⟨#[], #[.int .i64 0, .int .i64 0], []⟩ 8 (by kernel_rfl) (by kernel_rfl) (by kernel_rfl) (by kernel_rfl)) ?_
  intro W base args ds gs before hval0 hW hcnd _
  have hval : ∀ (j : Nat) t v, Try.f8.params[j]? = some t → args[j]? = some v → Value.okWide Try.prog W .any base t v := hval0
  have hW' := hW
  obtain ⟨p, q, hA0, hV, rfl, hfz, hnd⟩ := hW
  have hA : DataW.TrodAll enc Try.prog W 0 (fun _ => true) true Try.f8.params.toList args.toList ds p := hA0
  rw [Try.params8] at hA hval
  obtain ⟨v0, vs0, d0, ds0, p0, q0, hargs, rfl, rfl, h0, r0⟩ := trodAll_cons hA
  obtain ⟨v1, vs1, d1, ds1, p1, q1, rfl, rfl, rfl, h1, r1⟩ := trodAll_cons r0
  obtain ⟨rfl, rfl, rfl⟩ := trodAll_nil r1
  obtain rfl : args = #[v0, v1] := by cases args; simp_all
  obtain ⟨rfl, rfl⟩ := trodVars_none hV
  obtain ⟨a0, rfl, rfl, rfl, w0⟩ := open_int Try.underlying3 (hval 0 3 v0 rfl rfl) h0
  obtain ⟨a1, rfl, rfl, rfl, w1⟩ := open_int Try.underlying3 (hval 1 3 v1 rfl rfl) h1
  clear hA0 hval0
  simp only [List.append_nil] at hW'
  refine (walk a0 a1 w0 w1 W).mono fun e W' ⟨he, hg⟩ => ?_
  subst he
  exact ⟨_, rfl, post_of_same (pa := []) (pv := []) hW' (fun _ _ _ => (trodAll_cons_mk (shut_bool Try.underlying4 _) trodAll_mk0)) (fun sp _ => (trodAll_cons_mk (shut_int Try.underlying3 w0) (trodAll_cons_mk (shut_int Try.underlying3 w1) trodAll_mk0))) (fun _ _ => rfl) rfl
    (hg.frame _) hg.2.1 (ok_one (by kernel_rfl) rfl (okWide_bool_mk Try.underlying4 _))⟩

theorem over : Rows.numDividesRow.holds Try.pinned (OpenSpec.ofChange Rows.numDividesSpec) :=
  OpenClaim.holds_of_wide 8 Try.f8 rfl rfl rfl rfl rfl rfl rfl ⟨rfl, rfl, rfl, rfl, rfl⟩ rfl rfl rfl rfl rfl (by kernel_rfl) Try.func8 (by kernel_rfl)
    (of_decide_eq_true (by kernel_rfl)) (by unfold Func.isWrapper; first | (rw [if_pos (by decide +kernel)]; kernel_rfl) | (rw [if_neg (by decide +kernel)]; exact ⟨rfl, rfl⟩))
    (fun os started H enc _ => lifted os started H enc)

/-- ████ THE STATEMENT ████ -/
theorem proved : Rows.NumDividesSaid :=
  over
#print axioms proved
end Go.Proofs.Ytelaoblbbnbdpaa.numDivides
