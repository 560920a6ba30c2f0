/- For whatever two ints, the law NumSigns returns true: less by less is more, and the sign of a number's other side is the other one but for nought and the least; no condition. -/
import Derived.Test.YtelaoblbbnbdpabRows
import Derived.Test.YtelaoblbbnbdpabNum
import Derived.WalkKit
import Derived.ProofKit
import Derived.OpenShut
namespace Go.Proofs.Ytelaoblbbnbdpab.numSigns
open Go.ChangeShapes Go.WideShapes Go.ChangeAt Go.RowKit
set_option linter.unusedVariables false      -- a walk need not use every 'w<i>' (that an integer argument fits its kind)

theorem own : ownKnob Try.prog.godebug = none := by kernel_rfl

theorem f1 : mulI (-3) (-4) = 12 := by unfold mulI wrap32; decide
theorem f2 : subI 0 (-2147483648) = -2147483648 := by unfold subI wrap32; decide
theorem g1 (a : Int) : (subI 0 (subI 0 a) == wrap32 a) = true := by
  simp only [subI, w_bmod, Int.bmod_sub_bmod, Int.sub_bmod_bmod, beq_iff_eq]; congr 1; omega
theorem g2 (a b : Int) : (mulI (subI 0 a) (subI 0 b) == mulI a b) = true := by
  simp only [subI, mulI, w_bmod, Int.bmod_sub_bmod, Int.sub_bmod_bmod, Int.bmod_mul_bmod, Int.mul_bmod_bmod, beq_iff_eq]; congr 1
  rw [Int.zero_sub, Int.zero_sub, Int.neg_mul_neg]
theorem g3 (a b : Int) : (subI 0 (addI a b) == addI (subI 0 a) (subI 0 b)) = true := by
  simp only [subI, addI, w_bmod, Int.bmod_sub_bmod, Int.sub_bmod_bmod, Int.bmod_add_bmod, Int.add_bmod_bmod, beq_iff_eq]; congr 1; omega
theorem g4 (a : Int) : (wrap32 a == 0) = true ∨ ((wrap32 a == 0) = false ∧ (wrap32 a == -2147483648) = true) ∨ ((wrap32 a == 0) = false ∧ (wrap32 a == -2147483648) = false ∧ (lessI a 0 != lessI (subI 0 a) 0) = true) := by
  by_cases h0 : wrap32 a = 0
  · left; simpa using h0
  · by_cases h1 : wrap32 a = -2147483648
    · right; left; exact ⟨by simpa using h0, by simpa using h1⟩
    · right; right
      refine ⟨by simpa using h0, by simpa using h1, ?_⟩
      have z : wrap32 0 = 0 := by unfold wrap32; decide
      have e : wrap32 (subI 0 a) = - wrap32 a := by
        unfold subI; rw [w_w, z, Int.zero_sub]; exact w_in _ (by have := wb a; omega)
      unfold lessI
      rw [e, z, bne_iff_ne]
      by_cases c : wrap32 a < 0
      · rw [if_pos c, if_neg (by omega)]; decide
      · rw [if_neg c, if_pos (by omega)]; decide
theorem minus (a : Int) (w : World) :
    Calls Try.prog 10 #[.int .i64 a] w fun e w' => e = .returned (.int .i64 (subI 0 a)) ∧ w' = w := by
  go_enter Try.func10, Try.ntmps10
  go_wp2_with (go_at_call 9; refine (num_sub _ _ _).mono ?_; rintro e w' ⟨rfl, rfl⟩)
  go_ret
  exact ⟨rfl, rfl⟩

/-! ### STEP 1: THE WALK: the Go text returns true. 'Grown w w'': the world has at most new blocks (Derived/RowKit3.lean). Part the cases AHEAD of 'go_enter' where a test parts the walk; take each callee by a contract of your own. -/
set_option maxHeartbeats 4000000 in
theorem walk (a0 : Int) (a1 : Int) (w0 : (Lit.int .i64 a0).wf = true) (w1 : (Lit.int .i64 a1).wf = true) (w : World) :
    Calls Try.prog 4 #[.int .i64 a0, .int .i64 a1] w fun e w' => e = .returned (.bool true) ∧ Grown w w' := by
  have f1 := f1
  have f2 := f2
  have h1 := g1 a0
  have h2 := g2 a0 a1
  have h3 := g3 a0 a1
  have h4 := g4 a0
  rcases h4 with t1 | ⟨t1, t2⟩ | ⟨t1, t2, t3⟩
  all_goals
    go_enter Try.func4, Try.ntmps4
    go_wp2_with (first | (go_at_call 10; refine (minus _ _).mono ?_; rintro e w' ⟨rfl, rfl⟩) | (go_at_call 11; refine (num_add _ _ _).mono ?_; rintro e w' ⟨rfl, rfl⟩) | (go_at_call 8; refine (num_mul _ _ _).mono ?_; rintro e w' ⟨rfl, rfl⟩) | (go_at_call 9; refine (num_sub _ _ _).mono ?_; rintro e w' ⟨rfl, rfl⟩) | (go_at_call 7; refine (num_wrap _ _).mono ?_; rintro e w' ⟨rfl, rfl⟩) | (go_at_call 6; refine (num_less _ _ _).mono ?_; rintro e w' ⟨rfl, rfl⟩))
    go_ret
    exact ⟨rfl, Grown.refl _⟩

/-! ### THE ROW's STEP: WRITTEN OUT: LEAVE IT -/
set_option maxRecDepth 100000 in
theorem lifted (os : Os) (started : os.Started) (H : Type) (enc : TypeId × Value → H) :
    ReturnsInHanded {} Try.checked os 4 .any (Rows.numSignsSpec.pre6 enc Try.prog Try.f4 Rows.numSignsRow.domain false) (Rows.numSignsSpec.post enc Try.prog Try.f4 false true false false) := by
  refine returnsInHanded_of_change (C := Try.checked) own started (by kernel_rfl) Try.func4
    (ChangeSpec.witness6 (enc := enc) (C := Try.checked) false ⟨#[], #[.int .i64 0, .int .i64 0], []⟩ 8 (by kernel_rfl) (by kernel_rfl) (by kernel_rfl) (by kernel_rfl)) ?_
  intro W base args ds gs before hval0 hW hcnd _
  have hval : ∀ (j : Nat) t v, Try.f4.params[j]? = some t → args[j]? = some v → Value.okWide Try.prog W .any base t v := hval0
  have hW' := hW
  obtain ⟨p, q, hA0, hV, rfl, hfz, hnd⟩ := hW
  have hA : DataW.TrodAll enc Try.prog W 0 (fun _ => true) true Try.f4.params.toList args.toList ds p := hA0
  rw [Try.params4] at hA hval
  obtain ⟨v0, vs0, d0, ds0, p0, q0, hargs, rfl, rfl, h0, r0⟩ := trodAll_cons hA
  obtain ⟨v1, vs1, d1, ds1, p1, q1, rfl, rfl, rfl, h1, r1⟩ := trodAll_cons r0
  obtain ⟨rfl, rfl, rfl⟩ := trodAll_nil r1
  obtain rfl : args = #[v0, v1] := by cases args; simp_all
  obtain ⟨rfl, rfl⟩ := trodVars_none hV
  obtain ⟨a0, rfl, rfl, rfl, w0⟩ := open_int Try.underlying3 (hval 0 3 v0 rfl rfl) h0
  obtain ⟨a1, rfl, rfl, rfl, w1⟩ := open_int Try.underlying3 (hval 1 3 v1 rfl rfl) h1
  clear hA0 hval0
  simp only [List.append_nil] at hW'
  refine (walk a0 a1 w0 w1 W).mono fun e W' ⟨he, hg⟩ => ?_
  subst he
  exact ⟨_, rfl, post_of_same (pa := []) (pv := []) hW' (fun _ _ _ => (trodAll_cons_mk (shut_bool Try.underlying4 _) trodAll_mk0)) (fun sp _ => (trodAll_cons_mk (shut_int Try.underlying3 w0) (trodAll_cons_mk (shut_int Try.underlying3 w1) trodAll_mk0))) (fun _ _ => rfl) rfl
    (hg.frame _) hg.2.1 (ok_one (by kernel_rfl) rfl (okWide_bool_mk Try.underlying4 _))⟩

theorem over : Rows.numSignsRow.holds Try.pinned (OpenSpec.ofChange Rows.numSignsSpec) :=
  OpenClaim.holds_of_wide 4 Try.f4 rfl rfl rfl rfl rfl rfl rfl ⟨rfl, rfl, rfl, rfl, rfl⟩ rfl rfl rfl rfl rfl (by kernel_rfl) Try.func4 (by kernel_rfl)
    (of_decide_eq_true (by kernel_rfl)) (by unfold Func.isWrapper; first | (rw [if_pos (by decide +kernel)]; kernel_rfl) | (rw [if_neg (by decide +kernel)]; exact ⟨rfl, rfl⟩))
    (fun os started H enc _ => lifted os started H enc)

/-- ████ THE STATEMENT ████ -/
theorem proved : Rows.NumSignsSaid :=
  over
#print axioms proved
end Go.Proofs.Ytelaoblbbnbdpab.numSigns
