/- For whatever three ints, the law NumRing returns true: sums and products wrapped to 32 bits make a ring, and what was added is taken off again; no condition. -/
import Derived.Test.YtelaoblbbnbdpaaRows
import Derived.Test.YtelaoblbbnbdpaaNum
import Derived.WalkKit
import Derived.ProofKit
import Derived.OpenShut
namespace Go.Proofs.Ytelaoblbbnbdpaa.numRing
open Go.ChangeShapes Go.WideShapes Go.ChangeAt Go.RowKit
set_option linter.unusedVariables false      -- a walk need not use every 'w<i>' (that an integer argument fits its kind)

theorem own : ownKnob Try.prog.godebug = none := by kernel_rfl

theorem r1 (a b : Int) : (addI a b == addI b a) = true := by simp [addI_w, Int.add_comm]
theorem r2 (a b c : Int) : (addI (addI a b) c == addI a (addI b c)) = true := by
  simp only [addI, w_bmod, Int.bmod_add_bmod, Int.add_bmod_bmod, Int.add_assoc, beq_self_eq_true]
theorem r3 (a b : Int) : (mulI a b == mulI b a) = true := by simp [mulI_w, Int.mul_comm]
theorem r4 (a b c : Int) : (mulI (mulI a b) c == mulI a (mulI b c)) = true := by
  simp only [mulI, w_bmod, Int.bmod_mul_bmod, Int.mul_bmod_bmod, Int.mul_assoc, beq_self_eq_true]
theorem r5 (a b c : Int) : (mulI a (addI b c) == addI (mulI a b) (mulI a c)) = true := by
  simp only [mulI, addI, w_bmod, Int.bmod_mul_bmod, Int.mul_bmod_bmod, Int.bmod_add_bmod, Int.add_bmod_bmod, beq_iff_eq]
  rw [Int.mul_add]
theorem r6 (a b : Int) : (subI (addI a b) b == wrap32 a) = true := by
  simp only [subI, addI, w_bmod, Int.bmod_add_bmod, Int.add_bmod_bmod, Int.bmod_sub_bmod, Int.sub_bmod_bmod, beq_iff_eq]
  congr 1; omega
theorem r7 (a b : Int) : (subI a b == addI a (mulI b (-1))) = true := by
  simp only [subI, addI, mulI, w_bmod, Int.bmod_mul_bmod, Int.mul_bmod_bmod, Int.bmod_add_bmod, Int.add_bmod_bmod, Int.bmod_sub_bmod, Int.sub_bmod_bmod, beq_iff_eq]
  congr 1; omega
theorem f1 : addI 2147483647 1 = -2147483648 := by unfold addI wrap32; decide
theorem f2 : mulI 65536 65536 = 0 := by unfold mulI wrap32; decide

/-! ### STEP 1: THE WALK: the Go text returns true. 'Grown w w'': the world has at most new blocks (Derived/RowKit3.lean). Part the cases AHEAD of 'go_enter' where a test parts the walk; take each callee by a contract of your own. -/
set_option maxHeartbeats 4000000 in
theorem walk (a0 : Int) (a1 : Int) (a2 : Int) (w0 : (Lit.int .i64 a0).wf = true) (w1 : (Lit.int .i64 a1).wf = true) (w2 : (Lit.int .i64 a2).wf = true) (w : World) :
    Calls Try.prog 6 #[.int .i64 a0, .int .i64 a1, .int .i64 a2] w fun e w' => e = .returned (.bool true) ∧ Grown w w' := by
  have f1 := f1
  have f2 := f2
  have h1 := r1 a0 a1
  have h2 := r2 a0 a1 a2
  have h3 := r3 a0 a1
  have h4 := r4 a0 a1 a2
  have h5 := r5 a0 a1 a2
  have h6 := r6 a0 a1
  have h7 := r7 a0 a1
  go_enter Try.func6, Try.ntmps6
  go_wp2_with (first | (go_at_call 12; refine (num_add _ _ _).mono ?_; rintro e w' ⟨rfl, rfl⟩) | (go_at_call 15; refine (num_mul _ _ _).mono ?_; rintro e w' ⟨rfl, rfl⟩) | (go_at_call 14; refine (num_sub _ _ _).mono ?_; rintro e w' ⟨rfl, rfl⟩) | (go_at_call 10; refine (num_wrap _ _).mono ?_; rintro e w' ⟨rfl, rfl⟩))
  go_ret
  exact ⟨rfl, Grown.refl _⟩

/-! ### THE ROW's STEP: WRITTEN OUT: LEAVE IT -/
set_option maxRecDepth 100000 in
theorem lifted (os : Os) (started : os.Started) (H : Type) (enc : TypeId × Value → H) :
    ReturnsInHanded {} Try.checked os 6 .any (Rows.numRingSpec.pre6 enc Try.prog Try.f6 Rows.numRingRow.domain false) (Rows.numRingSpec.post enc Try.prog Try.f6 false true false false) := by
  refine returnsInHanded_of_change (C := Try.checked) own started (by kernel_rfl) Try.func6
    (ChangeSpec.witness6 (enc := enc) (C := Try.checked) false ⟨#[], #[.int .i64 0, .int .i64 0, .int .i64 0], []⟩ 8 (by kernel_rfl) (by kernel_rfl) (by kernel_rfl) (by kernel_rfl)) ?_
  intro W base args ds gs before hval0 hW hcnd _
  have hval : ∀ (j : Nat) t v, Try.f6.params[j]? = some t → args[j]? = some v → Value.okWide Try.prog W .any base t v := hval0
  have hW' := hW
  obtain ⟨p, q, hA0, hV, rfl, hfz, hnd⟩ := hW
  have hA : DataW.TrodAll enc Try.prog W 0 (fun _ => true) true Try.f6.params.toList args.toList ds p := hA0
  rw [Try.params6] at hA hval
  obtain ⟨v0, vs0, d0, ds0, p0, q0, hargs, rfl, rfl, h0, r0⟩ := trodAll_cons hA
  obtain ⟨v1, vs1, d1, ds1, p1, q1, rfl, rfl, rfl, h1, r1⟩ := trodAll_cons r0
  obtain ⟨v2, vs2, d2, ds2, p2, q2, rfl, rfl, rfl, h2, r2⟩ := trodAll_cons r1
  obtain ⟨rfl, rfl, rfl⟩ := trodAll_nil r2
  obtain rfl : args = #[v0, v1, v2] := by cases args; simp_all
  obtain ⟨rfl, rfl⟩ := trodVars_none hV
  obtain ⟨a0, rfl, rfl, rfl, w0⟩ := open_int Try.underlying3 (hval 0 3 v0 rfl rfl) h0
  obtain ⟨a1, rfl, rfl, rfl, w1⟩ := open_int Try.underlying3 (hval 1 3 v1 rfl rfl) h1
  obtain ⟨a2, rfl, rfl, rfl, w2⟩ := open_int Try.underlying3 (hval 2 3 v2 rfl rfl) h2
  clear hA0 hval0
  simp only [List.append_nil] at hW'
  refine (walk a0 a1 a2 w0 w1 w2 W).mono fun e W' ⟨he, hg⟩ => ?_
  subst he
  exact ⟨_, rfl, post_of_same (pa := []) (pv := []) hW' (fun _ _ _ => (trodAll_cons_mk (shut_bool Try.underlying4 _) trodAll_mk0)) (fun sp _ => (trodAll_cons_mk (shut_int Try.underlying3 w0) (trodAll_cons_mk (shut_int Try.underlying3 w1) (trodAll_cons_mk (shut_int Try.underlying3 w2) trodAll_mk0)))) (fun _ _ => rfl) rfl
    (hg.frame _) hg.2.1 (ok_one (by kernel_rfl) rfl (okWide_bool_mk Try.underlying4 _))⟩

theorem over : Rows.numRingRow.holds Try.pinned (OpenSpec.ofChange Rows.numRingSpec) :=
  OpenClaim.holds_of_wide 6 Try.f6 rfl rfl rfl rfl rfl rfl rfl ⟨rfl, rfl, rfl, rfl, rfl⟩ rfl rfl rfl rfl rfl (by kernel_rfl) Try.func6 (by kernel_rfl)
    (of_decide_eq_true (by kernel_rfl)) (by unfold Func.isWrapper; first | (rw [if_pos (by decide +kernel)]; kernel_rfl) | (rw [if_neg (by decide +kernel)]; exact ⟨rfl, rfl⟩))
    (fun os started H enc _ => lifted os started H enc)

/-- ████ THE STATEMENT ████ -/
theorem proved : Rows.NumRingSaid :=
  over
#print axioms proved
end Go.Proofs.Ytelaoblbbnbdpaa.numRing
