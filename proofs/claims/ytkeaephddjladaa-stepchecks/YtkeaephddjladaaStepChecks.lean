/- Chapter 9, P18: Check answers what the document says of a machine, for every machine; nothing that was in memory is turned. -/
import Derived.Test.YtkeaephddjladaaRows
import Derived.Test.YtkeaephddjladaaKeyArg
import Derived.Test.YtkeaephddjladaaMachArg
import Derived.Carry
import Derived.Test.YtkeaephddjladaaKeyPure
import Derived.Test.YtkeaephddjladaaCellPure
import Derived.Test.YtkeaephddjladaaMemPure
import Derived.Test.YtkeaephddjladaaStepChk
import Derived.Test.YtkeaephddjladaaStepChk2
import Derived.Test.YtkeaephddjladaaStepChkRef
import Derived.Test.YtkeaephddjladaaQuietM
import Derived.WalkKit
import Derived.ProofKit
import Derived.OpenShut
namespace Go.Proofs.Ytkeaephddjladaa.stepChecks
open Go.ChangeShapes Go.WideShapes Go.ChangeAt Go.RowKit
set_option linter.unusedVariables false
set_option linter.unusedSimpArgs false

theorem own : ownKnob Try.prog.godebug = none := by kernel_rfl
theorem laidOut : laidOutB Try.prog = true := by kernel_rfl

def x401 : MC := ⟨[nil0, nil0, nil0, nil0, nil0, nil0, nil0, nil0], ⟨0, 0, 401, 0, 0⟩, [], [], []⟩
def q401 : MA := ⟨none, 0, none, 0, none, 0⟩
theorem nil_ok : mvOk nil0 := by
  show vb 0 0 0 0 0 0
  unfold vb kb
  decide
theorem ok401 : McOk x401 q401 := by
  have h0 : mvsOk [nil0, nil0, nil0, nil0, nil0, nil0, nil0, nil0] := fun v hv => by
    simp only [List.mem_cons, List.not_mem_nil, or_false, or_self] at hv
    rw [hv]
    exact nil_ok
  refine ⟨rfl, h0, ?_, (fun v hv => by cases hv), (fun v hv => by cases hv), (fun v hv => by cases hv), Nat.zero_le _, Nat.zero_le _, Nat.zero_le _, Nat.zero_le _, Nat.zero_le _, Nat.zero_le _⟩
  show kb 0 0 401 0 0
  unfold kb
  decide
theorem e401 : mcE x401 = 1 := by
  have h1 : chkL x401.r = 0 := by
    rw [chkL_all]
    intro v hv
    simp only [x401, List.mem_cons, List.not_mem_nil, or_false, or_self] at hv
    rw [hv]
    decide
  have h2 : chk5 x401.k = 1 := chk_no (fun h => by have := ok5_lit (k := x401.k) h; simp [x401] at this)
  unfold mcE
  rw [if_pos h1, if_neg (by rw [h2]; decide), h2]
theorem c401 (w : World) : Calls Try.prog 4 #[.agg #[.bool false, .int .i64 0, .int .i64 0, .int .i64 0, .int .i64 0, .int .i64 0, .int .i64 0, .bool false, .int .i64 0, .int .i64 0, .int .i64 0, .int .i64 0, .int .i64 0, .int .i64 0, .bool false, .int .i64 0, .int .i64 0, .int .i64 0, .int .i64 0, .int .i64 0, .int .i64 0, .bool false, .int .i64 0, .int .i64 0, .int .i64 0, .int .i64 0, .int .i64 0, .int .i64 0, .bool false, .int .i64 0, .int .i64 0, .int .i64 0, .int .i64 0, .int .i64 0, .int .i64 0, .bool false, .int .i64 0, .int .i64 0, .int .i64 0, .int .i64 0, .int .i64 0, .int .i64 0, .bool false, .int .i64 0, .int .i64 0, .int .i64 0, .int .i64 0, .int .i64 0, .int .i64 0, .bool false, .int .i64 0, .int .i64 0, .int .i64 0, .int .i64 0, .int .i64 0, .int .i64 0, .int .i64 0, .int .i64 0, .int .i64 401, .int .i64 0, .int .i64 0, .slice none 0 0, .slice none 0 0, .slice none 0 0]] w fun e w' => e = .returned (.int .i64 1) ∧ Below w.heap.size w w' := by
  have := step_check x401 q401 w ⟨.inl rfl, .inl rfl, .inl rfl⟩ ok401
  rw [e401] at this
  exact this
set_option maxHeartbeats 4000000 in
set_option maxRecDepth 1000000 in
theorem walk (x0 : MC) (q0 : MA) (O0 : McOk x0 q0) (w : World) (A0 : McAt w x0 q0) :
    Calls Try.prog 3 #[.agg (mcC x0 q0).toArray] w fun e w' => e = .returned (.bool true) ∧ Below w.heap.size w w' := by
  have cA := fun w hA => step_check x0 q0 w hA O0
  have cR := fun w hA => ref_stepcheck x0 q0 w hA O0
  have zM := (mc_cells x0 q0 O0.r8).size
  have HA : Hid (∀ w', Below w.heap.size w w' → McAt w' x0 q0) := fun w' hb => A0.below hb
  have gE : (mcE x0 == mcE x0) = true := by simp
  generalize mcE x0 = E at *
  generalize (mcC x0 q0).toArray = M at *
  have hI : (Try.prog.info? 31).map (·.size) = some M.size := by rw [zM]; kernel_rfl
  have HI : Hid ((Try.prog.info? 31).map (·.size) = some M.size) := hI
  have hC0 : ∀ w', Cls w [(w.heap.size, M)] w' → Box w' w.heap.size M := fun w' h => h.2 (w.heap.size, M) (by simp)
  have HC : Cls w [(w.heap.size, M)] (w.alloc (.cells M 31)) := by
    refine ⟨(Below.refl _ _).alloc (Nat.le_refl _) _, fun x hx => ?_⟩
    simp only [List.mem_cons, List.not_mem_nil, or_false] at hx
    rw [hx]
    exact Box.new _ _ _
  have hE : ∀ p : Prop, (∀ w', Cls w [(w.heap.size, M)] w' → p) ↔ p := fun p => ⟨fun h => h _ HC, fun h _ _ => h⟩
  clear A0 zM hI
  go_enter Try.func3, Try.ntmps3
  go_wp2
  refine wp_region_quiet (C := Cls w [(w.heap.size, M)]) (by kernel_rfl) (by kernel_rfl) (Cls.drew HC) ?_
  (with_reducible refine at_quiet ?_; refine quiet_load_row rfl 31 _ rfl _ rfl M _ Try.underlying31 rfl HI.out hC0 ?_; (try simp only [Act.put, List.getElem_toArray, List.getElem_cons_zero, List.getElem_cons_succ, List.setIfInBounds_toArray, List.set_cons_zero, List.set_cons_succ]))
  go_big_quiet_step ((intro h0; go_at_call 4; refine (cA _ (HA.out _ h0.1)).mono ?_; rintro e w1 ⟨rfl, hbb⟩; exact ⟨rfl, h0.step hbb⟩))
  (with_reducible refine at_quiet ?_; refine quiet_load_row rfl 31 _ rfl _ rfl M _ Try.underlying31 rfl HI.out hC0 ?_; (try simp only [Act.put, List.getElem_toArray, List.getElem_cons_zero, List.getElem_cons_succ, List.setIfInBounds_toArray, List.set_cons_zero, List.set_cons_succ]))
  go_big_quiet_step ((intro h0; go_at_call 5; refine (cR _ (HA.out _ h0.1)).mono ?_; rintro e w1 ⟨rfl, hbb⟩; exact ⟨rfl, h0.step hbb⟩))
  go_big_quiet_step (fail)
  go_big_quiet_step (fail)
  go_big_quiet_step (fail)
  go_big_quiet_step (fail)
  go_big_quiet_step ((intro h0; go_at_call 4; refine (c401 _).mono ?_; rintro e w1 ⟨rfl, hbb⟩; exact ⟨rfl, h0.step hbb⟩))
  go_big_quiet_step (fail)
  go_big_quiet_step (fail)
  go_big_quiet_step (fail)
  refine wpQuiet_nil ?_
  intro w1 h1
  go_wp2
  go_ret
  exact ⟨rfl, h1.1⟩

set_option maxRecDepth 100000 in
theorem lifted (os : Os) (started : os.Started) (H : Type) (enc : TypeId × Value → H) :
    ReturnsInHanded {} Try.checked os 3 .any (Rows.stepChecksSpec.pre6 enc Try.prog Try.f3 Rows.stepChecksRow.domain false) (Rows.stepChecksSpec.post enc Try.prog Try.f3 false true false false) := by
  refine returnsInHanded_of_change (C := Try.checked) own started (by kernel_rfl) Try.func3
    (ChangeSpec.witness6 (enc := enc) (C := Try.checked) false ⟨#[], #[.agg #[.bool false, .int .i64 0, .int .i64 0, .int .i64 0, .int .i64 0, .int .i64 0, .int .i64 0, .bool false, .int .i64 0, .int .i64 0, .int .i64 0, .int .i64 0, .int .i64 0, .int .i64 0, .bool false, .int .i64 0, .int .i64 0, .int .i64 0, .int .i64 0, .int .i64 0, .int .i64 0, .bool false, .int .i64 0, .int .i64 0, .int .i64 0, .int .i64 0, .int .i64 0, .int .i64 0, .bool false, .int .i64 0, .int .i64 0, .int .i64 0, .int .i64 0, .int .i64 0, .int .i64 0, .bool false, .int .i64 0, .int .i64 0, .int .i64 0, .int .i64 0, .int .i64 0, .int .i64 0, .bool false, .int .i64 0, .int .i64 0, .int .i64 0, .int .i64 0, .int .i64 0, .int .i64 0, .bool false, .int .i64 0, .int .i64 0, .int .i64 0, .int .i64 0, .int .i64 0, .int .i64 0, .int .i64 0, .int .i64 0, .int .i64 0, .int .i64 0, .int .i64 0, .slice none 0 0, .slice none 0 0, .slice none 0 0]], []⟩ 8 (by kernel_rfl) (by kernel_rfl) (by kernel_rfl) (by kernel_rfl)) ?_
  intro W base args ds gs before hval0 hW hcnd _
  have hval : ∀ (j : Nat) t v, Try.f3.params[j]? = some t → args[j]? = some v → Value.okWide Try.prog W .any base t v := hval0
  have hW' := hW
  obtain ⟨p, q, hA0, hV, rfl, hfz, hnd⟩ := hW
  have hA : DataW.TrodAll enc Try.prog W 0 (fun _ => true) true Try.f3.params.toList args.toList ds p := hA0
  rw [Try.params3] at hA hval
  obtain ⟨v0, vs0, d0, ds0, p0, q0, hargs, rfl, rfl, h0, r0⟩ := trodAll_cons hA
  obtain ⟨rfl, rfl, rfl⟩ := trodAll_nil r0
  obtain rfl : args = #[v0] := by cases args; simp_all
  obtain ⟨rfl, rfl⟩ := trodVars_none hV
  have k0 := h0
  have lt0 : ∀ x ∈ p0, x.block < W.heap.size := by obtain ⟨m, hm⟩ := k0; exact DataW.trod_lt m _ _ _ hm
  obtain ⟨x0, q0, rfl, O0, A0⟩ := open_mach (hval 0 31 v0 rfl rfl) k0
  clear hA0 hval0
  refine (walk x0 q0 O0 W A0).mono fun e W' ⟨he, bel⟩ => ?_
  subst he
  exact ⟨_, rfl, _, _, _, [], _, [], hW', trodAll_mk1 (shut_bool Try.underlying4 _), (trodAll_cons_mk (Below.trod laidOut (by kernel_rfl) (of_decide_eq_true (by kernel_rfl)) k0 bel lt0) trodAll_mk0), rfl, bel.frame _, fun h => by cases h⟩

theorem over : Rows.stepChecksRow.holds Try.pinned (OpenSpec.ofChange Rows.stepChecksSpec) :=
  OpenClaim.holds_of_wide 3 Try.f3 rfl rfl rfl rfl rfl rfl rfl ⟨rfl, rfl, rfl, rfl, rfl⟩ rfl rfl rfl rfl rfl (by kernel_rfl) Try.func3 (by kernel_rfl)
    (of_decide_eq_true (by kernel_rfl)) (by unfold Func.isWrapper; first | (rw [if_pos (by decide +kernel)]; kernel_rfl) | (rw [if_neg (by decide +kernel)]; exact ⟨rfl, rfl⟩))
    (fun os started H enc _ => lifted os started H enc)

theorem proved : Rows.StepChecksSaid :=
  over
#print axioms proved
end Go.Proofs.Ytkeaephddjladaa.stepChecks
