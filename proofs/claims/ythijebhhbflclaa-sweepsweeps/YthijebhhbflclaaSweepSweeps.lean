/- Chapter 12, P25: Sweep and Has answer what the document says, for every machine. -/
import Derived.Test.YthijebhhbflclaaRows
import Derived.Test.YthijebhhbflclaaKeyArg
import Derived.Test.YthijebhhbflclaaMachArg
import Derived.Carry
import Derived.Test.YthijebhhbflclaaKeyPure
import Derived.Test.YthijebhhbflclaaMachArg
import Derived.Test.YthijebhhbflclaaStepChk
import Derived.Test.YthijebhhbflclaaStepChk2
import Derived.Test.YthijebhhbflclaaMachMid
import Derived.Test.YthijebhhbflclaaSweepPure
import Derived.Test.YthijebhhbflclaaRowApp
import Derived.Test.YthijebhhbflclaaMachSet
import Derived.Test.YthijebhhbflclaaSweepTop
import Derived.Test.YthijebhhbflclaaSweepHasT
import Derived.Test.YthijebhhbflclaaSweepRef1
import Derived.Test.YthijebhhbflclaaSweepRef2
import Derived.Test.YthijebhhbflclaaEqSame
import Derived.Test.YthijebhhbflclaaEqMach
import Derived.WalkKit
import Derived.ProofKit
import Derived.OpenShut
namespace Go.Proofs.Ythijebhhbflclaa.sweepSweeps
open Go.ChangeShapes Go.WideShapes Go.ChangeAt Go.RowKit
set_option linter.unusedVariables false
set_option linter.unusedSimpArgs false

theorem own : ownKnob Try.prog.godebug = none := by kernel_rfl
theorem laidOut : laidOutB Try.prog = true := by kernel_rfl

theorem has40 (W : World) :
    Calls Try.prog 10 #[.agg #[.bool false, .int .i64 0, .int .i64 0, .int .i64 0, .int .i64 0, .int .i64 0, .int .i64 0, .bool false, .int .i64 0, .int .i64 0, .int .i64 0, .int .i64 0, .int .i64 0, .int .i64 0, .bool false, .int .i64 0, .int .i64 0, .int .i64 0, .int .i64 0, .int .i64 0, .int .i64 0, .bool false, .int .i64 0, .int .i64 0, .int .i64 0, .int .i64 0, .int .i64 0, .int .i64 0, .bool false, .int .i64 0, .int .i64 0, .int .i64 0, .int .i64 0, .int .i64 0, .int .i64 0, .bool false, .int .i64 0, .int .i64 0, .int .i64 0, .int .i64 0, .int .i64 0, .int .i64 0, .bool false, .int .i64 0, .int .i64 0, .int .i64 0, .int .i64 0, .int .i64 0, .int .i64 0, .bool false, .int .i64 0, .int .i64 0, .int .i64 0, .int .i64 0, .int .i64 0, .int .i64 0, .int .i64 0, .int .i64 0, .int .i64 0, .int .i64 0, .int .i64 0, .slice none 0 0, .slice none 0 0, .slice none 0 0], .int .i64 (-1), .int .i64 0] W fun e w' => e = .returned (.tuple #[.bool false, .int .i64 1]) ∧ Below W.heap.size W w' := by
  have h := sweep_has zeroM zeroA (-1) 0 W ⟨.inl rfl, .inl rfl, .inl rfl, Nat.le_refl _⟩ zeroM_b (by decide) (by decide)
  refine h.mono ?_
  rintro e w' ⟨rfl, hB⟩
  have e1 : swN (-1) 0 zeroM = 0 := by decide +kernel
  have e2 : swE (-1) 0 zeroM = 1 := by decide +kernel
  rw [e1, e2]
  exact ⟨rfl, hB⟩
set_option maxHeartbeats 4000000 in
set_option maxRecDepth 1000000 in
theorem walk (x0 : MC) (q0 : MA) (a1 : Int) (a2 : Int) (O0 : McOk x0 q0) (b1 : -9223372036854775808 ≤ a1 ∧ a1 ≤ 9223372036854775807) (b2 : -9223372036854775808 ≤ a2 ∧ a2 ≤ 9223372036854775807) (w : World) (A0 : McAt w x0 q0) :
    Calls Try.prog 3 #[.agg (mcC x0 q0).toArray, .int .i64 a1, .int .i64 a2] w fun e w' => e = .returned (.bool true) ∧ Below w.heap.size w w' := by
  have hi0 : (Try.prog.info? 31).map (·.size) = some (mcC x0 q0).length := mach_info O0.r8
  have HA : Hid (∀ w', Below w.heap.size w w' → McAt w' x0 q0) := fun w' hb => A0.below hb
  have bM := Box.new w (mcC x0 q0).toArray 31
  have hB : Below w.heap.size w (w.alloc (.cells (mcC x0 q0).toArray 31)) := (Below.refl _ _).alloc (Nat.le_refl _) _
  have lm : x0.m.length ≤ maxLen := Nat.le_trans O0.zm O0.ym
  have ls : x0.s.length ≤ maxLen := Nat.le_trans O0.zs O0.ys
  have lo : x0.o.length ≤ maxLen := Nat.le_trans O0.zo O0.yo
  have cH := fun w hA => sweep_has x0 q0 a1 a2 w hA O0.toMcB b1 b2
  have cR := fun w hA => ref_sweep x0 q0 a1 a2 w hA O0.toMcB b1 b2
  have y8 := swA_r8 (b := a1) (n := a2) O0.r8
  have cS := fun w hA => sweep_top x0 q0 a1 a2 w hA O0.toMcB b1 b2
  have ym : (swA a1 a2 x0).m.length ≤ maxLen ∧ (swA a1 a2 x0).s.length ≤ maxLen ∧ (swA a1 a2 x0).o.length ≤ maxLen := by
    rcases sw_cases a1 a2 x0 with ⟨_, e, _⟩ | ⟨_, e, _⟩
    · rw [e]
      exact ⟨by show (x0.m.map (swV a1 a2)).length ≤ maxLen; rw [List.length_map]; exact lm, by show (x0.s.map (swF a1 a2)).length ≤ maxLen; rw [List.length_map]; exact ls, lo⟩
    · rw [e]
      exact ⟨Nat.zero_le _, Nat.zero_le _, Nat.zero_le _⟩
  have cE := fun q q' w hA hA' => mach_eq (swA a1 a2 x0) q q' w hA hA' y8 ym.1 ym.2.1 ym.2.2
  clear A0 lm ls lo ym
  generalize swA a1 a2 x0 = Y at *
  generalize swN a1 a2 x0 = N at *
  generalize swE a1 a2 x0 = E at *
  have iYY : ∀ q', (Try.prog.info? 31).map (·.size) = some (mcC Y q').length := fun q' => mach_info y8
  have zYY : ∀ q', z64.toArray.size = (mcC Y q').length := fun q' => by rw [mc_length y8]; rfl
  by_cases hN : 0 < N
  all_goals
    simp only [hN, decide_true, decide_false] at cH
    go_enter Try.func3, Try.ntmps3
    go_wp2_with (first | ((with_reducible refine at_load ?_); refine pl_load_box (by rfl) 31 (.tmp 3) rfl (w.heap.size) (by rfl) (mcC x0 q0) bM _ Try.underlying31 rfl hi0 ?_) | (go_at_call 8; refine (cS _ (HA.out _ hB)).mono ?_; rintro e w1 ⟨q1, rfl, hbb, hY, -⟩; try replace bM := bM.below hbb; replace hB := Below.step0 hB hbb; clear hbb cS) | ((with_reducible refine at_alloc ?_); refine wpList_alloc1 rfl 31 rfl _ (alloc_mach _) ?_) | ((with_reducible refine at_store ?_); refine pl_store_box rfl 31 (.tmp 7) (.tmp 22) rfl w1.heap.size (mcC Y q1) (by rfl) (by rfl) z64.toArray (Box.new _ _ _) (zYY q1) (iYY q1) (mc_one _ _) ?_; intro bY; have hbw : Below w1.heap.size w1 ((w1.alloc (.cells z64.toArray 31)).setCells w1.heap.size 0 (mcC Y q1)) := below_cells _ _ _ _ ((Below.refl _ _).alloc (Nat.le_refl _) _) (Nat.le_refl _); try replace bM := bM.below hbw; try replace hY := hY.below hbw; replace hB := Below.step0 hB hbw; generalize ((w1.alloc (.cells z64.toArray 31)).setCells w1.heap.size 0 (mcC Y q1)) = w2 at *; clear hbw) | (go_at_call 9; refine (cR _ (HA.out _ hB)).mono ?_; rintro e w3 ⟨q2, rfl, hbb, hZ⟩; try replace bM := bM.below hbb; try replace hY := hY.below hbb; try replace bY := bY.below hbb; replace hB := Below.step0 hB hbb; clear hbb cR) | ((with_reducible refine at_store ?_); refine pl_store_box rfl 31 (.tmp 10) (.tmp 30) rfl w3.heap.size (mcC Y q2) (by rfl) (by rfl) z64.toArray (Box.new _ _ _) (zYY q2) (iYY q2) (mc_one _ _) ?_; intro bZ; have hbw : Below w3.heap.size w3 ((w3.alloc (.cells z64.toArray 31)).setCells w3.heap.size 0 (mcC Y q2)) := below_cells _ _ _ _ ((Below.refl _ _).alloc (Nat.le_refl _) _) (Nat.le_refl _); try replace bM := bM.below hbw; try replace hY := hY.below hbw; try replace bY := bY.below hbw; try replace hZ := hZ.below hbw; replace hB := Below.step0 hB hbw; generalize ((w3.alloc (.cells z64.toArray 31)).setCells w3.heap.size 0 (mcC Y q2)) = w4 at *; clear hbw) | (go_at_call 10; refine (cH _ (HA.out _ hB)).mono ?_; rintro e w5 ⟨rfl, hbb⟩; try replace bM := bM.below hbb; try replace hY := hY.below hbb; try replace bY := bY.below hbb; try replace hZ := hZ.below hbb; try replace bZ := bZ.below hbb; replace hB := Below.step0 hB hbb; clear hbb cH) | (go_at_call 10; refine (has40 _).mono ?_; rintro e w6 ⟨rfl, hbb⟩; try replace bM := bM.below hbb; try replace hY := hY.below hbb; try replace bY := bY.below hbb; try replace hZ := hZ.below hbb; try replace bZ := bZ.below hbb; replace hB := Below.step0 hB hbb; clear hbb ) | ((with_reducible refine at_load ?_); refine pl_load_box (by rfl) 31 (.tmp 7) rfl (w1.heap.size) (by rfl) (mcC Y q1) bY _ Try.underlying31 rfl (iYY q1) ?_) | ((with_reducible refine at_load ?_); refine pl_load_box (by rfl) 31 (.tmp 10) rfl (w3.heap.size) (by rfl) (mcC Y q2) bZ _ Try.underlying31 rfl (iYY q2) ?_) | (go_at_call 11; refine (cE q1 q2 _ hY hZ).mono ?_; rintro e w7 ⟨rfl, hbb⟩; try replace bM := bM.below hbb; try replace hY := hY.below hbb; try replace bY := bY.below hbb; try replace hZ := hZ.below hbb; try replace bZ := bZ.below hbb; replace hB := Below.step0 hB hbb; clear hbb ))
    go_ret
    first | exact ⟨rfl, hB⟩ | exact ⟨congrArg (fun z => Ending.returned (.bool z)) (show decide (0 < N) = true by simp [hN]), hB⟩ | exact ⟨congrArg (fun z => Ending.returned (.bool z)) (show (!decide (0 < N)) = true by simp [hN]), hB⟩

set_option maxRecDepth 100000 in
theorem lifted (os : Os) (started : os.Started) (H : Type) (enc : TypeId × Value → H) :
    ReturnsInHanded {} Try.checked os 3 .any (Rows.sweepSweepsSpec.pre6 enc Try.prog Try.f3 Rows.sweepSweepsRow.domain false) (Rows.sweepSweepsSpec.post enc Try.prog Try.f3 false true false false) := by
  refine returnsInHanded_of_change (C := Try.checked) own started (by kernel_rfl) Try.func3
    (ChangeSpec.witness6 (enc := enc) (C := Try.checked) false ⟨#[], #[.agg #[.bool false, .int .i64 0, .int .i64 0, .int .i64 0, .int .i64 0, .int .i64 0, .int .i64 0, .bool false, .int .i64 0, .int .i64 0, .int .i64 0, .int .i64 0, .int .i64 0, .int .i64 0, .bool false, .int .i64 0, .int .i64 0, .int .i64 0, .int .i64 0, .int .i64 0, .int .i64 0, .bool false, .int .i64 0, .int .i64 0, .int .i64 0, .int .i64 0, .int .i64 0, .int .i64 0, .bool false, .int .i64 0, .int .i64 0, .int .i64 0, .int .i64 0, .int .i64 0, .int .i64 0, .bool false, .int .i64 0, .int .i64 0, .int .i64 0, .int .i64 0, .int .i64 0, .int .i64 0, .bool false, .int .i64 0, .int .i64 0, .int .i64 0, .int .i64 0, .int .i64 0, .int .i64 0, .bool false, .int .i64 0, .int .i64 0, .int .i64 0, .int .i64 0, .int .i64 0, .int .i64 0, .int .i64 0, .int .i64 0, .int .i64 0, .int .i64 0, .int .i64 0, .slice none 0 0, .slice none 0 0, .slice none 0 0], .int .i64 0, .int .i64 0], []⟩ 8 (by kernel_rfl) (by kernel_rfl) (by kernel_rfl) (by kernel_rfl)) ?_
  intro W base args ds gs before hval0 hW hcnd _
  have hval : ∀ (j : Nat) t v, Try.f3.params[j]? = some t → args[j]? = some v → Value.okWide Try.prog W .any base t v := hval0
  have hW' := hW
  obtain ⟨p, q, hA0, hV, rfl, hfz, hnd⟩ := hW
  have hA : DataW.TrodAll enc Try.prog W 0 (fun _ => true) true Try.f3.params.toList args.toList ds p := hA0
  rw [Try.params3] at hA hval
  obtain ⟨v0, vs0, d0, ds0, p0, q0, hargs, rfl, rfl, h0, r0⟩ := trodAll_cons hA
  obtain ⟨v1, vs1, d1, ds1, p1, q1, rfl, rfl, rfl, h1, r1⟩ := trodAll_cons r0
  obtain ⟨v2, vs2, d2, ds2, p2, q2, rfl, rfl, rfl, h2, r2⟩ := trodAll_cons r1
  obtain ⟨rfl, rfl, rfl⟩ := trodAll_nil r2
  obtain rfl : args = #[v0, v1, v2] := by cases args; simp_all
  obtain ⟨rfl, rfl⟩ := trodVars_none hV
  have k0 := h0
  have lt0 : ∀ x ∈ p0, x.block < W.heap.size := by obtain ⟨m, hm⟩ := k0; exact DataW.trod_lt m _ _ _ hm
  obtain ⟨x0, q0, rfl, O0, A0⟩ := open_mach (hval 0 31 v0 rfl rfl) k0
  obtain ⟨a1, rfl, rfl, rfl, w1⟩ := open_int Try.underlying3 (hval 1 3 v1 rfl rfl) h1
  obtain ⟨a2, rfl, rfl, rfl, w2⟩ := open_int Try.underlying3 (hval 2 3 v2 rfl rfl) h2
  clear hA0 hval0
  refine (walk x0 q0 a1 a2 O0 (bounds_i64 w1) (bounds_i64 w2) W A0).mono fun e W' ⟨he, bel⟩ => ?_
  subst he
  exact ⟨_, rfl, _, _, _, [], _, [], hW', trodAll_mk1 (shut_bool Try.underlying4 _), (trodAll_cons_mk (Below.trod laidOut (by kernel_rfl) (of_decide_eq_true (by kernel_rfl)) k0 bel lt0) (trodAll_cons_mk (shut_int Try.underlying3 w1) (trodAll_cons_mk (shut_int Try.underlying3 w2) trodAll_mk0))), rfl, bel.frame _, fun h => by cases h⟩

theorem over : Rows.sweepSweepsRow.holds Try.pinned (OpenSpec.ofChange Rows.sweepSweepsSpec) :=
  OpenClaim.holds_of_wide 3 Try.f3 rfl rfl rfl rfl rfl rfl rfl ⟨rfl, rfl, rfl, rfl, rfl⟩ rfl rfl rfl rfl rfl (by kernel_rfl) Try.func3 (by kernel_rfl)
    (of_decide_eq_true (by kernel_rfl)) (by unfold Func.isWrapper; first | (rw [if_pos (by decide +kernel)]; kernel_rfl) | (rw [if_neg (by decide +kernel)]; exact ⟨rfl, rfl⟩))
    (fun os started H enc _ => lifted os started H enc)

theorem proved : Rows.SweepSweepsSaid :=
  over
#print axioms proved
end Go.Proofs.Ythijebhhbflclaa.sweepSweeps
