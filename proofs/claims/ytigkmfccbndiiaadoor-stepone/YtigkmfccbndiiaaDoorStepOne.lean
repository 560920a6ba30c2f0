/- Chapter 9, P19: a step hangs on the machine alone, and what was handed in is as it was; for every machine. -/
import Derived.Test.YtigkmfccbndiiaaDoorRows
import Derived.Test.YtigkmfccbndiiaaDoorCards
import Derived.Test.YtigkmfccbndiiaaDoorTie
import Derived.Test.YtigkmfccbndiiaaDoorCardBase
import Derived.Test.YtigkmfccbndiiaaDoorInstShape
import Derived.Test.YtigkmfccbndiiaaDoorInstLaid
import Derived.Test.YtigkmfccbndiiaaDoorMachArg
import Derived.Carry
import Derived.Test.YtigkmfccbndiiaaDoorKeyPure
import Derived.Test.YtigkmfccbndiiaaDoorMachArg
import Derived.Test.YtigkmfccbndiiaaDoorStepOff
import Derived.Test.YtigkmfccbndiiaaDoorStepOwn
import Derived.Test.YtigkmfccbndiiaaDoorStepTop
import Derived.Test.YtigkmfccbndiiaaDoorStepKeep
import Derived.Test.YtigkmfccbndiiaaDoorRangeW
import Derived.Test.YtigkmfccbndiiaaDoorInMid
import Derived.Test.YtigkmfccbndiiaaDoorKeepSmall
import Derived.Test.YtigkmfccbndiiaaDoorKeepOp
import Derived.Test.YtigkmfccbndiiaaDoorRunPlain
import Derived.Test.YtigkmfccbndiiaaDoorRunBase
import Derived.Test.YtigkmfccbndiiaaDoorStepChk2
import Derived.Test.YtigkmfccbndiiaaDoorMachSized
import Derived.WalkKit
import Derived.ProofKit
import Derived.OpenShut
import Derived.Deep.DeepHandedRow
import Derived.Deep.DeepWitnessRowRef
import Derived.Lay
import Derived.MakeChecks
import Derived.SizedLaws
import Derived.Lib.LaidTab
namespace Go.Proofs.YtigkmfccbndiiaaDoor.stepOne
open Go.ChangeShapes Go.WideShapes Go.ChangeAt Go.RowKit
set_option linter.unusedVariables false
set_option linter.unusedSimpArgs false

theorem own : ownKnob Tryd.prog.godebug = none := by kernel_rfl
theorem laidOut : laidOutB Tryd.prog = true := by kernel_rfl
def witM : Value := .agg #[.bool false, .int .i64 0, .int .i64 0, .int .i64 0, .int .i64 0, .int .i64 0, .int .i64 0, .bool false, .int .i64 0, .int .i64 0, .int .i64 0, .int .i64 0, .int .i64 0, .int .i64 0, .bool false, .int .i64 0, .int .i64 0, .int .i64 0, .int .i64 0, .int .i64 0, .int .i64 0, .bool false, .int .i64 0, .int .i64 0, .int .i64 0, .int .i64 0, .int .i64 0, .int .i64 0, .bool false, .int .i64 0, .int .i64 0, .int .i64 0, .int .i64 0, .int .i64 0, .int .i64 0, .bool false, .int .i64 0, .int .i64 0, .int .i64 0, .int .i64 0, .int .i64 0, .int .i64 0, .bool false, .int .i64 0, .int .i64 0, .int .i64 0, .int .i64 0, .int .i64 0, .int .i64 0, .bool false, .int .i64 0, .int .i64 0, .int .i64 0, .int .i64 0, .int .i64 0, .int .i64 0, .int .i64 0, .int .i64 0, .int .i64 0, .int .i64 0, .int .i64 0, .slice none 0 0, .slice none 0 0, .slice none 0 0]

theorem stp_none : zeroM.r.length = 8 := rfl
set_option maxHeartbeats 4000000 in
set_option maxRecDepth 1000000 in
theorem walk (x0 : MC) (q0 : MA) (O0 : McOk x0 q0) (w : World) (A0 : McAt w x0 q0) (S0 : x0.m.length * 56 ≤ 140737488355328 ∧ x0.s.length * 96 ≤ 140737488355328 ∧ x0.o.length * 8 ≤ 140737488355328) (hS : Shp w) :
    Calls Tryd.prog 3 #[.agg (mcC x0 q0).toArray] w fun e w' => e = .returned (.bool true) ∧ Below w.heap.size w w' := by
  have hi0 : (Tryd.prog.info? 31).map (·.size) = some (mcC x0 q0).length := mach_info O0.r8
  have HA : Hid (∀ w', Below w.heap.size w w' → McAt w' x0 q0) := fun w' hb => A0.below hb
  have HS : Hid (∀ w', Below w.heap.size w w' → Shp w') := fun w' hb => hS.below hb
  have bM := Box.new w (mcC x0 q0).toArray 31
  have hB : Below w.heap.size w (w.alloc (.cells (mcC x0 q0).toArray 31)) := (Below.refl _ _).alloc (Nat.le_refl _) _
  have cS := fun q w hA hS => step_top x0 q w hA O0.toMcB hS
  have cC := fun w hA => mach_copy x0 q0 w hA O0.r8 S0.1 S0.2.1 S0.2.2
  have lm : x0.m.length ≤ maxLen := Nat.le_trans O0.zm O0.ym
  have ls : x0.s.length ≤ maxLen := Nat.le_trans O0.zs O0.ys
  have lo : x0.o.length ≤ maxLen := Nat.le_trans O0.zo O0.yo
  have c1 := fun q w hA hA' => mach_eq x0 q0 q w hA hA' O0.r8 lm ls lo
  have i0 : ∀ q', (Tryd.prog.info? 31).map (·.size) = some (mcC x0 q').length := fun q' => mach_info O0.r8
  have z0 : ∀ q', z64.toArray.size = (mcC x0 q').length := fun q' => by rw [mc_length O0.r8]; rfl
  by_cases hE : stpE x0 = 0
  · have sY := (step_good O0.r8 hE).sml
    have c2 := fun q q' w hA hA' => mach_eq (stpM x0) q q' w hA hA' sY.r8 sY.m sY.s sY.o
    rw [hE] at cS
    clear hE A0 hS lm ls lo
    generalize stpM x0 = Y at *
    have iY : ∀ q', (Tryd.prog.info? 31).map (·.size) = some (mcC Y q').length := fun q' => mach_info sY.r8
    have zY : ∀ q', z64.toArray.size = (mcC Y q').length := fun q' => by rw [mc_length sY.r8]; rfl
    have cT := fun w hA hS => cS q0 w hA hS
    go_enter Tryd.func3, Tryd.ntmps3
    go_wp2_with (first | ((with_reducible refine at_load ?_); refine pl_load_box (by rfl) 31 (.tmp 1) rfl w.heap.size (by rfl) (mcC x0 q0) bM _ Tryd.underlying31 rfl hi0 ?_) | ((with_reducible refine at_load ?_); refine pl_load_box (by rfl) 31 (.tmp 3) rfl w1.heap.size (by rfl) (mcC x0 q1) bC _ Tryd.underlying31 rfl (i0 q1) ?_) | (go_at_call 12; refine (cC _ (HA.out _ hB)).mono ?_; rintro e w1 ⟨q1, rfl, hbb, hC, -⟩; clear cC; replace bM := bM.below hbb; replace hB := Below.step0 hB hbb;  clear hbb) | ((with_reducible refine at_alloc ?_); refine wpList_alloc1 rfl 31 rfl _ (alloc_mach _) ?_) | ((with_reducible refine at_store ?_); refine pl_store_box rfl 31 (.tmp 3) (.tmp 9) rfl w1.heap.size (mcC x0 q1) (by rfl) (by rfl) z64.toArray (Box.new _ _ _) (z0 q1) (i0 q1) (mc_one _ _) ?_; intro bC; have n1 := bM.lt; have hbw : Below w1.heap.size w1 ((w1.alloc (.cells z64.toArray 31)).setCells w1.heap.size 0 (mcC x0 q1)) := below_cells _ _ _ _ ((Below.refl _ _).alloc (Nat.le_refl _) _) (Nat.le_refl _); replace bM := bM.below hbw; replace hC := hC.below hbw; replace hB := Below.step0 hB hbw; generalize ((w1.alloc (.cells z64.toArray 31)).setCells w1.heap.size 0 (mcC x0 q1)) = w2 at *; clear hbw) | (go_at_call 13; refine (cT _ (HA.out _ hB) (HS.out _ hB)).mono ?_; rintro e w3 ⟨q2, rfl, hbb, hY, -⟩; clear cT; replace bM := bM.below hbb; replace bC := bC.below hbb; replace hC := hC.below hbb; replace hB := Below.step0 hB hbb;  clear hbb) | ((with_reducible refine at_store ?_); refine pl_store_box rfl 31 (.tmp 4) (.tmp 13) rfl w3.heap.size (mcC Y q2) (by rfl) (by rfl) z64.toArray (Box.new _ _ _) (zY q2) (iY q2) (mc_one _ _) ?_; intro bY; have n3 := bM.lt; have n3 := bC.lt; have hbw : Below w3.heap.size w3 ((w3.alloc (.cells z64.toArray 31)).setCells w3.heap.size 0 (mcC Y q2)) := below_cells _ _ _ _ ((Below.refl _ _).alloc (Nat.le_refl _) _) (Nat.le_refl _); replace bM := bM.below hbw; replace bC := bC.below hbw; replace hC := hC.below hbw; replace hY := hY.below hbw; replace hB := Below.step0 hB hbw; generalize ((w3.alloc (.cells z64.toArray 31)).setCells w3.heap.size 0 (mcC Y q2)) = w4 at *; clear hbw) | (go_at_call 13; refine (cS q1 _ hC (HS.out _ hB)).mono ?_; rintro e w5 ⟨q3, rfl, hbb, hZ, -⟩;  replace bM := bM.below hbb; replace bC := bC.below hbb; replace hC := hC.below hbb; replace bY := bY.below hbb; replace hY := hY.below hbb; replace hB := Below.step0 hB hbb;  clear hbb) | ((with_reducible refine at_store ?_); refine pl_store_box rfl 31 (.tmp 6) (.tmp 18) rfl w5.heap.size (mcC Y q3) (by rfl) (by rfl) z64.toArray (Box.new _ _ _) (zY q3) (iY q3) (mc_one _ _) ?_; intro bZ; have n5 := bM.lt; have hbw : Below w5.heap.size w5 ((w5.alloc (.cells z64.toArray 31)).setCells w5.heap.size 0 (mcC Y q3)) := below_cells _ _ _ _ ((Below.refl _ _).alloc (Nat.le_refl _) _) (Nat.le_refl _); replace bM := bM.below hbw; replace bC := bC.below hbw; replace hC := hC.below hbw; replace bY := bY.below hbw; replace hY := hY.below hbw; replace hZ := hZ.below hbw; replace hB := Below.step0 hB hbw; generalize ((w5.alloc (.cells z64.toArray 31)).setCells w5.heap.size 0 (mcC Y q3)) = w6 at *; clear hbw) | (go_at_call 14; refine (keep_stepped _ (HS.out _ hB)).mono ?_; rintro e w7 ⟨rfl, hbb⟩;  replace bM := bM.below hbb; replace bC := bC.below hbb; replace hC := hC.below hbb; replace bY := bY.below hbb; replace hY := hY.below hbb; replace bZ := bZ.below hbb; replace hZ := hZ.below hbb; replace hB := Below.step0 hB hbb;  clear hbb) | (go_at_call 15; refine (c1 q1 _ (HA.out _ hB) hC).mono ?_; rintro e w8 ⟨rfl, hbb⟩; clear c1; replace bM := bM.below hbb; replace bC := bC.below hbb; replace hC := hC.below hbb; replace bY := bY.below hbb; replace hY := hY.below hbb; replace bZ := bZ.below hbb; replace hZ := hZ.below hbb; replace hB := Below.step0 hB hbb;  clear hbb) | ((with_reducible refine at_load ?_); refine pl_load_box (by rfl) 31 (.tmp 4) rfl w3.heap.size (by rfl) (mcC Y q2) bY _ Tryd.underlying31 rfl (iY q2) ?_) | ((with_reducible refine at_load ?_); refine pl_load_box (by rfl) 31 (.tmp 6) rfl w5.heap.size (by rfl) (mcC Y q3) bZ _ Tryd.underlying31 rfl (iY q3) ?_) | (go_at_call 15; refine (c2 q2 q3 _ hY hZ).mono ?_; rintro e w9 ⟨rfl, hbb⟩; clear c2; replace bM := bM.below hbb; replace bC := bC.below hbb; replace hC := hC.below hbb; replace bY := bY.below hbb; replace hY := hY.below hbb; replace bZ := bZ.below hbb; replace hZ := hZ.below hbb; replace hB := Below.step0 hB hbb;  clear hbb))
    go_ret
    exact ⟨rfl, hB⟩
  · obtain ⟨Y, hY0⟩ : ∃ Y, Y = zeroM := ⟨_, rfl⟩
    have sY : Sml Y := hY0 ▸ sml_zero
    have c2 := fun q q' w hA hA' => mach_eq Y q q' w hA hA' sY.r8 sY.m sY.s sY.o
    have cZ : ∀ q w, McAt w Y q → Calls Tryd.prog 15 #[.agg (mcC Y q).toArray, .agg (mcC zeroM zeroA).toArray] w fun e w' => e = .returned (.bool true) ∧ Below w.heap.size w w' := fun q w hA => by
      have := mach_eq Y q zeroA w hA ⟨by rw [hY0]; exact .inl rfl, by rw [hY0]; exact .inl rfl, by rw [hY0]; exact .inl rfl⟩ sY.r8 sY.m sY.s sY.o
      rw [hY0] at this ⊢
      exact this
    rw [stp_no hE, ← hY0] at cS
    have gE : (stpE x0 == 0) = false := by simpa using hE
    clear hE A0 hS lm ls lo hY0
    generalize stpE x0 = E at *
    have iY : ∀ q', (Tryd.prog.info? 31).map (·.size) = some (mcC Y q').length := fun q' => mach_info sY.r8
    have zY : ∀ q', z64.toArray.size = (mcC Y q').length := fun q' => by rw [mc_length sY.r8]; rfl
    have cT := fun w hA hS => cS q0 w hA hS
    go_enter Tryd.func3, Tryd.ntmps3
    go_wp2_with (first | ((with_reducible refine at_load ?_); refine pl_load_box (by rfl) 31 (.tmp 1) rfl w.heap.size (by rfl) (mcC x0 q0) bM _ Tryd.underlying31 rfl hi0 ?_) | ((with_reducible refine at_load ?_); refine pl_load_box (by rfl) 31 (.tmp 3) rfl w1.heap.size (by rfl) (mcC x0 q1) bC _ Tryd.underlying31 rfl (i0 q1) ?_) | (go_at_call 12; refine (cC _ (HA.out _ hB)).mono ?_; rintro e w1 ⟨q1, rfl, hbb, hC, -⟩; clear cC; replace bM := bM.below hbb; replace hB := Below.step0 hB hbb;  clear hbb) | ((with_reducible refine at_alloc ?_); refine wpList_alloc1 rfl 31 rfl _ (alloc_mach _) ?_) | ((with_reducible refine at_store ?_); refine pl_store_box rfl 31 (.tmp 3) (.tmp 9) rfl w1.heap.size (mcC x0 q1) (by rfl) (by rfl) z64.toArray (Box.new _ _ _) (z0 q1) (i0 q1) (mc_one _ _) ?_; intro bC; have n1 := bM.lt; have hbw : Below w1.heap.size w1 ((w1.alloc (.cells z64.toArray 31)).setCells w1.heap.size 0 (mcC x0 q1)) := below_cells _ _ _ _ ((Below.refl _ _).alloc (Nat.le_refl _) _) (Nat.le_refl _); replace bM := bM.below hbw; replace hC := hC.below hbw; replace hB := Below.step0 hB hbw; generalize ((w1.alloc (.cells z64.toArray 31)).setCells w1.heap.size 0 (mcC x0 q1)) = w2 at *; clear hbw) | (go_at_call 13; refine (cT _ (HA.out _ hB) (HS.out _ hB)).mono ?_; rintro e w3 ⟨q2, rfl, hbb, hY, -⟩; clear cT; replace bM := bM.below hbb; replace bC := bC.below hbb; replace hC := hC.below hbb; replace hB := Below.step0 hB hbb;  clear hbb) | ((with_reducible refine at_store ?_); refine pl_store_box rfl 31 (.tmp 4) (.tmp 13) rfl w3.heap.size (mcC Y q2) (by rfl) (by rfl) z64.toArray (Box.new _ _ _) (zY q2) (iY q2) (mc_one _ _) ?_; intro bY; have n3 := bM.lt; have n3 := bC.lt; have hbw : Below w3.heap.size w3 ((w3.alloc (.cells z64.toArray 31)).setCells w3.heap.size 0 (mcC Y q2)) := below_cells _ _ _ _ ((Below.refl _ _).alloc (Nat.le_refl _) _) (Nat.le_refl _); replace bM := bM.below hbw; replace bC := bC.below hbw; replace hC := hC.below hbw; replace hY := hY.below hbw; replace hB := Below.step0 hB hbw; generalize ((w3.alloc (.cells z64.toArray 31)).setCells w3.heap.size 0 (mcC Y q2)) = w4 at *; clear hbw) | (go_at_call 13; refine (cS q1 _ hC (HS.out _ hB)).mono ?_; rintro e w5 ⟨q3, rfl, hbb, hZ, -⟩;  replace bM := bM.below hbb; replace bC := bC.below hbb; replace hC := hC.below hbb; replace bY := bY.below hbb; replace hY := hY.below hbb; replace hB := Below.step0 hB hbb;  clear hbb) | ((with_reducible refine at_store ?_); refine pl_store_box rfl 31 (.tmp 6) (.tmp 18) rfl w5.heap.size (mcC Y q3) (by rfl) (by rfl) z64.toArray (Box.new _ _ _) (zY q3) (iY q3) (mc_one _ _) ?_; intro bZ; have n5 := bM.lt; have hbw : Below w5.heap.size w5 ((w5.alloc (.cells z64.toArray 31)).setCells w5.heap.size 0 (mcC Y q3)) := below_cells _ _ _ _ ((Below.refl _ _).alloc (Nat.le_refl _) _) (Nat.le_refl _); replace bM := bM.below hbw; replace bC := bC.below hbw; replace hC := hC.below hbw; replace bY := bY.below hbw; replace hY := hY.below hbw; replace hZ := hZ.below hbw; replace hB := Below.step0 hB hbw; generalize ((w5.alloc (.cells z64.toArray 31)).setCells w5.heap.size 0 (mcC Y q3)) = w6 at *; clear hbw) | (go_at_call 14; refine (keep_stepped _ (HS.out _ hB)).mono ?_; rintro e w7 ⟨rfl, hbb⟩;  replace bM := bM.below hbb; replace bC := bC.below hbb; replace hC := hC.below hbb; replace bY := bY.below hbb; replace hY := hY.below hbb; replace bZ := bZ.below hbb; replace hZ := hZ.below hbb; replace hB := Below.step0 hB hbb;  clear hbb) | (go_at_call 15; refine (c1 q1 _ (HA.out _ hB) hC).mono ?_; rintro e w8 ⟨rfl, hbb⟩; clear c1; replace bM := bM.below hbb; replace bC := bC.below hbb; replace hC := hC.below hbb; replace bY := bY.below hbb; replace hY := hY.below hbb; replace bZ := bZ.below hbb; replace hZ := hZ.below hbb; replace hB := Below.step0 hB hbb;  clear hbb) | ((with_reducible refine at_load ?_); refine pl_load_box (by rfl) 31 (.tmp 4) rfl w3.heap.size (by rfl) (mcC Y q2) bY _ Tryd.underlying31 rfl (iY q2) ?_) | ((with_reducible refine at_load ?_); refine pl_load_box (by rfl) 31 (.tmp 6) rfl w5.heap.size (by rfl) (mcC Y q3) bZ _ Tryd.underlying31 rfl (iY q3) ?_) | (go_at_call 15; refine (c2 q2 q3 _ hY hZ).mono ?_; rintro e w9 ⟨rfl, hbb⟩; clear c2; replace bM := bM.below hbb; replace bC := bC.below hbb; replace hC := hC.below hbb; replace bY := bY.below hbb; replace hY := hY.below hbb; replace bZ := bZ.below hbb; replace hZ := hZ.below hbb; replace hB := Below.step0 hB hbb;  clear hbb) | (go_at_call 15; refine (cZ q2 _ hY).mono ?_; rintro e wA ⟨rfl, hbb⟩;  replace bM := bM.below hbb; replace bC := bC.below hbb; replace hC := hC.below hbb; replace bY := bY.below hbb; replace hY := hY.below hbb; replace bZ := bZ.below hbb; replace hZ := hZ.below hbb; replace hB := Below.step0 hB hbb;  clear hbb))
    go_ret
    exact ⟨rfl, hB⟩

set_option maxRecDepth 1000000 in
theorem contract (H : Type) (enc : TypeId × Value → H) (W : World) (base : Nat) (args : Array Value) (ds gs : List (DataW H)) (before : List MemPlace)
    (hval : ∀ (j : Nat) t v, Tryd.f3.params[j]? = some t → args[j]? = some v → Value.okWide Tryd.prog W .any base t v)
    (hW : DataW.Whole enc Tryd.prog Tryd.f3.params.toList Rows.stepOneSpec.vars false W args.toList ds gs before) (hsh : W.ShapedOpen Tryd.prog) (hz : (DataW.weightsEach Tryd.prog (Tryd.f3.params.toList ++ (OpenSpec.ofChange Rows.stepOneSpec).bare.plain.varTypes Tryd.prog) (ds ++ gs)).all (· ≤ reachBytes) = true) (hL : laidMet Tryd.prog Rows.stepOneRow.laid W) :
    Calls Tryd.prog 3 args W fun e W' => ∃ v, e = .returned v ∧ Rows.stepOneSpec.post enc Tryd.prog Tryd.f3 false true false false W args v W' := by
  have hW' := hW
  obtain ⟨p, q, hA0, hV, rfl, hfz, hnd⟩ := hW
  have hA : DataW.TrodAll enc Tryd.prog W 0 (fun _ => true) true Tryd.f3.params.toList args.toList ds p := hA0
  rw [Tryd.params3] at hA hval
  obtain ⟨v0, vs0, d0, ds0, p0, q0, hargs, rfl, rfl, h0, r0⟩ := trodAll_cons hA
  obtain ⟨rfl, rfl, rfl⟩ := trodAll_nil r0
  obtain rfl : args = #[v0] := by cases args; simp_all
  obtain ⟨rfl, rfl⟩ := trodVars_none hV
  have k0 := h0
  have lt0 : ∀ x ∈ p0, x.block < W.heap.size := by obtain ⟨m, hm⟩ := k0; exact DataW.trod_lt m _ _ _ hm
  obtain ⟨x0, q0, rfl, O0, A0⟩ := open_mach (hval 0 31 v0 rfl rfl) k0
  clear hA0
  refine (walk x0 q0 O0 W A0 (mach_sized (j := 0) O0.r8 k0 hz (by rw [Tryd.params3]; rfl) rfl) (shp_of_laid hL (.head _))).mono fun e W' ⟨he, bel⟩ => ?_
  subst he
  exact ⟨_, rfl, _, _, _, [], _, [], hW', trodAll_mk1 (shut_bool Tryd.underlying4 _), (trodAll_cons_mk (Below.trod laidOut (by kernel_rfl) (of_decide_eq_true (by kernel_rfl)) k0 bel lt0) trodAll_mk0), rfl, bel.frame _, fun h => by cases h⟩

theorem reads (os : Os) {H : Type} (enc : TypeId × Value → H) : ∃ places, DataW.whole enc Tryd.prog ((World.laidAll Tryd.prog os Rows.stepOneRow.laid).forCall (fun _ _ => 0) ⟨#[], #[witM], []⟩).memory Tryd.f3.params.toList Rows.stepOneSpec.vars false (#[witM] : Array Value).toList 8 = some ([.agg [.agg [.agg [.lit (.bool false), .lit (.int .i64 0), .agg [.lit (.int .i64 0), .lit (.int .i64 0), .lit (.int .i64 0), .lit (.int .i64 0), .lit (.int .i64 0)]], .agg [.lit (.bool false), .lit (.int .i64 0), .agg [.lit (.int .i64 0), .lit (.int .i64 0), .lit (.int .i64 0), .lit (.int .i64 0), .lit (.int .i64 0)]], .agg [.lit (.bool false), .lit (.int .i64 0), .agg [.lit (.int .i64 0), .lit (.int .i64 0), .lit (.int .i64 0), .lit (.int .i64 0), .lit (.int .i64 0)]], .agg [.lit (.bool false), .lit (.int .i64 0), .agg [.lit (.int .i64 0), .lit (.int .i64 0), .lit (.int .i64 0), .lit (.int .i64 0), .lit (.int .i64 0)]], .agg [.lit (.bool false), .lit (.int .i64 0), .agg [.lit (.int .i64 0), .lit (.int .i64 0), .lit (.int .i64 0), .lit (.int .i64 0), .lit (.int .i64 0)]], .agg [.lit (.bool false), .lit (.int .i64 0), .agg [.lit (.int .i64 0), .lit (.int .i64 0), .lit (.int .i64 0), .lit (.int .i64 0), .lit (.int .i64 0)]], .agg [.lit (.bool false), .lit (.int .i64 0), .agg [.lit (.int .i64 0), .lit (.int .i64 0), .lit (.int .i64 0), .lit (.int .i64 0), .lit (.int .i64 0)]], .agg [.lit (.bool false), .lit (.int .i64 0), .agg [.lit (.int .i64 0), .lit (.int .i64 0), .lit (.int .i64 0), .lit (.int .i64 0), .lit (.int .i64 0)]]], .agg [.lit (.int .i64 0), .lit (.int .i64 0), .lit (.int .i64 0), .lit (.int .i64 0), .lit (.int .i64 0)], .nil, .nil, .nil]], [], places) :=
  ⟨[], by kernel_rfl⟩
theorem laid_met (os : Os) : laidMet Tryd.prog Rows.stepOneRow.laid ((World.laidAll Tryd.prog os Rows.stepOneRow.laid).forCall (fun _ _ => 0) ⟨#[], #[witM], []⟩).memory :=
  laidMet_laidAll _ (by kernel_rfl) (by kernel_rfl)

set_option maxRecDepth 100000 in
theorem lifted (os : Os) (started : os.Started) (H : Type) (enc : TypeId × Value → H) (F : Stop.Interp) :
    ReturnsInHanded {} Tryd.checked os 3 .any ((OpenSpec.ofChange Rows.stepOneSpec).preRow enc Tryd.prog Tryd.f3 Rows.stepOneRow.domain false Rows.stepOneRow.laid) (((OpenSpec.ofChange Rows.stepOneSpec).at F).post enc Tryd.prog Tryd.f3 false true false false) := by
  obtain ⟨places, hx⟩ := reads os enc
  refine returnsInHanded_of_row (C := Tryd.checked) (s := OpenSpec.ofChange Rows.stepOneSpec) own started (by kernel_rfl) Tryd.func3
    (witness_row_at (enc := enc) (C := Tryd.checked) false (World.laidAll Tryd.prog os Rows.stepOneRow.laid) #[witM] (World.laidAll_os _ _ _) (by kernel_rfl) (by kernel_rfl) (by kernel_rfl)
      (OpenSpec.preRow_of_cond 8 hx (by kernel_rfl) (fun k hk => by cases hk) (by kernel_rfl) (laid_met os))) ?_
  intro W base args ds gs before hval hW _ hcond hz hL hsh _
  exact contract H enc W base args ds gs before hval hW hsh hz hL

theorem said : Rows.StepOneSaid :=
  OpenClaim.holds_of_cond 3 Tryd.f3 rfl rfl rfl rfl rfl rfl rfl ⟨rfl, rfl, rfl, rfl, rfl⟩ rfl rfl rfl rfl rfl (by kernel_rfl) Tryd.func3 (by kernel_rfl)
    (of_decide_eq_true (by kernel_rfl)) (by unfold Func.isWrapper; first | (rw [if_pos (by decide +kernel)]; kernel_rfl) | (rw [if_neg (by decide +kernel)]; exact ⟨rfl, rfl⟩))
    (fun os started H enc _ F => by rw [OpenClaim.pre_eq_preRow]; exact lifted os started H enc F)
theorem plain (f : FuncId) (fn : Func) (hf : Tryd.pinned.checked.prog.funcNamed Rows.stepOneRow.func = some f) (hfn : Tryd.pinned.checked.prog.funcs[f]? = some fn) :
    true = Tryd.pinned.checked.prog.looks [] ∧ ∀ (j : Nat) t, fn.params[j]? = some t → Tryd.pinned.checked.prog.wantsStandIn t = false := by
  obtain rfl : f = 3 := Option.some.inj ((show Tryd.prog.funcNamed Rows.stepOneRow.func = some 3 by kernel_rfl).symm.trans hf) |>.symm
  obtain rfl : fn = Tryd.f3 := (Option.some.inj (Tryd.func3.symm.trans hfn)).symm
  refine ⟨by kernel_rfl, fun j t ht => ?_⟩
  rw [Tryd.params3] at ht
  have hm : t ∈ [31] := by simpa using Array.mem_of_getElem? ht
  have hall : ([31].all fun u => !Tryd.prog.wantsStandIn u) = true := by kernel_rfl
  exact (show Tryd.prog.wantsStandIn t = false by simpa using List.all_eq_true.1 hall t hm)
theorem proved : Rows.StepOneCardSaid :=
  Claim7.holds_tied_plain_at .later [] _ _ _ _ said (fun _ h => by cases h) (by kernel_rfl) (fun _ h => by cases h) stepOne_row_tie rfl ⟨rfl, rfl⟩ (by kernel_rfl) rfl plain (by kernel_rfl)
#print axioms proved
end Go.Proofs.YtigkmfccbndiiaaDoor.stepOne
