/- Chapter 10, P23: run for some steps, and then for more, it is as if it had been at once; for every machine and any two numbers. -/
import Derived.Test.YtigkmfccbndiiaaDoorRows
import Derived.Test.YtigkmfccbndiiaaDoorCards
import Derived.Test.YtigkmfccbndiiaaDoorTie
import Derived.Test.YtigkmfccbndiiaaDoorCardBase
import Derived.Test.YtigkmfccbndiiaaDoorInstShape
import Derived.Test.YtigkmfccbndiiaaDoorInstLaid
import Derived.Test.YtigkmfccbndiiaaDoorMachArg
import Derived.Carry
import Derived.Test.YtigkmfccbndiiaaDoorKeyPure
import Derived.Test.YtigkmfccbndiiaaDoorMachArg
import Derived.Test.YtigkmfccbndiiaaDoorStepOff
import Derived.Test.YtigkmfccbndiiaaDoorStepOwn
import Derived.Test.YtigkmfccbndiiaaDoorStepTop
import Derived.Test.YtigkmfccbndiiaaDoorStepKeep
import Derived.Test.YtigkmfccbndiiaaDoorRangeW
import Derived.Test.YtigkmfccbndiiaaDoorInMid
import Derived.Test.YtigkmfccbndiiaaDoorKeepSmall
import Derived.Test.YtigkmfccbndiiaaDoorKeepOp
import Derived.Test.YtigkmfccbndiiaaDoorNum
import Derived.Test.YtigkmfccbndiiaaDoorRunPlain
import Derived.Test.YtigkmfccbndiiaaDoorRunAll
import Derived.WalkKit
import Derived.ProofKit
import Derived.OpenShut
import Derived.Deep.DeepHandedRow
import Derived.Deep.DeepWitnessRowRef
import Derived.Lay
import Derived.MakeChecks
import Derived.SizedLaws
import Derived.Lib.LaidTab
namespace Go.Proofs.YtigkmfccbndiiaaDoor.runSplits
open Go.ChangeShapes Go.WideShapes Go.ChangeAt Go.RowKit
set_option linter.unusedVariables false
set_option linter.unusedSimpArgs false

theorem own : ownKnob Tryd.prog.godebug = none := by kernel_rfl
theorem laidOut : laidOutB Tryd.prog = true := by kernel_rfl
def witM : Value := .agg #[.bool false, .int .i64 0, .int .i64 0, .int .i64 0, .int .i64 0, .int .i64 0, .int .i64 0, .bool false, .int .i64 0, .int .i64 0, .int .i64 0, .int .i64 0, .int .i64 0, .int .i64 0, .bool false, .int .i64 0, .int .i64 0, .int .i64 0, .int .i64 0, .int .i64 0, .int .i64 0, .bool false, .int .i64 0, .int .i64 0, .int .i64 0, .int .i64 0, .int .i64 0, .int .i64 0, .bool false, .int .i64 0, .int .i64 0, .int .i64 0, .int .i64 0, .int .i64 0, .int .i64 0, .bool false, .int .i64 0, .int .i64 0, .int .i64 0, .int .i64 0, .int .i64 0, .int .i64 0, .bool false, .int .i64 0, .int .i64 0, .int .i64 0, .int .i64 0, .int .i64 0, .int .i64 0, .bool false, .int .i64 0, .int .i64 0, .int .i64 0, .int .i64 0, .int .i64 0, .int .i64 0, .int .i64 0, .int .i64 0, .int .i64 0, .int .i64 0, .int .i64 0, .slice none 0 0, .slice none 0 0, .slice none 0 0]

theorem run_x (x : MC) (f : Int) (q : MA) (w : World) (hA : McAt w x q) (hO : McB x) (hS : Shp w) :
    Calls Tryd.prog 23 #[.agg (mcC x q).toArray, .int .i64 f] w fun e w' => ∃ q', e = .returned (.tuple #[.agg (mcC (runX f x) q').toArray, .int .i64 (runK f x), .int .i64 (runF f x)]) ∧ Below w.heap.size w w' ∧ McAt w' (runX f x) q' := run_run x q f w hA hO hS
set_option maxHeartbeats 4000000 in
set_option maxRecDepth 1000000 in
theorem walk (x0 : MC) (q0 : MA) (a1 : Int) (a2 : Int) (O0 : McOk x0 q0) (b1 : -9223372036854775808 ≤ a1 ∧ a1 ≤ 9223372036854775807) (b2 : -9223372036854775808 ≤ a2 ∧ a2 ≤ 9223372036854775807) (w : World) (A0 : McAt w x0 q0) (hS : Shp w) :
    Calls Tryd.prog 8 #[.agg (mcC x0 q0).toArray, .int .i64 a1, .int .i64 a2] w fun e w' => e = .returned (.bool true) ∧ Below w.heap.size w w' := by
  have hi0 : (Tryd.prog.info? 31).map (·.size) = some (mcC x0 q0).length := mach_info O0.r8
  have HA : Hid (∀ w', Below w.heap.size w w' → McAt w' x0 q0) := fun w' hb => A0.below hb
  have HS : Hid (∀ w', Below w.heap.size w w' → Shp w') := fun w' hb => hS.below hb
  have bM := Box.new w (mcC x0 q0).toArray 31
  have hB : Below w.heap.size w (w.alloc (.cells (mcC x0 q0).toArray 31)) := (Below.refl _ _).alloc (Nat.le_refl _) _
  obtain ⟨A, hA⟩ : ∃ A : Nat, a1 % 2000 = (A : Int) := ⟨(a1 % 2000).toNat, by omega⟩
  obtain ⟨B, hBn⟩ : ∃ B : Nat, a2 % 2000 = (B : Int) := ⟨(a2 % 2000).toNat, by omega⟩
  have lA : A < 2000 := by omega
  have lB : B < 2000 := by omega
  have cA := fun w => ref_rest a1 2000 w b1 (by omega)
  have cB := fun w => ref_rest a2 2000 w b2 (by omega)
  rw [hA] at cA
  rw [hBn] at cB
  clear hA hBn
  have c1 := fun q w hA hS => run_x x0 A q w hA O0.toMcB hS
  have c2 := fun q w hA hS => run_x x0 ((A : Int) + B) q w hA O0.toMcB hS
  have sX := runX_sml (f := A) (x := x0) (by omega) O0.r8
  obtain ⟨⟨g0, g1⟩, g2⟩ := runX_b (f := A) (x := x0) (by omega)
  have gA : (A : Int) < 2000 := by omega
  have gB : (B : Int) < 2000 := by omega
  have gA0 : (0 : Int) ≤ (A : Int) := by omega
  have gB0 : (0 : Int) ≤ (B : Int) := by omega
  by_cases h15 : runF (A : Int) x0 = 15
  · obtain ⟨hG, e1, e2, e3, e4⟩ := runX_all (f := A) (g := B) (x := x0) (by omega) (by omega) O0.r8 h15
    have c3 := fun q w hA hS => run_x (runX (A : Int) x0) B q w hA hG.b hS
    have sY := runX_sml (f := B) (x := runX (A : Int) x0) (by omega) hG.r8
    obtain ⟨⟨k0, k1⟩, k2⟩ := runX_b (f := B) (x := runX (A : Int) x0) (by omega)
    rw [e2, e3, e4] at c2
    rw [e1, h15] at c1
    clear e1 e2 e3 e4 h15 g0 g1 g2 hG A0 hS
    generalize runX (B : Int) (runX (A : Int) x0) = Y at *
    generalize runK (B : Int) (runX (A : Int) x0) = kY at *
    generalize runF (B : Int) (runX (A : Int) x0) = fY at *
    generalize runX (A : Int) x0 = X at *
    have iX : ∀ q', (Tryd.prog.info? 31).map (·.size) = some (mcC X q').length := fun q' => mach_info sX.r8
    have zX : ∀ q', z64.toArray.size = (mcC X q').length := fun q' => by rw [mc_length sX.r8]; rfl
    have iY : ∀ q', (Tryd.prog.info? 31).map (·.size) = some (mcC Y q').length := fun q' => mach_info sY.r8
    have zY : ∀ q', z64.toArray.size = (mcC Y q').length := fun q' => by rw [mc_length sY.r8]; rfl
    go_enter Tryd.func8, Tryd.ntmps8
    go_wp2_with (first | ((with_reducible refine at_load ?_); refine pl_load_box (by rfl) 31 (.tmp 3) rfl w.heap.size (by rfl) (mcC x0 q0) bM _ Tryd.underlying31 rfl hi0 ?_) | ((with_reducible refine at_load ?_); refine pl_load_box (by rfl) 31 (.tmp 7) rfl w2.heap.size (by rfl) (mcC X q1) bX _ Tryd.underlying31 rfl (iX q1) ?_) | ((with_reducible refine at_load ?_); refine pl_load_box (by rfl) 31 (.tmp 10) rfl w4.heap.size (by rfl) (mcC Y q2) bY _ Tryd.underlying31 rfl (iY q2) ?_) | ((with_reducible refine at_load ?_); refine pl_load_box (by rfl) 31 (.tmp 13) rfl w6.heap.size (by rfl) (mcC Y q3) bZ _ Tryd.underlying31 rfl (iY q3) ?_) | (go_at_call 14; refine (keep_stepped _ (HS.out _ hB)).mono ?_; rintro e w1 ⟨rfl, hbb⟩;  replace bM := bM.below hbb; replace hB := Below.step0 hB hbb;  clear hbb) | (go_at_call 19; refine (cA _).mono ?_; rintro e wz ⟨rfl, hwz⟩; obtain rfl := hwz.symm; clear cA) | (go_at_call 19; refine (cB _).mono ?_; rintro e wz ⟨rfl, hwz⟩; obtain rfl := hwz.symm; clear cB) | (go_at_call 23; refine (c1 q0 _ (HA.out _ hB) (HS.out _ hB)).mono ?_; rintro e w2 ⟨q1, rfl, hbb, hX⟩; clear c1; replace bM := bM.below hbb; replace hB := Below.step0 hB hbb;  clear hbb) | (go_at_call 23; refine (c2 q0 _ (HA.out _ hB) (HS.out _ hB)).mono ?_; rintro e w4 ⟨q2, rfl, hbb, hY⟩; clear c2; replace bM := bM.below hbb; replace bX := bX.below hbb; replace hX := hX.below hbb; replace hB := Below.step0 hB hbb;  clear hbb) | (go_at_call 23; refine (c3 q1 _ hX (HS.out _ hB)).mono ?_; rintro e w6 ⟨q3, rfl, hbb, hZ⟩; clear c3; replace bM := bM.below hbb; replace bX := bX.below hbb; replace hX := hX.below hbb; replace bY := bY.below hbb; replace hY := hY.below hbb; replace hB := Below.step0 hB hbb;  clear hbb) | ((with_reducible refine at_alloc ?_); refine wpList_alloc1 rfl 31 rfl _ (alloc_mach _) ?_) | ((with_reducible refine at_store ?_); refine pl_store_box rfl 31 (.tmp 7) (.tmp 26) rfl w2.heap.size (mcC X q1) (by rfl) (by rfl) z64.toArray (Box.new _ _ _) (zX q1) (iX q1) (mc_one _ _) ?_; intro bX;  have hbw : Below w2.heap.size w2 ((w2.alloc (.cells z64.toArray 31)).setCells w2.heap.size 0 (mcC X q1)) := below_cells _ _ _ _ ((Below.refl _ _).alloc (Nat.le_refl _) _) (Nat.le_refl _); replace bM := bM.below hbw; replace hX := hX.below hbw; replace hB := Below.step0 hB hbw; generalize ((w2.alloc (.cells z64.toArray 31)).setCells w2.heap.size 0 (mcC X q1)) = w3 at *; clear hbw) | ((with_reducible refine at_store ?_); refine pl_store_box rfl 31 (.tmp 10) (.tmp 46) rfl w4.heap.size (mcC Y q2) (by rfl) (by rfl) z64.toArray (Box.new _ _ _) (zY q2) (iY q2) (mc_one _ _) ?_; intro bY;  have hbw : Below w4.heap.size w4 ((w4.alloc (.cells z64.toArray 31)).setCells w4.heap.size 0 (mcC Y q2)) := below_cells _ _ _ _ ((Below.refl _ _).alloc (Nat.le_refl _) _) (Nat.le_refl _); replace bM := bM.below hbw; replace bX := bX.below hbw; replace hX := hX.below hbw; replace hY := hY.below hbw; replace hB := Below.step0 hB hbw; generalize ((w4.alloc (.cells z64.toArray 31)).setCells w4.heap.size 0 (mcC Y q2)) = w5 at *; clear hbw) | ((with_reducible refine at_store ?_); refine pl_store_box rfl 31 (.tmp 13) (.tmp 68) rfl w6.heap.size (mcC Y q3) (by rfl) (by rfl) z64.toArray (Box.new _ _ _) (zY q3) (iY q3) (mc_one _ _) ?_; intro bZ;  have hbw : Below w6.heap.size w6 ((w6.alloc (.cells z64.toArray 31)).setCells w6.heap.size 0 (mcC Y q3)) := below_cells _ _ _ _ ((Below.refl _ _).alloc (Nat.le_refl _) _) (Nat.le_refl _); replace bM := bM.below hbw; replace bX := bX.below hbw; replace hX := hX.below hbw; replace bY := bY.below hbw; replace hY := hY.below hbw; replace hZ := hZ.below hbw; replace hB := Below.step0 hB hbw; generalize ((w6.alloc (.cells z64.toArray 31)).setCells w6.heap.size 0 (mcC Y q3)) = w7 at *; clear hbw) | (go_at_call 15; refine (mach_eq Y q2 q3 _ hY hZ sY.r8 sY.m sY.s sY.o).mono ?_; rintro e w8 ⟨rfl, hbb⟩;   replace hB := Below.step0 hB hbb;  clear hbb))
    go_ret
    exact ⟨rfl, hB⟩
  · obtain ⟨e2, e3, e4⟩ := runX_more (f := A) (g := B) (x := x0) (by omega) (by omega) h15
    rw [e2, e3, e4] at c2
    have sY := sX
    have g3 : (runF (A : Int) x0 != 15) = true := by simpa using h15
    have g4 : (runF (A : Int) x0 == 0) = false := by simpa using g2
    clear e2 e3 e4 h15 g2 A0 hS
    generalize runK (A : Int) x0 = kX at *
    generalize runF (A : Int) x0 = fX at *
    generalize runX (A : Int) x0 = X at *
    obtain ⟨Y, hY⟩ : ∃ Y, Y = X := ⟨_, rfl⟩
    have hYX : Hid (Y = X) := hY
    clear hY
    have iX : ∀ q', (Tryd.prog.info? 31).map (·.size) = some (mcC X q').length := fun q' => mach_info sX.r8
    have zX : ∀ q', z64.toArray.size = (mcC X q').length := fun q' => by rw [mc_length sX.r8]; rfl
    go_enter Tryd.func8, Tryd.ntmps8
    go_wp2_with (first | ((with_reducible refine at_load ?_); refine pl_load_box (by rfl) 31 (.tmp 3) rfl w.heap.size (by rfl) (mcC x0 q0) bM _ Tryd.underlying31 rfl hi0 ?_) | ((with_reducible refine at_load ?_); refine pl_load_box (by rfl) 31 (.tmp 7) rfl w2.heap.size (by rfl) (mcC X q1) bX _ Tryd.underlying31 rfl (iX q1) ?_) | ((with_reducible refine at_load ?_); refine pl_load_box (by rfl) 31 (.tmp 10) rfl w4.heap.size (by rfl) (mcC X q2) bY _ Tryd.underlying31 rfl (iX q2) ?_) | (go_at_call 14; refine (keep_stepped _ (HS.out _ hB)).mono ?_; rintro e w1 ⟨rfl, hbb⟩;  replace bM := bM.below hbb; replace hB := Below.step0 hB hbb;  clear hbb) | (go_at_call 19; refine (cA _).mono ?_; rintro e wz ⟨rfl, hwz⟩; obtain rfl := hwz.symm; clear cA) | (go_at_call 19; refine (cB _).mono ?_; rintro e wz ⟨rfl, hwz⟩; obtain rfl := hwz.symm; clear cB) | (go_at_call 23; refine (c1 q0 _ (HA.out _ hB) (HS.out _ hB)).mono ?_; rintro e w2 ⟨q1, rfl, hbb, hX⟩; clear c1; replace bM := bM.below hbb; replace hB := Below.step0 hB hbb;  clear hbb) | (go_at_call 23; refine (c2 q0 _ (HA.out _ hB) (HS.out _ hB)).mono ?_; rintro e w4 ⟨q2, rfl, hbb, hY⟩; clear c2; replace bM := bM.below hbb; replace bX := bX.below hbb; replace hX := hX.below hbb; replace hB := Below.step0 hB hbb;  clear hbb) | ((with_reducible refine at_alloc ?_); refine wpList_alloc1 rfl 31 rfl _ (alloc_mach _) ?_) | ((with_reducible refine at_store ?_); refine pl_store_box rfl 31 (.tmp 7) (.tmp 26) rfl w2.heap.size (mcC X q1) (by rfl) (by rfl) z64.toArray (Box.new _ _ _) (zX q1) (iX q1) (mc_one _ _) ?_; intro bX;  have hbw : Below w2.heap.size w2 ((w2.alloc (.cells z64.toArray 31)).setCells w2.heap.size 0 (mcC X q1)) := below_cells _ _ _ _ ((Below.refl _ _).alloc (Nat.le_refl _) _) (Nat.le_refl _); replace bM := bM.below hbw; replace hX := hX.below hbw; replace hB := Below.step0 hB hbw; generalize ((w2.alloc (.cells z64.toArray 31)).setCells w2.heap.size 0 (mcC X q1)) = w3 at *; clear hbw) | ((with_reducible refine at_store ?_); refine pl_store_box rfl 31 (.tmp 10) (.tmp 46) rfl w4.heap.size (mcC X q2) (by rfl) (by rfl) z64.toArray (Box.new _ _ _) (zX q2) (iX q2) (mc_one _ _) ?_; intro bY;  have hbw : Below w4.heap.size w4 ((w4.alloc (.cells z64.toArray 31)).setCells w4.heap.size 0 (mcC X q2)) := below_cells _ _ _ _ ((Below.refl _ _).alloc (Nat.le_refl _) _) (Nat.le_refl _); replace bM := bM.below hbw; replace bX := bX.below hbw; replace hX := hX.below hbw; replace hY := hY.below hbw; replace hB := Below.step0 hB hbw; generalize ((w4.alloc (.cells z64.toArray 31)).setCells w4.heap.size 0 (mcC X q2)) = w5 at *; clear hbw) | (go_at_call 15; refine (mach_eq X q1 q2 _ hX hY sX.r8 sX.m sX.s sX.o).mono ?_; rintro e w8 ⟨rfl, hbb⟩;   replace hB := Below.step0 hB hbb;  clear hbb))
    go_ret
    exact ⟨rfl, hB⟩

set_option maxRecDepth 1000000 in
theorem contract (H : Type) (enc : TypeId × Value → H) (W : World) (base : Nat) (args : Array Value) (ds gs : List (DataW H)) (before : List MemPlace)
    (hval : ∀ (j : Nat) t v, Tryd.f8.params[j]? = some t → args[j]? = some v → Value.okWide Tryd.prog W .any base t v)
    (hW : DataW.Whole enc Tryd.prog Tryd.f8.params.toList Rows.runSplitsSpec.vars false W args.toList ds gs before) (hsh : W.ShapedOpen Tryd.prog) (hz : (DataW.weightsEach Tryd.prog (Tryd.f8.params.toList ++ (OpenSpec.ofChange Rows.runSplitsSpec).bare.plain.varTypes Tryd.prog) (ds ++ gs)).all (· ≤ reachBytes) = true) (hL : laidMet Tryd.prog Rows.runSplitsRow.laid W) :
    Calls Tryd.prog 8 args W fun e W' => ∃ v, e = .returned v ∧ Rows.runSplitsSpec.post enc Tryd.prog Tryd.f8 false true false false W args v W' := by
  have hW' := hW
  obtain ⟨p, q, hA0, hV, rfl, hfz, hnd⟩ := hW
  have hA : DataW.TrodAll enc Tryd.prog W 0 (fun _ => true) true Tryd.f8.params.toList args.toList ds p := hA0
  rw [Tryd.params8] at hA hval
  obtain ⟨v0, vs0, d0, ds0, p0, q0, hargs, rfl, rfl, h0, r0⟩ := trodAll_cons hA
  obtain ⟨v1, vs1, d1, ds1, p1, q1, rfl, rfl, rfl, h1, r1⟩ := trodAll_cons r0
  obtain ⟨v2, vs2, d2, ds2, p2, q2, rfl, rfl, rfl, h2, r2⟩ := trodAll_cons r1
  obtain ⟨rfl, rfl, rfl⟩ := trodAll_nil r2
  obtain rfl : args = #[v0, v1, v2] := by cases args; simp_all
  obtain ⟨rfl, rfl⟩ := trodVars_none hV
  have k0 := h0
  have lt0 : ∀ x ∈ p0, x.block < W.heap.size := by obtain ⟨m, hm⟩ := k0; exact DataW.trod_lt m _ _ _ hm
  obtain ⟨x0, q0, rfl, O0, A0⟩ := open_mach (hval 0 31 v0 rfl rfl) k0
  obtain ⟨a1, rfl, rfl, rfl, w1⟩ := open_int Tryd.underlying3 (hval 1 3 v1 rfl rfl) h1
  obtain ⟨a2, rfl, rfl, rfl, w2⟩ := open_int Tryd.underlying3 (hval 2 3 v2 rfl rfl) h2
  clear hA0
  refine (walk x0 q0 a1 a2 O0 (bounds_i64 w1) (bounds_i64 w2) W A0 (shp_of_laid hL (.head _))).mono fun e W' ⟨he, bel⟩ => ?_
  subst he
  exact ⟨_, rfl, _, _, _, [], _, [], hW', trodAll_mk1 (shut_bool Tryd.underlying4 _), (trodAll_cons_mk (Below.trod laidOut (by kernel_rfl) (of_decide_eq_true (by kernel_rfl)) k0 bel lt0) (trodAll_cons_mk (shut_int Tryd.underlying3 w1) (trodAll_cons_mk (shut_int Tryd.underlying3 w2) trodAll_mk0))), rfl, bel.frame _, fun h => by cases h⟩

theorem reads (os : Os) {H : Type} (enc : TypeId × Value → H) : ∃ places, DataW.whole enc Tryd.prog ((World.laidAll Tryd.prog os Rows.runSplitsRow.laid).forCall (fun _ _ => 0) ⟨#[], #[witM, .int .i64 0, .int .i64 0], []⟩).memory Tryd.f8.params.toList Rows.runSplitsSpec.vars false (#[witM, .int .i64 0, .int .i64 0] : Array Value).toList 8 = some ([.agg [.agg [.agg [.lit (.bool false), .lit (.int .i64 0), .agg [.lit (.int .i64 0), .lit (.int .i64 0), .lit (.int .i64 0), .lit (.int .i64 0), .lit (.int .i64 0)]], .agg [.lit (.bool false), .lit (.int .i64 0), .agg [.lit (.int .i64 0), .lit (.int .i64 0), .lit (.int .i64 0), .lit (.int .i64 0), .lit (.int .i64 0)]], .agg [.lit (.bool false), .lit (.int .i64 0), .agg [.lit (.int .i64 0), .lit (.int .i64 0), .lit (.int .i64 0), .lit (.int .i64 0), .lit (.int .i64 0)]], .agg [.lit (.bool false), .lit (.int .i64 0), .agg [.lit (.int .i64 0), .lit (.int .i64 0), .lit (.int .i64 0), .lit (.int .i64 0), .lit (.int .i64 0)]], .agg [.lit (.bool false), .lit (.int .i64 0), .agg [.lit (.int .i64 0), .lit (.int .i64 0), .lit (.int .i64 0), .lit (.int .i64 0), .lit (.int .i64 0)]], .agg [.lit (.bool false), .lit (.int .i64 0), .agg [.lit (.int .i64 0), .lit (.int .i64 0), .lit (.int .i64 0), .lit (.int .i64 0), .lit (.int .i64 0)]], .agg [.lit (.bool false), .lit (.int .i64 0), .agg [.lit (.int .i64 0), .lit (.int .i64 0), .lit (.int .i64 0), .lit (.int .i64 0), .lit (.int .i64 0)]], .agg [.lit (.bool false), .lit (.int .i64 0), .agg [.lit (.int .i64 0), .lit (.int .i64 0), .lit (.int .i64 0), .lit (.int .i64 0), .lit (.int .i64 0)]]], .agg [.lit (.int .i64 0), .lit (.int .i64 0), .lit (.int .i64 0), .lit (.int .i64 0), .lit (.int .i64 0)], .nil, .nil, .nil], .lit (.int .i64 0), .lit (.int .i64 0)], [], places) :=
  ⟨[], by kernel_rfl⟩
theorem laid_met (os : Os) : laidMet Tryd.prog Rows.runSplitsRow.laid ((World.laidAll Tryd.prog os Rows.runSplitsRow.laid).forCall (fun _ _ => 0) ⟨#[], #[witM, .int .i64 0, .int .i64 0], []⟩).memory :=
  laidMet_laidAll _ (by kernel_rfl) (by kernel_rfl)

set_option maxRecDepth 100000 in
theorem lifted (os : Os) (started : os.Started) (H : Type) (enc : TypeId × Value → H) (F : Stop.Interp) :
    ReturnsInHanded {} Tryd.checked os 8 .any ((OpenSpec.ofChange Rows.runSplitsSpec).preRow enc Tryd.prog Tryd.f8 Rows.runSplitsRow.domain false Rows.runSplitsRow.laid) (((OpenSpec.ofChange Rows.runSplitsSpec).at F).post enc Tryd.prog Tryd.f8 false true false false) := by
  obtain ⟨places, hx⟩ := reads os enc
  refine returnsInHanded_of_row (C := Tryd.checked) (s := OpenSpec.ofChange Rows.runSplitsSpec) own started (by kernel_rfl) Tryd.func8
    (witness_row_at (enc := enc) (C := Tryd.checked) false (World.laidAll Tryd.prog os Rows.runSplitsRow.laid) #[witM, .int .i64 0, .int .i64 0] (World.laidAll_os _ _ _) (by kernel_rfl) (by kernel_rfl) (by kernel_rfl)
      (OpenSpec.preRow_of_cond 8 hx (by kernel_rfl) (fun k hk => by cases hk) (by kernel_rfl) (laid_met os))) ?_
  intro W base args ds gs before hval hW _ hcond hz hL hsh _
  exact contract H enc W base args ds gs before hval hW hsh hz hL

theorem said : Rows.RunSplitsSaid :=
  OpenClaim.holds_of_cond 8 Tryd.f8 rfl rfl rfl rfl rfl rfl rfl ⟨rfl, rfl, rfl, rfl, rfl⟩ rfl rfl rfl rfl rfl (by kernel_rfl) Tryd.func8 (by kernel_rfl)
    (of_decide_eq_true (by kernel_rfl)) (by unfold Func.isWrapper; first | (rw [if_pos (by decide +kernel)]; kernel_rfl) | (rw [if_neg (by decide +kernel)]; exact ⟨rfl, rfl⟩))
    (fun os started H enc _ F => by rw [OpenClaim.pre_eq_preRow]; exact lifted os started H enc F)
theorem plain (f : FuncId) (fn : Func) (hf : Tryd.pinned.checked.prog.funcNamed Rows.runSplitsRow.func = some f) (hfn : Tryd.pinned.checked.prog.funcs[f]? = some fn) :
    true = Tryd.pinned.checked.prog.looks [] ∧ ∀ (j : Nat) t, fn.params[j]? = some t → Tryd.pinned.checked.prog.wantsStandIn t = false := by
  obtain rfl : f = 8 := Option.some.inj ((show Tryd.prog.funcNamed Rows.runSplitsRow.func = some 8 by kernel_rfl).symm.trans hf) |>.symm
  obtain rfl : fn = Tryd.f8 := (Option.some.inj (Tryd.func8.symm.trans hfn)).symm
  refine ⟨by kernel_rfl, fun j t ht => ?_⟩
  rw [Tryd.params8] at ht
  have hm : t ∈ [31, 3] := by simpa using Array.mem_of_getElem? ht
  have hall : ([31, 3].all fun u => !Tryd.prog.wantsStandIn u) = true := by kernel_rfl
  exact (show Tryd.prog.wantsStandIn t = false by simpa using List.all_eq_true.1 hall t hm)
theorem proved : Rows.RunSplitsCardSaid :=
  Claim7.holds_tied_plain_at .later [] _ _ _ _ said (fun _ h => by cases h) (by kernel_rfl) (fun _ h => by cases h) runSplits_row_tie rfl ⟨rfl, rfl⟩ (by kernel_rfl) rfl plain (by kernel_rfl)
#print axioms proved
end Go.Proofs.YtigkmfccbndiiaaDoor.runSplits
