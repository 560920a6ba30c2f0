/- Chapters 10 and 11, P23, P24: however long it runs, no key comes to be that is more than one that was come to ahead of it; for every machine and any number. -/
import Derived.Test.YtlfeglljpfihhaaGreatDoorRows
import Derived.Test.YtlfeglljpfihhaaGreatDoorCards
import Derived.Test.YtlfeglljpfihhaaGreatDoorTie
import Derived.Test.YtlfeglljpfihhaaGreatDoorCardBaseX
import Derived.Test.YtlfeglljpfihhaaGreatDoorInstShapeX
import Derived.Test.YtlfeglljpfihhaaGreatDoorMemPureX
import Derived.Carry
import Derived.Test.YtlfeglljpfihhaaGreatDoorStepRowX
import Derived.Test.YtlfeglljpfihhaaGreatDoorStepOffX
import Derived.Test.YtlfeglljpfihhaaGreatDoorStepOwnedX
import Derived.Test.YtlfeglljpfihhaaGreatDoorStepStepX
import Derived.Test.YtlfeglljpfihhaaGreatDoorRangeWX
import Derived.Test.YtlfeglljpfihhaaGreatDoorMemChkX
import Derived.Test.YtlfeglljpfihhaaGreatDoorRunBaseX
import Derived.Test.YtlfeglljpfihhaaGreatDoorRunTopX
import Derived.Test.YtlfeglljpfihhaaGreatDoorStepChkX
import Derived.Test.YtlfeglljpfihhaaGreatDoorReachListX
import Derived.WalkKit
import Derived.ProofKit
import Derived.OpenShut
import Derived.Deep.DeepHandedRow
import Derived.Deep.DeepWitnessRowRef
import Derived.Lay
import Derived.MakeChecks
import Derived.SizedLaws
import Derived.Lib.LaidTab
namespace Go.Proofs.YtlfeglljpfihhaaGreatDoor.runDown
open Go.ChangeShapes Go.WideShapes Go.ChangeAt Go.RowKit
set_option linter.unusedVariables false
set_option linter.unusedSimpArgs false

theorem own : ownKnob Tryz.prog.godebug = none := by kernel_rfl
theorem laidOut : laidOutB Tryz.prog = true := by kernel_rfl
def witM : Value := .agg #[.bool false, .int .i64 0, .int .i64 0, .int .i64 0, .int .i64 0, .int .i64 0, .int .i64 0, .bool false, .int .i64 0, .int .i64 0, .int .i64 0, .int .i64 0, .int .i64 0, .int .i64 0, .bool false, .int .i64 0, .int .i64 0, .int .i64 0, .int .i64 0, .int .i64 0, .int .i64 0, .bool false, .int .i64 0, .int .i64 0, .int .i64 0, .int .i64 0, .int .i64 0, .int .i64 0, .bool false, .int .i64 0, .int .i64 0, .int .i64 0, .int .i64 0, .int .i64 0, .int .i64 0, .bool false, .int .i64 0, .int .i64 0, .int .i64 0, .int .i64 0, .int .i64 0, .int .i64 0, .bool false, .int .i64 0, .int .i64 0, .int .i64 0, .int .i64 0, .int .i64 0, .int .i64 0, .bool false, .int .i64 0, .int .i64 0, .int .i64 0, .int .i64 0, .int .i64 0, .int .i64 0, .int .i64 0, .int .i64 0, .int .i64 0, .int .i64 0, .int .i64 0, .slice none 0 0, .slice none 0 0, .slice none 0 0]

theorem run_x (x : MC) (f : Int) (q : MA) (w : World) (hA : McAt w x q) (hO : McB x) (hS : Shp w) :
    Calls Tryz.prog 8 #[.agg (mcC x q).toArray, .int .i64 f] w fun e w' => ∃ q', e = .returned (.tuple #[.agg (mcC (runX f x) q').toArray, .int .i64 (runK f x), .int .i64 (runF f x)]) ∧ Below w.heap.size w w' ∧ McAt w' (runX f x) q' ∧ FarX (fun k => k < w.heap.size) (runX f x) q' := run_run x q f w hA hO hS
theorem len_pos {ks : List K5} {k : K5} (h : k ∈ ks) : (0 : Int) < (ks.length : Int) := by
  have := List.length_pos_of_mem h
  omega
set_option maxHeartbeats 4000000 in
set_option maxRecDepth 1000000 in
theorem walk (x0 : MC) (q0 : MA) (a1 : Int) (O0 : McOk x0 q0) (b1 : -9223372036854775808 ≤ a1 ∧ a1 ≤ 9223372036854775807) (w : World) (A0 : McAt w x0 q0) (hS : Shp w) :
    Calls Tryz.prog 3 #[.agg (mcC x0 q0).toArray, .int .i64 a1] w fun e w' => e = .returned (.bool true) ∧ Below w.heap.size w w' := by
  have hi0 : (Tryz.prog.info? 31).map (·.size) = some (mcC x0 q0).length := mach_info O0.r8
  have HA : Hid (∀ w', Below w.heap.size w w' → McAt w' x0 q0) := fun w' hb => A0.below hb
  have HS : Hid (∀ w', Below w.heap.size w w' → Shp w') := fun w' hb => hS.below hb
  have bM := Box.new w (mcC x0 q0).toArray 31
  have hB : Below w.heap.size w (w.alloc (.cells (mcC x0 q0).toArray 31)) := (Below.refl _ _).alloc (Nat.le_refl _) _
  obtain ⟨F, hF⟩ : ∃ F : Nat, a1 % 2000 = (F : Int) := ⟨(a1 % 2000).toNat, by omega⟩
  have lF : F < 2000 := by omega
  have cR := fun w => ref_rest a1 2000 w b1 (by omega)
  rw [hF] at cR
  clear hF
  have r0 := O0.r8
  have OB := O0.toMcB
  have c2 := fun w hA hS => run_x x0 F q0 w hA OB hS
  by_cases hE : mcE x0 = 0
  rotate_left 1
  · have cA := fun w hA => reach_keys_no x0 q0 true w hA OB hE
    obtain ⟨e1, e2, e3⟩ := runX_bad (f := F) (x := x0) (by omega) hE
    rw [e1, e2, e3] at c2
    have gE : (mcE x0 != 0) = true := by simpa using hE
    generalize mcE x0 = E at *
    have iZ : ∀ q', (Tryz.prog.info? 31).map (·.size) = some (mcC zeroM q').length := fun q' => mach_info rfl
    have zZ : ∀ q', z64.toArray.size = (mcC zeroM q').length := fun q' => rfl
    clear e1 e2 e3 hE A0 hS O0 OB
    go_enter Tryz.func3, Tryz.ntmps3
    go_wp2_with (first | (go_at_call 5; refine (keep_stepped _ (HS.out _ hB)).mono ?_; rintro e w1 ⟨rfl, hbb⟩; replace bM := bM.below hbb; replace hB := Below.step0 hB hbb; clear hbb) | (go_at_call 6; refine (cR _).mono ?_; rintro e wr1 ⟨rfl, rfl⟩; clear cR) | ((with_reducible refine at_load ?_); refine pl_load_box (by rfl) 31 (.tmp 2) rfl w.heap.size (by rfl) (mcC x0 q0) bM _ Tryz.underlying31 rfl hi0 ?_) | (go_at_call 7; refine (cA _ (HA.out _ hB)).mono ?_; rintro e w2 ⟨rfl, hbb⟩; replace bM := bM.below hbb; replace hB := Below.step0 hB hbb; clear hbb cA) | (go_at_call 8; refine (c2 _ (HA.out _ hB) (HS.out _ hB)).mono ?_; rintro e w3 ⟨q1, rfl, hbb, hX, -⟩; try replace bM := bM.below hbb; replace hB := Below.step0 hB hbb; clear hbb c2) | ((with_reducible refine at_alloc ?_); refine wpList_alloc1 rfl 31 rfl _ (alloc_mach _) ?_) | ((with_reducible refine at_store ?_); refine pl_store_box rfl 31 (.tmp 7) (.tmp 25) rfl w3.heap.size (mcC zeroM q1) (by rfl) (by rfl) z64.toArray (Box.new _ _ _) (zZ q1) (iZ q1) (mc_one _ _) ?_; intro bX; have hbw : Below w3.heap.size w3 ((w3.alloc (.cells z64.toArray 31)).setCells w3.heap.size 0 (mcC zeroM q1)) := below_cells _ _ _ _ ((Below.refl _ _).alloc (Nat.le_refl _) _) (Nat.le_refl _); replace hB := Below.step0 hB hbw; generalize ((w3.alloc (.cells z64.toArray 31)).setCells w3.heap.size 0 (mcC zeroM q1)) = w4 at *; clear hbw))
    go_ret
    exact ⟨rfl, hB⟩
  have cA := fun w (hA : McAt w x0 q0) => reach_keys x0 q0 true w hA OB hA.c.2.1 hA.c.2.2 hE
  have hG := good_of r0 hE
  obtain ⟨e1, e2, e3⟩ := runX_good (f := F) (x := x0) (by omega) hE
  rw [e1, e2, e3] at c2
  have GX := runM_good F x0 hG
  have hf := run_has F x0 hG
  have hk0 : Has (runM F x0) true (runM F x0).k := .rt .code
  have o1 : ∀ k, Has x0 true k → k5b k := fun k h => has_kb OB h
  have o2 : ∀ k, Has (runM F x0) true k → k5b k := fun k h => has_kb GX.b h
  generalize runM F x0 = X at *
  generalize runN F x0 = N at *
  generalize runE F x0 = E at *
  have rX := GX.r8
  have cB := fun q' w (hA : McAt w X q') => reach_keys X q' true w hA GX.b hA.c.2.1 hA.c.2.2 GX.e
  have iX : ∀ q', (Tryz.prog.info? 31).map (·.size) = some (mcC X q').length := fun q' => mach_info rX
  have zX : ∀ q', z64.toArray.size = (mcC X q').length := fun q' => by rw [mc_length rX]; rfl
  clear e1 e2 e3 hE A0 hS hG GX O0 OB
  go_enter Tryz.func3, Tryz.ntmps3
  go_upto_region 6 with (first | (go_at_call 5; refine (keep_stepped _ (HS.out _ hB)).mono ?_; rintro e w1 ⟨rfl, hbb⟩; replace bM := bM.below hbb; replace hB := Below.step0 hB hbb; clear hbb) | (go_at_call 6; refine (cR _).mono ?_; rintro e wr1 ⟨rfl, rfl⟩; clear cR) | ((with_reducible refine at_load ?_); refine pl_load_box (by rfl) 31 (.tmp 2) rfl w.heap.size (by rfl) (mcC x0 q0) bM _ Tryz.underlying31 rfl hi0 ?_) | (go_at_call 7; refine (cA _ (HA.out _ hB)).mono ?_; rintro e w2 ⟨al, cl, ka, rfl, hbb, na, la, ja, -⟩; replace bM := bM.below hbb; replace hB := Below.step0 hB hbb; clear hbb cA) | (go_at_call 8; refine (c2 _ (HA.out _ hB) (HS.out _ hB)).mono ?_; rintro e w3 ⟨q1, rfl, hbb, hX, -⟩; try replace bM := bM.below hbb; replace na := na.below hbb; replace hB := Below.step0 hB hbb; clear hbb c2) | ((with_reducible refine at_alloc ?_); refine wpList_alloc1 rfl 31 rfl _ (alloc_mach _) ?_) | ((with_reducible refine at_store ?_); refine pl_store_box rfl 31 (.tmp 7) (.tmp 25) rfl w3.heap.size (mcC X q1) (by rfl) (by rfl) z64.toArray (Box.new _ _ _) (zX q1) (iX q1) (mc_one _ _) ?_; intro bX; have hbw : Below w3.heap.size w3 ((w3.alloc (.cells z64.toArray 31)).setCells w3.heap.size 0 (mcC X q1)) := below_cells _ _ _ _ ((Below.refl _ _).alloc (Nat.le_refl _) _) (Nat.le_refl _); replace na := na.below hbw; replace hX := hX.below hbw; replace hB := Below.step0 hB hbw; generalize ((w3.alloc (.cells z64.toArray 31)).setCells w3.heap.size 0 (mcC X q1)) = w4 at *; clear hbw))
  go_upto_region 9 with (first | ((with_reducible refine at_load ?_); refine pl_load_box (by rfl) 31 (.tmp 7) rfl w3.heap.size (by rfl) (mcC X q1) bX _ Tryz.underlying31 rfl (iX q1) ?_) | (go_at_call 7; refine (cB _ _ hX).mono ?_; rintro e w7 ⟨bl, dl, kb1, rfl, hbb, nb, lb, jb, -⟩; replace na := na.below hbb; replace hB := Below.step0 hB hbb; clear hbb cB))
  have gl := len_pos ((jb _).2 hk0)
  have c1 := keep_within bl al dl cl kb1 ka w7 nb na (fun k h => o2 k ((jb k).1 h)) (fun k h => o1 k ((ja k).1 h)) lb la (fun k h => by
    obtain ⟨k0, h0, l0⟩ := hf k ((jb k).1 h)
    rw [List.any_eq_true]
    exact ⟨k0, (ja k0).2 h0, und_les.2 l0⟩)
  clear hf hk0 o1 o2 ja jb na nb
  go_wp2_with (go_at_call 9; refine c1.mono ?_; rintro e w8 ⟨rfl, hbb⟩; replace hB := Below.step0 hB hbb; clear hbb c1)
  go_ret
  exact ⟨rfl, hB⟩

set_option maxRecDepth 1000000 in
theorem contract (H : Type) (enc : TypeId × Value → H) (W : World) (base : Nat) (args : Array Value) (ds gs : List (DataW H)) (before : List MemPlace)
    (hval : ∀ (j : Nat) t v, Tryz.f3.params[j]? = some t → args[j]? = some v → Value.okWide Tryz.prog W .any base t v)
    (hW : DataW.Whole enc Tryz.prog Tryz.f3.params.toList Rows.runDownSpec.vars false W args.toList ds gs before) (hsh : W.ShapedOpen Tryz.prog) (hz : (DataW.weightsEach Tryz.prog (Tryz.f3.params.toList ++ (OpenSpec.ofChange Rows.runDownSpec).bare.plain.varTypes Tryz.prog) (ds ++ gs)).all (· ≤ reachBytes) = true) (hL : laidMet Tryz.prog Rows.runDownRow.laid W) :
    Calls Tryz.prog 3 args W fun e W' => ∃ v, e = .returned v ∧ Rows.runDownSpec.post enc Tryz.prog Tryz.f3 false true false false W args v W' := by
  have hW' := hW
  obtain ⟨p, q, hA0, hV, rfl, hfz, hnd⟩ := hW
  have hA : DataW.TrodAll enc Tryz.prog W 0 (fun _ => true) true Tryz.f3.params.toList args.toList ds p := hA0
  rw [Tryz.params3] at hA hval
  obtain ⟨v0, vs0, d0, ds0, p0, q0, hargs, rfl, rfl, h0, r0⟩ := trodAll_cons hA
  obtain ⟨v1, vs1, d1, ds1, p1, q1, rfl, rfl, rfl, h1, r1⟩ := trodAll_cons r0
  obtain ⟨rfl, rfl, rfl⟩ := trodAll_nil r1
  obtain rfl : args = #[v0, v1] := by cases args; simp_all
  obtain ⟨rfl, rfl⟩ := trodVars_none hV
  have k0 := h0
  have lt0 : ∀ x ∈ p0, x.block < W.heap.size := by obtain ⟨m, hm⟩ := k0; exact DataW.trod_lt m _ _ _ hm
  obtain ⟨x0, q0, rfl, O0, A0⟩ := open_mach (hval 0 31 v0 rfl rfl) k0
  obtain ⟨a1, rfl, rfl, rfl, w1⟩ := open_int Tryz.underlying3 (hval 1 3 v1 rfl rfl) h1
  clear hA0
  refine (walk x0 q0 a1 O0 (bounds_i64 w1) W A0 (shp_of_laid hL (.head _))).mono fun e W' ⟨he, bel⟩ => ?_
  subst he
  exact ⟨_, rfl, _, _, _, [], _, [], hW', trodAll_mk1 (shut_bool Tryz.underlying4 _), (trodAll_cons_mk (Below.trod laidOut (by kernel_rfl) (of_decide_eq_true (by kernel_rfl)) k0 bel lt0) (trodAll_cons_mk (shut_int Tryz.underlying3 w1) trodAll_mk0)), rfl, bel.frame _, fun h => by cases h⟩

theorem reads (os : Os) {H : Type} (enc : TypeId × Value → H) : ∃ places, DataW.whole enc Tryz.prog ((World.laidAll Tryz.prog os Rows.runDownRow.laid).forCall (fun _ _ => 0) ⟨#[], #[witM, .int .i64 0], []⟩).memory Tryz.f3.params.toList Rows.runDownSpec.vars false (#[witM, .int .i64 0] : Array Value).toList 8 = some ([.agg [.agg [.agg [.lit (.bool false), .lit (.int .i64 0), .agg [.lit (.int .i64 0), .lit (.int .i64 0), .lit (.int .i64 0), .lit (.int .i64 0), .lit (.int .i64 0)]], .agg [.lit (.bool false), .lit (.int .i64 0), .agg [.lit (.int .i64 0), .lit (.int .i64 0), .lit (.int .i64 0), .lit (.int .i64 0), .lit (.int .i64 0)]], .agg [.lit (.bool false), .lit (.int .i64 0), .agg [.lit (.int .i64 0), .lit (.int .i64 0), .lit (.int .i64 0), .lit (.int .i64 0), .lit (.int .i64 0)]], .agg [.lit (.bool false), .lit (.int .i64 0), .agg [.lit (.int .i64 0), .lit (.int .i64 0), .lit (.int .i64 0), .lit (.int .i64 0), .lit (.int .i64 0)]], .agg [.lit (.bool false), .lit (.int .i64 0), .agg [.lit (.int .i64 0), .lit (.int .i64 0), .lit (.int .i64 0), .lit (.int .i64 0), .lit (.int .i64 0)]], .agg [.lit (.bool false), .lit (.int .i64 0), .agg [.lit (.int .i64 0), .lit (.int .i64 0), .lit (.int .i64 0), .lit (.int .i64 0), .lit (.int .i64 0)]], .agg [.lit (.bool false), .lit (.int .i64 0), .agg [.lit (.int .i64 0), .lit (.int .i64 0), .lit (.int .i64 0), .lit (.int .i64 0), .lit (.int .i64 0)]], .agg [.lit (.bool false), .lit (.int .i64 0), .agg [.lit (.int .i64 0), .lit (.int .i64 0), .lit (.int .i64 0), .lit (.int .i64 0), .lit (.int .i64 0)]]], .agg [.lit (.int .i64 0), .lit (.int .i64 0), .lit (.int .i64 0), .lit (.int .i64 0), .lit (.int .i64 0)], .nil, .nil, .nil], .lit (.int .i64 0)], [], places) :=
  ⟨[], by kernel_rfl⟩
theorem laid_met (os : Os) : laidMet Tryz.prog Rows.runDownRow.laid ((World.laidAll Tryz.prog os Rows.runDownRow.laid).forCall (fun _ _ => 0) ⟨#[], #[witM, .int .i64 0], []⟩).memory :=
  laidMet_laidAll _ (by kernel_rfl) (by kernel_rfl)

set_option maxRecDepth 100000 in
theorem lifted (os : Os) (started : os.Started) (H : Type) (enc : TypeId × Value → H) (F : Stop.Interp) :
    ReturnsInHanded {} Tryz.checked os 3 .any ((OpenSpec.ofChange Rows.runDownSpec).preRow enc Tryz.prog Tryz.f3 Rows.runDownRow.domain false Rows.runDownRow.laid) (((OpenSpec.ofChange Rows.runDownSpec).at F).post enc Tryz.prog Tryz.f3 false true false false) := by
  obtain ⟨places, hx⟩ := reads os enc
  refine returnsInHanded_of_row (C := Tryz.checked) (s := OpenSpec.ofChange Rows.runDownSpec) own started (by kernel_rfl) Tryz.func3
    (witness_row_at (enc := enc) (C := Tryz.checked) false (World.laidAll Tryz.prog os Rows.runDownRow.laid) #[witM, .int .i64 0] (World.laidAll_os _ _ _) (by kernel_rfl) (by kernel_rfl) (by kernel_rfl)
      (OpenSpec.preRow_of_cond 8 hx (by kernel_rfl) (fun k hk => by cases hk) (by kernel_rfl) (laid_met os))) ?_
  intro W base args ds gs before hval hW _ hcond hz hL hsh _
  exact contract H enc W base args ds gs before hval hW hsh hz hL

theorem said : Rows.RunDownSaid :=
  OpenClaim.holds_of_cond 3 Tryz.f3 rfl rfl rfl rfl rfl rfl rfl ⟨rfl, rfl, rfl, rfl, rfl⟩ rfl rfl rfl rfl rfl (by kernel_rfl) Tryz.func3 (by kernel_rfl)
    (of_decide_eq_true (by kernel_rfl)) (by unfold Func.isWrapper; first | (rw [if_pos (by decide +kernel)]; kernel_rfl) | (rw [if_neg (by decide +kernel)]; exact ⟨rfl, rfl⟩))
    (fun os started H enc _ F => by rw [OpenClaim.pre_eq_preRow]; exact lifted os started H enc F)
theorem plain (f : FuncId) (fn : Func) (hf : Tryz.pinned.checked.prog.funcNamed Rows.runDownRow.func = some f) (hfn : Tryz.pinned.checked.prog.funcs[f]? = some fn) :
    true = Tryz.pinned.checked.prog.looks [] ∧ ∀ (j : Nat) t, fn.params[j]? = some t → Tryz.pinned.checked.prog.wantsStandIn t = false := by
  obtain rfl : f = 3 := Option.some.inj ((show Tryz.prog.funcNamed Rows.runDownRow.func = some 3 by kernel_rfl).symm.trans hf) |>.symm
  obtain rfl : fn = Tryz.f3 := (Option.some.inj (Tryz.func3.symm.trans hfn)).symm
  refine ⟨by kernel_rfl, fun j t ht => ?_⟩
  rw [Tryz.params3] at ht
  have hm : t ∈ [31, 3] := by simpa using Array.mem_of_getElem? ht
  have hall : ([31, 3].all fun u => !Tryz.prog.wantsStandIn u) = true := by kernel_rfl
  exact (show Tryz.prog.wantsStandIn t = false by simpa using List.all_eq_true.1 hall t hm)
theorem proved : Rows.RunDownCardSaid :=
  Claim7.holds_tied_plain_at .later [] _ _ _ _ said (fun _ h => by cases h) (by kernel_rfl) (fun _ h => by cases h) runDown_row_tie rfl ⟨rfl, rfl⟩ (by kernel_rfl) rfl plain (by kernel_rfl)
#print axioms proved
end Go.Proofs.YtlfeglljpfihhaaGreatDoor.runDown
