/- For whatever two numbers, the jumps that are told by their rests are packed as numbers in their own order, each 8 modulo 32, and 2048 times as far apart: for every input (the laid variable of the row is tied to the program's text by the card). -/
import Derived.Test.YtdambfcgiggiiabDoorRows
import Derived.Test.YtdambfcgiggiiabDoorCards
import Derived.Test.YtdambfcgiggiiabDoorTie
import Derived.Test.YtdambfcgiggiiabDoorCardBase
import Derived.Test.YtdambfcgiggiiabDoorInstShape
import Derived.Test.YtdambfcgiggiiabDoorInstLaid
import Derived.Test.YtdambfcgiggiiabDoorNum
import Derived.Test.YtdambfcgiggiiabDoorInstDev
import Derived.WalkKit
import Derived.ProofKit
import Derived.OpenShut
import Derived.Deep.DeepHandedRow
import Derived.Deep.DeepWitnessRowRef
import Derived.Lay
import Derived.MakeChecks
import Derived.Lib.LaidTab
namespace Go.Proofs.YtdambfcgiggiiabDoor.instJumps
open Go.ChangeShapes Go.WideShapes Go.ChangeAt Go.RowKit
set_option linter.unusedVariables false
set_option linter.unusedSimpArgs false

theorem own : ownKnob Tryd.prog.godebug = none := by kernel_rfl

theorem jump_ok (x : Int) (h : -2048 ≤ x ∧ x ≤ 2047) : chkD 8 0 0 x = 0 := by
  unfold chkD
  rw [if_pos (by omega)]
  unfold chkN
  refine if_pos ⟨by decide, by decide, ?_⟩
  exact decide_eq_true h
theorem jump_num (x : Int) (h : -2048 ≤ x ∧ x ≤ 2047) : packD 8 0 0 x = 2048 * x + 4194312 := by
  unfold packD numD
  rw [if_pos (jump_ok x h)]
  omega

set_option maxHeartbeats 4000000 in
set_option maxRecDepth 1000000 in
theorem walk (a0 : Int) (a1 : Int) (b0 : -9223372036854775808 ≤ a0 ∧ a0 ≤ 9223372036854775807) (b1 : -9223372036854775808 ≤ a1 ∧ a1 ≤ 9223372036854775807) (w : World) (hS : Shp w) :
    Calls Tryd.prog 4 #[.int .i64 a0, .int .i64 a1] w fun e w' => e = .returned (.bool true) ∧ Below w.heap.size w w' := by
  obtain ⟨x, hx⟩ : ∃ x, a0 % 4096 - 2048 = x := ⟨_, rfl⟩
  obtain ⟨y, hy⟩ : ∃ y, a1 % 4096 - 2048 = y := ⟨_, rfl⟩
  have ix : -2048 ≤ x ∧ x ≤ 2047 := by omega
  have iy : -2048 ≤ y ∧ y ≤ 2047 := by omega
  have R1 := fun w => ref_rest a0 4096 w b0 (by omega)
  rw [show a0 % 4096 = x + 2048 by omega] at R1
  have R2 := fun w => ref_rest a1 4096 w b1 (by omega)
  rw [show a1 % 4096 = y + 2048 by omega] at R2
  have P1 := fun w hS => inst_pack 8 0 0 x w hS
  have P2 := fun w hS => inst_pack 8 0 0 y w hS
  rw [jump_num x ix, jump_ok x ix] at P1
  rw [jump_num y iy, jump_ok y iy] at P2
  obtain ⟨X, hX⟩ : ∃ X, 2048 * x + 4194312 = X := ⟨_, rfl⟩
  obtain ⟨Y, hY⟩ : ∃ Y, 2048 * y + 4194312 = Y := ⟨_, rfl⟩
  rw [hX] at P1
  rw [hY] at P2
  have d : X.tmod 32 = 8 := by rw [Int.tmod_eq_emod_of_nonneg (by omega)]; omega
  have e1 : decide (X < Y) = decide (x < y) := by rw [decide_eq_decide]; omega
  have e2 : X - Y = 2048 * (x - y) := by omega
  have iX : 0 ≤ X ∧ X ≤ 8388607 := by omega
  have iY : 0 ≤ Y ∧ Y ≤ 8388607 := by omega
  have z1 : x + 2048 - 2048 = x := by omega
  have z2 : y + 2048 - 2048 = y := by omega
  clear hx hy hX hY b0 b1
  go_enter Tryd.func4, Tryd.ntmps4
  go_wp2_with (first | (go_at_call 7; (first | (refine (R1 _).mono ?_; clear R1) | refine (R2 _).mono ?_); rintro e w' ⟨rfl, rfl⟩) | (go_at_call 5; (first | (refine (P1 w' hS).mono ?_; clear P1; rintro e w1 ⟨rfl, hB1⟩) | (refine (P2 w1 (hS.below hB1)).mono ?_; rintro e w2 ⟨rfl, hbb⟩; have hB := Below.step0 hB1 hbb; clear hbb))))
  go_ret
  exact ⟨rfl, hB⟩

set_option maxRecDepth 1000000 in
theorem contract (H : Type) (enc : TypeId × Value → H) (W : World) (base : Nat) (args : Array Value) (ds gs : List (DataW H)) (before : List MemPlace)
    (hval : ∀ (j : Nat) t v, Tryd.f4.params[j]? = some t → args[j]? = some v → Value.okWide Tryd.prog W .any base t v)
    (hW : DataW.Whole enc Tryd.prog Tryd.f4.params.toList Rows.instJumpsSpec.vars false W args.toList ds gs before) (hsh : W.ShapedOpen Tryd.prog) (hz : (DataW.weightsEach Tryd.prog (Tryd.f4.params.toList ++ (OpenSpec.ofChange Rows.instJumpsSpec).bare.plain.varTypes Tryd.prog) (ds ++ gs)).all (· ≤ reachBytes) = true) (hL : laidMet Tryd.prog Rows.instJumpsRow.laid W) :
    Calls Tryd.prog 4 args W fun e W' => ∃ v, e = .returned v ∧ Rows.instJumpsSpec.post enc Tryd.prog Tryd.f4 false true false false W args v W' := by
  have hW' := hW
  obtain ⟨p, q, hA0, hV, rfl, hfz, hnd⟩ := hW
  have hA : DataW.TrodAll enc Tryd.prog W 0 (fun _ => true) true Tryd.f4.params.toList args.toList ds p := hA0
  rw [Tryd.params4] at hA hval
  obtain ⟨v0, vs0, d0, ds0, p0, q0, hargs, rfl, rfl, h0, r0⟩ := trodAll_cons hA
  obtain ⟨v1, vs1, d1, ds1, p1, q1, rfl, rfl, rfl, h1, r1⟩ := trodAll_cons r0
  obtain ⟨rfl, rfl, rfl⟩ := trodAll_nil r1
  obtain rfl : args = #[v0, v1] := by cases args; simp_all
  obtain ⟨rfl, rfl⟩ := trodVars_none hV
  obtain ⟨a0, rfl, rfl, rfl, w0⟩ := open_int Tryd.underlying3 (hval 0 3 v0 rfl rfl) h0
  obtain ⟨a1, rfl, rfl, rfl, w1⟩ := open_int Tryd.underlying3 (hval 1 3 v1 rfl rfl) h1
  clear hA0
  refine (walk a0 a1 (bounds_i64 w0) (bounds_i64 w1) W (shp_of_laid hL (by simp [Rows.instJumpsRow]))).mono fun e W' ⟨he, bel⟩ => ?_
  subst he
  exact ⟨_, rfl, _, _, _, [], [], [], hW', trodAll_mk1 (shut_bool Tryd.underlying4 _), (trodAll_cons_mk (shut_int Tryd.underlying3 w0) (trodAll_cons_mk (shut_int Tryd.underlying3 w1) trodAll_mk0)), rfl, bel.frame _, fun h => by cases h⟩

theorem reads (os : Os) {H : Type} (enc : TypeId × Value → H) : ∃ places, DataW.whole enc Tryd.prog ((World.laidAll Tryd.prog os Rows.instJumpsRow.laid).forCall (fun _ _ => 0) ⟨#[], #[.int .i64 0, .int .i64 0], []⟩).memory Tryd.f4.params.toList Rows.instJumpsSpec.vars false (#[.int .i64 0, .int .i64 0] : Array Value).toList 8 = some ([.lit (.int .i64 0), .lit (.int .i64 0)], [], places) :=
  ⟨[], by kernel_rfl⟩
theorem laid_met (os : Os) : laidMet Tryd.prog Rows.instJumpsRow.laid ((World.laidAll Tryd.prog os Rows.instJumpsRow.laid).forCall (fun _ _ => 0) ⟨#[], #[.int .i64 0, .int .i64 0], []⟩).memory :=
  laidMet_laidAll _ (by kernel_rfl) (by kernel_rfl)

set_option maxRecDepth 100000 in
theorem lifted (os : Os) (started : os.Started) (H : Type) (enc : TypeId × Value → H) (F : Stop.Interp) :
    ReturnsInHanded {} Tryd.checked os 4 .any ((OpenSpec.ofChange Rows.instJumpsSpec).preRow enc Tryd.prog Tryd.f4 Rows.instJumpsRow.domain false Rows.instJumpsRow.laid) (((OpenSpec.ofChange Rows.instJumpsSpec).at F).post enc Tryd.prog Tryd.f4 false true false false) := by
  obtain ⟨places, hx⟩ := reads os enc
  refine returnsInHanded_of_row (C := Tryd.checked) (s := OpenSpec.ofChange Rows.instJumpsSpec) own started (by kernel_rfl) Tryd.func4
    (witness_row_at (enc := enc) (C := Tryd.checked) false (World.laidAll Tryd.prog os Rows.instJumpsRow.laid) #[.int .i64 0, .int .i64 0] (World.laidAll_os _ _ _) (by kernel_rfl) (by kernel_rfl) (by kernel_rfl)
      (OpenSpec.preRow_of_cond 8 hx (by kernel_rfl) (fun k hk => by cases hk) (by kernel_rfl) (laid_met os))) ?_
  intro W base args ds gs before hval hW _ hcond hz hL hsh _
  exact contract H enc W base args ds gs before hval hW hsh hz hL

theorem said : Rows.InstJumpsSaid :=
  OpenClaim.holds_of_cond 4 Tryd.f4 rfl rfl rfl rfl rfl rfl rfl ⟨rfl, rfl, rfl, rfl, rfl⟩ rfl rfl rfl rfl rfl (by kernel_rfl) Tryd.func4 (by kernel_rfl)
    (of_decide_eq_true (by kernel_rfl)) (by unfold Func.isWrapper; first | (rw [if_pos (by decide +kernel)]; kernel_rfl) | (rw [if_neg (by decide +kernel)]; exact ⟨rfl, rfl⟩))
    (fun os started H enc _ F => by rw [OpenClaim.pre_eq_preRow]; exact lifted os started H enc F)
theorem plain (f : FuncId) (fn : Func) (hf : Tryd.pinned.checked.prog.funcNamed Rows.instJumpsRow.func = some f) (hfn : Tryd.pinned.checked.prog.funcs[f]? = some fn) :
    false = Tryd.pinned.checked.prog.looks [] ∧ ∀ (j : Nat) t, fn.params[j]? = some t → Tryd.pinned.checked.prog.wantsStandIn t = false := by
  obtain rfl : f = 4 := Option.some.inj ((show Tryd.prog.funcNamed Rows.instJumpsRow.func = some 4 by kernel_rfl).symm.trans hf) |>.symm
  obtain rfl : fn = Tryd.f4 := (Option.some.inj (Tryd.func4.symm.trans hfn)).symm
  refine ⟨by kernel_rfl, fun j t ht => ?_⟩
  rw [Tryd.params4] at ht
  have hm : t ∈ [3] := by simpa using Array.mem_of_getElem? ht
  have hall : ([3].all fun u => !Tryd.prog.wantsStandIn u) = true := by kernel_rfl
  exact (show Tryd.prog.wantsStandIn t = false by simpa using List.all_eq_true.1 hall t hm)
theorem proved : Rows.InstJumpsCardSaid :=
  Claim7.holds_tied_plain_at .later [] _ _ _ _ said (fun _ h => by cases h) (by kernel_rfl) (fun _ h => by cases h) instJumps_row_tie rfl ⟨rfl, rfl⟩ (by kernel_rfl) rfl plain (by kernel_rfl)
#print axioms proved
end Go.Proofs.YtdambfcgiggiiabDoor.instJumps
