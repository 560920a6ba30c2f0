/- inst.Text answers as the document's own InstText, whatever instruction is handed in: for every input (the laid variables of the row are tied to the program's text by the card). -/
import Derived.Test.YtdambfcgiggiiaaDoorRows
import Derived.Test.YtdambfcgiggiiaaDoorCards
import Derived.Test.YtdambfcgiggiiaaDoorTie
import Derived.Test.YtdambfcgiggiiaaDoorCardBase
import Derived.Test.YtdambfcgiggiiaaDoorInstShape
import Derived.Test.YtdambfcgiggiiaaDoorInstLaid
import Derived.Test.YtdambfcgiggiiaaDoorInstArg
import Derived.Test.YtdambfcgiggiiaaDoorInstDev
import Derived.Test.YtdambfcgiggiiaaDoorInstText
import Derived.Test.YtdambfcgiggiiaaDoorInstTextRef
import Derived.Test.YtdambfcgiggiiaaDoorTextPure
import Derived.WalkKit
import Derived.ProofKit
import Derived.OpenShut
import Derived.Deep.DeepHandedRow
import Derived.Deep.DeepWitnessRowRef
import Derived.Lay
import Derived.MakeChecks
import Derived.Lib.LaidTab
namespace Go.Proofs.YtdambfcgiggiiaaDoor.instTexts
open Go.ChangeShapes Go.WideShapes Go.ChangeAt Go.RowKit
set_option linter.unusedVariables false
set_option linter.unusedSimpArgs false

theorem own : ownKnob Tryd.prog.godebug = none := by kernel_rfl


set_option maxHeartbeats 4000000 in
set_option maxRecDepth 1000000 in
theorem walk (a0o a0a a0b a0c : Int) (I0 : ib a0o a0a a0b a0c) (w : World) (hS : Shp w) (m : Int) (hM : w.cell? ⟨1, 0, none⟩ = some (.int .i64 m)) (zM : 1 < w.heap.size) (hP : Pw w) :
    Calls Tryd.prog 5 #[.agg #[.int .i64 a0o, .int .i64 a0a, .int .i64 a0b, .int .i64 a0c]] w fun e w' => e = .returned (.bool true) ∧ Below w.heap.size w w' := by
  have hb0 := Below.one w (.cells #[.int .i64 a0o, .int .i64 a0a, .int .i64 a0b, .int .i64 a0c] 23)
  have Q1 := inst_text a0o a0a a0b a0c (w.alloc (.cells #[.int .i64 a0o, .int .i64 a0a, .int .i64 a0b, .int .i64 a0c] 23)) (hS.below hb0) (hP.below hb0)
  have Q2 := fun w hM zM => ref_insttext a0o a0a a0b a0c w m hM zM
  obtain ⟨T, hT⟩ : ∃ T, bL (textD a0o a0a a0b a0c) = T := ⟨_, rfl⟩
  obtain ⟨E, hE⟩ : ∃ E, chkD a0o a0a a0b a0c = E := ⟨_, rfl⟩
  rw [hT, hE] at Q1
  rw [hT, hE] at Q2
  clear hT hE
  go_enter Tryd.func5, Tryd.ntmps5
  go_wp2_with (first | (go_at_call 15; refine Q1.mono ?_; rintro e w1 ⟨rfl, hbb⟩; have B1 := (Box.new w _ _).below hbb; have q1 := B1.cell; have hB1 := Below.step0 hb0 hbb; clear hbb) | (go_at_call 16; refine (Q2 _ (old_cell hM zM hB1).1 (old_cell hM zM hB1).2).mono ?_; rintro e w2 ⟨rfl, hbb⟩; have hB := Below.step0 hB1 hbb; clear hbb))
  go_ret
  exact ⟨rfl, hB⟩

set_option maxRecDepth 1000000 in
theorem contract (H : Type) (enc : TypeId × Value → H) (W : World) (base : Nat) (args : Array Value) (ds gs : List (DataW H)) (before : List MemPlace)
    (hval : ∀ (j : Nat) t v, Tryd.f5.params[j]? = some t → args[j]? = some v → Value.okWide Tryd.prog W .any base t v)
    (hW : DataW.Whole enc Tryd.prog Tryd.f5.params.toList Rows.instTextsSpec.vars false W args.toList ds gs before) (hsh : W.ShapedOpen Tryd.prog) (hz : (DataW.weightsEach Tryd.prog (Tryd.f5.params.toList ++ (OpenSpec.ofChange Rows.instTextsSpec).bare.plain.varTypes Tryd.prog) (ds ++ gs)).all (· ≤ reachBytes) = true) (hL : laidMet Tryd.prog Rows.instTextsRow.laid W) :
    Calls Tryd.prog 5 args W fun e W' => ∃ v, e = .returned v ∧ Rows.instTextsSpec.post enc Tryd.prog Tryd.f5 false true false false W args v W' := by
  have hW' := hW
  obtain ⟨p, q, hA0, hV, rfl, hfz, hnd⟩ := hW
  have hA : DataW.TrodAll enc Tryd.prog W 0 (fun _ => true) true Tryd.f5.params.toList args.toList ds p := hA0
  rw [Tryd.params5] at hA hval
  obtain ⟨v0, vs0, d0, ds0, p0, q0, hargs, rfl, rfl, h0, r0⟩ := trodAll_cons hA
  obtain ⟨rfl, rfl, rfl⟩ := trodAll_nil r0
  obtain rfl : args = #[v0] := by cases args; simp_all
  obtain ⟨rfl, rfl⟩ := trodVars_none hV
  obtain ⟨a0o, a0a, a0b, a0c, rfl, rfl, rfl, w0o, w0a, w0b, w0c⟩ := open_inst (hval 0 23 v0 rfl rfl) h0
  clear hA0
  obtain ⟨m, hM⟩ : ∃ m, W.cell? ⟨1, 0, none⟩ = some (.int .i64 m) := maxLen_cell W hsh
  have zM : 1 < W.heap.size := by
    rcases Nat.lt_or_ge 1 W.heap.size with h | h
    · exact h
    · rw [World.cell?] at hM; simp [Array.getElem?_eq_none h] at hM
  refine (walk a0o a0a a0b a0c ⟨bounds_i64 w0o, bounds_i64 w0a, bounds_i64 w0b, bounds_i64 w0c⟩ W (shp_of_laid hL (by simp [Rows.instTextsRow])) m hM zM (pw_of_laid hL (by simp [Rows.instTextsRow]))).mono fun e W' ⟨he, bel⟩ => ?_
  subst he
  exact ⟨_, rfl, _, _, _, [], [], [], hW', trodAll_mk1 (shut_bool Tryd.underlying4 _), (trodAll_cons_mk (shut_inst w0o w0a w0b w0c) trodAll_mk0), rfl, bel.frame _, fun h => by cases h⟩

theorem reads (os : Os) {H : Type} (enc : TypeId × Value → H) : ∃ places, DataW.whole enc Tryd.prog ((World.laidAll Tryd.prog os Rows.instTextsRow.laid).forCall (fun _ _ => 0) ⟨#[], #[.agg #[.int .i64 0, .int .i64 0, .int .i64 0, .int .i64 0]], []⟩).memory Tryd.f5.params.toList Rows.instTextsSpec.vars false (#[.agg #[.int .i64 0, .int .i64 0, .int .i64 0, .int .i64 0]] : Array Value).toList 8 = some ([.agg [.lit (.int .i64 0), .lit (.int .i64 0), .lit (.int .i64 0), .lit (.int .i64 0)]], [], places) :=
  ⟨[], by kernel_rfl⟩
theorem laid_met (os : Os) : laidMet Tryd.prog Rows.instTextsRow.laid ((World.laidAll Tryd.prog os Rows.instTextsRow.laid).forCall (fun _ _ => 0) ⟨#[], #[.agg #[.int .i64 0, .int .i64 0, .int .i64 0, .int .i64 0]], []⟩).memory :=
  laidMet_laidAll _ (by kernel_rfl) (by kernel_rfl)

set_option maxRecDepth 100000 in
theorem lifted (os : Os) (started : os.Started) (H : Type) (enc : TypeId × Value → H) (F : Stop.Interp) :
    ReturnsInHanded {} Tryd.checked os 5 .any ((OpenSpec.ofChange Rows.instTextsSpec).preRow enc Tryd.prog Tryd.f5 Rows.instTextsRow.domain false Rows.instTextsRow.laid) (((OpenSpec.ofChange Rows.instTextsSpec).at F).post enc Tryd.prog Tryd.f5 false true false false) := by
  obtain ⟨places, hx⟩ := reads os enc
  refine returnsInHanded_of_row (C := Tryd.checked) (s := OpenSpec.ofChange Rows.instTextsSpec) own started (by kernel_rfl) Tryd.func5
    (witness_row_at (enc := enc) (C := Tryd.checked) false (World.laidAll Tryd.prog os Rows.instTextsRow.laid) #[.agg #[.int .i64 0, .int .i64 0, .int .i64 0, .int .i64 0]] (World.laidAll_os _ _ _) (by kernel_rfl) (by kernel_rfl) (by kernel_rfl)
      (OpenSpec.preRow_of_cond 8 hx (by kernel_rfl) (fun k hk => by cases hk) (by kernel_rfl) (laid_met os))) ?_
  intro W base args ds gs before hval hW _ hcond hz hL hsh _
  exact contract H enc W base args ds gs before hval hW hsh hz hL

theorem said : Rows.InstTextsSaid :=
  OpenClaim.holds_of_cond 5 Tryd.f5 rfl rfl rfl rfl rfl rfl rfl ⟨rfl, rfl, rfl, rfl, rfl⟩ rfl rfl rfl rfl rfl (by kernel_rfl) Tryd.func5 (by kernel_rfl)
    (of_decide_eq_true (by kernel_rfl)) (by unfold Func.isWrapper; first | (rw [if_pos (by decide +kernel)]; kernel_rfl) | (rw [if_neg (by decide +kernel)]; exact ⟨rfl, rfl⟩))
    (fun os started H enc _ F => by rw [OpenClaim.pre_eq_preRow]; exact lifted os started H enc F)
theorem plain (f : FuncId) (fn : Func) (hf : Tryd.pinned.checked.prog.funcNamed Rows.instTextsRow.func = some f) (hfn : Tryd.pinned.checked.prog.funcs[f]? = some fn) :
    true = Tryd.pinned.checked.prog.looks [] ∧ ∀ (j : Nat) t, fn.params[j]? = some t → Tryd.pinned.checked.prog.wantsStandIn t = false := by
  obtain rfl : f = 5 := Option.some.inj ((show Tryd.prog.funcNamed Rows.instTextsRow.func = some 5 by kernel_rfl).symm.trans hf) |>.symm
  obtain rfl : fn = Tryd.f5 := (Option.some.inj (Tryd.func5.symm.trans hfn)).symm
  refine ⟨by kernel_rfl, fun j t ht => ?_⟩
  rw [Tryd.params5] at ht
  have hm : t ∈ [23] := by simpa using Array.mem_of_getElem? ht
  have hall : ([23].all fun u => !Tryd.prog.wantsStandIn u) = true := by kernel_rfl
  exact (show Tryd.prog.wantsStandIn t = false by simpa using List.all_eq_true.1 hall t hm)
theorem proved : Rows.InstTextsCardSaid :=
  Claim7.holds_tied_plain_at .later [] _ _ _ _ said (fun _ h => by cases h) (by kernel_rfl) (fun _ h => by cases h) instTexts_row_tie rfl ⟨rfl, rfl⟩ (by kernel_rfl) rfl plain (by kernel_rfl)
#print axioms proved
end Go.Proofs.YtdambfcgiggiiaaDoor.instTexts
