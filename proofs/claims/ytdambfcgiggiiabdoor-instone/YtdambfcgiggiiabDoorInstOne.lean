/- Two instructions have one number just if they are the same, and one text likewise; the number is at least 0 and below 2^23: for every input (the laid variables of the row are tied to the program's text by the card). -/
import Derived.Test.YtdambfcgiggiiabDoorRows
import Derived.Test.YtdambfcgiggiiabDoorCards
import Derived.Test.YtdambfcgiggiiabDoorTie
import Derived.Test.YtdambfcgiggiiabDoorCardBase
import Derived.Test.YtdambfcgiggiiabDoorInstShape
import Derived.Test.YtdambfcgiggiiabDoorInstLaid
import Derived.Test.YtdambfcgiggiiabDoorInstArg
import Derived.Test.YtdambfcgiggiiabDoorInstDev
import Derived.Test.YtdambfcgiggiiabDoorInstText
import Derived.Test.YtdambfcgiggiiabDoorTextPure
import Derived.Test.YtdambfcgiggiiabDoorParsePure
import Derived.WalkKit
import Derived.ProofKit
import Derived.OpenShut
import Derived.Deep.DeepHandedRow
import Derived.Deep.DeepWitnessRowRef
import Derived.Lay
import Derived.MakeChecks
import Derived.Lib.LaidTab
namespace Go.Proofs.YtdambfcgiggiiabDoor.instOne
open Go.ChangeShapes Go.WideShapes Go.ChangeAt Go.RowKit
set_option linter.unusedVariables false
set_option linter.unusedSimpArgs false

theorem own : ownKnob Tryd.prog.godebug = none := by kernel_rfl

theorem pk1 : packD 1 2 0 (-1) = 4192321 ∧ chkD 1 2 0 (-1) = 0 := by decide
theorem pack_b {o a b c : Int} (h : chkD o a b c = 0) : packD o a b c = numD o a b c ∧ 0 ≤ numD o a b c ∧ numD o a b c < 8388608 := by
  have r := chkD_ok h
  unfold packD numD
  rw [if_pos h]
  omega
theorem str_other {a b : ByteArray} (h : ¬ a = b) : ¬ a.toList = b.toList := by
  rw [ByteArray.toList_eq, ByteArray.toList_eq]
  intro e
  exact h (bytes_inj e)
theorem textD_ok {o a b c : Int} (h : chkD o a b c = 0) : textD o a b c = textL o.toNat a b c := by unfold textD; rw [if_pos h]

set_option maxHeartbeats 4000000 in
set_option maxRecDepth 1000000 in
theorem walk (a0o a0a a0b a0c : Int) (a1o a1a a1b a1c : Int) (I0 : ib a0o a0a a0b a0c) (I1 : ib a1o a1a a1b a1c) (w : World) (hS : Shp w) (hP : Pw w) :
    Calls Tryd.prog 3 #[.agg #[.int .i64 a0o, .int .i64 a0a, .int .i64 a0b, .int .i64 a0c], .agg #[.int .i64 a1o, .int .i64 a1a, .int .i64 a1b, .int .i64 a1c]] w fun e w' => e = .returned (.bool true) ∧ Below w.heap.size w w' := by
  have B1 := (Box.new w #[.int .i64 a0o, .int .i64 a0a, .int .i64 a0b, .int .i64 a0c] 23).alloc (.cells #[.int .i64 a1o, .int .i64 a1a, .int .i64 a1b, .int .i64 a1c] 23)
  have B2 := Box.new1 w (.cells #[.int .i64 a0o, .int .i64 a0a, .int .i64 a0b, .int .i64 a0c] 23) #[.int .i64 a1o, .int .i64 a1a, .int .i64 a1b, .int .i64 a1c] 23
  have q1 := B1.cell
  have q2 := B2.cell
  have hB := two (w := w) (.cells #[.int .i64 a0o, .int .i64 a0a, .int .i64 a0b, .int .i64 a0c] 23) (.cells #[.int .i64 a1o, .int .i64 a1a, .int .i64 a1b, .int .i64 a1c] 23)
  have P1 := fun w hS => inst_pack a0o a0a a0b a0c w hS
  have P2 := fun w hS => inst_pack a1o a1a a1b a1c w hS
  have P3 := fun w hS => inst_pack 1 2 0 (-1) w hS
  have Q1 := fun w hS hP => inst_text a0o a0a a0b a0c w hS hP
  have Q2 := fun w hS hP => inst_text a1o a1a a1b a1c w hS hP
  rw [pk1.1, pk1.2] at P3
  by_cases h1 : chkD a0o a0a a0b a0c = 0
  · obtain ⟨e1, l1, u1⟩ := pack_b h1
    have t1 := textD_ok h1
    rw [h1, e1] at P1
    rw [h1, t1] at Q1
    by_cases h2 : chkD a1o a1a a1b a1c = 0
    · obtain ⟨e2, l2, u2⟩ := pack_b h2
      have t2 := textD_ok h2
      rw [h2, e2] at P2
      rw [h2, t2] at Q2
      have nj := fun e => num_inj h1 h2 e
      have tj := fun e => text_inj h1 h2 e
      clear e1 e2 t1 t2 h1 h2
      by_cases hI : a0o = a1o ∧ a0a = a1a ∧ a0b = a1b ∧ a0c = a1c
      · obtain ⟨rfl, rfl, rfl, rfl⟩ := hI
        clear nj tj
        obtain ⟨X, hX⟩ : ∃ X, numD a0o a0a a0b a0c = X := ⟨_, rfl⟩
        obtain ⟨T, hT⟩ : ∃ T, bL (textL a0o.toNat a0a a0b a0c) = T := ⟨_, rfl⟩
        rw [hX] at P1 P2 l1 u1
        rw [hT] at Q1 Q2
        clear hX hT l2 u2
        go_enter Tryd.func3, Tryd.ntmps3
        go_wp2_with (first | (go_at_call 5; (first | (refine (P1 _ (hS.below hB)).mono ?_; clear P1; rintro e wq ⟨rfl, hbb⟩; replace B1 := B1.below hbb; replace B2 := B2.below hbb; clear q1 q2; have q1 := B1.cell; have q2 := B2.cell; replace hB := Below.step0 hB hbb; clear hbb) | (refine (P2 _ (hS.below hB)).mono ?_; clear P2; rintro e wq ⟨rfl, hbb⟩; replace B1 := B1.below hbb; replace B2 := B2.below hbb; clear q1 q2; have q1 := B1.cell; have q2 := B2.cell; replace hB := Below.step0 hB hbb; clear hbb) | (refine (P3 _ (hS.below hB)).mono ?_; clear P3; rintro e wq ⟨rfl, hbb⟩; replace B1 := B1.below hbb; replace B2 := B2.below hbb; clear q1 q2; have q1 := B1.cell; have q2 := B2.cell; replace hB := Below.step0 hB hbb; clear hbb))) | (go_at_call 6; (first | (refine (Q1 _ (hS.below hB) (hP.below hB)).mono ?_; clear Q1; rintro e wq ⟨rfl, hbb⟩; replace B1 := B1.below hbb; replace B2 := B2.below hbb; clear q1 q2; have q1 := B1.cell; have q2 := B2.cell; replace hB := Below.step0 hB hbb; clear hbb) | (refine (Q2 _ (hS.below hB) (hP.below hB)).mono ?_; clear Q2; rintro e wq ⟨rfl, hbb⟩; replace B1 := B1.below hbb; replace B2 := B2.below hbb; clear q1 q2; have q1 := B1.cell; have q2 := B2.cell; replace hB := Below.step0 hB hbb; clear hbb))))
        go_ret
        exact ⟨rfl, hB⟩
      · have nX : ¬ numD a0o a0a a0b a0c = numD a1o a1a a1b a1c := fun e => hI (nj e)
        have nT : ¬ bL (textL a0o.toNat a0a a0b a0c) = bL (textL a1o.toNat a1a a1b a1c) := fun e => hI (tj (bL_inj e))
        clear nj tj
        obtain ⟨X, hX⟩ : ∃ X, numD a0o a0a a0b a0c = X := ⟨_, rfl⟩
        obtain ⟨T, hT⟩ : ∃ T, bL (textL a0o.toNat a0a a0b a0c) = T := ⟨_, rfl⟩
        obtain ⟨Y, hY⟩ : ∃ X, numD a1o a1a a1b a1c = X := ⟨_, rfl⟩
        obtain ⟨V, hV⟩ : ∃ T, bL (textL a1o.toNat a1a a1b a1c) = T := ⟨_, rfl⟩
        rw [hX] at P1 l1 u1 nX
        rw [hT] at Q1 nT
        rw [hY] at P2 l2 u2 nX
        rw [hV] at Q2 nT
        clear hX hT hY hV
        have nV := str_other nT
        have nV' : (T.toList == V.toList) = false := by simpa using nV
        have nX' : (X == Y) = false := by simpa using nX
        go_enter Tryd.func3, Tryd.ntmps3
        go_wp2_with (first | (go_at_call 5; (first | (refine (P1 _ (hS.below hB)).mono ?_; clear P1; rintro e wq ⟨rfl, hbb⟩; replace B1 := B1.below hbb; replace B2 := B2.below hbb; clear q1 q2; have q1 := B1.cell; have q2 := B2.cell; replace hB := Below.step0 hB hbb; clear hbb) | (refine (P2 _ (hS.below hB)).mono ?_; clear P2; rintro e wq ⟨rfl, hbb⟩; replace B1 := B1.below hbb; replace B2 := B2.below hbb; clear q1 q2; have q1 := B1.cell; have q2 := B2.cell; replace hB := Below.step0 hB hbb; clear hbb) | (refine (P3 _ (hS.below hB)).mono ?_; clear P3; rintro e wq ⟨rfl, hbb⟩; replace B1 := B1.below hbb; replace B2 := B2.below hbb; clear q1 q2; have q1 := B1.cell; have q2 := B2.cell; replace hB := Below.step0 hB hbb; clear hbb))) | (go_at_call 6; (first | (refine (Q1 _ (hS.below hB) (hP.below hB)).mono ?_; clear Q1; rintro e wq ⟨rfl, hbb⟩; replace B1 := B1.below hbb; replace B2 := B2.below hbb; clear q1 q2; have q1 := B1.cell; have q2 := B2.cell; replace hB := Below.step0 hB hbb; clear hbb) | (refine (Q2 _ (hS.below hB) (hP.below hB)).mono ?_; clear Q2; rintro e wq ⟨rfl, hbb⟩; replace B1 := B1.below hbb; replace B2 := B2.below hbb; clear q1 q2; have q1 := B1.cell; have q2 := B2.cell; replace hB := Below.step0 hB hbb; clear hbb))))
        all_goals (refine bodyPost_ret (v := .bool true) ?_ rfl ⟨rfl, hB⟩)
        all_goals (simp [results, Tryd.results3, go_sem, nX, nV])
    · have h2' : (chkD a1o a1a a1b a1c == 0) = false := by simpa using h2
      clear e1 t1 h1
      go_enter Tryd.func3, Tryd.ntmps3
      go_wp2_with (first | (go_at_call 5; (first | (refine (P1 _ (hS.below hB)).mono ?_; clear P1; rintro e wq ⟨rfl, hbb⟩; replace B1 := B1.below hbb; replace B2 := B2.below hbb; clear q1 q2; have q1 := B1.cell; have q2 := B2.cell; replace hB := Below.step0 hB hbb; clear hbb) | (refine (P2 _ (hS.below hB)).mono ?_; clear P2; rintro e wq ⟨rfl, hbb⟩; replace B1 := B1.below hbb; replace B2 := B2.below hbb; clear q1 q2; have q1 := B1.cell; have q2 := B2.cell; replace hB := Below.step0 hB hbb; clear hbb) | (refine (P3 _ (hS.below hB)).mono ?_; clear P3; rintro e wq ⟨rfl, hbb⟩; replace B1 := B1.below hbb; replace B2 := B2.below hbb; clear q1 q2; have q1 := B1.cell; have q2 := B2.cell; replace hB := Below.step0 hB hbb; clear hbb))) | (go_at_call 6; (first | (refine (Q1 _ (hS.below hB) (hP.below hB)).mono ?_; clear Q1; rintro e wq ⟨rfl, hbb⟩; replace B1 := B1.below hbb; replace B2 := B2.below hbb; clear q1 q2; have q1 := B1.cell; have q2 := B2.cell; replace hB := Below.step0 hB hbb; clear hbb) | (refine (Q2 _ (hS.below hB) (hP.below hB)).mono ?_; clear Q2; rintro e wq ⟨rfl, hbb⟩; replace B1 := B1.below hbb; replace B2 := B2.below hbb; clear q1 q2; have q1 := B1.cell; have q2 := B2.cell; replace hB := Below.step0 hB hbb; clear hbb))))
      go_ret
      exact ⟨rfl, hB⟩
  · have h1' : (chkD a0o a0a a0b a0c == 0) = false := by simpa using h1
    go_enter Tryd.func3, Tryd.ntmps3
    go_wp2_with (first | (go_at_call 5; (first | (refine (P1 _ (hS.below hB)).mono ?_; clear P1; rintro e wq ⟨rfl, hbb⟩; replace B1 := B1.below hbb; replace B2 := B2.below hbb; clear q1 q2; have q1 := B1.cell; have q2 := B2.cell; replace hB := Below.step0 hB hbb; clear hbb) | (refine (P2 _ (hS.below hB)).mono ?_; clear P2; rintro e wq ⟨rfl, hbb⟩; replace B1 := B1.below hbb; replace B2 := B2.below hbb; clear q1 q2; have q1 := B1.cell; have q2 := B2.cell; replace hB := Below.step0 hB hbb; clear hbb) | (refine (P3 _ (hS.below hB)).mono ?_; clear P3; rintro e wq ⟨rfl, hbb⟩; replace B1 := B1.below hbb; replace B2 := B2.below hbb; clear q1 q2; have q1 := B1.cell; have q2 := B2.cell; replace hB := Below.step0 hB hbb; clear hbb))) | (go_at_call 6; (first | (refine (Q1 _ (hS.below hB) (hP.below hB)).mono ?_; clear Q1; rintro e wq ⟨rfl, hbb⟩; replace B1 := B1.below hbb; replace B2 := B2.below hbb; clear q1 q2; have q1 := B1.cell; have q2 := B2.cell; replace hB := Below.step0 hB hbb; clear hbb) | (refine (Q2 _ (hS.below hB) (hP.below hB)).mono ?_; clear Q2; rintro e wq ⟨rfl, hbb⟩; replace B1 := B1.below hbb; replace B2 := B2.below hbb; clear q1 q2; have q1 := B1.cell; have q2 := B2.cell; replace hB := Below.step0 hB hbb; clear hbb))))
    go_ret
    exact ⟨rfl, hB⟩

set_option maxRecDepth 1000000 in
theorem contract (H : Type) (enc : TypeId × Value → H) (W : World) (base : Nat) (args : Array Value) (ds gs : List (DataW H)) (before : List MemPlace)
    (hval : ∀ (j : Nat) t v, Tryd.f3.params[j]? = some t → args[j]? = some v → Value.okWide Tryd.prog W .any base t v)
    (hW : DataW.Whole enc Tryd.prog Tryd.f3.params.toList Rows.instOneSpec.vars false W args.toList ds gs before) (hsh : W.ShapedOpen Tryd.prog) (hz : (DataW.weightsEach Tryd.prog (Tryd.f3.params.toList ++ (OpenSpec.ofChange Rows.instOneSpec).bare.plain.varTypes Tryd.prog) (ds ++ gs)).all (· ≤ reachBytes) = true) (hL : laidMet Tryd.prog Rows.instOneRow.laid W) :
    Calls Tryd.prog 3 args W fun e W' => ∃ v, e = .returned v ∧ Rows.instOneSpec.post enc Tryd.prog Tryd.f3 false true false false W args v W' := by
  have hW' := hW
  obtain ⟨p, q, hA0, hV, rfl, hfz, hnd⟩ := hW
  have hA : DataW.TrodAll enc Tryd.prog W 0 (fun _ => true) true Tryd.f3.params.toList args.toList ds p := hA0
  rw [Tryd.params3] at hA hval
  obtain ⟨v0, vs0, d0, ds0, p0, q0, hargs, rfl, rfl, h0, r0⟩ := trodAll_cons hA
  obtain ⟨v1, vs1, d1, ds1, p1, q1, rfl, rfl, rfl, h1, r1⟩ := trodAll_cons r0
  obtain ⟨rfl, rfl, rfl⟩ := trodAll_nil r1
  obtain rfl : args = #[v0, v1] := by cases args; simp_all
  obtain ⟨rfl, rfl⟩ := trodVars_none hV
  obtain ⟨a0o, a0a, a0b, a0c, rfl, rfl, rfl, w0o, w0a, w0b, w0c⟩ := open_inst (hval 0 23 v0 rfl rfl) h0
  obtain ⟨a1o, a1a, a1b, a1c, rfl, rfl, rfl, w1o, w1a, w1b, w1c⟩ := open_inst (hval 1 23 v1 rfl rfl) h1
  clear hA0
  refine (walk a0o a0a a0b a0c a1o a1a a1b a1c ⟨bounds_i64 w0o, bounds_i64 w0a, bounds_i64 w0b, bounds_i64 w0c⟩ ⟨bounds_i64 w1o, bounds_i64 w1a, bounds_i64 w1b, bounds_i64 w1c⟩ W (shp_of_laid hL (by simp [Rows.instOneRow])) (pw_of_laid hL (by simp [Rows.instOneRow]))).mono fun e W' ⟨he, bel⟩ => ?_
  subst he
  exact ⟨_, rfl, _, _, _, [], [], [], hW', trodAll_mk1 (shut_bool Tryd.underlying4 _), (trodAll_cons_mk (shut_inst w0o w0a w0b w0c) (trodAll_cons_mk (shut_inst w1o w1a w1b w1c) trodAll_mk0)), rfl, bel.frame _, fun h => by cases h⟩

theorem reads (os : Os) {H : Type} (enc : TypeId × Value → H) : ∃ places, DataW.whole enc Tryd.prog ((World.laidAll Tryd.prog os Rows.instOneRow.laid).forCall (fun _ _ => 0) ⟨#[], #[.agg #[.int .i64 0, .int .i64 0, .int .i64 0, .int .i64 0], .agg #[.int .i64 0, .int .i64 0, .int .i64 0, .int .i64 0]], []⟩).memory Tryd.f3.params.toList Rows.instOneSpec.vars false (#[.agg #[.int .i64 0, .int .i64 0, .int .i64 0, .int .i64 0], .agg #[.int .i64 0, .int .i64 0, .int .i64 0, .int .i64 0]] : Array Value).toList 8 = some ([.agg [.lit (.int .i64 0), .lit (.int .i64 0), .lit (.int .i64 0), .lit (.int .i64 0)], .agg [.lit (.int .i64 0), .lit (.int .i64 0), .lit (.int .i64 0), .lit (.int .i64 0)]], [], places) :=
  ⟨[], by kernel_rfl⟩
theorem laid_met (os : Os) : laidMet Tryd.prog Rows.instOneRow.laid ((World.laidAll Tryd.prog os Rows.instOneRow.laid).forCall (fun _ _ => 0) ⟨#[], #[.agg #[.int .i64 0, .int .i64 0, .int .i64 0, .int .i64 0], .agg #[.int .i64 0, .int .i64 0, .int .i64 0, .int .i64 0]], []⟩).memory :=
  laidMet_laidAll _ (by kernel_rfl) (by kernel_rfl)

set_option maxRecDepth 100000 in
theorem lifted (os : Os) (started : os.Started) (H : Type) (enc : TypeId × Value → H) (F : Stop.Interp) :
    ReturnsInHanded {} Tryd.checked os 3 .any ((OpenSpec.ofChange Rows.instOneSpec).preRow enc Tryd.prog Tryd.f3 Rows.instOneRow.domain false Rows.instOneRow.laid) (((OpenSpec.ofChange Rows.instOneSpec).at F).post enc Tryd.prog Tryd.f3 false true false false) := by
  obtain ⟨places, hx⟩ := reads os enc
  refine returnsInHanded_of_row (C := Tryd.checked) (s := OpenSpec.ofChange Rows.instOneSpec) own started (by kernel_rfl) Tryd.func3
    (witness_row_at (enc := enc) (C := Tryd.checked) false (World.laidAll Tryd.prog os Rows.instOneRow.laid) #[.agg #[.int .i64 0, .int .i64 0, .int .i64 0, .int .i64 0], .agg #[.int .i64 0, .int .i64 0, .int .i64 0, .int .i64 0]] (World.laidAll_os _ _ _) (by kernel_rfl) (by kernel_rfl) (by kernel_rfl)
      (OpenSpec.preRow_of_cond 8 hx (by kernel_rfl) (fun k hk => by cases hk) (by kernel_rfl) (laid_met os))) ?_
  intro W base args ds gs before hval hW _ hcond hz hL hsh _
  exact contract H enc W base args ds gs before hval hW hsh hz hL

theorem said : Rows.InstOneSaid :=
  OpenClaim.holds_of_cond 3 Tryd.f3 rfl rfl rfl rfl rfl rfl rfl ⟨rfl, rfl, rfl, rfl, rfl⟩ rfl rfl rfl rfl rfl (by kernel_rfl) Tryd.func3 (by kernel_rfl)
    (of_decide_eq_true (by kernel_rfl)) (by unfold Func.isWrapper; first | (rw [if_pos (by decide +kernel)]; kernel_rfl) | (rw [if_neg (by decide +kernel)]; exact ⟨rfl, rfl⟩))
    (fun os started H enc _ F => by rw [OpenClaim.pre_eq_preRow]; exact lifted os started H enc F)
theorem plain (f : FuncId) (fn : Func) (hf : Tryd.pinned.checked.prog.funcNamed Rows.instOneRow.func = some f) (hfn : Tryd.pinned.checked.prog.funcs[f]? = some fn) :
    false = Tryd.pinned.checked.prog.looks [] ∧ ∀ (j : Nat) t, fn.params[j]? = some t → Tryd.pinned.checked.prog.wantsStandIn t = false := by
  obtain rfl : f = 3 := Option.some.inj ((show Tryd.prog.funcNamed Rows.instOneRow.func = some 3 by kernel_rfl).symm.trans hf) |>.symm
  obtain rfl : fn = Tryd.f3 := (Option.some.inj (Tryd.func3.symm.trans hfn)).symm
  refine ⟨by kernel_rfl, fun j t ht => ?_⟩
  rw [Tryd.params3] at ht
  have hm : t ∈ [23] := by simpa using Array.mem_of_getElem? ht
  have hall : ([23].all fun u => !Tryd.prog.wantsStandIn u) = true := by kernel_rfl
  exact (show Tryd.prog.wantsStandIn t = false by simpa using List.all_eq_true.1 hall t hm)
theorem proved : Rows.InstOneCardSaid :=
  Claim7.holds_tied_plain_at .later [] _ _ _ _ said (fun _ h => by cases h) (by kernel_rfl) (fun _ h => by cases h) instOne_row_tie rfl ⟨rfl, rfl⟩ (by kernel_rfl) rfl plain (by kernel_rfl)
#print axioms proved
end Go.Proofs.YtdambfcgiggiiabDoor.instOne
