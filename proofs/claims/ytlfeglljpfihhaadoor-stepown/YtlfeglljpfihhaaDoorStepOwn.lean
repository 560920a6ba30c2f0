/- Chapters 9 to 11, P19 to P24: but by Call, Back and Open nothing is come to that was not, without what is sealed; for every machine. -/
import Derived.Test.YtlfeglljpfihhaaDoorRows
import Derived.Test.YtlfeglljpfihhaaDoorCards
import Derived.Test.YtlfeglljpfihhaaDoorTie
import Derived.Test.YtlfeglljpfihhaaDoorCardBaseX
import Derived.Test.YtlfeglljpfihhaaDoorInstShapeX
import Derived.Test.YtlfeglljpfihhaaDoorMemPureX
import Derived.Carry
import Derived.Test.YtlfeglljpfihhaaDoorStepRowX
import Derived.Test.YtlfeglljpfihhaaDoorStepOffX
import Derived.Test.YtlfeglljpfihhaaDoorStepOwnedX
import Derived.Test.YtlfeglljpfihhaaDoorStepStepX
import Derived.Test.YtlfeglljpfihhaaDoorRangeWX
import Derived.Test.YtlfeglljpfihhaaDoorKeepOpX
import Derived.Test.YtlfeglljpfihhaaDoorMemChkX
import Derived.Test.YtlfeglljpfihhaaDoorStepChkX
import Derived.Test.YtlfeglljpfihhaaDoorStepFlowX
import Derived.Test.YtlfeglljpfihhaaDoorReachPlsX
import Derived.Test.YtlfeglljpfihhaaDoorReachListX
import Derived.WalkKit
import Derived.ProofKit
import Derived.OpenShut
import Derived.Deep.DeepHandedRow
import Derived.Deep.DeepWitnessRowRef
import Derived.Lay
import Derived.MakeChecks
import Derived.SizedLaws
import Derived.Lib.LaidTab
namespace Go.Proofs.YtlfeglljpfihhaaDoor.stepOwn
open Go.ChangeShapes Go.WideShapes Go.ChangeAt Go.RowKit
set_option linter.unusedVariables false
set_option linter.unusedSimpArgs false

theorem own : ownKnob Tryd.prog.godebug = none := by kernel_rfl
theorem laidOut : laidOutB Tryd.prog = true := by kernel_rfl
def witM : Value := .agg #[.bool false, .int .i64 0, .int .i64 0, .int .i64 0, .int .i64 0, .int .i64 0, .int .i64 0, .bool false, .int .i64 0, .int .i64 0, .int .i64 0, .int .i64 0, .int .i64 0, .int .i64 0, .bool false, .int .i64 0, .int .i64 0, .int .i64 0, .int .i64 0, .int .i64 0, .int .i64 0, .bool false, .int .i64 0, .int .i64 0, .int .i64 0, .int .i64 0, .int .i64 0, .int .i64 0, .bool false, .int .i64 0, .int .i64 0, .int .i64 0, .int .i64 0, .int .i64 0, .int .i64 0, .bool false, .int .i64 0, .int .i64 0, .int .i64 0, .int .i64 0, .int .i64 0, .int .i64 0, .bool false, .int .i64 0, .int .i64 0, .int .i64 0, .int .i64 0, .int .i64 0, .int .i64 0, .bool false, .int .i64 0, .int .i64 0, .int .i64 0, .int .i64 0, .int .i64 0, .int .i64 0, .int .i64 0, .int .i64 0, .int .i64 0, .int .i64 0, .int .i64 0, .slice none 0 0, .slice none 0 0, .slice none 0 0]

theorem own_cls {x : MC} (h8 : x.r.length = 8) (h : stpE x = 0) (h16 : ¬ (opI x).o = 16) (h18 : ¬ (opI x).o = 18) (h19 : ¬ (opI x).o = 19) (p j : Int) : Plc1 (stpM x) false p j → Plc1 x false p j := by
  obtain ⟨hG, hf, hi, x', n', hE, e, _⟩ := step_eff h8 h
  rw [opI_fet hG hf] at h16 h18 h19
  rintro ⟨k, hk, hs, hc⟩
  have hs' : k.s = 0 ∧ inB p k.p = true := by unfold srvB at hs; simpa using hs
  obtain ⟨k0, a, b, c⟩ := flow_has h8 h (.inr ⟨h16, h18, h19⟩) k hk (.inl hs'.1)
  refine ⟨k0, a, ?_, les_cov c hc⟩
  unfold srvB
  rcases b with b | b
  · simp [b, in_trans _ _ _ hs'.2 c.2]
  · cases b
theorem own_len {x : MC} (h8 : x.r.length = 8) (h : stpE x = 0) : (stpM x).m.length = x.m.length := by
  rcases (step_flow h8 h).mem with h1 | ⟨_, _, _, _, _, _, _, _, _, _, _, h1⟩
  · rw [h1]
  · rw [h1, List.length_set]
set_option maxHeartbeats 4000000 in
set_option maxRecDepth 1000000 in
theorem walk (x0 : MC) (q0 : MA) (a1 : Int) (O0 : McOk x0 q0) (b1 : -9223372036854775808 ≤ a1 ∧ a1 ≤ 9223372036854775807) (w : World) (A0 : McAt w x0 q0) (hS : Shp w) :
    Calls Tryd.prog 5 #[.agg (mcC x0 q0).toArray, .int .i64 a1] w fun e w' => e = .returned (.bool true) ∧ Below w.heap.size w w' := by
  have cS := fun w hA hS => step_top x0 q0 w hA O0.toMcB hS
  have lm : x0.m.length ≤ maxLen := Nat.le_trans O0.zm O0.ym
  have cO := fun w hA hS => keep_op x0 q0 w hA O0.toMcB hS lm
  have hi0 : (Tryd.prog.info? 31).map (·.size) = some (mcC x0 q0).length := mach_info O0.r8
  have h8' := stp_r8 O0.r8
  have hi1 : ∀ q', (Tryd.prog.info? 31).map (·.size) = some (mcC (stpM x0) q').length := fun q' => mach_info h8'
  have hz1 : ∀ q', z64.toArray.size = (mcC (stpM x0) q').length := fun q' => by rw [mc_length h8']; rfl
  have HA : Hid (∀ w', Below w.heap.size w w' → McAt w' x0 q0) := fun w' hb => A0.below hb
  have HS : Hid (∀ w', Below w.heap.size w w' → Shp w') := fun w' hb => hS.below hb
  have bM := Box.new w (mcC x0 q0).toArray 31
  have hB : Below w.heap.size w (w.alloc (.cells (mcC x0 q0).toArray 31)) := (Below.refl _ _).alloc (Nat.le_refl _) _
  have cR := fun w => ref_rest a1 128 w b1 (by omega)
  generalize a1 % 128 = P at *
  by_cases hE : stpE x0 = 0
  rotate_left 1
  · have gE : (stpE x0 != 0) = true := by simpa using hE
    clear hE A0 hS
    generalize stpE x0 = E at *
    obtain ⟨⟨uo, ua, ub, uc, ue⟩, hU⟩ : ∃ U, opI x0 = U := ⟨_, rfl⟩
    rw [hU] at cO
    dsimp only at cO
    clear hU
    go_enter Tryd.func5, Tryd.ntmps5
    go_upto_region 5 with (first | ((with_reducible refine at_load ?_); refine pl_load_box (by rfl) 31 (.tmp 2) rfl w.heap.size (by rfl) (mcC x0 q0) bM _ Tryd.underlying31 rfl hi0 ?_) | (go_at_call 10; refine (cS _ (HA.out _ hB) (HS.out _ hB)).mono ?_; rintro e w1 ⟨q', rfl, hbb, hA', -⟩; clear cS; replace bM := bM.below hbb; replace hB := Below.step0 hB hbb;  clear hbb) | ((with_reducible refine at_alloc ?_); refine wpList_alloc1 rfl 31 rfl _ (alloc_mach _) ?_) | ((with_reducible refine at_store ?_); refine pl_store_box rfl 31 (.tmp 5) (.tmp 15) rfl w1.heap.size (mcC (stpM x0) q') (by rfl) (by rfl) z64.toArray (Box.new _ _ _) (hz1 q') (hi1 q') (mc_one _ _) ?_; intro bN; have hbw : Below w1.heap.size w1 ((w1.alloc (.cells z64.toArray 31)).setCells w1.heap.size 0 (mcC (stpM x0) q')) := below_cells _ _ _ _ ((Below.refl _ _).alloc (Nat.le_refl _) _) (Nat.le_refl _); replace bM := bM.below hbw; replace hA' := hA'.below hbw; replace hB := Below.step0 hB hbw; generalize ((w1.alloc (.cells z64.toArray 31)).setCells w1.heap.size 0 (mcC (stpM x0) q')) = w2 at *; clear hbw) | (go_at_call 9; refine (keep_stepped _ (HS.out _ hB)).mono ?_; rintro e w3 ⟨rfl, hbb⟩; replace bM := bM.below hbb; replace bN := bN.below hbb; replace hA' := hA'.below hbb; replace hB := Below.step0 hB hbb; clear hbb) | (go_at_call 12; refine (cO _ (HA.out _ hB) (HS.out _ hB)).mono ?_; rintro e w4 ⟨rfl, hbb⟩; clear cO; replace bM := bM.below hbb; replace bN := bN.below hbb; replace hA' := hA'.below hbb; replace hB := Below.step0 hB hbb; clear hbb))
    have bI := Box.new w4 #[.int .i64 uo, .int .i64 ua, .int .i64 ub, .int .i64 uc] 38
    have hb5 : Below w4.heap.size w4 (w4.alloc (.cells #[.int .i64 uo, .int .i64 ua, .int .i64 ub, .int .i64 uc] 38)) := (Below.refl _ _).alloc (Nat.le_refl _) _
    replace bM := bM.below hb5
    replace bN := bN.below hb5
    replace hA' := hA'.below hb5
    replace hB := Below.step0 hB hb5
    clear hb5
    have qI := bI.cell
    go_wp2
    go_ret
    exact ⟨rfl, hB⟩
  have hC : Good (stpM x0) := step_good O0.r8 hE
  have hX : mcE x0 = 0 := (step_eff O0.r8 hE).1.e
  have OX := hC.b
  have cA := fun w hA => cls_ok x0 q0 P false w hA O0.toMcB hX
  have cB := fun q' w hA => cls_ok (stpM x0) q' P false w hA OX hC.e
  have hp := own_cls O0.r8 hE
  have hl := own_len O0.r8 hE
  have hlm := (mem_small (mc_zero.1 hX).2.2.1).1
  rw [hl] at cB
  rw [hE] at cS
  obtain ⟨⟨uo, ua, ub, uc, ue⟩, hU⟩ : ∃ U, opI x0 = U := ⟨_, rfl⟩
  rw [hU] at cO hp
  dsimp only at cO hp
  clear hU hE A0 hS OX hX hl
  have go1 : ∀ (a b c : Bool), (uo == 18) = a → (uo == 19) = b → (uo == 16) = c → (a || b || c) = true → Calls Tryd.prog 5 #[.agg (mcC x0 q0).toArray, .int .i64 a1] w fun e w' => e = .returned (.bool true) ∧ Below w.heap.size w w' := by
    intro a b c g18 g19 g16 habc
    clear hp cA cB hC
    go_enter Tryd.func5, Tryd.ntmps5
    go_upto_region 5 with (first | ((with_reducible refine at_load ?_); refine pl_load_box (by rfl) 31 (.tmp 2) rfl w.heap.size (by rfl) (mcC x0 q0) bM _ Tryd.underlying31 rfl hi0 ?_) | (go_at_call 10; refine (cS _ (HA.out _ hB) (HS.out _ hB)).mono ?_; rintro e w1 ⟨q', rfl, hbb, hA', -⟩; clear cS; replace bM := bM.below hbb; replace hB := Below.step0 hB hbb;  clear hbb) | ((with_reducible refine at_alloc ?_); refine wpList_alloc1 rfl 31 rfl _ (alloc_mach _) ?_) | ((with_reducible refine at_store ?_); refine pl_store_box rfl 31 (.tmp 5) (.tmp 15) rfl w1.heap.size (mcC (stpM x0) q') (by rfl) (by rfl) z64.toArray (Box.new _ _ _) (hz1 q') (hi1 q') (mc_one _ _) ?_; intro bN; have hbw : Below w1.heap.size w1 ((w1.alloc (.cells z64.toArray 31)).setCells w1.heap.size 0 (mcC (stpM x0) q')) := below_cells _ _ _ _ ((Below.refl _ _).alloc (Nat.le_refl _) _) (Nat.le_refl _); replace bM := bM.below hbw; replace hA' := hA'.below hbw; replace hB := Below.step0 hB hbw; generalize ((w1.alloc (.cells z64.toArray 31)).setCells w1.heap.size 0 (mcC (stpM x0) q')) = w2 at *; clear hbw) | (go_at_call 9; refine (keep_stepped _ (HS.out _ hB)).mono ?_; rintro e w3 ⟨rfl, hbb⟩; replace bM := bM.below hbb; replace bN := bN.below hbb; replace hA' := hA'.below hbb; replace hB := Below.step0 hB hbb; clear hbb) | (go_at_call 12; refine (cO _ (HA.out _ hB) (HS.out _ hB)).mono ?_; rintro e w4 ⟨rfl, hbb⟩; clear cO; replace bM := bM.below hbb; replace bN := bN.below hbb; replace hA' := hA'.below hbb; replace hB := Below.step0 hB hbb; clear hbb))
    have bI := Box.new w4 #[.int .i64 uo, .int .i64 ua, .int .i64 ub, .int .i64 uc] 38
    have hb5 : Below w4.heap.size w4 (w4.alloc (.cells #[.int .i64 uo, .int .i64 ua, .int .i64 ub, .int .i64 uc] 38)) := (Below.refl _ _).alloc (Nat.le_refl _) _
    replace bM := bM.below hb5
    replace bN := bN.below hb5
    replace hA' := hA'.below hb5
    replace hB := Below.step0 hB hb5
    clear hb5
    have qI := bI.cell
    cases a <;> cases b <;> cases c <;> first | (cases habc; done) | (clear habc; go_wp2; go_ret; exact ⟨rfl, hB⟩)
  by_cases h18 : uo = 18
  · exact go1 _ _ _ rfl rfl rfl (by simp [h18])
  by_cases h19 : uo = 19
  · exact go1 _ _ _ rfl rfl rfl (by simp [h19])
  by_cases h16 : uo = 16
  · exact go1 _ _ _ rfl rfl rfl (by simp [h16])
  clear go1
  replace hp := hp h16 h18 h19 P
  have g18 : (uo == 18) = false := by simpa using h18
  have g19 : (uo == 19) = false := by simpa using h19
  have g16 : (uo == 16) = false := by simpa using h16
  clear h16 h18 h19 hC
  go_enter Tryd.func5, Tryd.ntmps5
  go_upto_region 5 with (first | ((with_reducible refine at_load ?_); refine pl_load_box (by rfl) 31 (.tmp 2) rfl w.heap.size (by rfl) (mcC x0 q0) bM _ Tryd.underlying31 rfl hi0 ?_) | (go_at_call 10; refine (cS _ (HA.out _ hB) (HS.out _ hB)).mono ?_; rintro e w1 ⟨q', rfl, hbb, hA', -⟩; clear cS; replace bM := bM.below hbb; replace hB := Below.step0 hB hbb;  clear hbb) | ((with_reducible refine at_alloc ?_); refine wpList_alloc1 rfl 31 rfl _ (alloc_mach _) ?_) | ((with_reducible refine at_store ?_); refine pl_store_box rfl 31 (.tmp 5) (.tmp 15) rfl w1.heap.size (mcC (stpM x0) q') (by rfl) (by rfl) z64.toArray (Box.new _ _ _) (hz1 q') (hi1 q') (mc_one _ _) ?_; intro bN; have hbw : Below w1.heap.size w1 ((w1.alloc (.cells z64.toArray 31)).setCells w1.heap.size 0 (mcC (stpM x0) q')) := below_cells _ _ _ _ ((Below.refl _ _).alloc (Nat.le_refl _) _) (Nat.le_refl _); replace bM := bM.below hbw; replace hA' := hA'.below hbw; replace hB := Below.step0 hB hbw; generalize ((w1.alloc (.cells z64.toArray 31)).setCells w1.heap.size 0 (mcC (stpM x0) q')) = w2 at *; clear hbw) | (go_at_call 9; refine (keep_stepped _ (HS.out _ hB)).mono ?_; rintro e w3 ⟨rfl, hbb⟩; replace bM := bM.below hbb; replace bN := bN.below hbb; replace hA' := hA'.below hbb; replace hB := Below.step0 hB hbb; clear hbb) | (go_at_call 12; refine (cO _ (HA.out _ hB) (HS.out _ hB)).mono ?_; rintro e w4 ⟨rfl, hbb⟩; clear cO; replace bM := bM.below hbb; replace bN := bN.below hbb; replace hA' := hA'.below hbb; replace hB := Below.step0 hB hbb; clear hbb))
  have bI := Box.new w4 #[.int .i64 uo, .int .i64 ua, .int .i64 ub, .int .i64 uc] 38
  have hb5 : Below w4.heap.size w4 (w4.alloc (.cells #[.int .i64 uo, .int .i64 ua, .int .i64 ub, .int .i64 uc] 38)) := (Below.refl _ _).alloc (Nat.le_refl _) _
  replace bM := bM.below hb5
  replace bN := bN.below hb5
  replace hA' := hA'.below hb5
  replace hB := Below.step0 hB hb5
  clear hb5
  have qI := bI.cell
  generalize w4.alloc (.cells #[.int .i64 uo, .int .i64 ua, .int .i64 ub, .int .i64 uc] 38) = w5 at *
  replace cB := cB q'
  obtain ⟨n, hn⟩ : ∃ n, x0.m.length = n := ⟨_, rfl⟩
  rw [hn] at cA cB hlm
  go_upto_region 8 with (go_at_call 11; refine (cR _).mono ?_; rintro e wr1 ⟨rfl, rfl⟩; clear cR)
  clear qI bI
  go_upto_region 10 with (first | ((with_reducible refine at_load ?_); refine pl_load_box (by rfl) 31 (.tmp 2) rfl w.heap.size (by rfl) (mcC x0 q0) bM _ Tryd.underlying31 rfl hi0 ?_) | ((with_reducible refine at_load ?_); refine pl_load_box (by rfl) 31 (.tmp 5) rfl w1.heap.size (by rfl) (mcC (stpM x0) q') bN _ Tryd.underlying31 rfl (hi1 q') ?_) | (go_at_call 18; refine (cA _ (HA.out _ hB)).mono ?_; rintro e w6 ⟨al, cl, ba, rfl, hbb, na, ja⟩; replace bN := bN.below hbb; replace hA' := hA'.below hbb; replace hB := Below.step0 hB hbb; have JA : Hid (∀ j, ba j = true ↔ Plc1 x0 false P j) := ja; clear hbb cA ja) | (go_at_call 18; refine (cB _ hA').mono ?_; rintro e w7 ⟨bl, dl, bb, rfl, hbb, nb, jb⟩; replace na := na.below hbb; replace hB := Below.step0 hB hbb; have JB : Hid (∀ j, bb j = true ↔ Plc1 (stpM x0) false P j) := jb; clear hbb cB jb))
  have r1 := filt_sub (f := 0) (m := n) (b := bb) (c := ba) (fun j h => (JA.out j).2 (hp j ((JB.out j).1 h)))
  have hn9 : (0 : Int) ≤ 0 ∧ (0 : Int) + (n : Int) ≤ 1000 := by omega
  have la := filt_len ba 0 n
  have lb := filt_len bb 0 n
  have c1 := cells_in bl al dl cl (filtN bb 0 n) (filtN ba 0 n) w7 nb na (filt_ok hn9) (filt_ok hn9) (by omega) (by omega)
  rw [r1] at c1
  clear r1 la lb hn9 JA JB hp nb na
  go_wp2_with (go_at_call 19; refine c1.mono ?_; rintro e w8 ⟨rfl, hbb⟩; replace hB := Below.step0 hB hbb; clear hbb c1)
  go_ret
  exact ⟨rfl, hB⟩

set_option maxRecDepth 1000000 in
theorem contract (H : Type) (enc : TypeId × Value → H) (W : World) (base : Nat) (args : Array Value) (ds gs : List (DataW H)) (before : List MemPlace)
    (hval : ∀ (j : Nat) t v, Tryd.f5.params[j]? = some t → args[j]? = some v → Value.okWide Tryd.prog W .any base t v)
    (hW : DataW.Whole enc Tryd.prog Tryd.f5.params.toList Rows.stepOwnSpec.vars false W args.toList ds gs before) (hsh : W.ShapedOpen Tryd.prog) (hz : (DataW.weightsEach Tryd.prog (Tryd.f5.params.toList ++ (OpenSpec.ofChange Rows.stepOwnSpec).bare.plain.varTypes Tryd.prog) (ds ++ gs)).all (· ≤ reachBytes) = true) (hL : laidMet Tryd.prog Rows.stepOwnRow.laid W) :
    Calls Tryd.prog 5 args W fun e W' => ∃ v, e = .returned v ∧ Rows.stepOwnSpec.post enc Tryd.prog Tryd.f5 false true false false W args v W' := by
  have hW' := hW
  obtain ⟨p, q, hA0, hV, rfl, hfz, hnd⟩ := hW
  have hA : DataW.TrodAll enc Tryd.prog W 0 (fun _ => true) true Tryd.f5.params.toList args.toList ds p := hA0
  rw [Tryd.params5] at hA hval
  obtain ⟨v0, vs0, d0, ds0, p0, q0, hargs, rfl, rfl, h0, r0⟩ := trodAll_cons hA
  obtain ⟨v1, vs1, d1, ds1, p1, q1, rfl, rfl, rfl, h1, r1⟩ := trodAll_cons r0
  obtain ⟨rfl, rfl, rfl⟩ := trodAll_nil r1
  obtain rfl : args = #[v0, v1] := by cases args; simp_all
  obtain ⟨rfl, rfl⟩ := trodVars_none hV
  have k0 := h0
  have lt0 : ∀ x ∈ p0, x.block < W.heap.size := by obtain ⟨m, hm⟩ := k0; exact DataW.trod_lt m _ _ _ hm
  obtain ⟨x0, q0, rfl, O0, A0⟩ := open_mach (hval 0 31 v0 rfl rfl) k0
  obtain ⟨a1, rfl, rfl, rfl, w1⟩ := open_int Tryd.underlying3 (hval 1 3 v1 rfl rfl) h1
  clear hA0
  refine (walk x0 q0 a1 O0 (bounds_i64 w1) W A0 (shp_of_laid hL (.head _))).mono fun e W' ⟨he, bel⟩ => ?_
  subst he
  exact ⟨_, rfl, _, _, _, [], _, [], hW', trodAll_mk1 (shut_bool Tryd.underlying4 _), (trodAll_cons_mk (Below.trod laidOut (by kernel_rfl) (of_decide_eq_true (by kernel_rfl)) k0 bel lt0) (trodAll_cons_mk (shut_int Tryd.underlying3 w1) trodAll_mk0)), rfl, bel.frame _, fun h => by cases h⟩

theorem reads (os : Os) {H : Type} (enc : TypeId × Value → H) : ∃ places, DataW.whole enc Tryd.prog ((World.laidAll Tryd.prog os Rows.stepOwnRow.laid).forCall (fun _ _ => 0) ⟨#[], #[witM, .int .i64 0], []⟩).memory Tryd.f5.params.toList Rows.stepOwnSpec.vars false (#[witM, .int .i64 0] : Array Value).toList 8 = some ([.agg [.agg [.agg [.lit (.bool false), .lit (.int .i64 0), .agg [.lit (.int .i64 0), .lit (.int .i64 0), .lit (.int .i64 0), .lit (.int .i64 0), .lit (.int .i64 0)]], .agg [.lit (.bool false), .lit (.int .i64 0), .agg [.lit (.int .i64 0), .lit (.int .i64 0), .lit (.int .i64 0), .lit (.int .i64 0), .lit (.int .i64 0)]], .agg [.lit (.bool false), .lit (.int .i64 0), .agg [.lit (.int .i64 0), .lit (.int .i64 0), .lit (.int .i64 0), .lit (.int .i64 0), .lit (.int .i64 0)]], .agg [.lit (.bool false), .lit (.int .i64 0), .agg [.lit (.int .i64 0), .lit (.int .i64 0), .lit (.int .i64 0), .lit (.int .i64 0), .lit (.int .i64 0)]], .agg [.lit (.bool false), .lit (.int .i64 0), .agg [.lit (.int .i64 0), .lit (.int .i64 0), .lit (.int .i64 0), .lit (.int .i64 0), .lit (.int .i64 0)]], .agg [.lit (.bool false), .lit (.int .i64 0), .agg [.lit (.int .i64 0), .lit (.int .i64 0), .lit (.int .i64 0), .lit (.int .i64 0), .lit (.int .i64 0)]], .agg [.lit (.bool false), .lit (.int .i64 0), .agg [.lit (.int .i64 0), .lit (.int .i64 0), .lit (.int .i64 0), .lit (.int .i64 0), .lit (.int .i64 0)]], .agg [.lit (.bool false), .lit (.int .i64 0), .agg [.lit (.int .i64 0), .lit (.int .i64 0), .lit (.int .i64 0), .lit (.int .i64 0), .lit (.int .i64 0)]]], .agg [.lit (.int .i64 0), .lit (.int .i64 0), .lit (.int .i64 0), .lit (.int .i64 0), .lit (.int .i64 0)], .nil, .nil, .nil], .lit (.int .i64 0)], [], places) :=
  ⟨[], by kernel_rfl⟩
theorem laid_met (os : Os) : laidMet Tryd.prog Rows.stepOwnRow.laid ((World.laidAll Tryd.prog os Rows.stepOwnRow.laid).forCall (fun _ _ => 0) ⟨#[], #[witM, .int .i64 0], []⟩).memory :=
  laidMet_laidAll _ (by kernel_rfl) (by kernel_rfl)

set_option maxRecDepth 100000 in
theorem lifted (os : Os) (started : os.Started) (H : Type) (enc : TypeId × Value → H) (F : Stop.Interp) :
    ReturnsInHanded {} Tryd.checked os 5 .any ((OpenSpec.ofChange Rows.stepOwnSpec).preRow enc Tryd.prog Tryd.f5 Rows.stepOwnRow.domain false Rows.stepOwnRow.laid) (((OpenSpec.ofChange Rows.stepOwnSpec).at F).post enc Tryd.prog Tryd.f5 false true false false) := by
  obtain ⟨places, hx⟩ := reads os enc
  refine returnsInHanded_of_row (C := Tryd.checked) (s := OpenSpec.ofChange Rows.stepOwnSpec) own started (by kernel_rfl) Tryd.func5
    (witness_row_at (enc := enc) (C := Tryd.checked) false (World.laidAll Tryd.prog os Rows.stepOwnRow.laid) #[witM, .int .i64 0] (World.laidAll_os _ _ _) (by kernel_rfl) (by kernel_rfl) (by kernel_rfl)
      (OpenSpec.preRow_of_cond 8 hx (by kernel_rfl) (fun k hk => by cases hk) (by kernel_rfl) (laid_met os))) ?_
  intro W base args ds gs before hval hW _ hcond hz hL hsh _
  exact contract H enc W base args ds gs before hval hW hsh hz hL

theorem said : Rows.StepOwnSaid :=
  OpenClaim.holds_of_cond 5 Tryd.f5 rfl rfl rfl rfl rfl rfl rfl ⟨rfl, rfl, rfl, rfl, rfl⟩ rfl rfl rfl rfl rfl (by kernel_rfl) Tryd.func5 (by kernel_rfl)
    (of_decide_eq_true (by kernel_rfl)) (by unfold Func.isWrapper; first | (rw [if_pos (by decide +kernel)]; kernel_rfl) | (rw [if_neg (by decide +kernel)]; exact ⟨rfl, rfl⟩))
    (fun os started H enc _ F => by rw [OpenClaim.pre_eq_preRow]; exact lifted os started H enc F)
theorem plain (f : FuncId) (fn : Func) (hf : Tryd.pinned.checked.prog.funcNamed Rows.stepOwnRow.func = some f) (hfn : Tryd.pinned.checked.prog.funcs[f]? = some fn) :
    true = Tryd.pinned.checked.prog.looks [] ∧ ∀ (j : Nat) t, fn.params[j]? = some t → Tryd.pinned.checked.prog.wantsStandIn t = false := by
  obtain rfl : f = 5 := Option.some.inj ((show Tryd.prog.funcNamed Rows.stepOwnRow.func = some 5 by kernel_rfl).symm.trans hf) |>.symm
  obtain rfl : fn = Tryd.f5 := (Option.some.inj (Tryd.func5.symm.trans hfn)).symm
  refine ⟨by kernel_rfl, fun j t ht => ?_⟩
  rw [Tryd.params5] at ht
  have hm : t ∈ [31, 3] := by simpa using Array.mem_of_getElem? ht
  have hall : ([31, 3].all fun u => !Tryd.prog.wantsStandIn u) = true := by kernel_rfl
  exact (show Tryd.prog.wantsStandIn t = false by simpa using List.all_eq_true.1 hall t hm)
theorem proved : Rows.StepOwnCardSaid :=
  Claim7.holds_tied_plain_at .later [] _ _ _ _ said (fun _ h => by cases h) (by kernel_rfl) (fun _ h => by cases h) stepOwn_row_tie rfl ⟨rfl, rfl⟩ (by kernel_rfl) rfl plain (by kernel_rfl)
#print axioms proved
end Go.Proofs.YtlfeglljpfihhaaDoor.stepOwn
