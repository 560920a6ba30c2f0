/- Chapter 10, P23: without fuel nothing happens, and what has halted stays so; for every machine and any number. -/
import Derived.Test.YtigkmfccbndiiaaDoorRows
import Derived.Test.YtigkmfccbndiiaaDoorCards
import Derived.Test.YtigkmfccbndiiaaDoorTie
import Derived.Test.YtigkmfccbndiiaaDoorCardBase
import Derived.Test.YtigkmfccbndiiaaDoorInstShape
import Derived.Test.YtigkmfccbndiiaaDoorInstLaid
import Derived.Test.YtigkmfccbndiiaaDoorMachArg
import Derived.Carry
import Derived.Test.YtigkmfccbndiiaaDoorKeyPure
import Derived.Test.YtigkmfccbndiiaaDoorMachArg
import Derived.Test.YtigkmfccbndiiaaDoorStepOff
import Derived.Test.YtigkmfccbndiiaaDoorStepOwn
import Derived.Test.YtigkmfccbndiiaaDoorStepTop
import Derived.Test.YtigkmfccbndiiaaDoorStepKeep
import Derived.Test.YtigkmfccbndiiaaDoorRangeW
import Derived.Test.YtigkmfccbndiiaaDoorInMid
import Derived.Test.YtigkmfccbndiiaaDoorKeepSmall
import Derived.Test.YtigkmfccbndiiaaDoorKeepOp
import Derived.Test.YtigkmfccbndiiaaDoorNum
import Derived.Test.YtigkmfccbndiiaaDoorRunPlain
import Derived.Test.YtigkmfccbndiiaaDoorRunTop
import Derived.Test.YtigkmfccbndiiaaDoorStepChk2
import Derived.WalkKit
import Derived.ProofKit
import Derived.OpenShut
import Derived.Deep.DeepHandedRow
import Derived.Deep.DeepWitnessRowRef
import Derived.Lay
import Derived.MakeChecks
import Derived.SizedLaws
import Derived.Lib.LaidTab
namespace Go.Proofs.YtigkmfccbndiiaaDoor.runNone
open Go.ChangeShapes Go.WideShapes Go.ChangeAt Go.RowKit
set_option linter.unusedVariables false
set_option linter.unusedSimpArgs false

theorem own : ownKnob Tryd.prog.godebug = none := by kernel_rfl
theorem laidOut : laidOutB Tryd.prog = true := by kernel_rfl
def witM : Value := .agg #[.bool false, .int .i64 0, .int .i64 0, .int .i64 0, .int .i64 0, .int .i64 0, .int .i64 0, .bool false, .int .i64 0, .int .i64 0, .int .i64 0, .int .i64 0, .int .i64 0, .int .i64 0, .bool false, .int .i64 0, .int .i64 0, .int .i64 0, .int .i64 0, .int .i64 0, .int .i64 0, .bool false, .int .i64 0, .int .i64 0, .int .i64 0, .int .i64 0, .int .i64 0, .int .i64 0, .bool false, .int .i64 0, .int .i64 0, .int .i64 0, .int .i64 0, .int .i64 0, .int .i64 0, .bool false, .int .i64 0, .int .i64 0, .int .i64 0, .int .i64 0, .int .i64 0, .int .i64 0, .bool false, .int .i64 0, .int .i64 0, .int .i64 0, .int .i64 0, .int .i64 0, .int .i64 0, .bool false, .int .i64 0, .int .i64 0, .int .i64 0, .int .i64 0, .int .i64 0, .int .i64 0, .int .i64 0, .int .i64 0, .int .i64 0, .int .i64 0, .int .i64 0, .slice none 0 0, .slice none 0 0, .slice none 0 0]

theorem run_x (x : MC) (f : Int) (q : MA) (w : World) (hA : McAt w x q) (hO : McB x) (hS : Shp w) :
    Calls Tryd.prog 23 #[.agg (mcC x q).toArray, .int .i64 f] w fun e w' => ∃ q', e = .returned (.tuple #[.agg (mcC (runX f x) q').toArray, .int .i64 (runK f x), .int .i64 (runF f x)]) ∧ Below w.heap.size w w' ∧ McAt w' (runX f x) q' ∧ FarX (fun k => k < w.heap.size) (runX f x) q' := run_run x q f w hA hO hS
theorem wp_alloc_row {P : Program} {op : Oper} {a : Act} {w w' : World} {K : Act → World → Prop} {Q : Exit → Act → World → Prop} (ty : TypeId) (ho : op.op = .alloc ty) (v : Value) (hr : (Instr.alloc ty true (.tuple #[])).run P w = .ok v w') (h : K (a.put op.dst v) w') : op.wp P a w K Q := by
  unfold Oper.wp
  simp [execOp, ho, hr, Result.andThen]
  exact h
set_option maxHeartbeats 4000000 in
set_option maxRecDepth 1000000 in
theorem walk (x0 : MC) (q0 : MA) (a1 : Int) (O0 : McOk x0 q0) (b1 : -9223372036854775808 ≤ a1 ∧ a1 ≤ 9223372036854775807) (w : World) (A0 : McAt w x0 q0) (hS : Shp w) :
    Calls Tryd.prog 11 #[.agg (mcC x0 q0).toArray, .int .i64 a1] w fun e w' => e = .returned (.bool true) ∧ Below w.heap.size w w' := by
  have hi0 : (Tryd.prog.info? 31).map (·.size) = some (mcC x0 q0).length := mach_info O0.r8
  have HA : Hid (∀ w', Below w.heap.size w w' → McAt w' x0 q0) := fun w' hb => A0.below hb
  have HS : Hid (∀ w', Below w.heap.size w w' → Shp w') := fun w' hb => hS.below hb
  have bM := Box.new w (mcC x0 q0).toArray 31
  have hB : Below w.heap.size w (w.alloc (.cells (mcC x0 q0).toArray 31)) := (Below.refl _ _).alloc (Nat.le_refl _) _
  obtain ⟨F, hF⟩ : ∃ F : Nat, a1 % 2000 = (F : Int) := ⟨(a1 % 2000).toNat, by omega⟩
  have lF : F < 2000 := by omega
  have cA := fun w => ref_rest a1 2000 w b1 (by omega)
  rw [hF] at cA
  clear hF
  have c1 := fun q w hA hS => run_x x0 0 q w hA O0.toMcB hS
  have c2 := fun q w hA hS => run_x x0 F q w hA O0.toMcB hS
  have cC := fun w hA => step_check x0 q0 w hA O0.toMcB
  have i0 : ∀ q', (Tryd.prog.info? 31).map (·.size) = some (mcC x0 q').length := fun q' => mach_info O0.r8
  have z0 : ∀ q', z64.toArray.size = (mcC x0 q').length := fun q' => by rw [mc_length O0.r8]; rfl
  by_cases hE : mcE x0 = 0
  · have s0 : Sml x0 := (good_of O0.r8 hE).sml
    obtain ⟨e1, e2, e3⟩ := runX_none hE
    rw [e1, e2, e3] at c1
    rw [hE] at cC
    clear e1 e2 e3
    have sY := runX_sml (f := F) (x := x0) (by omega) O0.r8
    by_cases h15 : runF (F : Int) x0 = 15
    · rw [h15] at c2
      clear h15 A0 hS hE
      generalize runK (F : Int) x0 = kY at *
      generalize runX (F : Int) x0 = Y at *
      have iY : ∀ q', (Tryd.prog.info? 31).map (·.size) = some (mcC Y q').length := fun q' => mach_info sY.r8
      have zY : ∀ q', z64.toArray.size = (mcC Y q').length := fun q' => by rw [mc_length sY.r8]; rfl
      obtain ⟨fY', hfY⟩ : ∃ f : Int, f = 15 := ⟨_, rfl⟩
      go_enter Tryd.func11, Tryd.ntmps11
      go_upto_region 8 with (first | ((with_reducible refine at_load ?_); refine pl_load_box (by rfl) 31 (.tmp 2) rfl w.heap.size (by rfl) (mcC x0 q0) bM _ Tryd.underlying31 rfl hi0 ?_) | ((with_reducible refine at_load ?_); refine pl_load_box (by rfl) 31 (.tmp 5) rfl w2.heap.size (by rfl) (mcC x0 q1) bX _ Tryd.underlying31 rfl (i0 q1) ?_) | (go_at_call 14; refine (keep_stepped _ (HS.out _ hB)).mono ?_; rintro e w1 ⟨rfl, hbb⟩;  replace bM := bM.below hbb; replace hB := Below.step0 hB hbb;  clear hbb) | (go_at_call 23; refine (c1 q0 _ (HA.out _ hB) (HS.out _ hB)).mono ?_; rintro e w2 ⟨q1, rfl, hbb, hX, -⟩; clear c1; replace bM := bM.below hbb; replace hB := Below.step0 hB hbb;  clear hbb) | ((with_reducible refine at_alloc ?_); refine wpList_alloc1 rfl 31 rfl _ (alloc_mach _) ?_) | ((with_reducible refine at_store ?_); refine pl_store_box rfl 31 (.tmp 5) (.tmp 19) rfl w2.heap.size (mcC x0 q1) (by rfl) (by rfl) z64.toArray (Box.new _ _ _) (z0 q1) (i0 q1) (mc_one _ _) ?_; intro bX; have nMX := bM.lt; have hX0 := hX.lt; have hbw : Below w2.heap.size w2 ((w2.alloc (.cells z64.toArray 31)).setCells w2.heap.size 0 (mcC x0 q1)) := below_cells _ _ _ _ ((Below.refl _ _).alloc (Nat.le_refl _) _) (Nat.le_refl _); replace bM := bM.below hbw; replace hX := hX.below hbw; replace hB := Below.step0 hB hbw; generalize ((w2.alloc (.cells z64.toArray 31)).setCells w2.heap.size 0 (mcC x0 q1)) = w3 at *; clear hbw) | (go_at_call 21; refine (cC _ (HA.out _ hB)).mono ?_; rintro e wc ⟨rfl, hbb⟩;  replace bM := bM.below hbb; replace bX := bX.below hbb; replace hX := hX.below hbb; replace hB := Below.step0 hB hbb;  clear hbb) | (go_at_call 15; refine (mach_eq x0 q1 q0 _ hX (HA.out _ hB) s0.r8 s0.m s0.s s0.o).mono ?_; rintro e wd ⟨rfl, hbb⟩;  replace bM := bM.below hbb; replace bX := bX.below hbb; replace hX := hX.below hbb; replace hB := Below.step0 hB hbb;  clear hbb))
      refine wp_region_held_drew (S := fun w' => Box w' w.heap.size (mcC x0 q0).toArray) (by kernel_rfl) bM.drew (fun hHeld => ?_)
      replace bM := bM.drew
      replace bX := bX.drew
      replace hX := hX.below (below_drew _)
      replace hB := hB.drew
      have nMW := bM.lt
      have nXW := bX.lt
      refine wpAnyH_take (i := 0) (v := .agg (mcC x0 q0).toArray) rfl (by kernel_rfl) (by kernel_rfl) (by kernel_rfl) (fun _ _ _ h => h) (yieldsIf_load_mid (by rfl) 31 (.tmp 2) rfl w.heap.size 0 (by rfl) (mcC x0 q0) _ (fun w' hw' => box_range hw') Tryd.underlying31 rfl hi0) (by assumption) ?_
      (try simp only [Act.put, List.getElem_toArray, List.getElem_cons_zero, List.getElem_cons_succ, List.setIfInBounds_toArray, List.set_cons_zero, List.set_cons_succ])
      refine wpAnyH_take (i := 1) (v := .int .i64 a1) rfl (by kernel_rfl) (by kernel_rfl) (by kernel_rfl) (fun _ _ _ h => h) (Or.inl ⟨by rfl, fun w' hw' => by go_simp⟩) (by assumption) ?_
      (try simp only [Act.put, List.getElem_toArray, List.getElem_cons_zero, List.getElem_cons_succ, List.setIfInBounds_toArray, List.set_cons_zero, List.set_cons_succ])
      refine wpAnyH_ready (rs := [2, 8]) (by kernel_rfl) (by simp) (AllReadyH.cons rfl (fun K hK => ?_) (AllReadyH.cons rfl (fun K hK => ?_) AllReadyH.nil))
      · go_simp
        go_at_call 19
        refine (cA _).mono ?_
        rintro e wz ⟨rfl, hwz⟩
        obtain rfl := hwz.symm
        clear cA
        refine hK.out _ _ bM (fun hHeld => ?_)
        (try simp only [Act.put, List.getElem_toArray, List.getElem_cons_zero, List.getElem_cons_succ, List.setIfInBounds_toArray, List.set_cons_zero, List.set_cons_succ])
        refine wpAnyH_ready (rs := [3, 8]) (by kernel_rfl) (by simp) (AllReadyH.cons rfl (fun K hK => ?_) (AllReadyH.cons rfl (fun K hK => ?_) AllReadyH.nil))
        · go_simp
          go_at_call 23
          refine (c2 q0 _ (HA.out _ hB) (HS.out _ hB)).mono ?_
          rintro e w4 ⟨q2, rfl, hbb, hY, hYf⟩
          replace bM := bM.below hbb
          replace bX := bX.below hbb
          replace hX := hX.below hbb
          replace hB := Below.step0 hB hbb
          clear hbb c2
          refine hK.out _ _ bM (fun hHeld => ?_)
          (try simp only [Act.put, List.getElem_toArray, List.getElem_cons_zero, List.getElem_cons_succ, List.setIfInBounds_toArray, List.set_cons_zero, List.set_cons_succ])
          refine wpAnyH_take (i := 4) (v := (.tuple #[.agg (mcC Y q2).toArray, .int .i64 kY, .int .i64 15])) rfl (by kernel_rfl) (by kernel_rfl) (by kernel_rfl) (fun _ _ _ h => h) (Or.inl ⟨by rfl, fun w' hw' => by go_simp⟩) (by assumption) ?_
          (try simp only [Act.put, List.getElem_toArray, List.getElem_cons_zero, List.getElem_cons_succ, List.setIfInBounds_toArray, List.set_cons_zero, List.set_cons_succ])
          refine wpAnyH_take (i := 5) (v := .agg (mcC Y q2).toArray) rfl (by kernel_rfl) (by kernel_rfl) (by kernel_rfl) (fun _ _ _ h => h) (Or.inl ⟨by rfl, fun w' hw' => by go_simp⟩) (by assumption) ?_
          (try simp only [Act.put, List.getElem_toArray, List.getElem_cons_zero, List.getElem_cons_succ, List.setIfInBounds_toArray, List.set_cons_zero, List.set_cons_succ])
          refine wpAnyH_take (i := 6) (v := .int .i64 kY) rfl (by kernel_rfl) (by kernel_rfl) (by kernel_rfl) (fun _ _ _ h => h) (Or.inl ⟨by rfl, fun w' hw' => by go_simp⟩) (by assumption) ?_
          (try simp only [Act.put, List.getElem_toArray, List.getElem_cons_zero, List.getElem_cons_succ, List.setIfInBounds_toArray, List.set_cons_zero, List.set_cons_succ])
          refine wpAnyH_take (i := 7) (v := .int .i64 15) rfl (by kernel_rfl) (by kernel_rfl) (by kernel_rfl) (fun _ _ _ h => h) (Or.inl ⟨by rfl, fun w' hw' => by go_simp⟩) (by assumption) ?_
          (try simp only [Act.put, List.getElem_toArray, List.getElem_cons_zero, List.getElem_cons_succ, List.setIfInBounds_toArray, List.set_cons_zero, List.set_cons_succ])
          have frX := hX.lt
          have frY := hY.lt
          have l1 := bM.lt
          have l2 := bX.lt
          refine wpAnyH_ready (rs := [8]) (by kernel_rfl) (by simp) (AllReadyH.cons rfl (fun K hK => ?_) AllReadyH.nil)
          rw [if_pos (by rfl)]
          refine wp_alloc_row 31 rfl _ (alloc_mach _) ?_
          have bT := Box.new w4 z64.toArray 31
          replace bM := bM.alloc (.cells z64.toArray 31)
          replace bX := bX.alloc (.cells z64.toArray 31)
          replace hX := hX.below ((Below.refl _ _).alloc (Nat.le_refl _) (.cells z64.toArray 31))
          replace hY := hY.below ((Below.refl _ _).alloc (Nat.le_refl _) (.cells z64.toArray 31))
          replace hB := hB.alloc hB.size (.cells z64.toArray 31)
          refine hK.out _ _ bM (fun hHeld => ?_)
          (try simp only [Act.put, List.getElem_toArray, List.getElem_cons_zero, List.getElem_cons_succ, List.setIfInBounds_toArray, List.set_cons_zero, List.set_cons_succ])
          refine wpAnyH_ready (rs := [9]) (by kernel_rfl) (by simp) (AllReadyH.cons rfl (fun K hK => ?_) AllReadyH.nil)
          rw [if_pos (by rfl)]
          refine wp_store_mid 31 (.tmp 8) (.tmp 50) rfl (w4.heap.size) 0 (mcC Y q2).toArray (by rfl) (by rfl) (box_there bT (by rw [List.size_toArray]; exact zY q2)) (by rw [List.size_toArray]; exact iY q2) (all_oneCell_toArray (mc_one _ _)) ?_
          have hOf : Off (w4.heap.size) (w4.alloc (.cells z64.toArray 31)) ((w4.alloc (.cells z64.toArray 31)).setCells (w4.heap.size) 0 (mcC Y q2)) := Off.cells _ _ _ _ (Off.refl _ _) (.inl rfl)
          have bY := box_cells (cs := mcC Y q2) bT (zY q2)
          replace bM := hOf.box bM (by omega)
          replace bX := hOf.box bX (by omega)
          replace hX := (hOf.toP (p := fun j => j = (w4.heap.size)) rfl).mcX hX (frX.mono fun j hj => by omega)
          replace hY := (hOf.toP (p := fun j => j = (w4.heap.size)) rfl).mcX hY (frY.mono fun j hj => by omega)
          replace hB := below_cells (w4.heap.size) (mcC Y q2) 0 _ hB (by omega)
          refine hK.out _ _ bM (fun hHeld => ?_)
          (try simp only [Act.put, List.getElem_toArray, List.getElem_cons_zero, List.getElem_cons_succ, List.setIfInBounds_toArray, List.set_cons_zero, List.set_cons_succ])
          refine wpAnyH_take (i := 10) (v := .int .i64 kY) rfl (by kernel_rfl) (by kernel_rfl) (by kernel_rfl) (fun _ _ _ h => h) (Or.inl ⟨by rfl, fun w' hw' => by go_simp⟩) (by assumption) ?_
          (try simp only [Act.put, List.getElem_toArray, List.getElem_cons_zero, List.getElem_cons_succ, List.setIfInBounds_toArray, List.set_cons_zero, List.set_cons_succ])
          refine wpAnyH_take (i := 11) (v := .int .i64 15) rfl (by kernel_rfl) (by kernel_rfl) (by kernel_rfl) (fun _ _ _ h => h) (Or.inl ⟨by rfl, fun w' hw' => by go_simp⟩) (by assumption) ?_
          (try simp only [Act.put, List.getElem_toArray, List.getElem_cons_zero, List.getElem_cons_succ, List.setIfInBounds_toArray, List.set_cons_zero, List.set_cons_succ])
          refine wpAnyH_done (by kernel_rfl) ?_ _
          go_wp2
          go_ret
          exact ⟨rfl, hB⟩
        · have frX := hX.lt
          rw [if_pos (by rfl)]
          refine wp_alloc_row 31 rfl _ (alloc_mach _) ?_
          have bT := Box.new wd.drew z64.toArray 31
          replace bM := bM.alloc (.cells z64.toArray 31)
          replace bX := bX.alloc (.cells z64.toArray 31)
          replace hX := hX.below ((Below.refl _ _).alloc (Nat.le_refl _) (.cells z64.toArray 31))
          replace hB := hB.alloc hB.size (.cells z64.toArray 31)
          refine hK.out _ _ bM (fun hHeld => ?_)
          (try simp only [Act.put, List.getElem_toArray, List.getElem_cons_zero, List.getElem_cons_succ, List.setIfInBounds_toArray, List.set_cons_zero, List.set_cons_succ])
          refine wpAnyH_ready (rs := [3]) (by kernel_rfl) (by simp) (AllReadyH.cons rfl (fun K hK => ?_) AllReadyH.nil)
          go_simp
          go_at_call 23
          refine (c2 q0 _ (HA.out _ hB) (HS.out _ hB)).mono ?_
          rintro e w4 ⟨q2, rfl, hbb, hY, hYf⟩
          replace bM := bM.below hbb
          replace bX := bX.below hbb
          replace hX := hX.below hbb
          replace bT := bT.below hbb
          replace hB := Below.step0 hB hbb
          clear hbb c2
          refine hK.out _ _ bM (fun hHeld => ?_)
          (try simp only [Act.put, List.getElem_toArray, List.getElem_cons_zero, List.getElem_cons_succ, List.setIfInBounds_toArray, List.set_cons_zero, List.set_cons_succ])
          refine wpAnyH_take (i := 4) (v := (.tuple #[.agg (mcC Y q2).toArray, .int .i64 kY, .int .i64 15])) rfl (by kernel_rfl) (by kernel_rfl) (by kernel_rfl) (fun _ _ _ h => h) (Or.inl ⟨by rfl, fun w' hw' => by go_simp⟩) (by assumption) ?_
          (try simp only [Act.put, List.getElem_toArray, List.getElem_cons_zero, List.getElem_cons_succ, List.setIfInBounds_toArray, List.set_cons_zero, List.set_cons_succ])
          refine wpAnyH_take (i := 5) (v := .agg (mcC Y q2).toArray) rfl (by kernel_rfl) (by kernel_rfl) (by kernel_rfl) (fun _ _ _ h => h) (Or.inl ⟨by rfl, fun w' hw' => by go_simp⟩) (by assumption) ?_
          (try simp only [Act.put, List.getElem_toArray, List.getElem_cons_zero, List.getElem_cons_succ, List.setIfInBounds_toArray, List.set_cons_zero, List.set_cons_succ])
          refine wpAnyH_take (i := 6) (v := .int .i64 kY) rfl (by kernel_rfl) (by kernel_rfl) (by kernel_rfl) (fun _ _ _ h => h) (Or.inl ⟨by rfl, fun w' hw' => by go_simp⟩) (by assumption) ?_
          (try simp only [Act.put, List.getElem_toArray, List.getElem_cons_zero, List.getElem_cons_succ, List.setIfInBounds_toArray, List.set_cons_zero, List.set_cons_succ])
          refine wpAnyH_take (i := 7) (v := .int .i64 15) rfl (by kernel_rfl) (by kernel_rfl) (by kernel_rfl) (fun _ _ _ h => h) (Or.inl ⟨by rfl, fun w' hw' => by go_simp⟩) (by assumption) ?_
          (try simp only [Act.put, List.getElem_toArray, List.getElem_cons_zero, List.getElem_cons_succ, List.setIfInBounds_toArray, List.set_cons_zero, List.set_cons_succ])
          have frY := hYf
          refine wpAnyH_ready (rs := [9]) (by kernel_rfl) (by simp) (AllReadyH.cons rfl (fun K hK => ?_) AllReadyH.nil)
          rw [if_pos (by rfl)]
          refine wp_store_mid 31 (.tmp 8) (.tmp 50) rfl (wd.drew.heap.size) 0 (mcC Y q2).toArray (by rfl) (by rfl) (box_there bT (by rw [List.size_toArray]; exact zY q2)) (by rw [List.size_toArray]; exact iY q2) (all_oneCell_toArray (mc_one _ _)) ?_
          have hOf : Off (wd.drew.heap.size) (w4) ((w4).setCells (wd.drew.heap.size) 0 (mcC Y q2)) := Off.cells _ _ _ _ (Off.refl _ _) (.inl rfl)
          have bY := box_cells (cs := mcC Y q2) bT (zY q2)
          replace bM := hOf.box bM (by omega)
          replace bX := hOf.box bX (by omega)
          replace hX := (hOf.toP (p := fun j => j = (wd.drew.heap.size)) rfl).mcX hX (frX.mono fun j hj => by omega)
          replace hY := (hOf.toP (p := fun j => j = (wd.drew.heap.size)) rfl).mcX hY (frY.mono fun j hj => by show j < _; rw [hj, World.size_alloc]; exact Nat.lt_succ_self _)
          replace hB := below_cells (wd.drew.heap.size) (mcC Y q2) 0 _ hB (by omega)
          refine hK.out _ _ bM (fun hHeld => ?_)
          (try simp only [Act.put, List.getElem_toArray, List.getElem_cons_zero, List.getElem_cons_succ, List.setIfInBounds_toArray, List.set_cons_zero, List.set_cons_succ])
          refine wpAnyH_take (i := 10) (v := .int .i64 kY) rfl (by kernel_rfl) (by kernel_rfl) (by kernel_rfl) (fun _ _ _ h => h) (Or.inl ⟨by rfl, fun w' hw' => by go_simp⟩) (by assumption) ?_
          (try simp only [Act.put, List.getElem_toArray, List.getElem_cons_zero, List.getElem_cons_succ, List.setIfInBounds_toArray, List.set_cons_zero, List.set_cons_succ])
          refine wpAnyH_take (i := 11) (v := .int .i64 15) rfl (by kernel_rfl) (by kernel_rfl) (by kernel_rfl) (fun _ _ _ h => h) (Or.inl ⟨by rfl, fun w' hw' => by go_simp⟩) (by assumption) ?_
          (try simp only [Act.put, List.getElem_toArray, List.getElem_cons_zero, List.getElem_cons_succ, List.setIfInBounds_toArray, List.set_cons_zero, List.set_cons_succ])
          refine wpAnyH_done (by kernel_rfl) ?_ _
          go_wp2
          go_ret
          exact ⟨rfl, hB⟩
      · have frX := hX.lt
        rw [if_pos (by rfl)]
        refine wp_alloc_row 31 rfl _ (alloc_mach _) ?_
        have bT := Box.new wd.drew z64.toArray 31
        replace bM := bM.alloc (.cells z64.toArray 31)
        replace bX := bX.alloc (.cells z64.toArray 31)
        replace hX := hX.below ((Below.refl _ _).alloc (Nat.le_refl _) (.cells z64.toArray 31))
        replace hB := hB.alloc hB.size (.cells z64.toArray 31)
        refine hK.out _ _ bM (fun hHeld => ?_)
        (try simp only [Act.put, List.getElem_toArray, List.getElem_cons_zero, List.getElem_cons_succ, List.setIfInBounds_toArray, List.set_cons_zero, List.set_cons_succ])
        refine wpAnyH_ready (rs := [2]) (by kernel_rfl) (by simp) (AllReadyH.cons rfl (fun K hK => ?_) AllReadyH.nil)
        go_simp
        go_at_call 19
        refine (cA _).mono ?_
        rintro e wz ⟨rfl, hwz⟩
        obtain rfl := hwz.symm
        clear cA
        refine hK.out _ _ bM (fun hHeld => ?_)
        (try simp only [Act.put, List.getElem_toArray, List.getElem_cons_zero, List.getElem_cons_succ, List.setIfInBounds_toArray, List.set_cons_zero, List.set_cons_succ])
        refine wpAnyH_ready (rs := [3]) (by kernel_rfl) (by simp) (AllReadyH.cons rfl (fun K hK => ?_) AllReadyH.nil)
        go_simp
        go_at_call 23
        refine (c2 q0 _ (HA.out _ hB) (HS.out _ hB)).mono ?_
        rintro e w4 ⟨q2, rfl, hbb, hY, hYf⟩
        replace bM := bM.below hbb
        replace bX := bX.below hbb
        replace hX := hX.below hbb
        replace bT := bT.below hbb
        replace hB := Below.step0 hB hbb
        clear hbb c2
        refine hK.out _ _ bM (fun hHeld => ?_)
        (try simp only [Act.put, List.getElem_toArray, List.getElem_cons_zero, List.getElem_cons_succ, List.setIfInBounds_toArray, List.set_cons_zero, List.set_cons_succ])
        refine wpAnyH_take (i := 4) (v := (.tuple #[.agg (mcC Y q2).toArray, .int .i64 kY, .int .i64 15])) rfl (by kernel_rfl) (by kernel_rfl) (by kernel_rfl) (fun _ _ _ h => h) (Or.inl ⟨by rfl, fun w' hw' => by go_simp⟩) (by assumption) ?_
        (try simp only [Act.put, List.getElem_toArray, List.getElem_cons_zero, List.getElem_cons_succ, List.setIfInBounds_toArray, List.set_cons_zero, List.set_cons_succ])
        refine wpAnyH_take (i := 5) (v := .agg (mcC Y q2).toArray) rfl (by kernel_rfl) (by kernel_rfl) (by kernel_rfl) (fun _ _ _ h => h) (Or.inl ⟨by rfl, fun w' hw' => by go_simp⟩) (by assumption) ?_
        (try simp only [Act.put, List.getElem_toArray, List.getElem_cons_zero, List.getElem_cons_succ, List.setIfInBounds_toArray, List.set_cons_zero, List.set_cons_succ])
        refine wpAnyH_take (i := 6) (v := .int .i64 kY) rfl (by kernel_rfl) (by kernel_rfl) (by kernel_rfl) (fun _ _ _ h => h) (Or.inl ⟨by rfl, fun w' hw' => by go_simp⟩) (by assumption) ?_
        (try simp only [Act.put, List.getElem_toArray, List.getElem_cons_zero, List.getElem_cons_succ, List.setIfInBounds_toArray, List.set_cons_zero, List.set_cons_succ])
        refine wpAnyH_take (i := 7) (v := .int .i64 15) rfl (by kernel_rfl) (by kernel_rfl) (by kernel_rfl) (fun _ _ _ h => h) (Or.inl ⟨by rfl, fun w' hw' => by go_simp⟩) (by assumption) ?_
        (try simp only [Act.put, List.getElem_toArray, List.getElem_cons_zero, List.getElem_cons_succ, List.setIfInBounds_toArray, List.set_cons_zero, List.set_cons_succ])
        have frY := hYf
        refine wpAnyH_ready (rs := [9]) (by kernel_rfl) (by simp) (AllReadyH.cons rfl (fun K hK => ?_) AllReadyH.nil)
        rw [if_pos (by rfl)]
        refine wp_store_mid 31 (.tmp 8) (.tmp 50) rfl (wd.drew.heap.size) 0 (mcC Y q2).toArray (by rfl) (by rfl) (box_there bT (by rw [List.size_toArray]; exact zY q2)) (by rw [List.size_toArray]; exact iY q2) (all_oneCell_toArray (mc_one _ _)) ?_
        have hOf : Off (wd.drew.heap.size) (w4) ((w4).setCells (wd.drew.heap.size) 0 (mcC Y q2)) := Off.cells _ _ _ _ (Off.refl _ _) (.inl rfl)
        have bY := box_cells (cs := mcC Y q2) bT (zY q2)
        replace bM := hOf.box bM (by omega)
        replace bX := hOf.box bX (by omega)
        replace hX := (hOf.toP (p := fun j => j = (wd.drew.heap.size)) rfl).mcX hX (frX.mono fun j hj => by omega)
        replace hY := (hOf.toP (p := fun j => j = (wd.drew.heap.size)) rfl).mcX hY (frY.mono fun j hj => by show j < _; rw [hj, World.size_alloc]; exact Nat.lt_succ_self _)
        replace hB := below_cells (wd.drew.heap.size) (mcC Y q2) 0 _ hB (by omega)
        refine hK.out _ _ bM (fun hHeld => ?_)
        (try simp only [Act.put, List.getElem_toArray, List.getElem_cons_zero, List.getElem_cons_succ, List.setIfInBounds_toArray, List.set_cons_zero, List.set_cons_succ])
        refine wpAnyH_take (i := 10) (v := .int .i64 kY) rfl (by kernel_rfl) (by kernel_rfl) (by kernel_rfl) (fun _ _ _ h => h) (Or.inl ⟨by rfl, fun w' hw' => by go_simp⟩) (by assumption) ?_
        (try simp only [Act.put, List.getElem_toArray, List.getElem_cons_zero, List.getElem_cons_succ, List.setIfInBounds_toArray, List.set_cons_zero, List.set_cons_succ])
        refine wpAnyH_take (i := 11) (v := .int .i64 15) rfl (by kernel_rfl) (by kernel_rfl) (by kernel_rfl) (fun _ _ _ h => h) (Or.inl ⟨by rfl, fun w' hw' => by go_simp⟩) (by assumption) ?_
        (try simp only [Act.put, List.getElem_toArray, List.getElem_cons_zero, List.getElem_cons_succ, List.setIfInBounds_toArray, List.set_cons_zero, List.set_cons_succ])
        refine wpAnyH_done (by kernel_rfl) ?_ _
        go_wp2
        go_ret
        exact ⟨rfl, hB⟩
    · obtain ⟨hG, d1, d2, d3⟩ := runX_stays (f := F) (g := 49) (x := x0) (by omega) (by omega) O0.r8 hE h15
      have c3 := fun q w hA hS => run_x (runX (F : Int) x0) 50 q w hA hG.b hS
      rw [show (((49 : Nat) + 1 : Nat) : Int) = 50 from rfl] at d1 d2 d3
      rw [d1, d2, d3] at c3
      have g15 : (runF (F : Int) x0 == 15) = false := by simpa using h15
      clear d1 d2 d3 h15 A0 hS hE hG
      generalize runK (F : Int) x0 = kY at *
      generalize runF (F : Int) x0 = fY at *
      generalize runX (F : Int) x0 = Y at *
      have iY : ∀ q', (Tryd.prog.info? 31).map (·.size) = some (mcC Y q').length := fun q' => mach_info sY.r8
      have zY : ∀ q', z64.toArray.size = (mcC Y q').length := fun q' => by rw [mc_length sY.r8]; rfl
      go_enter Tryd.func11, Tryd.ntmps11
      go_upto_region 8 with (first | ((with_reducible refine at_load ?_); refine pl_load_box (by rfl) 31 (.tmp 2) rfl w.heap.size (by rfl) (mcC x0 q0) bM _ Tryd.underlying31 rfl hi0 ?_) | ((with_reducible refine at_load ?_); refine pl_load_box (by rfl) 31 (.tmp 5) rfl w2.heap.size (by rfl) (mcC x0 q1) bX _ Tryd.underlying31 rfl (i0 q1) ?_) | (go_at_call 14; refine (keep_stepped _ (HS.out _ hB)).mono ?_; rintro e w1 ⟨rfl, hbb⟩;  replace bM := bM.below hbb; replace hB := Below.step0 hB hbb;  clear hbb) | (go_at_call 23; refine (c1 q0 _ (HA.out _ hB) (HS.out _ hB)).mono ?_; rintro e w2 ⟨q1, rfl, hbb, hX, -⟩; clear c1; replace bM := bM.below hbb; replace hB := Below.step0 hB hbb;  clear hbb) | ((with_reducible refine at_alloc ?_); refine wpList_alloc1 rfl 31 rfl _ (alloc_mach _) ?_) | ((with_reducible refine at_store ?_); refine pl_store_box rfl 31 (.tmp 5) (.tmp 19) rfl w2.heap.size (mcC x0 q1) (by rfl) (by rfl) z64.toArray (Box.new _ _ _) (z0 q1) (i0 q1) (mc_one _ _) ?_; intro bX; have nMX := bM.lt; have hX0 := hX.lt; have hbw : Below w2.heap.size w2 ((w2.alloc (.cells z64.toArray 31)).setCells w2.heap.size 0 (mcC x0 q1)) := below_cells _ _ _ _ ((Below.refl _ _).alloc (Nat.le_refl _) _) (Nat.le_refl _); replace bM := bM.below hbw; replace hX := hX.below hbw; replace hB := Below.step0 hB hbw; generalize ((w2.alloc (.cells z64.toArray 31)).setCells w2.heap.size 0 (mcC x0 q1)) = w3 at *; clear hbw) | (go_at_call 21; refine (cC _ (HA.out _ hB)).mono ?_; rintro e wc ⟨rfl, hbb⟩;  replace bM := bM.below hbb; replace bX := bX.below hbb; replace hX := hX.below hbb; replace hB := Below.step0 hB hbb;  clear hbb) | (go_at_call 15; refine (mach_eq x0 q1 q0 _ hX (HA.out _ hB) s0.r8 s0.m s0.s s0.o).mono ?_; rintro e wd ⟨rfl, hbb⟩;  replace bM := bM.below hbb; replace bX := bX.below hbb; replace hX := hX.below hbb; replace hB := Below.step0 hB hbb;  clear hbb))
      refine wp_region_held_drew (S := fun w' => Box w' w.heap.size (mcC x0 q0).toArray) (by kernel_rfl) bM.drew (fun hHeld => ?_)
      replace bM := bM.drew
      replace bX := bX.drew
      replace hX := hX.below (below_drew _)
      replace hB := hB.drew
      have nMW := bM.lt
      have nXW := bX.lt
      refine wpAnyH_take (i := 0) (v := .agg (mcC x0 q0).toArray) rfl (by kernel_rfl) (by kernel_rfl) (by kernel_rfl) (fun _ _ _ h => h) (yieldsIf_load_mid (by rfl) 31 (.tmp 2) rfl w.heap.size 0 (by rfl) (mcC x0 q0) _ (fun w' hw' => box_range hw') Tryd.underlying31 rfl hi0) (by assumption) ?_
      (try simp only [Act.put, List.getElem_toArray, List.getElem_cons_zero, List.getElem_cons_succ, List.setIfInBounds_toArray, List.set_cons_zero, List.set_cons_succ])
      refine wpAnyH_take (i := 1) (v := .int .i64 a1) rfl (by kernel_rfl) (by kernel_rfl) (by kernel_rfl) (fun _ _ _ h => h) (Or.inl ⟨by rfl, fun w' hw' => by go_simp⟩) (by assumption) ?_
      (try simp only [Act.put, List.getElem_toArray, List.getElem_cons_zero, List.getElem_cons_succ, List.setIfInBounds_toArray, List.set_cons_zero, List.set_cons_succ])
      refine wpAnyH_ready (rs := [2, 8]) (by kernel_rfl) (by simp) (AllReadyH.cons rfl (fun K hK => ?_) (AllReadyH.cons rfl (fun K hK => ?_) AllReadyH.nil))
      · go_simp
        go_at_call 19
        refine (cA _).mono ?_
        rintro e wz ⟨rfl, hwz⟩
        obtain rfl := hwz.symm
        clear cA
        refine hK.out _ _ bM (fun hHeld => ?_)
        (try simp only [Act.put, List.getElem_toArray, List.getElem_cons_zero, List.getElem_cons_succ, List.setIfInBounds_toArray, List.set_cons_zero, List.set_cons_succ])
        refine wpAnyH_ready (rs := [3, 8]) (by kernel_rfl) (by simp) (AllReadyH.cons rfl (fun K hK => ?_) (AllReadyH.cons rfl (fun K hK => ?_) AllReadyH.nil))
        · go_simp
          go_at_call 23
          refine (c2 q0 _ (HA.out _ hB) (HS.out _ hB)).mono ?_
          rintro e w4 ⟨q2, rfl, hbb, hY, hYf⟩
          replace bM := bM.below hbb
          replace bX := bX.below hbb
          replace hX := hX.below hbb
          replace hB := Below.step0 hB hbb
          clear hbb c2
          refine hK.out _ _ bM (fun hHeld => ?_)
          (try simp only [Act.put, List.getElem_toArray, List.getElem_cons_zero, List.getElem_cons_succ, List.setIfInBounds_toArray, List.set_cons_zero, List.set_cons_succ])
          refine wpAnyH_take (i := 4) (v := (.tuple #[.agg (mcC Y q2).toArray, .int .i64 kY, .int .i64 fY])) rfl (by kernel_rfl) (by kernel_rfl) (by kernel_rfl) (fun _ _ _ h => h) (Or.inl ⟨by rfl, fun w' hw' => by go_simp⟩) (by assumption) ?_
          (try simp only [Act.put, List.getElem_toArray, List.getElem_cons_zero, List.getElem_cons_succ, List.setIfInBounds_toArray, List.set_cons_zero, List.set_cons_succ])
          refine wpAnyH_take (i := 5) (v := .agg (mcC Y q2).toArray) rfl (by kernel_rfl) (by kernel_rfl) (by kernel_rfl) (fun _ _ _ h => h) (Or.inl ⟨by rfl, fun w' hw' => by go_simp⟩) (by assumption) ?_
          (try simp only [Act.put, List.getElem_toArray, List.getElem_cons_zero, List.getElem_cons_succ, List.setIfInBounds_toArray, List.set_cons_zero, List.set_cons_succ])
          refine wpAnyH_take (i := 6) (v := .int .i64 kY) rfl (by kernel_rfl) (by kernel_rfl) (by kernel_rfl) (fun _ _ _ h => h) (Or.inl ⟨by rfl, fun w' hw' => by go_simp⟩) (by assumption) ?_
          (try simp only [Act.put, List.getElem_toArray, List.getElem_cons_zero, List.getElem_cons_succ, List.setIfInBounds_toArray, List.set_cons_zero, List.set_cons_succ])
          refine wpAnyH_take (i := 7) (v := .int .i64 fY) rfl (by kernel_rfl) (by kernel_rfl) (by kernel_rfl) (fun _ _ _ h => h) (Or.inl ⟨by rfl, fun w' hw' => by go_simp⟩) (by assumption) ?_
          (try simp only [Act.put, List.getElem_toArray, List.getElem_cons_zero, List.getElem_cons_succ, List.setIfInBounds_toArray, List.set_cons_zero, List.set_cons_succ])
          have frX := hX.lt
          have frY := hY.lt
          have l1 := bM.lt
          have l2 := bX.lt
          refine wpAnyH_ready (rs := [8]) (by kernel_rfl) (by simp) (AllReadyH.cons rfl (fun K hK => ?_) AllReadyH.nil)
          rw [if_pos (by rfl)]
          refine wp_alloc_row 31 rfl _ (alloc_mach _) ?_
          have bT := Box.new w4 z64.toArray 31
          replace bM := bM.alloc (.cells z64.toArray 31)
          replace bX := bX.alloc (.cells z64.toArray 31)
          replace hX := hX.below ((Below.refl _ _).alloc (Nat.le_refl _) (.cells z64.toArray 31))
          replace hY := hY.below ((Below.refl _ _).alloc (Nat.le_refl _) (.cells z64.toArray 31))
          replace hB := hB.alloc hB.size (.cells z64.toArray 31)
          refine hK.out _ _ bM (fun hHeld => ?_)
          (try simp only [Act.put, List.getElem_toArray, List.getElem_cons_zero, List.getElem_cons_succ, List.setIfInBounds_toArray, List.set_cons_zero, List.set_cons_succ])
          refine wpAnyH_ready (rs := [9]) (by kernel_rfl) (by simp) (AllReadyH.cons rfl (fun K hK => ?_) AllReadyH.nil)
          rw [if_pos (by rfl)]
          refine wp_store_mid 31 (.tmp 8) (.tmp 50) rfl (w4.heap.size) 0 (mcC Y q2).toArray (by rfl) (by rfl) (box_there bT (by rw [List.size_toArray]; exact zY q2)) (by rw [List.size_toArray]; exact iY q2) (all_oneCell_toArray (mc_one _ _)) ?_
          have hOf : Off (w4.heap.size) (w4.alloc (.cells z64.toArray 31)) ((w4.alloc (.cells z64.toArray 31)).setCells (w4.heap.size) 0 (mcC Y q2)) := Off.cells _ _ _ _ (Off.refl _ _) (.inl rfl)
          have bY := box_cells (cs := mcC Y q2) bT (zY q2)
          replace bM := hOf.box bM (by omega)
          replace bX := hOf.box bX (by omega)
          replace hX := (hOf.toP (p := fun j => j = (w4.heap.size)) rfl).mcX hX (frX.mono fun j hj => by omega)
          replace hY := (hOf.toP (p := fun j => j = (w4.heap.size)) rfl).mcX hY (frY.mono fun j hj => by omega)
          replace hB := below_cells (w4.heap.size) (mcC Y q2) 0 _ hB (by omega)
          refine hK.out _ _ bM (fun hHeld => ?_)
          (try simp only [Act.put, List.getElem_toArray, List.getElem_cons_zero, List.getElem_cons_succ, List.setIfInBounds_toArray, List.set_cons_zero, List.set_cons_succ])
          refine wpAnyH_take (i := 10) (v := .int .i64 kY) rfl (by kernel_rfl) (by kernel_rfl) (by kernel_rfl) (fun _ _ _ h => h) (Or.inl ⟨by rfl, fun w' hw' => by go_simp⟩) (by assumption) ?_
          (try simp only [Act.put, List.getElem_toArray, List.getElem_cons_zero, List.getElem_cons_succ, List.setIfInBounds_toArray, List.set_cons_zero, List.set_cons_succ])
          refine wpAnyH_take (i := 11) (v := .int .i64 fY) rfl (by kernel_rfl) (by kernel_rfl) (by kernel_rfl) (fun _ _ _ h => h) (Or.inl ⟨by rfl, fun w' hw' => by go_simp⟩) (by assumption) ?_
          (try simp only [Act.put, List.getElem_toArray, List.getElem_cons_zero, List.getElem_cons_succ, List.setIfInBounds_toArray, List.set_cons_zero, List.set_cons_succ])
          refine wpAnyH_done (by kernel_rfl) ?_ _
          go_wp2_with (first | ((with_reducible refine at_load ?_); refine pl_load_box (by rfl) 31 (.tmp 8) rfl w4.heap.size (by rfl) (mcC Y q2) bY _ Tryd.underlying31 rfl (iY q2) ?_) | ((with_reducible refine at_load ?_); refine pl_load_box (by rfl) 31 (.tmp 11) rfl w9.heap.size (by rfl) (mcC Y q3) bZ _ Tryd.underlying31 rfl (iY q3) ?_) | (go_at_call 23; refine (c3 q2 _ hY (HS.out _ hB)).mono ?_; rintro e w9 ⟨q3, rfl, hbb, hZ, -⟩; clear c3; replace bM := bM.below hbb; replace bY := bY.below hbb; replace hY := hY.below hbb; replace hB := Below.step0 hB hbb;  clear hbb) | ((with_reducible refine at_alloc ?_); refine wpList_alloc1 rfl 31 rfl _ (alloc_mach _) ?_) | ((with_reducible refine at_store ?_); refine pl_store_box rfl 31 (.tmp 11) (.tmp 58) rfl w9.heap.size (mcC Y q3) (by rfl) (by rfl) z64.toArray (Box.new _ _ _) (zY q3) (iY q3) (mc_one _ _) ?_; intro bZ;  have hbw : Below w9.heap.size w9 ((w9.alloc (.cells z64.toArray 31)).setCells w9.heap.size 0 (mcC Y q3)) := below_cells _ _ _ _ ((Below.refl _ _).alloc (Nat.le_refl _) _) (Nat.le_refl _); replace bM := bM.below hbw; replace bY := bY.below hbw; replace hY := hY.below hbw; replace hZ := hZ.below hbw; replace hB := Below.step0 hB hbw; generalize ((w9.alloc (.cells z64.toArray 31)).setCells w9.heap.size 0 (mcC Y q3)) = wA at *; clear hbw) | (go_at_call 15; refine (mach_eq Y q2 q3 _ hY hZ sY.r8 sY.m sY.s sY.o).mono ?_; rintro e wB ⟨rfl, hbb⟩;   replace hB := Below.step0 hB hbb;  clear hbb))
          go_ret
          exact ⟨rfl, hB⟩
        · have frX := hX.lt
          rw [if_pos (by rfl)]
          refine wp_alloc_row 31 rfl _ (alloc_mach _) ?_
          have bT := Box.new wd.drew z64.toArray 31
          replace bM := bM.alloc (.cells z64.toArray 31)
          replace bX := bX.alloc (.cells z64.toArray 31)
          replace hX := hX.below ((Below.refl _ _).alloc (Nat.le_refl _) (.cells z64.toArray 31))
          replace hB := hB.alloc hB.size (.cells z64.toArray 31)
          refine hK.out _ _ bM (fun hHeld => ?_)
          (try simp only [Act.put, List.getElem_toArray, List.getElem_cons_zero, List.getElem_cons_succ, List.setIfInBounds_toArray, List.set_cons_zero, List.set_cons_succ])
          refine wpAnyH_ready (rs := [3]) (by kernel_rfl) (by simp) (AllReadyH.cons rfl (fun K hK => ?_) AllReadyH.nil)
          go_simp
          go_at_call 23
          refine (c2 q0 _ (HA.out _ hB) (HS.out _ hB)).mono ?_
          rintro e w4 ⟨q2, rfl, hbb, hY, hYf⟩
          replace bM := bM.below hbb
          replace bX := bX.below hbb
          replace hX := hX.below hbb
          replace bT := bT.below hbb
          replace hB := Below.step0 hB hbb
          clear hbb c2
          refine hK.out _ _ bM (fun hHeld => ?_)
          (try simp only [Act.put, List.getElem_toArray, List.getElem_cons_zero, List.getElem_cons_succ, List.setIfInBounds_toArray, List.set_cons_zero, List.set_cons_succ])
          refine wpAnyH_take (i := 4) (v := (.tuple #[.agg (mcC Y q2).toArray, .int .i64 kY, .int .i64 fY])) rfl (by kernel_rfl) (by kernel_rfl) (by kernel_rfl) (fun _ _ _ h => h) (Or.inl ⟨by rfl, fun w' hw' => by go_simp⟩) (by assumption) ?_
          (try simp only [Act.put, List.getElem_toArray, List.getElem_cons_zero, List.getElem_cons_succ, List.setIfInBounds_toArray, List.set_cons_zero, List.set_cons_succ])
          refine wpAnyH_take (i := 5) (v := .agg (mcC Y q2).toArray) rfl (by kernel_rfl) (by kernel_rfl) (by kernel_rfl) (fun _ _ _ h => h) (Or.inl ⟨by rfl, fun w' hw' => by go_simp⟩) (by assumption) ?_
          (try simp only [Act.put, List.getElem_toArray, List.getElem_cons_zero, List.getElem_cons_succ, List.setIfInBounds_toArray, List.set_cons_zero, List.set_cons_succ])
          refine wpAnyH_take (i := 6) (v := .int .i64 kY) rfl (by kernel_rfl) (by kernel_rfl) (by kernel_rfl) (fun _ _ _ h => h) (Or.inl ⟨by rfl, fun w' hw' => by go_simp⟩) (by assumption) ?_
          (try simp only [Act.put, List.getElem_toArray, List.getElem_cons_zero, List.getElem_cons_succ, List.setIfInBounds_toArray, List.set_cons_zero, List.set_cons_succ])
          refine wpAnyH_take (i := 7) (v := .int .i64 fY) rfl (by kernel_rfl) (by kernel_rfl) (by kernel_rfl) (fun _ _ _ h => h) (Or.inl ⟨by rfl, fun w' hw' => by go_simp⟩) (by assumption) ?_
          (try simp only [Act.put, List.getElem_toArray, List.getElem_cons_zero, List.getElem_cons_succ, List.setIfInBounds_toArray, List.set_cons_zero, List.set_cons_succ])
          have frY := hYf
          refine wpAnyH_ready (rs := [9]) (by kernel_rfl) (by simp) (AllReadyH.cons rfl (fun K hK => ?_) AllReadyH.nil)
          rw [if_pos (by rfl)]
          refine wp_store_mid 31 (.tmp 8) (.tmp 50) rfl (wd.drew.heap.size) 0 (mcC Y q2).toArray (by rfl) (by rfl) (box_there bT (by rw [List.size_toArray]; exact zY q2)) (by rw [List.size_toArray]; exact iY q2) (all_oneCell_toArray (mc_one _ _)) ?_
          have hOf : Off (wd.drew.heap.size) (w4) ((w4).setCells (wd.drew.heap.size) 0 (mcC Y q2)) := Off.cells _ _ _ _ (Off.refl _ _) (.inl rfl)
          have bY := box_cells (cs := mcC Y q2) bT (zY q2)
          replace bM := hOf.box bM (by omega)
          replace bX := hOf.box bX (by omega)
          replace hX := (hOf.toP (p := fun j => j = (wd.drew.heap.size)) rfl).mcX hX (frX.mono fun j hj => by omega)
          replace hY := (hOf.toP (p := fun j => j = (wd.drew.heap.size)) rfl).mcX hY (frY.mono fun j hj => by show j < _; rw [hj, World.size_alloc]; exact Nat.lt_succ_self _)
          replace hB := below_cells (wd.drew.heap.size) (mcC Y q2) 0 _ hB (by omega)
          refine hK.out _ _ bM (fun hHeld => ?_)
          (try simp only [Act.put, List.getElem_toArray, List.getElem_cons_zero, List.getElem_cons_succ, List.setIfInBounds_toArray, List.set_cons_zero, List.set_cons_succ])
          refine wpAnyH_take (i := 10) (v := .int .i64 kY) rfl (by kernel_rfl) (by kernel_rfl) (by kernel_rfl) (fun _ _ _ h => h) (Or.inl ⟨by rfl, fun w' hw' => by go_simp⟩) (by assumption) ?_
          (try simp only [Act.put, List.getElem_toArray, List.getElem_cons_zero, List.getElem_cons_succ, List.setIfInBounds_toArray, List.set_cons_zero, List.set_cons_succ])
          refine wpAnyH_take (i := 11) (v := .int .i64 fY) rfl (by kernel_rfl) (by kernel_rfl) (by kernel_rfl) (fun _ _ _ h => h) (Or.inl ⟨by rfl, fun w' hw' => by go_simp⟩) (by assumption) ?_
          (try simp only [Act.put, List.getElem_toArray, List.getElem_cons_zero, List.getElem_cons_succ, List.setIfInBounds_toArray, List.set_cons_zero, List.set_cons_succ])
          refine wpAnyH_done (by kernel_rfl) ?_ _
          go_wp2_with (first | ((with_reducible refine at_load ?_); refine pl_load_box (by rfl) 31 (.tmp 8) rfl wd.drew.heap.size (by rfl) (mcC Y q2) bY _ Tryd.underlying31 rfl (iY q2) ?_) | ((with_reducible refine at_load ?_); refine pl_load_box (by rfl) 31 (.tmp 11) rfl w9.heap.size (by rfl) (mcC Y q3) bZ _ Tryd.underlying31 rfl (iY q3) ?_) | (go_at_call 23; refine (c3 q2 _ hY (HS.out _ hB)).mono ?_; rintro e w9 ⟨q3, rfl, hbb, hZ, -⟩; clear c3; replace bM := bM.below hbb; replace bY := bY.below hbb; replace hY := hY.below hbb; replace hB := Below.step0 hB hbb;  clear hbb) | ((with_reducible refine at_alloc ?_); refine wpList_alloc1 rfl 31 rfl _ (alloc_mach _) ?_) | ((with_reducible refine at_store ?_); refine pl_store_box rfl 31 (.tmp 11) (.tmp 58) rfl w9.heap.size (mcC Y q3) (by rfl) (by rfl) z64.toArray (Box.new _ _ _) (zY q3) (iY q3) (mc_one _ _) ?_; intro bZ;  have hbw : Below w9.heap.size w9 ((w9.alloc (.cells z64.toArray 31)).setCells w9.heap.size 0 (mcC Y q3)) := below_cells _ _ _ _ ((Below.refl _ _).alloc (Nat.le_refl _) _) (Nat.le_refl _); replace bM := bM.below hbw; replace bY := bY.below hbw; replace hY := hY.below hbw; replace hZ := hZ.below hbw; replace hB := Below.step0 hB hbw; generalize ((w9.alloc (.cells z64.toArray 31)).setCells w9.heap.size 0 (mcC Y q3)) = wA at *; clear hbw) | (go_at_call 15; refine (mach_eq Y q2 q3 _ hY hZ sY.r8 sY.m sY.s sY.o).mono ?_; rintro e wB ⟨rfl, hbb⟩;   replace hB := Below.step0 hB hbb;  clear hbb))
          go_ret
          exact ⟨rfl, hB⟩
      · have frX := hX.lt
        rw [if_pos (by rfl)]
        refine wp_alloc_row 31 rfl _ (alloc_mach _) ?_
        have bT := Box.new wd.drew z64.toArray 31
        replace bM := bM.alloc (.cells z64.toArray 31)
        replace bX := bX.alloc (.cells z64.toArray 31)
        replace hX := hX.below ((Below.refl _ _).alloc (Nat.le_refl _) (.cells z64.toArray 31))
        replace hB := hB.alloc hB.size (.cells z64.toArray 31)
        refine hK.out _ _ bM (fun hHeld => ?_)
        (try simp only [Act.put, List.getElem_toArray, List.getElem_cons_zero, List.getElem_cons_succ, List.setIfInBounds_toArray, List.set_cons_zero, List.set_cons_succ])
        refine wpAnyH_ready (rs := [2]) (by kernel_rfl) (by simp) (AllReadyH.cons rfl (fun K hK => ?_) AllReadyH.nil)
        go_simp
        go_at_call 19
        refine (cA _).mono ?_
        rintro e wz ⟨rfl, hwz⟩
        obtain rfl := hwz.symm
        clear cA
        refine hK.out _ _ bM (fun hHeld => ?_)
        (try simp only [Act.put, List.getElem_toArray, List.getElem_cons_zero, List.getElem_cons_succ, List.setIfInBounds_toArray, List.set_cons_zero, List.set_cons_succ])
        refine wpAnyH_ready (rs := [3]) (by kernel_rfl) (by simp) (AllReadyH.cons rfl (fun K hK => ?_) AllReadyH.nil)
        go_simp
        go_at_call 23
        refine (c2 q0 _ (HA.out _ hB) (HS.out _ hB)).mono ?_
        rintro e w4 ⟨q2, rfl, hbb, hY, hYf⟩
        replace bM := bM.below hbb
        replace bX := bX.below hbb
        replace hX := hX.below hbb
        replace bT := bT.below hbb
        replace hB := Below.step0 hB hbb
        clear hbb c2
        refine hK.out _ _ bM (fun hHeld => ?_)
        (try simp only [Act.put, List.getElem_toArray, List.getElem_cons_zero, List.getElem_cons_succ, List.setIfInBounds_toArray, List.set_cons_zero, List.set_cons_succ])
        refine wpAnyH_take (i := 4) (v := (.tuple #[.agg (mcC Y q2).toArray, .int .i64 kY, .int .i64 fY])) rfl (by kernel_rfl) (by kernel_rfl) (by kernel_rfl) (fun _ _ _ h => h) (Or.inl ⟨by rfl, fun w' hw' => by go_simp⟩) (by assumption) ?_
        (try simp only [Act.put, List.getElem_toArray, List.getElem_cons_zero, List.getElem_cons_succ, List.setIfInBounds_toArray, List.set_cons_zero, List.set_cons_succ])
        refine wpAnyH_take (i := 5) (v := .agg (mcC Y q2).toArray) rfl (by kernel_rfl) (by kernel_rfl) (by kernel_rfl) (fun _ _ _ h => h) (Or.inl ⟨by rfl, fun w' hw' => by go_simp⟩) (by assumption) ?_
        (try simp only [Act.put, List.getElem_toArray, List.getElem_cons_zero, List.getElem_cons_succ, List.setIfInBounds_toArray, List.set_cons_zero, List.set_cons_succ])
        refine wpAnyH_take (i := 6) (v := .int .i64 kY) rfl (by kernel_rfl) (by kernel_rfl) (by kernel_rfl) (fun _ _ _ h => h) (Or.inl ⟨by rfl, fun w' hw' => by go_simp⟩) (by assumption) ?_
        (try simp only [Act.put, List.getElem_toArray, List.getElem_cons_zero, List.getElem_cons_succ, List.setIfInBounds_toArray, List.set_cons_zero, List.set_cons_succ])
        refine wpAnyH_take (i := 7) (v := .int .i64 fY) rfl (by kernel_rfl) (by kernel_rfl) (by kernel_rfl) (fun _ _ _ h => h) (Or.inl ⟨by rfl, fun w' hw' => by go_simp⟩) (by assumption) ?_
        (try simp only [Act.put, List.getElem_toArray, List.getElem_cons_zero, List.getElem_cons_succ, List.setIfInBounds_toArray, List.set_cons_zero, List.set_cons_succ])
        have frY := hYf
        refine wpAnyH_ready (rs := [9]) (by kernel_rfl) (by simp) (AllReadyH.cons rfl (fun K hK => ?_) AllReadyH.nil)
        rw [if_pos (by rfl)]
        refine wp_store_mid 31 (.tmp 8) (.tmp 50) rfl (wd.drew.heap.size) 0 (mcC Y q2).toArray (by rfl) (by rfl) (box_there bT (by rw [List.size_toArray]; exact zY q2)) (by rw [List.size_toArray]; exact iY q2) (all_oneCell_toArray (mc_one _ _)) ?_
        have hOf : Off (wd.drew.heap.size) (w4) ((w4).setCells (wd.drew.heap.size) 0 (mcC Y q2)) := Off.cells _ _ _ _ (Off.refl _ _) (.inl rfl)
        have bY := box_cells (cs := mcC Y q2) bT (zY q2)
        replace bM := hOf.box bM (by omega)
        replace bX := hOf.box bX (by omega)
        replace hX := (hOf.toP (p := fun j => j = (wd.drew.heap.size)) rfl).mcX hX (frX.mono fun j hj => by omega)
        replace hY := (hOf.toP (p := fun j => j = (wd.drew.heap.size)) rfl).mcX hY (frY.mono fun j hj => by show j < _; rw [hj, World.size_alloc]; exact Nat.lt_succ_self _)
        replace hB := below_cells (wd.drew.heap.size) (mcC Y q2) 0 _ hB (by omega)
        refine hK.out _ _ bM (fun hHeld => ?_)
        (try simp only [Act.put, List.getElem_toArray, List.getElem_cons_zero, List.getElem_cons_succ, List.setIfInBounds_toArray, List.set_cons_zero, List.set_cons_succ])
        refine wpAnyH_take (i := 10) (v := .int .i64 kY) rfl (by kernel_rfl) (by kernel_rfl) (by kernel_rfl) (fun _ _ _ h => h) (Or.inl ⟨by rfl, fun w' hw' => by go_simp⟩) (by assumption) ?_
        (try simp only [Act.put, List.getElem_toArray, List.getElem_cons_zero, List.getElem_cons_succ, List.setIfInBounds_toArray, List.set_cons_zero, List.set_cons_succ])
        refine wpAnyH_take (i := 11) (v := .int .i64 fY) rfl (by kernel_rfl) (by kernel_rfl) (by kernel_rfl) (fun _ _ _ h => h) (Or.inl ⟨by rfl, fun w' hw' => by go_simp⟩) (by assumption) ?_
        (try simp only [Act.put, List.getElem_toArray, List.getElem_cons_zero, List.getElem_cons_succ, List.setIfInBounds_toArray, List.set_cons_zero, List.set_cons_succ])
        refine wpAnyH_done (by kernel_rfl) ?_ _
        go_wp2_with (first | ((with_reducible refine at_load ?_); refine pl_load_box (by rfl) 31 (.tmp 8) rfl wd.drew.heap.size (by rfl) (mcC Y q2) bY _ Tryd.underlying31 rfl (iY q2) ?_) | ((with_reducible refine at_load ?_); refine pl_load_box (by rfl) 31 (.tmp 11) rfl w9.heap.size (by rfl) (mcC Y q3) bZ _ Tryd.underlying31 rfl (iY q3) ?_) | (go_at_call 23; refine (c3 q2 _ hY (HS.out _ hB)).mono ?_; rintro e w9 ⟨q3, rfl, hbb, hZ, -⟩; clear c3; replace bM := bM.below hbb; replace bY := bY.below hbb; replace hY := hY.below hbb; replace hB := Below.step0 hB hbb;  clear hbb) | ((with_reducible refine at_alloc ?_); refine wpList_alloc1 rfl 31 rfl _ (alloc_mach _) ?_) | ((with_reducible refine at_store ?_); refine pl_store_box rfl 31 (.tmp 11) (.tmp 58) rfl w9.heap.size (mcC Y q3) (by rfl) (by rfl) z64.toArray (Box.new _ _ _) (zY q3) (iY q3) (mc_one _ _) ?_; intro bZ;  have hbw : Below w9.heap.size w9 ((w9.alloc (.cells z64.toArray 31)).setCells w9.heap.size 0 (mcC Y q3)) := below_cells _ _ _ _ ((Below.refl _ _).alloc (Nat.le_refl _) _) (Nat.le_refl _); replace bM := bM.below hbw; replace bY := bY.below hbw; replace hY := hY.below hbw; replace hZ := hZ.below hbw; replace hB := Below.step0 hB hbw; generalize ((w9.alloc (.cells z64.toArray 31)).setCells w9.heap.size 0 (mcC Y q3)) = wA at *; clear hbw) | (go_at_call 15; refine (mach_eq Y q2 q3 _ hY hZ sY.r8 sY.m sY.s sY.o).mono ?_; rintro e wB ⟨rfl, hbb⟩;   replace hB := Below.step0 hB hbb;  clear hbb))
        go_ret
        exact ⟨rfl, hB⟩
  · have gE : (mcE x0 != 0) = true := by simpa using hE
    obtain ⟨e1, e2, e3⟩ := runX_bad (f := 0) (x := x0) (by omega) hE
    rw [show (((0 : Nat) : Nat) : Int) = 0 from rfl] at e1 e2 e3
    rw [e1, e2, e3] at c1
    have sX := sml_zero
    clear e1 e2 e3 A0 hS hE
    generalize mcE x0 = E at *
    generalize zeroM = X at *
    have iX : ∀ q', (Tryd.prog.info? 31).map (·.size) = some (mcC X q').length := fun q' => mach_info sX.r8
    have zX : ∀ q', z64.toArray.size = (mcC X q').length := fun q' => by rw [mc_length sX.r8]; rfl
    go_enter Tryd.func11, Tryd.ntmps11
    go_wp2_with (first | ((with_reducible refine at_load ?_); refine pl_load_box (by rfl) 31 (.tmp 2) rfl w.heap.size (by rfl) (mcC x0 q0) bM _ Tryd.underlying31 rfl hi0 ?_) | ((with_reducible refine at_load ?_); refine pl_load_box (by rfl) 31 (.tmp 5) rfl w2.heap.size (by rfl) (mcC X q1) bX _ Tryd.underlying31 rfl (iX q1) ?_) | (go_at_call 14; refine (keep_stepped _ (HS.out _ hB)).mono ?_; rintro e w1 ⟨rfl, hbb⟩;  replace bM := bM.below hbb; replace hB := Below.step0 hB hbb;  clear hbb) | (go_at_call 23; refine (c1 q0 _ (HA.out _ hB) (HS.out _ hB)).mono ?_; rintro e w2 ⟨q1, rfl, hbb, hX, -⟩; clear c1; replace bM := bM.below hbb; replace hB := Below.step0 hB hbb;  clear hbb) | ((with_reducible refine at_alloc ?_); refine wpList_alloc1 rfl 31 rfl _ (alloc_mach _) ?_) | ((with_reducible refine at_store ?_); refine pl_store_box rfl 31 (.tmp 5) (.tmp 19) rfl w2.heap.size (mcC X q1) (by rfl) (by rfl) z64.toArray (Box.new _ _ _) (zX q1) (iX q1) (mc_one _ _) ?_; intro bX; have nMX := bM.lt; have hX0 := hX.lt; have hbw : Below w2.heap.size w2 ((w2.alloc (.cells z64.toArray 31)).setCells w2.heap.size 0 (mcC X q1)) := below_cells _ _ _ _ ((Below.refl _ _).alloc (Nat.le_refl _) _) (Nat.le_refl _); replace bM := bM.below hbw; replace hX := hX.below hbw; replace hB := Below.step0 hB hbw; generalize ((w2.alloc (.cells z64.toArray 31)).setCells w2.heap.size 0 (mcC X q1)) = w3 at *; clear hbw) | (go_at_call 21; refine (cC _ (HA.out _ hB)).mono ?_; rintro e wc ⟨rfl, hbb⟩;  replace bM := bM.below hbb; replace bX := bX.below hbb; replace hX := hX.below hbb; replace hB := Below.step0 hB hbb;  clear hbb))
    go_ret
    exact ⟨rfl, hB⟩

set_option maxRecDepth 1000000 in
theorem contract (H : Type) (enc : TypeId × Value → H) (W : World) (base : Nat) (args : Array Value) (ds gs : List (DataW H)) (before : List MemPlace)
    (hval : ∀ (j : Nat) t v, Tryd.f11.params[j]? = some t → args[j]? = some v → Value.okWide Tryd.prog W .any base t v)
    (hW : DataW.Whole enc Tryd.prog Tryd.f11.params.toList Rows.runNoneSpec.vars false W args.toList ds gs before) (hsh : W.ShapedOpen Tryd.prog) (hz : (DataW.weightsEach Tryd.prog (Tryd.f11.params.toList ++ (OpenSpec.ofChange Rows.runNoneSpec).bare.plain.varTypes Tryd.prog) (ds ++ gs)).all (· ≤ reachBytes) = true) (hL : laidMet Tryd.prog Rows.runNoneRow.laid W) :
    Calls Tryd.prog 11 args W fun e W' => ∃ v, e = .returned v ∧ Rows.runNoneSpec.post enc Tryd.prog Tryd.f11 false true false false W args v W' := by
  have hW' := hW
  obtain ⟨p, q, hA0, hV, rfl, hfz, hnd⟩ := hW
  have hA : DataW.TrodAll enc Tryd.prog W 0 (fun _ => true) true Tryd.f11.params.toList args.toList ds p := hA0
  rw [Tryd.params11] at hA hval
  obtain ⟨v0, vs0, d0, ds0, p0, q0, hargs, rfl, rfl, h0, r0⟩ := trodAll_cons hA
  obtain ⟨v1, vs1, d1, ds1, p1, q1, rfl, rfl, rfl, h1, r1⟩ := trodAll_cons r0
  obtain ⟨rfl, rfl, rfl⟩ := trodAll_nil r1
  obtain rfl : args = #[v0, v1] := by cases args; simp_all
  obtain ⟨rfl, rfl⟩ := trodVars_none hV
  have k0 := h0
  have lt0 : ∀ x ∈ p0, x.block < W.heap.size := by obtain ⟨m, hm⟩ := k0; exact DataW.trod_lt m _ _ _ hm
  obtain ⟨x0, q0, rfl, O0, A0⟩ := open_mach (hval 0 31 v0 rfl rfl) k0
  obtain ⟨a1, rfl, rfl, rfl, w1⟩ := open_int Tryd.underlying3 (hval 1 3 v1 rfl rfl) h1
  clear hA0
  refine (walk x0 q0 a1 O0 (bounds_i64 w1) W A0 (shp_of_laid hL (.head _))).mono fun e W' ⟨he, bel⟩ => ?_
  subst he
  exact ⟨_, rfl, _, _, _, [], _, [], hW', trodAll_mk1 (shut_bool Tryd.underlying4 _), (trodAll_cons_mk (Below.trod laidOut (by kernel_rfl) (of_decide_eq_true (by kernel_rfl)) k0 bel lt0) (trodAll_cons_mk (shut_int Tryd.underlying3 w1) trodAll_mk0)), rfl, bel.frame _, fun h => by cases h⟩

theorem reads (os : Os) {H : Type} (enc : TypeId × Value → H) : ∃ places, DataW.whole enc Tryd.prog ((World.laidAll Tryd.prog os Rows.runNoneRow.laid).forCall (fun _ _ => 0) ⟨#[], #[witM, .int .i64 0], []⟩).memory Tryd.f11.params.toList Rows.runNoneSpec.vars false (#[witM, .int .i64 0] : Array Value).toList 8 = some ([.agg [.agg [.agg [.lit (.bool false), .lit (.int .i64 0), .agg [.lit (.int .i64 0), .lit (.int .i64 0), .lit (.int .i64 0), .lit (.int .i64 0), .lit (.int .i64 0)]], .agg [.lit (.bool false), .lit (.int .i64 0), .agg [.lit (.int .i64 0), .lit (.int .i64 0), .lit (.int .i64 0), .lit (.int .i64 0), .lit (.int .i64 0)]], .agg [.lit (.bool false), .lit (.int .i64 0), .agg [.lit (.int .i64 0), .lit (.int .i64 0), .lit (.int .i64 0), .lit (.int .i64 0), .lit (.int .i64 0)]], .agg [.lit (.bool false), .lit (.int .i64 0), .agg [.lit (.int .i64 0), .lit (.int .i64 0), .lit (.int .i64 0), .lit (.int .i64 0), .lit (.int .i64 0)]], .agg [.lit (.bool false), .lit (.int .i64 0), .agg [.lit (.int .i64 0), .lit (.int .i64 0), .lit (.int .i64 0), .lit (.int .i64 0), .lit (.int .i64 0)]], .agg [.lit (.bool false), .lit (.int .i64 0), .agg [.lit (.int .i64 0), .lit (.int .i64 0), .lit (.int .i64 0), .lit (.int .i64 0), .lit (.int .i64 0)]], .agg [.lit (.bool false), .lit (.int .i64 0), .agg [.lit (.int .i64 0), .lit (.int .i64 0), .lit (.int .i64 0), .lit (.int .i64 0), .lit (.int .i64 0)]], .agg [.lit (.bool false), .lit (.int .i64 0), .agg [.lit (.int .i64 0), .lit (.int .i64 0), .lit (.int .i64 0), .lit (.int .i64 0), .lit (.int .i64 0)]]], .agg [.lit (.int .i64 0), .lit (.int .i64 0), .lit (.int .i64 0), .lit (.int .i64 0), .lit (.int .i64 0)], .nil, .nil, .nil], .lit (.int .i64 0)], [], places) :=
  ⟨[], by kernel_rfl⟩
theorem laid_met (os : Os) : laidMet Tryd.prog Rows.runNoneRow.laid ((World.laidAll Tryd.prog os Rows.runNoneRow.laid).forCall (fun _ _ => 0) ⟨#[], #[witM, .int .i64 0], []⟩).memory :=
  laidMet_laidAll _ (by kernel_rfl) (by kernel_rfl)

set_option maxRecDepth 100000 in
theorem lifted (os : Os) (started : os.Started) (H : Type) (enc : TypeId × Value → H) (F : Stop.Interp) :
    ReturnsInHanded {} Tryd.checked os 11 .any ((OpenSpec.ofChange Rows.runNoneSpec).preRow enc Tryd.prog Tryd.f11 Rows.runNoneRow.domain false Rows.runNoneRow.laid) (((OpenSpec.ofChange Rows.runNoneSpec).at F).post enc Tryd.prog Tryd.f11 false true false false) := by
  obtain ⟨places, hx⟩ := reads os enc
  refine returnsInHanded_of_row (C := Tryd.checked) (s := OpenSpec.ofChange Rows.runNoneSpec) own started (by kernel_rfl) Tryd.func11
    (witness_row_at (enc := enc) (C := Tryd.checked) false (World.laidAll Tryd.prog os Rows.runNoneRow.laid) #[witM, .int .i64 0] (World.laidAll_os _ _ _) (by kernel_rfl) (by kernel_rfl) (by kernel_rfl)
      (OpenSpec.preRow_of_cond 8 hx (by kernel_rfl) (fun k hk => by cases hk) (by kernel_rfl) (laid_met os))) ?_
  intro W base args ds gs before hval hW _ hcond hz hL hsh _
  exact contract H enc W base args ds gs before hval hW hsh hz hL

theorem said : Rows.RunNoneSaid :=
  OpenClaim.holds_of_cond 11 Tryd.f11 rfl rfl rfl rfl rfl rfl rfl ⟨rfl, rfl, rfl, rfl, rfl⟩ rfl rfl rfl rfl rfl (by kernel_rfl) Tryd.func11 (by kernel_rfl)
    (of_decide_eq_true (by kernel_rfl)) (by unfold Func.isWrapper; first | (rw [if_pos (by decide +kernel)]; kernel_rfl) | (rw [if_neg (by decide +kernel)]; exact ⟨rfl, rfl⟩))
    (fun os started H enc _ F => by rw [OpenClaim.pre_eq_preRow]; exact lifted os started H enc F)
theorem plain (f : FuncId) (fn : Func) (hf : Tryd.pinned.checked.prog.funcNamed Rows.runNoneRow.func = some f) (hfn : Tryd.pinned.checked.prog.funcs[f]? = some fn) :
    true = Tryd.pinned.checked.prog.looks [] ∧ ∀ (j : Nat) t, fn.params[j]? = some t → Tryd.pinned.checked.prog.wantsStandIn t = false := by
  obtain rfl : f = 11 := Option.some.inj ((show Tryd.prog.funcNamed Rows.runNoneRow.func = some 11 by kernel_rfl).symm.trans hf) |>.symm
  obtain rfl : fn = Tryd.f11 := (Option.some.inj (Tryd.func11.symm.trans hfn)).symm
  refine ⟨by kernel_rfl, fun j t ht => ?_⟩
  rw [Tryd.params11] at ht
  have hm : t ∈ [31, 3] := by simpa using Array.mem_of_getElem? ht
  have hall : ([31, 3].all fun u => !Tryd.prog.wantsStandIn u) = true := by kernel_rfl
  exact (show Tryd.prog.wantsStandIn t = false by simpa using List.all_eq_true.1 hall t hm)
theorem proved : Rows.RunNoneCardSaid :=
  Claim7.holds_tied_plain_at .later [] _ _ _ _ said (fun _ h => by cases h) (by kernel_rfl) (fun _ h => by cases h) runNone_row_tie rfl ⟨rfl, rfl⟩ (by kernel_rfl) rfl plain (by kernel_rfl)
#print axioms proved
end Go.Proofs.YtigkmfccbndiiaaDoor.runNone
