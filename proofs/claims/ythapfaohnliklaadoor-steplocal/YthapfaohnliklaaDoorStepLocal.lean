/- Chapter 9, P19: a register that an instruction does not name is of no matter, and stays; for every machine, register and value. -/
import Derived.Test.YthapfaohnliklaaDoorRows
import Derived.Test.YthapfaohnliklaaDoorCards
import Derived.Test.YthapfaohnliklaaDoorTie
import Derived.Test.YthapfaohnliklaaDoorCardBase
import Derived.Test.YthapfaohnliklaaDoorInstShape
import Derived.Test.YthapfaohnliklaaDoorInstLaid
import Derived.Test.YthapfaohnliklaaDoorMachArg
import Derived.Carry
import Derived.Test.YthapfaohnliklaaDoorKeyPure
import Derived.Test.YthapfaohnliklaaDoorMachArg
import Derived.Test.YthapfaohnliklaaDoorStepOff
import Derived.Test.YthapfaohnliklaaDoorStepOwn
import Derived.Test.YthapfaohnliklaaDoorStepTop
import Derived.Test.YthapfaohnliklaaDoorStepKeep
import Derived.Test.YthapfaohnliklaaDoorRangeW
import Derived.Test.YthapfaohnliklaaDoorInMid
import Derived.Test.YthapfaohnliklaaDoorKeepSmall
import Derived.Test.YthapfaohnliklaaDoorKeepOp
import Derived.Test.YthapfaohnliklaaDoorNum
import Derived.Test.YthapfaohnliklaaDoorRunPlain
import Derived.Test.YthapfaohnliklaaDoorRunBase
import Derived.Test.YthapfaohnliklaaDoorStepChk2
import Derived.Test.YthapfaohnliklaaDoorStepMid
import Derived.Test.YthapfaohnliklaaDoorStepLocalP
import Derived.Test.YthapfaohnliklaaDoorValArg
import Derived.WalkKit
import Derived.ProofKit
import Derived.OpenShut
import Derived.Deep.DeepHandedRow
import Derived.Deep.DeepWitnessRowRef
import Derived.Lay
import Derived.MakeChecks
import Derived.SizedLaws
import Derived.Lib.LaidTab
namespace Go.Proofs.YthapfaohnliklaaDoor.stepLocal
open Go.ChangeShapes Go.WideShapes Go.ChangeAt Go.RowKit
set_option linter.unusedVariables false
set_option linter.unusedSimpArgs false

theorem own : ownKnob Tryd.prog.godebug = none := by kernel_rfl
theorem laidOut : laidOutB Tryd.prog = true := by kernel_rfl
def witM : Value := .agg #[.bool false, .int .i64 0, .int .i64 0, .int .i64 0, .int .i64 0, .int .i64 0, .int .i64 0, .bool false, .int .i64 0, .int .i64 0, .int .i64 0, .int .i64 0, .int .i64 0, .int .i64 0, .bool false, .int .i64 0, .int .i64 0, .int .i64 0, .int .i64 0, .int .i64 0, .int .i64 0, .bool false, .int .i64 0, .int .i64 0, .int .i64 0, .int .i64 0, .int .i64 0, .int .i64 0, .bool false, .int .i64 0, .int .i64 0, .int .i64 0, .int .i64 0, .int .i64 0, .int .i64 0, .bool false, .int .i64 0, .int .i64 0, .int .i64 0, .int .i64 0, .int .i64 0, .int .i64 0, .bool false, .int .i64 0, .int .i64 0, .int .i64 0, .int .i64 0, .int .i64 0, .int .i64 0, .bool false, .int .i64 0, .int .i64 0, .int .i64 0, .int .i64 0, .int .i64 0, .int .i64 0, .int .i64 0, .int .i64 0, .int .i64 0, .int .i64 0, .int .i64 0, .slice none 0 0, .slice none 0 0, .slice none 0 0]

theorem zero_r8 : zeroM.r.length = 8 := rfl
set_option maxHeartbeats 4000000 in
set_option maxRecDepth 1000000 in
theorem walk (x0 : MC) (q0 : MA) (a1 : Int) (a2i : Bool) (a2n a2p a2b a2l a2a a2s : Int) (O0 : McOk x0 q0) (b1 : -9223372036854775808 ≤ a1 ∧ a1 ≤ 9223372036854775807) (V2 : vb a2n a2p a2b a2l a2a a2s) (w : World) (A0 : McAt w x0 q0) (hS : Shp w) :
    Calls Tryd.prog 4 #[.agg (mcC x0 q0).toArray, .int .i64 a1, .agg #[.bool a2i, .int .i64 a2n, .int .i64 a2p, .int .i64 a2b, .int .i64 a2l, .int .i64 a2a, .int .i64 a2s]] w fun e w' => e = .returned (.bool true) ∧ Below w.heap.size w w' := by
  obtain ⟨r, hr⟩ : ∃ r : Nat, a1 % 8 = (r : Int) := ⟨(a1 % 8).toNat, by omega⟩
  have hr8 : r < 8 := by omega
  have gr : (r : Int) < 8 := by omega
  have gr0 : (0 : Int) ≤ (r : Int) := by omega
  have cA := fun w => ref_rest a1 8 w b1 (by omega)
  rw [hr] at cA
  clear hr
  obtain ⟨V, hV⟩ : ∃ V : MV, V = ⟨a2i, a2n, a2p, a2b, a2l, a2a, a2s⟩ := ⟨_, rfl⟩
  have O' : McB (putR x0 r V) := by
    refine ⟨put_r8 O0.r8, fun u hu => ?_, O0.k, O0.m, O0.s, O0.o⟩
    rcases List.mem_or_eq_of_mem_set hu with h | h
    · exact O0.r u h
    · rw [h, hV]; exact V2
  have HV : Hid (V = ⟨a2i, a2n, a2p, a2b, a2l, a2a, a2s⟩) := hV
  clear hV
  have bM := Box.new w (mcC x0 q0).toArray 31
  replace bM := bM.alloc (.cells #[.bool a2i, .int .i64 a2n, .int .i64 a2p, .int .i64 a2b, .int .i64 a2l, .int .i64 a2a, .int .i64 a2s] 25)
  have bV := Box.new1 w (.cells (mcC x0 q0).toArray 31) #[.bool a2i, .int .i64 a2n, .int .i64 a2p, .int .i64 a2b, .int .i64 a2l, .int .i64 a2a, .int .i64 a2s] 25
  have hB : Below w.heap.size w ((w.alloc (.cells (mcC x0 q0).toArray 31)).alloc (.cells #[.bool a2i, .int .i64 a2n, .int .i64 a2p, .int .i64 a2b, .int .i64 a2l, .int .i64 a2a, .int .i64 a2s] 25)) := two _ _
  have lm : x0.m.length ≤ maxLen := Nat.le_trans O0.zm O0.ym
  have hi0 : (Tryd.prog.info? 31).map (·.size) = some (mcC x0 q0).length := mach_info O0.r8
  have hi1 : (Tryd.prog.info? 31).map (·.size) = some (mcC (putR x0 r V) q0).length := mach_info O'.r8
  have HA : Hid (∀ w', Below w.heap.size w w' → McAt w' x0 q0) := fun w' hb => A0.below hb
  have HP : Hid (∀ w', Below w.heap.size w w' → McAt w' (putR x0 r V) q0) := fun w' hb => ⟨(A0.below hb).m, (A0.below hb).s, (A0.below hb).o, A0.c⟩
  have HS : Hid (∀ w', Below w.heap.size w w' → Shp w') := fun w' hb => hS.below hb
  have cS := fun w hA hS => step_top x0 q0 w hA O0.toMcB hS
  have cP := fun w hA hS => step_top (putR x0 r V) q0 w hA O' hS
  have cC := fun w hA => step_check (putR x0 r V) q0 w hA O'
  have cO := fun w hA hS => keep_op x0 q0 w hA O0.toMcB hS lm
  have cN := fun w => keep_named (opI x0) r w hr8
  have rY : (stpM x0).r.length = 8 := stp_r8 O0.r8
  have rZ : (stpM (putR x0 r V)).r.length = 8 := stp_r8 O'.r8
  have r0 := O0.r8
  have rP := O'.r8
  have hL : stpE x0 = 0 → mcE (putR x0 r V) = 0 → namedB (opI x0) r = false → stpE (putR x0 r V) = 0 ∧ stpM (putR x0 r V) = putR (stpM x0) r V := fun h1 h2 h3 => step_local O0.r8 h1 h2 h3
  have hG := fun h => (step_good O0.r8 h).sml
  obtain ⟨⟨uo, ua, ub, uc, ue⟩, hU⟩ : ∃ U, opI x0 = U := ⟨_, rfl⟩
  obtain ⟨B, hBn⟩ : ∃ B, namedB (opI x0) r = B := ⟨_, rfl⟩
  rw [hBn] at hL cN
  rw [hU] at cO cN
  dsimp only at cO cN
  clear hU hBn A0 hS
  obtain ⟨E, hE⟩ : ∃ E, stpE x0 = E := ⟨_, rfl⟩
  rw [hE] at cS hL hG
  obtain ⟨E', hE'⟩ : ∃ E', stpE (putR x0 r V) = E' := ⟨_, rfl⟩
  rw [hE'] at cP hL
  obtain ⟨C, hC⟩ : ∃ C, mcE (putR x0 r V) = C := ⟨_, rfl⟩
  rw [hC] at cC hL
  obtain ⟨Y, hY⟩ : ∃ Y, stpM x0 = Y := ⟨_, rfl⟩
  rw [hY] at cS rY hL hG
  obtain ⟨Z, hZ⟩ : ∃ Z, stpM (putR x0 r V) = Z := ⟨_, rfl⟩
  rw [hZ] at cP rZ hL
  clear hE hE' hC hY hZ O'
  have iY : ∀ q', (Tryd.prog.info? 31).map (·.size) = some (mcC Y q').length := fun q' => mach_info rY
  have zY : ∀ q', z64.toArray.size = (mcC Y q').length := fun q' => by rw [mc_length rY]; rfl
  have iZ : ∀ q', (Tryd.prog.info? 31).map (·.size) = some (mcC Z q').length := fun q' => mach_info rZ
  have zZ : ∀ q', z64.toArray.size = (mcC Z q').length := fun q' => by rw [mc_length rZ]; rfl
  by_cases h0 : uo < 0
  · clear hL hG
    go_enter Tryd.func4, Tryd.ntmps4
    go_wp2_with (first | ((with_reducible refine at_load ?_); refine pl_load_box (by rfl) 31 (.tmp 3) rfl w.heap.size (by rfl) (mcC x0 q0) bM _ Tryd.underlying31 rfl hi0 ?_) | ((with_reducible refine at_load ?_); refine pl_load_box (by rfl) 31 (.tmp 3) rfl w.heap.size (by rfl) (mcC x0 q0) (bM.alloc (.cells #[.int .i64 uo, .int .i64 ua, .int .i64 ub, .int .i64 uc] 37)) _ Tryd.underlying31 rfl hi0 ?_) | ((with_reducible refine at_load ?_); refine pl_load_box (by rfl) 31 (.tmp 3) rfl w.heap.size (by rfl) (mcC (putR x0 r V) q0) bM _ Tryd.underlying31 rfl hi1 ?_) | (go_at_call 12; refine (cA _).mono ?_; rintro e wz ⟨rfl, hwz⟩; obtain rfl := hwz.symm; clear cA) | (go_at_call 8; refine (keep_stepped _ (HS.out _ hB)).mono ?_; rintro e w1 ⟨rfl, hbb⟩;  replace bM := bM.below hbb; replace bV := bV.below hbb; replace hB := Below.step0 hB hbb;  clear hbb) | (go_at_call 9; refine (cO _ (HA.out _ hB) (HS.out _ hB)).mono ?_; rintro e w2 ⟨rfl, hbb⟩; clear cO; replace bM := bM.below hbb; replace bV := bV.below hbb; replace hB := Below.step0 hB hbb; have nMI := bM.lt; have nVI := bV.lt; clear hbb) | (go_at_call 7; refine (cS _ (HA.out _ (hB.alloc hB.size _)) (HS.out _ (hB.alloc hB.size _))).mono ?_; rintro e w3 ⟨q1, rfl, hbb, hY, hYf⟩; clear cS; have bI := Box.new w2 #[.int .i64 uo, .int .i64 ua, .int .i64 ub, .int .i64 uc] 37; replace hB := hB.alloc hB.size (.cells #[.int .i64 uo, .int .i64 ua, .int .i64 ub, .int .i64 uc] 37); replace bM := bM.alloc (.cells #[.int .i64 uo, .int .i64 ua, .int .i64 ub, .int .i64 uc] 37); replace bV := bV.alloc (.cells #[.int .i64 uo, .int .i64 ua, .int .i64 ub, .int .i64 uc] 37); have nYM := bM.lt; replace bM := bM.below hbb; replace bV := bV.below hbb; replace bI := bI.below hbb; replace hB := Below.step0 hB hbb; have hYl := hY.lt; clear hbb) | ((with_reducible refine at_alloc ?_); refine wpList_alloc1 rfl 31 rfl _ (alloc_mach _) ?_) | ((with_reducible refine at_store ?_); refine pl_store_box rfl 31 (.tmp 8) (.tmp 21) rfl w3.heap.size (mcC Y q1) (by rfl) (by rfl) z64.toArray (Box.new _ _ _) (zY q1) (iY q1) (mc_one _ _) ?_; intro bN; have nMN := bM.lt; have nVN := bV.lt; have nIN := bI.lt; have hbw : Below w3.heap.size w3 ((w3.alloc (.cells z64.toArray 31)).setCells w3.heap.size 0 (mcC Y q1)) := below_cells _ _ _ _ ((Below.refl _ _).alloc (Nat.le_refl _) _) (Nat.le_refl _); replace bM := bM.below hbw; replace bV := bV.below hbw; replace bI := bI.below hbw; replace hY := hY.below hbw; replace hB := Below.step0 hB hbw; generalize ((w3.alloc (.cells z64.toArray 31)).setCells w3.heap.size 0 (mcC Y q1)) = w4 at *; clear hbw; have qV := bV.cell) | ((with_reducible refine at_store ?_); refine pl_store_reg rfl (.tmp 26) (.tmp 24) rfl V (S := w.heap.size) (k := r) (x := x0) (q := q0) (by rfl) (by rw [HV.out]; rfl) bM r0 hr8 ?_; intro w5 hOf bM2; replace bV := hOf.box bV (by omega); replace bI := hOf.box bI (by omega); replace bN := hOf.box bN (by omega); replace hY := (hOf.toP (p := fun j => j = w.heap.size) rfl).mcX hY (hYf.far.mono fun j hj => by rw [show j = w.heap.size from hj]; exact nYM); replace hB := hB.trans (hOf.to (Nat.le_refl _) (Nat.le_of_lt bM.lt)); clear bM; have bM := bM2; clear bM2 qV; have nNP := bN.lt; clear hOf) | (go_at_call 7; refine (cP _ (HP.out _ hB) (HS.out _ hB)).mono ?_; rintro e w6 ⟨q2, rfl, hbb, hZ, hZf⟩; clear cP; replace bM := bM.below hbb; replace bV := bV.below hbb; replace bI := bI.below hbb; replace bN := bN.below hbb; replace hY := hY.below hbb; replace hB := Below.step0 hB hbb;  clear hbb) | ((with_reducible refine at_store ?_); refine pl_store_box rfl 31 (.tmp 10) (.tmp 30) rfl w6.heap.size (mcC Z q2) (by rfl) (by rfl) z64.toArray (Box.new _ _ _) (zZ q2) (iZ q2) (mc_one _ _) ?_; intro bZ; have nMZ := bM.lt; have nVZ := bV.lt; have nIZ := bI.lt; have nNZ := bN.lt; have hbw : Below w6.heap.size w6 ((w6.alloc (.cells z64.toArray 31)).setCells w6.heap.size 0 (mcC Z q2)) := below_cells _ _ _ _ ((Below.refl _ _).alloc (Nat.le_refl _) _) (Nat.le_refl _); replace bM := bM.below hbw; replace bV := bV.below hbw; replace bI := bI.below hbw; replace bN := bN.below hbw; replace hY := hY.below hbw; replace hZ := hZ.below hbw; replace hB := Below.step0 hB hbw; generalize ((w6.alloc (.cells z64.toArray 31)).setCells w6.heap.size 0 (mcC Z q2)) = w7 at *; clear hbw; have qI := bI.cell) | (go_at_call 13; refine (cN _).mono ?_; rintro e w8 ⟨rfl, hbb⟩; clear cN qI; replace bM := bM.below hbb; replace bV := bV.below hbb; replace bI := bI.below hbb; replace bN := bN.below hbb; replace hY := hY.below hbb; replace bZ := bZ.below hbb; replace hZ := hZ.below hbb; replace hB := Below.step0 hB hbb;  clear hbb) | (go_at_call 14; refine (cC _ (HP.out _ hB)).mono ?_; rintro e w9 ⟨rfl, hbb⟩; clear cC; replace bM := bM.below hbb; replace bV := bV.below hbb; replace bI := bI.below hbb; replace bN := bN.below hbb; replace hY := hY.below hbb; replace bZ := bZ.below hbb; replace hZ := hZ.below hbb; replace hB := Below.step0 hB hbb;  clear hbb))
    go_ret
    exact ⟨rfl, hB⟩
  · have g0 : decide (uo < 0) = false := decide_eq_false h0
    cases B
    · by_cases hC : C = 0
      · by_cases hE : E = 0
        · obtain ⟨e1, e2⟩ := hL hE hC rfl
          subst e1 e2 hC hE
          have sY := hG rfl
          have rT : (putR Y r V).r.length = 8 := put_r8 rY
          have hv : (putR Y r V).r[r]? = some V := by unfold putR; rw [List.getElem?_set_self (by rw [rY]; exact hr8)]
          clear hL hG iZ zZ
          have iT : ∀ q', (Tryd.prog.info? 31).map (·.size) = some (mcC (putR Y r V) q').length := fun q' => mach_info rT
          have zT : ∀ q', z64.toArray.size = (mcC (putR Y r V) q').length := fun q' => by rw [mc_length rT]; rfl
          go_enter Tryd.func4, Tryd.ntmps4
          go_upto_region 10 with (first | ((with_reducible refine at_load ?_); refine pl_load_box (by rfl) 31 (.tmp 3) rfl w.heap.size (by rfl) (mcC x0 q0) bM _ Tryd.underlying31 rfl hi0 ?_) | ((with_reducible refine at_load ?_); refine pl_load_box (by rfl) 31 (.tmp 3) rfl w.heap.size (by rfl) (mcC x0 q0) (bM.alloc (.cells #[.int .i64 uo, .int .i64 ua, .int .i64 ub, .int .i64 uc] 37)) _ Tryd.underlying31 rfl hi0 ?_) | ((with_reducible refine at_load ?_); refine pl_load_box (by rfl) 31 (.tmp 3) rfl w.heap.size (by rfl) (mcC (putR x0 r V) q0) bM _ Tryd.underlying31 rfl hi1 ?_) | (go_at_call 12; refine (cA _).mono ?_; rintro e wz ⟨rfl, hwz⟩; obtain rfl := hwz.symm; clear cA) | (go_at_call 8; refine (keep_stepped _ (HS.out _ hB)).mono ?_; rintro e w1 ⟨rfl, hbb⟩;  replace bM := bM.below hbb; replace bV := bV.below hbb; replace hB := Below.step0 hB hbb;  clear hbb) | (go_at_call 9; refine (cO _ (HA.out _ hB) (HS.out _ hB)).mono ?_; rintro e w2 ⟨rfl, hbb⟩; clear cO; replace bM := bM.below hbb; replace bV := bV.below hbb; replace hB := Below.step0 hB hbb; have nMI := bM.lt; have nVI := bV.lt; clear hbb) | (go_at_call 7; refine (cS _ (HA.out _ (hB.alloc hB.size _)) (HS.out _ (hB.alloc hB.size _))).mono ?_; rintro e w3 ⟨q1, rfl, hbb, hY, hYf⟩; clear cS; have bI := Box.new w2 #[.int .i64 uo, .int .i64 ua, .int .i64 ub, .int .i64 uc] 37; replace hB := hB.alloc hB.size (.cells #[.int .i64 uo, .int .i64 ua, .int .i64 ub, .int .i64 uc] 37); replace bM := bM.alloc (.cells #[.int .i64 uo, .int .i64 ua, .int .i64 ub, .int .i64 uc] 37); replace bV := bV.alloc (.cells #[.int .i64 uo, .int .i64 ua, .int .i64 ub, .int .i64 uc] 37); have nYM := bM.lt; replace bM := bM.below hbb; replace bV := bV.below hbb; replace bI := bI.below hbb; replace hB := Below.step0 hB hbb; have hYl := hY.lt; clear hbb) | ((with_reducible refine at_alloc ?_); refine wpList_alloc1 rfl 31 rfl _ (alloc_mach _) ?_) | ((with_reducible refine at_store ?_); refine pl_store_box rfl 31 (.tmp 8) (.tmp 21) rfl w3.heap.size (mcC Y q1) (by rfl) (by rfl) z64.toArray (Box.new _ _ _) (zY q1) (iY q1) (mc_one _ _) ?_; intro bN; have nMN := bM.lt; have nVN := bV.lt; have nIN := bI.lt; have hbw : Below w3.heap.size w3 ((w3.alloc (.cells z64.toArray 31)).setCells w3.heap.size 0 (mcC Y q1)) := below_cells _ _ _ _ ((Below.refl _ _).alloc (Nat.le_refl _) _) (Nat.le_refl _); replace bM := bM.below hbw; replace bV := bV.below hbw; replace bI := bI.below hbw; replace hY := hY.below hbw; replace hB := Below.step0 hB hbw; generalize ((w3.alloc (.cells z64.toArray 31)).setCells w3.heap.size 0 (mcC Y q1)) = w4 at *; clear hbw; have qV := bV.cell) | ((with_reducible refine at_store ?_); refine pl_store_reg rfl (.tmp 26) (.tmp 24) rfl V (S := w.heap.size) (k := r) (x := x0) (q := q0) (by rfl) (by rw [HV.out]; rfl) bM r0 hr8 ?_; intro w5 hOf bM2; replace bV := hOf.box bV (by omega); replace bI := hOf.box bI (by omega); replace bN := hOf.box bN (by omega); replace hY := (hOf.toP (p := fun j => j = w.heap.size) rfl).mcX hY (hYf.far.mono fun j hj => by rw [show j = w.heap.size from hj]; exact nYM); replace hB := hB.trans (hOf.to (Nat.le_refl _) (Nat.le_of_lt bM.lt)); clear bM; have bM := bM2; clear bM2 qV; have nNP := bN.lt; clear hOf) | (go_at_call 7; refine (cP _ (HP.out _ hB) (HS.out _ hB)).mono ?_; rintro e w6 ⟨q2, rfl, hbb, hZ, hZf⟩; clear cP; replace bM := bM.below hbb; replace bV := bV.below hbb; replace bI := bI.below hbb; replace bN := bN.below hbb; replace hY := hY.below hbb; replace hB := Below.step0 hB hbb;  clear hbb) | ((with_reducible refine at_store ?_); refine pl_store_box rfl 31 (.tmp 10) (.tmp 30) rfl w6.heap.size (mcC (putR Y r V) q2) (by rfl) (by rfl) z64.toArray (Box.new _ _ _) (zT q2) (iT q2) (mc_one _ _) ?_; intro bZ; have nMZ := bM.lt; have nVZ := bV.lt; have nIZ := bI.lt; have nNZ := bN.lt; have hbw : Below w6.heap.size w6 ((w6.alloc (.cells z64.toArray 31)).setCells w6.heap.size 0 (mcC (putR Y r V) q2)) := below_cells _ _ _ _ ((Below.refl _ _).alloc (Nat.le_refl _) _) (Nat.le_refl _); replace bM := bM.below hbw; replace bV := bV.below hbw; replace bI := bI.below hbw; replace bN := bN.below hbw; replace hY := hY.below hbw; replace hZ := hZ.below hbw; replace hB := Below.step0 hB hbw; generalize ((w6.alloc (.cells z64.toArray 31)).setCells w6.heap.size 0 (mcC (putR Y r V) q2)) = w7 at *; clear hbw; have qI := bI.cell) | (go_at_call 13; refine (cN _).mono ?_; rintro e w8 ⟨rfl, hbb⟩; clear cN qI; replace bM := bM.below hbb; replace bV := bV.below hbb; replace bI := bI.below hbb; replace bN := bN.below hbb; replace hY := hY.below hbb; replace bZ := bZ.below hbb; replace hZ := hZ.below hbb; replace hB := Below.step0 hB hbb;  clear hbb) | (go_at_call 14; refine (cC _ (HP.out _ hB)).mono ?_; rintro e w9 ⟨rfl, hbb⟩; clear cC; replace bM := bM.below hbb; replace bV := bV.below hbb; replace bI := bI.below hbb; replace bN := bN.below hbb; replace hY := hY.below hbb; replace bZ := bZ.below hbb; replace hZ := hZ.below hbb; replace hB := Below.step0 hB hbb;  clear hbb))
          replace bM := bM.drew
          replace bV := bV.drew
          replace bI := bI.drew
          replace bN := bN.drew
          replace bZ := bZ.drew
          replace hY := hY.below (below_drew _)
          replace hZ := hZ.below (below_drew _)
          replace hB := hB.drew
          have hc := box_reg bZ rT hv
          rw [HV.out] at hc
          obtain ⟨c0, c1, c2, c3, c4, c5, c6⟩ := hc
          dsimp only at c0 c1 c2 c3 c4 c5 c6
          have qV := bV.cell
          clear hv
          go_region
          clear c0 c1 c2 c3 c4 c5 c6
          go_wp2_with (first | ((with_reducible refine at_load ?_); refine pl_load_box (by rfl) 31 (.tmp 8) rfl w3.heap.size (by rfl) (mcC (putR Y r V) q1) bN _ Tryd.underlying31 rfl (iT q1) ?_) | ((with_reducible refine at_load ?_); refine pl_load_box (by rfl) 31 (.tmp 10) rfl w6.heap.size (by rfl) (mcC (putR Y r V) q2) bZ _ Tryd.underlying31 rfl (iT q2) ?_) | ((with_reducible refine at_store ?_); refine pl_store_reg rfl (.tmp 62) (.tmp 60) rfl V (S := w3.heap.size) (k := r) (x := Y) (q := q1) (by rfl) (by rw [HV.out]; rfl) bN rY hr8 ?_; intro wA hOf bN2; replace bZ := hOf.box bZ (by omega); replace hY := (hOf.toP (p := fun j => j = w3.heap.size) rfl).mcX hY (hYl.mono fun j hj => Nat.le_of_eq (Eq.symm hj)); replace hZ := (hOf.toP (p := fun j => j = w3.heap.size) rfl).mcX hZ (hZf.far.mono fun j hj => by rw [show j = w3.heap.size from hj]; exact nNP); replace hB := hB.trans (hOf.to (Nat.le_of_lt nMN) (Nat.le_of_lt bN.lt)); clear bN; have bN := bN2; clear bN2 qV; clear hOf) | (go_at_call 15; refine (mach_eq (putR Y r V) q1 q2 _ ⟨hY.m, hY.s, hY.o, hY.c⟩ hZ rT sY.m sY.s sY.o).mono ?_; rintro e wB ⟨rfl, hbb⟩;   replace hB := Below.step0 hB hbb;  clear hbb))
          go_ret
          exact ⟨rfl, hB⟩
        · have gE : (E != 0) = true := by simpa using hE
          have gC : (C != 0) = false := by simpa using hC
          clear hL hG hE
          subst hC
          go_enter Tryd.func4, Tryd.ntmps4
          go_wp2_with (first | ((with_reducible refine at_load ?_); refine pl_load_box (by rfl) 31 (.tmp 3) rfl w.heap.size (by rfl) (mcC x0 q0) bM _ Tryd.underlying31 rfl hi0 ?_) | ((with_reducible refine at_load ?_); refine pl_load_box (by rfl) 31 (.tmp 3) rfl w.heap.size (by rfl) (mcC x0 q0) (bM.alloc (.cells #[.int .i64 uo, .int .i64 ua, .int .i64 ub, .int .i64 uc] 37)) _ Tryd.underlying31 rfl hi0 ?_) | ((with_reducible refine at_load ?_); refine pl_load_box (by rfl) 31 (.tmp 3) rfl w.heap.size (by rfl) (mcC (putR x0 r V) q0) bM _ Tryd.underlying31 rfl hi1 ?_) | (go_at_call 12; refine (cA _).mono ?_; rintro e wz ⟨rfl, hwz⟩; obtain rfl := hwz.symm; clear cA) | (go_at_call 8; refine (keep_stepped _ (HS.out _ hB)).mono ?_; rintro e w1 ⟨rfl, hbb⟩;  replace bM := bM.below hbb; replace bV := bV.below hbb; replace hB := Below.step0 hB hbb;  clear hbb) | (go_at_call 9; refine (cO _ (HA.out _ hB) (HS.out _ hB)).mono ?_; rintro e w2 ⟨rfl, hbb⟩; clear cO; replace bM := bM.below hbb; replace bV := bV.below hbb; replace hB := Below.step0 hB hbb; have nMI := bM.lt; have nVI := bV.lt; clear hbb) | (go_at_call 7; refine (cS _ (HA.out _ (hB.alloc hB.size _)) (HS.out _ (hB.alloc hB.size _))).mono ?_; rintro e w3 ⟨q1, rfl, hbb, hY, hYf⟩; clear cS; have bI := Box.new w2 #[.int .i64 uo, .int .i64 ua, .int .i64 ub, .int .i64 uc] 37; replace hB := hB.alloc hB.size (.cells #[.int .i64 uo, .int .i64 ua, .int .i64 ub, .int .i64 uc] 37); replace bM := bM.alloc (.cells #[.int .i64 uo, .int .i64 ua, .int .i64 ub, .int .i64 uc] 37); replace bV := bV.alloc (.cells #[.int .i64 uo, .int .i64 ua, .int .i64 ub, .int .i64 uc] 37); have nYM := bM.lt; replace bM := bM.below hbb; replace bV := bV.below hbb; replace bI := bI.below hbb; replace hB := Below.step0 hB hbb; have hYl := hY.lt; clear hbb) | ((with_reducible refine at_alloc ?_); refine wpList_alloc1 rfl 31 rfl _ (alloc_mach _) ?_) | ((with_reducible refine at_store ?_); refine pl_store_box rfl 31 (.tmp 8) (.tmp 21) rfl w3.heap.size (mcC Y q1) (by rfl) (by rfl) z64.toArray (Box.new _ _ _) (zY q1) (iY q1) (mc_one _ _) ?_; intro bN; have nMN := bM.lt; have nVN := bV.lt; have nIN := bI.lt; have hbw : Below w3.heap.size w3 ((w3.alloc (.cells z64.toArray 31)).setCells w3.heap.size 0 (mcC Y q1)) := below_cells _ _ _ _ ((Below.refl _ _).alloc (Nat.le_refl _) _) (Nat.le_refl _); replace bM := bM.below hbw; replace bV := bV.below hbw; replace bI := bI.below hbw; replace hY := hY.below hbw; replace hB := Below.step0 hB hbw; generalize ((w3.alloc (.cells z64.toArray 31)).setCells w3.heap.size 0 (mcC Y q1)) = w4 at *; clear hbw; have qV := bV.cell) | ((with_reducible refine at_store ?_); refine pl_store_reg rfl (.tmp 26) (.tmp 24) rfl V (S := w.heap.size) (k := r) (x := x0) (q := q0) (by rfl) (by rw [HV.out]; rfl) bM r0 hr8 ?_; intro w5 hOf bM2; replace bV := hOf.box bV (by omega); replace bI := hOf.box bI (by omega); replace bN := hOf.box bN (by omega); replace hY := (hOf.toP (p := fun j => j = w.heap.size) rfl).mcX hY (hYf.far.mono fun j hj => by rw [show j = w.heap.size from hj]; exact nYM); replace hB := hB.trans (hOf.to (Nat.le_refl _) (Nat.le_of_lt bM.lt)); clear bM; have bM := bM2; clear bM2 qV; have nNP := bN.lt; clear hOf) | (go_at_call 7; refine (cP _ (HP.out _ hB) (HS.out _ hB)).mono ?_; rintro e w6 ⟨q2, rfl, hbb, hZ, hZf⟩; clear cP; replace bM := bM.below hbb; replace bV := bV.below hbb; replace bI := bI.below hbb; replace bN := bN.below hbb; replace hY := hY.below hbb; replace hB := Below.step0 hB hbb;  clear hbb) | ((with_reducible refine at_store ?_); refine pl_store_box rfl 31 (.tmp 10) (.tmp 30) rfl w6.heap.size (mcC Z q2) (by rfl) (by rfl) z64.toArray (Box.new _ _ _) (zZ q2) (iZ q2) (mc_one _ _) ?_; intro bZ; have nMZ := bM.lt; have nVZ := bV.lt; have nIZ := bI.lt; have nNZ := bN.lt; have hbw : Below w6.heap.size w6 ((w6.alloc (.cells z64.toArray 31)).setCells w6.heap.size 0 (mcC Z q2)) := below_cells _ _ _ _ ((Below.refl _ _).alloc (Nat.le_refl _) _) (Nat.le_refl _); replace bM := bM.below hbw; replace bV := bV.below hbw; replace bI := bI.below hbw; replace bN := bN.below hbw; replace hY := hY.below hbw; replace hZ := hZ.below hbw; replace hB := Below.step0 hB hbw; generalize ((w6.alloc (.cells z64.toArray 31)).setCells w6.heap.size 0 (mcC Z q2)) = w7 at *; clear hbw; have qI := bI.cell) | (go_at_call 13; refine (cN _).mono ?_; rintro e w8 ⟨rfl, hbb⟩; clear cN qI; replace bM := bM.below hbb; replace bV := bV.below hbb; replace bI := bI.below hbb; replace bN := bN.below hbb; replace hY := hY.below hbb; replace bZ := bZ.below hbb; replace hZ := hZ.below hbb; replace hB := Below.step0 hB hbb;  clear hbb) | (go_at_call 14; refine (cC _ (HP.out _ hB)).mono ?_; rintro e w9 ⟨rfl, hbb⟩; clear cC; replace bM := bM.below hbb; replace bV := bV.below hbb; replace bI := bI.below hbb; replace bN := bN.below hbb; replace hY := hY.below hbb; replace bZ := bZ.below hbb; replace hZ := hZ.below hbb; replace hB := Below.step0 hB hbb;  clear hbb))
          go_ret
          exact ⟨rfl, hB⟩
      · have gC : (C != 0) = true := by simpa using hC
        clear hL hG hC
        go_enter Tryd.func4, Tryd.ntmps4
        go_wp2_with (first | ((with_reducible refine at_load ?_); refine pl_load_box (by rfl) 31 (.tmp 3) rfl w.heap.size (by rfl) (mcC x0 q0) bM _ Tryd.underlying31 rfl hi0 ?_) | ((with_reducible refine at_load ?_); refine pl_load_box (by rfl) 31 (.tmp 3) rfl w.heap.size (by rfl) (mcC x0 q0) (bM.alloc (.cells #[.int .i64 uo, .int .i64 ua, .int .i64 ub, .int .i64 uc] 37)) _ Tryd.underlying31 rfl hi0 ?_) | ((with_reducible refine at_load ?_); refine pl_load_box (by rfl) 31 (.tmp 3) rfl w.heap.size (by rfl) (mcC (putR x0 r V) q0) bM _ Tryd.underlying31 rfl hi1 ?_) | (go_at_call 12; refine (cA _).mono ?_; rintro e wz ⟨rfl, hwz⟩; obtain rfl := hwz.symm; clear cA) | (go_at_call 8; refine (keep_stepped _ (HS.out _ hB)).mono ?_; rintro e w1 ⟨rfl, hbb⟩;  replace bM := bM.below hbb; replace bV := bV.below hbb; replace hB := Below.step0 hB hbb;  clear hbb) | (go_at_call 9; refine (cO _ (HA.out _ hB) (HS.out _ hB)).mono ?_; rintro e w2 ⟨rfl, hbb⟩; clear cO; replace bM := bM.below hbb; replace bV := bV.below hbb; replace hB := Below.step0 hB hbb; have nMI := bM.lt; have nVI := bV.lt; clear hbb) | (go_at_call 7; refine (cS _ (HA.out _ (hB.alloc hB.size _)) (HS.out _ (hB.alloc hB.size _))).mono ?_; rintro e w3 ⟨q1, rfl, hbb, hY, hYf⟩; clear cS; have bI := Box.new w2 #[.int .i64 uo, .int .i64 ua, .int .i64 ub, .int .i64 uc] 37; replace hB := hB.alloc hB.size (.cells #[.int .i64 uo, .int .i64 ua, .int .i64 ub, .int .i64 uc] 37); replace bM := bM.alloc (.cells #[.int .i64 uo, .int .i64 ua, .int .i64 ub, .int .i64 uc] 37); replace bV := bV.alloc (.cells #[.int .i64 uo, .int .i64 ua, .int .i64 ub, .int .i64 uc] 37); have nYM := bM.lt; replace bM := bM.below hbb; replace bV := bV.below hbb; replace bI := bI.below hbb; replace hB := Below.step0 hB hbb; have hYl := hY.lt; clear hbb) | ((with_reducible refine at_alloc ?_); refine wpList_alloc1 rfl 31 rfl _ (alloc_mach _) ?_) | ((with_reducible refine at_store ?_); refine pl_store_box rfl 31 (.tmp 8) (.tmp 21) rfl w3.heap.size (mcC Y q1) (by rfl) (by rfl) z64.toArray (Box.new _ _ _) (zY q1) (iY q1) (mc_one _ _) ?_; intro bN; have nMN := bM.lt; have nVN := bV.lt; have nIN := bI.lt; have hbw : Below w3.heap.size w3 ((w3.alloc (.cells z64.toArray 31)).setCells w3.heap.size 0 (mcC Y q1)) := below_cells _ _ _ _ ((Below.refl _ _).alloc (Nat.le_refl _) _) (Nat.le_refl _); replace bM := bM.below hbw; replace bV := bV.below hbw; replace bI := bI.below hbw; replace hY := hY.below hbw; replace hB := Below.step0 hB hbw; generalize ((w3.alloc (.cells z64.toArray 31)).setCells w3.heap.size 0 (mcC Y q1)) = w4 at *; clear hbw; have qV := bV.cell) | ((with_reducible refine at_store ?_); refine pl_store_reg rfl (.tmp 26) (.tmp 24) rfl V (S := w.heap.size) (k := r) (x := x0) (q := q0) (by rfl) (by rw [HV.out]; rfl) bM r0 hr8 ?_; intro w5 hOf bM2; replace bV := hOf.box bV (by omega); replace bI := hOf.box bI (by omega); replace bN := hOf.box bN (by omega); replace hY := (hOf.toP (p := fun j => j = w.heap.size) rfl).mcX hY (hYf.far.mono fun j hj => by rw [show j = w.heap.size from hj]; exact nYM); replace hB := hB.trans (hOf.to (Nat.le_refl _) (Nat.le_of_lt bM.lt)); clear bM; have bM := bM2; clear bM2 qV; have nNP := bN.lt; clear hOf) | (go_at_call 7; refine (cP _ (HP.out _ hB) (HS.out _ hB)).mono ?_; rintro e w6 ⟨q2, rfl, hbb, hZ, hZf⟩; clear cP; replace bM := bM.below hbb; replace bV := bV.below hbb; replace bI := bI.below hbb; replace bN := bN.below hbb; replace hY := hY.below hbb; replace hB := Below.step0 hB hbb;  clear hbb) | ((with_reducible refine at_store ?_); refine pl_store_box rfl 31 (.tmp 10) (.tmp 30) rfl w6.heap.size (mcC Z q2) (by rfl) (by rfl) z64.toArray (Box.new _ _ _) (zZ q2) (iZ q2) (mc_one _ _) ?_; intro bZ; have nMZ := bM.lt; have nVZ := bV.lt; have nIZ := bI.lt; have nNZ := bN.lt; have hbw : Below w6.heap.size w6 ((w6.alloc (.cells z64.toArray 31)).setCells w6.heap.size 0 (mcC Z q2)) := below_cells _ _ _ _ ((Below.refl _ _).alloc (Nat.le_refl _) _) (Nat.le_refl _); replace bM := bM.below hbw; replace bV := bV.below hbw; replace bI := bI.below hbw; replace bN := bN.below hbw; replace hY := hY.below hbw; replace hZ := hZ.below hbw; replace hB := Below.step0 hB hbw; generalize ((w6.alloc (.cells z64.toArray 31)).setCells w6.heap.size 0 (mcC Z q2)) = w7 at *; clear hbw; have qI := bI.cell) | (go_at_call 13; refine (cN _).mono ?_; rintro e w8 ⟨rfl, hbb⟩; clear cN qI; replace bM := bM.below hbb; replace bV := bV.below hbb; replace bI := bI.below hbb; replace bN := bN.below hbb; replace hY := hY.below hbb; replace bZ := bZ.below hbb; replace hZ := hZ.below hbb; replace hB := Below.step0 hB hbb;  clear hbb) | (go_at_call 14; refine (cC _ (HP.out _ hB)).mono ?_; rintro e w9 ⟨rfl, hbb⟩; clear cC; replace bM := bM.below hbb; replace bV := bV.below hbb; replace bI := bI.below hbb; replace bN := bN.below hbb; replace hY := hY.below hbb; replace bZ := bZ.below hbb; replace hZ := hZ.below hbb; replace hB := Below.step0 hB hbb;  clear hbb))
        go_ret
        exact ⟨rfl, hB⟩
    · clear hL hG
      go_enter Tryd.func4, Tryd.ntmps4
      go_wp2_with (first | ((with_reducible refine at_load ?_); refine pl_load_box (by rfl) 31 (.tmp 3) rfl w.heap.size (by rfl) (mcC x0 q0) bM _ Tryd.underlying31 rfl hi0 ?_) | ((with_reducible refine at_load ?_); refine pl_load_box (by rfl) 31 (.tmp 3) rfl w.heap.size (by rfl) (mcC x0 q0) (bM.alloc (.cells #[.int .i64 uo, .int .i64 ua, .int .i64 ub, .int .i64 uc] 37)) _ Tryd.underlying31 rfl hi0 ?_) | ((with_reducible refine at_load ?_); refine pl_load_box (by rfl) 31 (.tmp 3) rfl w.heap.size (by rfl) (mcC (putR x0 r V) q0) bM _ Tryd.underlying31 rfl hi1 ?_) | (go_at_call 12; refine (cA _).mono ?_; rintro e wz ⟨rfl, hwz⟩; obtain rfl := hwz.symm; clear cA) | (go_at_call 8; refine (keep_stepped _ (HS.out _ hB)).mono ?_; rintro e w1 ⟨rfl, hbb⟩;  replace bM := bM.below hbb; replace bV := bV.below hbb; replace hB := Below.step0 hB hbb;  clear hbb) | (go_at_call 9; refine (cO _ (HA.out _ hB) (HS.out _ hB)).mono ?_; rintro e w2 ⟨rfl, hbb⟩; clear cO; replace bM := bM.below hbb; replace bV := bV.below hbb; replace hB := Below.step0 hB hbb; have nMI := bM.lt; have nVI := bV.lt; clear hbb) | (go_at_call 7; refine (cS _ (HA.out _ (hB.alloc hB.size _)) (HS.out _ (hB.alloc hB.size _))).mono ?_; rintro e w3 ⟨q1, rfl, hbb, hY, hYf⟩; clear cS; have bI := Box.new w2 #[.int .i64 uo, .int .i64 ua, .int .i64 ub, .int .i64 uc] 37; replace hB := hB.alloc hB.size (.cells #[.int .i64 uo, .int .i64 ua, .int .i64 ub, .int .i64 uc] 37); replace bM := bM.alloc (.cells #[.int .i64 uo, .int .i64 ua, .int .i64 ub, .int .i64 uc] 37); replace bV := bV.alloc (.cells #[.int .i64 uo, .int .i64 ua, .int .i64 ub, .int .i64 uc] 37); have nYM := bM.lt; replace bM := bM.below hbb; replace bV := bV.below hbb; replace bI := bI.below hbb; replace hB := Below.step0 hB hbb; have hYl := hY.lt; clear hbb) | ((with_reducible refine at_alloc ?_); refine wpList_alloc1 rfl 31 rfl _ (alloc_mach _) ?_) | ((with_reducible refine at_store ?_); refine pl_store_box rfl 31 (.tmp 8) (.tmp 21) rfl w3.heap.size (mcC Y q1) (by rfl) (by rfl) z64.toArray (Box.new _ _ _) (zY q1) (iY q1) (mc_one _ _) ?_; intro bN; have nMN := bM.lt; have nVN := bV.lt; have nIN := bI.lt; have hbw : Below w3.heap.size w3 ((w3.alloc (.cells z64.toArray 31)).setCells w3.heap.size 0 (mcC Y q1)) := below_cells _ _ _ _ ((Below.refl _ _).alloc (Nat.le_refl _) _) (Nat.le_refl _); replace bM := bM.below hbw; replace bV := bV.below hbw; replace bI := bI.below hbw; replace hY := hY.below hbw; replace hB := Below.step0 hB hbw; generalize ((w3.alloc (.cells z64.toArray 31)).setCells w3.heap.size 0 (mcC Y q1)) = w4 at *; clear hbw; have qV := bV.cell) | ((with_reducible refine at_store ?_); refine pl_store_reg rfl (.tmp 26) (.tmp 24) rfl V (S := w.heap.size) (k := r) (x := x0) (q := q0) (by rfl) (by rw [HV.out]; rfl) bM r0 hr8 ?_; intro w5 hOf bM2; replace bV := hOf.box bV (by omega); replace bI := hOf.box bI (by omega); replace bN := hOf.box bN (by omega); replace hY := (hOf.toP (p := fun j => j = w.heap.size) rfl).mcX hY (hYf.far.mono fun j hj => by rw [show j = w.heap.size from hj]; exact nYM); replace hB := hB.trans (hOf.to (Nat.le_refl _) (Nat.le_of_lt bM.lt)); clear bM; have bM := bM2; clear bM2 qV; have nNP := bN.lt; clear hOf) | (go_at_call 7; refine (cP _ (HP.out _ hB) (HS.out _ hB)).mono ?_; rintro e w6 ⟨q2, rfl, hbb, hZ, hZf⟩; clear cP; replace bM := bM.below hbb; replace bV := bV.below hbb; replace bI := bI.below hbb; replace bN := bN.below hbb; replace hY := hY.below hbb; replace hB := Below.step0 hB hbb;  clear hbb) | ((with_reducible refine at_store ?_); refine pl_store_box rfl 31 (.tmp 10) (.tmp 30) rfl w6.heap.size (mcC Z q2) (by rfl) (by rfl) z64.toArray (Box.new _ _ _) (zZ q2) (iZ q2) (mc_one _ _) ?_; intro bZ; have nMZ := bM.lt; have nVZ := bV.lt; have nIZ := bI.lt; have nNZ := bN.lt; have hbw : Below w6.heap.size w6 ((w6.alloc (.cells z64.toArray 31)).setCells w6.heap.size 0 (mcC Z q2)) := below_cells _ _ _ _ ((Below.refl _ _).alloc (Nat.le_refl _) _) (Nat.le_refl _); replace bM := bM.below hbw; replace bV := bV.below hbw; replace bI := bI.below hbw; replace bN := bN.below hbw; replace hY := hY.below hbw; replace hZ := hZ.below hbw; replace hB := Below.step0 hB hbw; generalize ((w6.alloc (.cells z64.toArray 31)).setCells w6.heap.size 0 (mcC Z q2)) = w7 at *; clear hbw; have qI := bI.cell) | (go_at_call 13; refine (cN _).mono ?_; rintro e w8 ⟨rfl, hbb⟩; clear cN qI; replace bM := bM.below hbb; replace bV := bV.below hbb; replace bI := bI.below hbb; replace bN := bN.below hbb; replace hY := hY.below hbb; replace bZ := bZ.below hbb; replace hZ := hZ.below hbb; replace hB := Below.step0 hB hbb;  clear hbb) | (go_at_call 14; refine (cC _ (HP.out _ hB)).mono ?_; rintro e w9 ⟨rfl, hbb⟩; clear cC; replace bM := bM.below hbb; replace bV := bV.below hbb; replace bI := bI.below hbb; replace bN := bN.below hbb; replace hY := hY.below hbb; replace bZ := bZ.below hbb; replace hZ := hZ.below hbb; replace hB := Below.step0 hB hbb;  clear hbb))
      go_ret
      exact ⟨rfl, hB⟩

set_option maxRecDepth 1000000 in
theorem contract (H : Type) (enc : TypeId × Value → H) (W : World) (base : Nat) (args : Array Value) (ds gs : List (DataW H)) (before : List MemPlace)
    (hval : ∀ (j : Nat) t v, Tryd.f4.params[j]? = some t → args[j]? = some v → Value.okWide Tryd.prog W .any base t v)
    (hW : DataW.Whole enc Tryd.prog Tryd.f4.params.toList Rows.stepLocalSpec.vars false W args.toList ds gs before) (hsh : W.ShapedOpen Tryd.prog) (hz : (DataW.weightsEach Tryd.prog (Tryd.f4.params.toList ++ (OpenSpec.ofChange Rows.stepLocalSpec).bare.plain.varTypes Tryd.prog) (ds ++ gs)).all (· ≤ reachBytes) = true) (hL : laidMet Tryd.prog Rows.stepLocalRow.laid W) :
    Calls Tryd.prog 4 args W fun e W' => ∃ v, e = .returned v ∧ Rows.stepLocalSpec.post enc Tryd.prog Tryd.f4 false true false false W args v W' := by
  have hW' := hW
  obtain ⟨p, q, hA0, hV, rfl, hfz, hnd⟩ := hW
  have hA : DataW.TrodAll enc Tryd.prog W 0 (fun _ => true) true Tryd.f4.params.toList args.toList ds p := hA0
  rw [Tryd.params4] at hA hval
  obtain ⟨v0, vs0, d0, ds0, p0, q0, hargs, rfl, rfl, h0, r0⟩ := trodAll_cons hA
  obtain ⟨v1, vs1, d1, ds1, p1, q1, rfl, rfl, rfl, h1, r1⟩ := trodAll_cons r0
  obtain ⟨v2, vs2, d2, ds2, p2, q2, rfl, rfl, rfl, h2, r2⟩ := trodAll_cons r1
  obtain ⟨rfl, rfl, rfl⟩ := trodAll_nil r2
  obtain rfl : args = #[v0, v1, v2] := by cases args; simp_all
  obtain ⟨rfl, rfl⟩ := trodVars_none hV
  have k0 := h0
  have lt0 : ∀ x ∈ p0, x.block < W.heap.size := by obtain ⟨m, hm⟩ := k0; exact DataW.trod_lt m _ _ _ hm
  obtain ⟨x0, q0, rfl, O0, A0⟩ := open_mach (hval 0 31 v0 rfl rfl) k0
  obtain ⟨a1, rfl, rfl, rfl, w1⟩ := open_int Tryd.underlying3 (hval 1 3 v1 rfl rfl) h1
  obtain ⟨a2i, a2n, a2p, a2b, a2l, a2a, a2s, rfl, rfl, rfl, w2n, w2p, w2b, w2l, w2a, w2s⟩ := open_val (hval 2 25 v2 rfl rfl) h2
  clear hA0
  refine (walk x0 q0 a1 a2i a2n a2p a2b a2l a2a a2s O0 (bounds_i64 w1) ⟨bounds_i64 w2n, bounds_i64 w2p, bounds_i64 w2b, bounds_i64 w2l, bounds_i64 w2a, bounds_i64 w2s⟩ W A0 (shp_of_laid hL (.head _))).mono fun e W' ⟨he, bel⟩ => ?_
  subst he
  exact ⟨_, rfl, _, _, _, [], _, [], hW', trodAll_mk1 (shut_bool Tryd.underlying4 _), (trodAll_cons_mk (Below.trod laidOut (by kernel_rfl) (of_decide_eq_true (by kernel_rfl)) k0 bel lt0) (trodAll_cons_mk (shut_int Tryd.underlying3 w1) (trodAll_cons_mk (shut_val w2n w2p w2b w2l w2a w2s) trodAll_mk0))), rfl, bel.frame _, fun h => by cases h⟩

theorem reads (os : Os) {H : Type} (enc : TypeId × Value → H) : ∃ places, DataW.whole enc Tryd.prog ((World.laidAll Tryd.prog os Rows.stepLocalRow.laid).forCall (fun _ _ => 0) ⟨#[], #[witM, .int .i64 0, .agg #[.bool false, .int .i64 0, .int .i64 0, .int .i64 0, .int .i64 0, .int .i64 0, .int .i64 0]], []⟩).memory Tryd.f4.params.toList Rows.stepLocalSpec.vars false (#[witM, .int .i64 0, .agg #[.bool false, .int .i64 0, .int .i64 0, .int .i64 0, .int .i64 0, .int .i64 0, .int .i64 0]] : Array Value).toList 8 = some ([.agg [.agg [.agg [.lit (.bool false), .lit (.int .i64 0), .agg [.lit (.int .i64 0), .lit (.int .i64 0), .lit (.int .i64 0), .lit (.int .i64 0), .lit (.int .i64 0)]], .agg [.lit (.bool false), .lit (.int .i64 0), .agg [.lit (.int .i64 0), .lit (.int .i64 0), .lit (.int .i64 0), .lit (.int .i64 0), .lit (.int .i64 0)]], .agg [.lit (.bool false), .lit (.int .i64 0), .agg [.lit (.int .i64 0), .lit (.int .i64 0), .lit (.int .i64 0), .lit (.int .i64 0), .lit (.int .i64 0)]], .agg [.lit (.bool false), .lit (.int .i64 0), .agg [.lit (.int .i64 0), .lit (.int .i64 0), .lit (.int .i64 0), .lit (.int .i64 0), .lit (.int .i64 0)]], .agg [.lit (.bool false), .lit (.int .i64 0), .agg [.lit (.int .i64 0), .lit (.int .i64 0), .lit (.int .i64 0), .lit (.int .i64 0), .lit (.int .i64 0)]], .agg [.lit (.bool false), .lit (.int .i64 0), .agg [.lit (.int .i64 0), .lit (.int .i64 0), .lit (.int .i64 0), .lit (.int .i64 0), .lit (.int .i64 0)]], .agg [.lit (.bool false), .lit (.int .i64 0), .agg [.lit (.int .i64 0), .lit (.int .i64 0), .lit (.int .i64 0), .lit (.int .i64 0), .lit (.int .i64 0)]], .agg [.lit (.bool false), .lit (.int .i64 0), .agg [.lit (.int .i64 0), .lit (.int .i64 0), .lit (.int .i64 0), .lit (.int .i64 0), .lit (.int .i64 0)]]], .agg [.lit (.int .i64 0), .lit (.int .i64 0), .lit (.int .i64 0), .lit (.int .i64 0), .lit (.int .i64 0)], .nil, .nil, .nil], .lit (.int .i64 0), .agg [.lit (.bool false), .lit (.int .i64 0), .agg [.lit (.int .i64 0), .lit (.int .i64 0), .lit (.int .i64 0), .lit (.int .i64 0), .lit (.int .i64 0)]]], [], places) :=
  ⟨[], by kernel_rfl⟩
theorem laid_met (os : Os) : laidMet Tryd.prog Rows.stepLocalRow.laid ((World.laidAll Tryd.prog os Rows.stepLocalRow.laid).forCall (fun _ _ => 0) ⟨#[], #[witM, .int .i64 0, .agg #[.bool false, .int .i64 0, .int .i64 0, .int .i64 0, .int .i64 0, .int .i64 0, .int .i64 0]], []⟩).memory :=
  laidMet_laidAll _ (by kernel_rfl) (by kernel_rfl)

set_option maxRecDepth 100000 in
theorem lifted (os : Os) (started : os.Started) (H : Type) (enc : TypeId × Value → H) (F : Stop.Interp) :
    ReturnsInHanded {} Tryd.checked os 4 .any ((OpenSpec.ofChange Rows.stepLocalSpec).preRow enc Tryd.prog Tryd.f4 Rows.stepLocalRow.domain false Rows.stepLocalRow.laid) (((OpenSpec.ofChange Rows.stepLocalSpec).at F).post enc Tryd.prog Tryd.f4 false true false false) := by
  obtain ⟨places, hx⟩ := reads os enc
  refine returnsInHanded_of_row (C := Tryd.checked) (s := OpenSpec.ofChange Rows.stepLocalSpec) own started (by kernel_rfl) Tryd.func4
    (witness_row_at (enc := enc) (C := Tryd.checked) false (World.laidAll Tryd.prog os Rows.stepLocalRow.laid) #[witM, .int .i64 0, .agg #[.bool false, .int .i64 0, .int .i64 0, .int .i64 0, .int .i64 0, .int .i64 0, .int .i64 0]] (World.laidAll_os _ _ _) (by kernel_rfl) (by kernel_rfl) (by kernel_rfl)
      (OpenSpec.preRow_of_cond 8 hx (by kernel_rfl) (fun k hk => by cases hk) (by kernel_rfl) (laid_met os))) ?_
  intro W base args ds gs before hval hW _ hcond hz hL hsh _
  exact contract H enc W base args ds gs before hval hW hsh hz hL

theorem said : Rows.StepLocalSaid :=
  OpenClaim.holds_of_cond 4 Tryd.f4 rfl rfl rfl rfl rfl rfl rfl ⟨rfl, rfl, rfl, rfl, rfl⟩ rfl rfl rfl rfl rfl (by kernel_rfl) Tryd.func4 (by kernel_rfl)
    (of_decide_eq_true (by kernel_rfl)) (by unfold Func.isWrapper; first | (rw [if_pos (by decide +kernel)]; kernel_rfl) | (rw [if_neg (by decide +kernel)]; exact ⟨rfl, rfl⟩))
    (fun os started H enc _ F => by rw [OpenClaim.pre_eq_preRow]; exact lifted os started H enc F)
theorem plain (f : FuncId) (fn : Func) (hf : Tryd.pinned.checked.prog.funcNamed Rows.stepLocalRow.func = some f) (hfn : Tryd.pinned.checked.prog.funcs[f]? = some fn) :
    true = Tryd.pinned.checked.prog.looks [] ∧ ∀ (j : Nat) t, fn.params[j]? = some t → Tryd.pinned.checked.prog.wantsStandIn t = false := by
  obtain rfl : f = 4 := Option.some.inj ((show Tryd.prog.funcNamed Rows.stepLocalRow.func = some 4 by kernel_rfl).symm.trans hf) |>.symm
  obtain rfl : fn = Tryd.f4 := (Option.some.inj (Tryd.func4.symm.trans hfn)).symm
  refine ⟨by kernel_rfl, fun j t ht => ?_⟩
  rw [Tryd.params4] at ht
  have hm : t ∈ [31, 3, 25] := by simpa using Array.mem_of_getElem? ht
  have hall : ([31, 3, 25].all fun u => !Tryd.prog.wantsStandIn u) = true := by kernel_rfl
  exact (show Tryd.prog.wantsStandIn t = false by simpa using List.all_eq_true.1 hall t hm)
theorem proved : Rows.StepLocalCardSaid :=
  Claim7.holds_tied_plain_at .later [] _ _ _ _ said (fun _ h => by cases h) (by kernel_rfl) (fun _ h => by cases h) stepLocal_row_tie rfl ⟨rfl, rfl⟩ (by kernel_rfl) rfl plain (by kernel_rfl)
#print axioms proved
end Go.Proofs.YthapfaohnliklaaDoor.stepLocal
