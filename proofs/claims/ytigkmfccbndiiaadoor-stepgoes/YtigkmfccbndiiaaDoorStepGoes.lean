/- Chapter 9, P19 and P20: but by Jump, If, Call and Back the next instruction is the next one, by the same key; for every machine. -/
import Derived.Test.YtigkmfccbndiiaaDoorRows
import Derived.Test.YtigkmfccbndiiaaDoorCards
import Derived.Test.YtigkmfccbndiiaaDoorTie
import Derived.Test.YtigkmfccbndiiaaDoorCardBase
import Derived.Test.YtigkmfccbndiiaaDoorInstShape
import Derived.Test.YtigkmfccbndiiaaDoorInstLaid
import Derived.Test.YtigkmfccbndiiaaDoorMachArg
import Derived.Carry
import Derived.Test.YtigkmfccbndiiaaDoorKeyPure
import Derived.Test.YtigkmfccbndiiaaDoorMachArg
import Derived.Test.YtigkmfccbndiiaaDoorStepOff
import Derived.Test.YtigkmfccbndiiaaDoorStepOwn
import Derived.Test.YtigkmfccbndiiaaDoorStepTop
import Derived.Test.YtigkmfccbndiiaaDoorStepKeep
import Derived.Test.YtigkmfccbndiiaaDoorRangeW
import Derived.Test.YtigkmfccbndiiaaDoorInMid
import Derived.Test.YtigkmfccbndiiaaDoorKeepSmall
import Derived.Test.YtigkmfccbndiiaaDoorKeepOp
import Derived.WalkKit
import Derived.ProofKit
import Derived.OpenShut
import Derived.Deep.DeepHandedRow
import Derived.Deep.DeepWitnessRowRef
import Derived.Lay
import Derived.MakeChecks
import Derived.SizedLaws
import Derived.Lib.LaidTab
namespace Go.Proofs.YtigkmfccbndiiaaDoor.stepGoes
open Go.ChangeShapes Go.WideShapes Go.ChangeAt Go.RowKit
set_option linter.unusedVariables false
set_option linter.unusedSimpArgs false

theorem own : ownKnob Tryd.prog.godebug = none := by kernel_rfl
theorem laidOut : laidOutB Tryd.prog = true := by kernel_rfl
def witM : Value := .agg #[.bool false, .int .i64 0, .int .i64 0, .int .i64 0, .int .i64 0, .int .i64 0, .int .i64 0, .bool false, .int .i64 0, .int .i64 0, .int .i64 0, .int .i64 0, .int .i64 0, .int .i64 0, .bool false, .int .i64 0, .int .i64 0, .int .i64 0, .int .i64 0, .int .i64 0, .int .i64 0, .bool false, .int .i64 0, .int .i64 0, .int .i64 0, .int .i64 0, .int .i64 0, .int .i64 0, .bool false, .int .i64 0, .int .i64 0, .int .i64 0, .int .i64 0, .int .i64 0, .int .i64 0, .bool false, .int .i64 0, .int .i64 0, .int .i64 0, .int .i64 0, .int .i64 0, .int .i64 0, .bool false, .int .i64 0, .int .i64 0, .int .i64 0, .int .i64 0, .int .i64 0, .int .i64 0, .bool false, .int .i64 0, .int .i64 0, .int .i64 0, .int .i64 0, .int .i64 0, .int .i64 0, .int .i64 0, .int .i64 0, .int .i64 0, .int .i64 0, .int .i64 0, .slice none 0 0, .slice none 0 0, .slice none 0 0]

theorem goes {x : MC} (h8 : x.r.length = 8) (h : stpE x = 0) (h18 : ¬ (opI x).o = 18) (h19 : ¬ (opI x).o = 19) :
    ∃ d : Int, (stpM x).k = ⟨x.k.p, x.k.b, x.k.l, x.k.a + d, x.k.s⟩ ∧ (d = 1 ∨ ((opI x).o = 8 ∨ (opI x).o = 9) ∧ d = (opI x).c) ∧ (0 ≤ x.k.a ∧ x.k.a ≤ 400) ∧ 0 ≤ x.k.a + d ∧ x.k.a + d ≤ 400 := by
  obtain ⟨hG, hf, hi, x', n', hE, e, _⟩ := step_eff h8 h
  rw [opI_fet hG hf] at h18 h19 ⊢
  have hg := (step_good h8 h).k
  have ha := (ok5_lit hG.k).2.2.2.2.2
  rw [e] at hg ⊢
  have hb := (ok5_lit hg).2.2.2.2.2
  cases hE with
  | put v hv ho => exact ⟨1, rfl, .inl rfl, ⟨ha.1, ha.2.1⟩, hb.1, hb.2.1⟩
  | jump ho hb' => exact ⟨(insAt x).c, rfl, .inr ⟨ho, rfl⟩, ⟨ha.1, ha.2.1⟩, hb'⟩
  | pass ho => exact ⟨1, rfl, .inl rfl, ⟨ha.1, ha.2.1⟩, hb.1, hb.2.1⟩
  | store ho hi he => exact ⟨1, rfl, .inl rfl, ⟨ha.1, ha.2.1⟩, hb.1, hb.2.1⟩
  | call ho => exact absurd ho h18
  | back ho => exact absurd ho h19
  | clear ho => exact ⟨1, rfl, .inl rfl, ⟨ha.1, ha.2.1⟩, hb.1, hb.2.1⟩
  | tell ho hi hl => exact ⟨1, rfl, .inl rfl, ⟨ha.1, ha.2.1⟩, hb.1, hb.2.1⟩
set_option maxHeartbeats 4000000 in
set_option maxRecDepth 1000000 in
theorem walk (x0 : MC) (q0 : MA) (O0 : McOk x0 q0) (w : World) (A0 : McAt w x0 q0) (hS : Shp w) :
    Calls Tryd.prog 5 #[.agg (mcC x0 q0).toArray] w fun e w' => e = .returned (.bool true) ∧ Below w.heap.size w w' := by
  have cS := fun w hA hS => step_top x0 q0 w hA O0.toMcB hS
  have lm : x0.m.length ≤ maxLen := Nat.le_trans O0.zm O0.ym
  have cO := fun w hA hS => keep_op x0 q0 w hA O0.toMcB hS lm
  have hi0 : (Tryd.prog.info? 31).map (·.size) = some (mcC x0 q0).length := mach_info O0.r8
  have h8' := stp_r8 O0.r8
  have hi1 : ∀ q', (Tryd.prog.info? 31).map (·.size) = some (mcC (stpM x0) q').length := fun q' => mach_info h8'
  have hz1 : ∀ q', z64.toArray.size = (mcC (stpM x0) q').length := fun q' => by rw [mc_length h8']; rfl
  have HA : Hid (∀ w', Below w.heap.size w w' → McAt w' x0 q0) := fun w' hb => A0.below hb
  have HS : Hid (∀ w', Below w.heap.size w w' → Shp w') := fun w' hb => hS.below hb
  have bM := Box.new w (mcC x0 q0).toArray 31
  have hB : Below w.heap.size w (w.alloc (.cells (mcC x0 q0).toArray 31)) := (Below.refl _ _).alloc (Nat.le_refl _) _
  have gg := goes O0.r8
  obtain ⟨⟨uo, ua, ub, uc, ue⟩, hU⟩ : ∃ U, opI x0 = U := ⟨_, rfl⟩
  rw [hU] at cO gg
  dsimp only at cO gg
  clear hU
  obtain ⟨-, -, -, c0, c1, c2, c3, c4, -, -, -⟩ := mc_cells x0 q0 O0.r8
  rw [List.getElem?_toArray] at c0 c1 c2 c3 c4
  by_cases hE : stpE x0 = 0
  · replace gg := gg hE
    rw [hE] at cS
    clear hE A0 hS
    by_cases h18 : uo = 18
    · have g18 : (uo == 18) = true := by simpa using h18
      clear h18 gg
      go_enter Tryd.func5, Tryd.ntmps5
      go_wp2_with (first | ((with_reducible refine at_load ?_); refine pl_load_box (by rfl) 31 (.tmp 1) rfl w.heap.size (by rfl) (mcC x0 q0) bM _ Tryd.underlying31 rfl hi0 ?_) | (go_at_call 13; refine (cS _ (HA.out _ hB) (HS.out _ hB)).mono ?_; rintro e w1 ⟨q', rfl, hbb, hA', -⟩; clear cS; replace bM := bM.below hbb; replace hB := Below.step0 hB hbb;  clear hbb) | ((with_reducible refine at_alloc ?_); refine wpList_alloc1 rfl 31 rfl _ (alloc_mach _) ?_) | ((with_reducible refine at_store ?_); refine pl_store_box rfl 31 (.tmp 3) (.tmp 10) rfl w1.heap.size (mcC (stpM x0) q') (by rfl) (by rfl) z64.toArray (Box.new _ _ _) (hz1 q') (hi1 q') (mc_one _ _) ?_; intro bN; have nMN := bM.lt; have hbw : Below w1.heap.size w1 ((w1.alloc (.cells z64.toArray 31)).setCells w1.heap.size 0 (mcC (stpM x0) q')) := below_cells _ _ _ _ ((Below.refl _ _).alloc (Nat.le_refl _) _) (Nat.le_refl _); replace bM := bM.below hbw; replace hB := Below.step0 hB hbw; generalize ((w1.alloc (.cells z64.toArray 31)).setCells w1.heap.size 0 (mcC (stpM x0) q')) = w2 at *; clear hbw) | (go_at_call 16; refine (cO _ (HA.out _ hB) (HS.out _ hB)).mono ?_; rintro e w3 ⟨rfl, hbb⟩; clear cO; replace bM := bM.below hbb; replace bN := bN.below hbb; replace hB := Below.step0 hB hbb;  clear hbb) | (go_at_call 14; refine (keep_stepped _ (HS.out _ (hB.alloc hB.size _))).mono ?_; rintro e w4 ⟨rfl, hbb⟩; have nNI := bN.lt; have bI := Box.new w3 #[.int .i64 uo, .int .i64 ua, .int .i64 ub, .int .i64 uc] 40; replace hB := hB.alloc hB.size (.cells #[.int .i64 uo, .int .i64 ua, .int .i64 ub, .int .i64 uc] 40); replace bM := bM.alloc (.cells #[.int .i64 uo, .int .i64 ua, .int .i64 ub, .int .i64 uc] 40); replace bN := bN.alloc (.cells #[.int .i64 uo, .int .i64 ua, .int .i64 ub, .int .i64 uc] 40); replace bI := bI.below hbb; have qI := bI.cell; replace bM := bM.below hbb; replace bN := bN.below hbb; replace hB := Below.step0 hB hbb; have qM := bM.cell; have qN := bN.cell; have fN := bN.free; clear hbb))
      go_ret
      exact ⟨rfl, hB⟩
    · by_cases h19 : uo = 19
      · have g18 : (uo == 18) = false := by simpa using h18
        have g19 : (uo == 19) = true := by simpa using h19
        clear h18 h19 gg
        go_enter Tryd.func5, Tryd.ntmps5
        go_wp2_with (first | ((with_reducible refine at_load ?_); refine pl_load_box (by rfl) 31 (.tmp 1) rfl w.heap.size (by rfl) (mcC x0 q0) bM _ Tryd.underlying31 rfl hi0 ?_) | (go_at_call 13; refine (cS _ (HA.out _ hB) (HS.out _ hB)).mono ?_; rintro e w1 ⟨q', rfl, hbb, hA', -⟩; clear cS; replace bM := bM.below hbb; replace hB := Below.step0 hB hbb;  clear hbb) | ((with_reducible refine at_alloc ?_); refine wpList_alloc1 rfl 31 rfl _ (alloc_mach _) ?_) | ((with_reducible refine at_store ?_); refine pl_store_box rfl 31 (.tmp 3) (.tmp 10) rfl w1.heap.size (mcC (stpM x0) q') (by rfl) (by rfl) z64.toArray (Box.new _ _ _) (hz1 q') (hi1 q') (mc_one _ _) ?_; intro bN; have nMN := bM.lt; have hbw : Below w1.heap.size w1 ((w1.alloc (.cells z64.toArray 31)).setCells w1.heap.size 0 (mcC (stpM x0) q')) := below_cells _ _ _ _ ((Below.refl _ _).alloc (Nat.le_refl _) _) (Nat.le_refl _); replace bM := bM.below hbw; replace hB := Below.step0 hB hbw; generalize ((w1.alloc (.cells z64.toArray 31)).setCells w1.heap.size 0 (mcC (stpM x0) q')) = w2 at *; clear hbw) | (go_at_call 16; refine (cO _ (HA.out _ hB) (HS.out _ hB)).mono ?_; rintro e w3 ⟨rfl, hbb⟩; clear cO; replace bM := bM.below hbb; replace bN := bN.below hbb; replace hB := Below.step0 hB hbb;  clear hbb) | (go_at_call 14; refine (keep_stepped _ (HS.out _ (hB.alloc hB.size _))).mono ?_; rintro e w4 ⟨rfl, hbb⟩; have nNI := bN.lt; have bI := Box.new w3 #[.int .i64 uo, .int .i64 ua, .int .i64 ub, .int .i64 uc] 40; replace hB := hB.alloc hB.size (.cells #[.int .i64 uo, .int .i64 ua, .int .i64 ub, .int .i64 uc] 40); replace bM := bM.alloc (.cells #[.int .i64 uo, .int .i64 ua, .int .i64 ub, .int .i64 uc] 40); replace bN := bN.alloc (.cells #[.int .i64 uo, .int .i64 ua, .int .i64 ub, .int .i64 uc] 40); replace bI := bI.below hbb; have qI := bI.cell; replace bM := bM.below hbb; replace bN := bN.below hbb; replace hB := Below.step0 hB hbb; have qM := bM.cell; have qN := bN.cell; have fN := bN.free; clear hbb))
        go_ret
        exact ⟨rfl, hB⟩
      · obtain ⟨d, hk, hd, ha, hb1, hb2⟩ := gg h18 h19
        have g18 : (uo == 18) = false := by simpa using h18
        have g19 : (uo == 19) = false := by simpa using h19
        have gs : x0.k.a + d - x0.k.a = d := by omega
        have e0 : ∀ q', (mcC (stpM x0) q')[56]? = some (.int .i64 x0.k.p) := fun q' => by have := (mc_cells (stpM x0) q' h8').c0; rw [hk, List.getElem?_toArray] at this; exact this
        have e1 : ∀ q', (mcC (stpM x0) q')[57]? = some (.int .i64 x0.k.b) := fun q' => by have := (mc_cells (stpM x0) q' h8').c1; rw [hk, List.getElem?_toArray] at this; exact this
        have e2 : ∀ q', (mcC (stpM x0) q')[58]? = some (.int .i64 x0.k.l) := fun q' => by have := (mc_cells (stpM x0) q' h8').c2; rw [hk, List.getElem?_toArray] at this; exact this
        have e3 : ∀ q', (mcC (stpM x0) q')[59]? = some (.int .i64 (x0.k.a + d)) := fun q' => by have := (mc_cells (stpM x0) q' h8').c3; rw [hk, List.getElem?_toArray] at this; exact this
        have e4 : ∀ q', (mcC (stpM x0) q')[60]? = some (.int .i64 x0.k.s) := fun q' => by have := (mc_cells (stpM x0) q' h8').c4; rw [hk, List.getElem?_toArray] at this; exact this
        clear hk h18 h19
        generalize x0.k.p = kp at *
        generalize x0.k.b = kb1 at *
        generalize x0.k.l = kl at *
        generalize x0.k.a = ka at *
        generalize x0.k.s = ks at *
        by_cases hd1 : d = 1
        · subst hd1
          clear hd
          go_enter Tryd.func5, Tryd.ntmps5
          go_wp2_with (first | ((with_reducible refine at_load ?_); refine pl_load_box (by rfl) 31 (.tmp 1) rfl w.heap.size (by rfl) (mcC x0 q0) bM _ Tryd.underlying31 rfl hi0 ?_) | (go_at_call 13; refine (cS _ (HA.out _ hB) (HS.out _ hB)).mono ?_; rintro e w1 ⟨q', rfl, hbb, hA', -⟩; clear cS; replace bM := bM.below hbb; replace hB := Below.step0 hB hbb;  clear hbb) | ((with_reducible refine at_alloc ?_); refine wpList_alloc1 rfl 31 rfl _ (alloc_mach _) ?_) | ((with_reducible refine at_store ?_); refine pl_store_box rfl 31 (.tmp 3) (.tmp 10) rfl w1.heap.size (mcC (stpM x0) q') (by rfl) (by rfl) z64.toArray (Box.new _ _ _) (hz1 q') (hi1 q') (mc_one _ _) ?_; intro bN; have nMN := bM.lt; have hbw : Below w1.heap.size w1 ((w1.alloc (.cells z64.toArray 31)).setCells w1.heap.size 0 (mcC (stpM x0) q')) := below_cells _ _ _ _ ((Below.refl _ _).alloc (Nat.le_refl _) _) (Nat.le_refl _); replace bM := bM.below hbw; replace hB := Below.step0 hB hbw; generalize ((w1.alloc (.cells z64.toArray 31)).setCells w1.heap.size 0 (mcC (stpM x0) q')) = w2 at *; clear hbw) | (go_at_call 16; refine (cO _ (HA.out _ hB) (HS.out _ hB)).mono ?_; rintro e w3 ⟨rfl, hbb⟩; clear cO; replace bM := bM.below hbb; replace bN := bN.below hbb; replace hB := Below.step0 hB hbb;  clear hbb) | (go_at_call 14; refine (keep_stepped _ (HS.out _ (hB.alloc hB.size _))).mono ?_; rintro e w4 ⟨rfl, hbb⟩; have nNI := bN.lt; have bI := Box.new w3 #[.int .i64 uo, .int .i64 ua, .int .i64 ub, .int .i64 uc] 40; replace hB := hB.alloc hB.size (.cells #[.int .i64 uo, .int .i64 ua, .int .i64 ub, .int .i64 uc] 40); replace bM := bM.alloc (.cells #[.int .i64 uo, .int .i64 ua, .int .i64 ub, .int .i64 uc] 40); replace bN := bN.alloc (.cells #[.int .i64 uo, .int .i64 ua, .int .i64 ub, .int .i64 uc] 40); replace bI := bI.below hbb; have qI := bI.cell; replace bM := bM.below hbb; replace bN := bN.below hbb; replace hB := Below.step0 hB hbb; have qM := bM.cell; have qN := bN.cell; have fN := bN.free; clear hbb))
          go_ret
          exact ⟨rfl, hB.setCell (by show w.heap.size ≤ w1.heap.size; omega) _⟩
        · obtain ⟨ho, hdc⟩ : (uo = 8 ∨ uo = 9) ∧ d = uc := hd.resolve_left hd1
          have hdc' := hdc.symm
          clear hdc hd
          subst hdc'
          have gd : (uc == 1) = false := by simpa using hd1
          clear hd1
          by_cases h8 : uo = 8
          · have g8 : (uo == 8) = true := by simpa using h8
            clear h8 ho
            go_enter Tryd.func5, Tryd.ntmps5
            go_wp2_with (first | ((with_reducible refine at_load ?_); refine pl_load_box (by rfl) 31 (.tmp 1) rfl w.heap.size (by rfl) (mcC x0 q0) bM _ Tryd.underlying31 rfl hi0 ?_) | (go_at_call 13; refine (cS _ (HA.out _ hB) (HS.out _ hB)).mono ?_; rintro e w1 ⟨q', rfl, hbb, hA', -⟩; clear cS; replace bM := bM.below hbb; replace hB := Below.step0 hB hbb;  clear hbb) | ((with_reducible refine at_alloc ?_); refine wpList_alloc1 rfl 31 rfl _ (alloc_mach _) ?_) | ((with_reducible refine at_store ?_); refine pl_store_box rfl 31 (.tmp 3) (.tmp 10) rfl w1.heap.size (mcC (stpM x0) q') (by rfl) (by rfl) z64.toArray (Box.new _ _ _) (hz1 q') (hi1 q') (mc_one _ _) ?_; intro bN; have nMN := bM.lt; have hbw : Below w1.heap.size w1 ((w1.alloc (.cells z64.toArray 31)).setCells w1.heap.size 0 (mcC (stpM x0) q')) := below_cells _ _ _ _ ((Below.refl _ _).alloc (Nat.le_refl _) _) (Nat.le_refl _); replace bM := bM.below hbw; replace hB := Below.step0 hB hbw; generalize ((w1.alloc (.cells z64.toArray 31)).setCells w1.heap.size 0 (mcC (stpM x0) q')) = w2 at *; clear hbw) | (go_at_call 16; refine (cO _ (HA.out _ hB) (HS.out _ hB)).mono ?_; rintro e w3 ⟨rfl, hbb⟩; clear cO; replace bM := bM.below hbb; replace bN := bN.below hbb; replace hB := Below.step0 hB hbb;  clear hbb) | (go_at_call 14; refine (keep_stepped _ (HS.out _ (hB.alloc hB.size _))).mono ?_; rintro e w4 ⟨rfl, hbb⟩; have nNI := bN.lt; have bI := Box.new w3 #[.int .i64 uo, .int .i64 ua, .int .i64 ub, .int .i64 uc] 40; replace hB := hB.alloc hB.size (.cells #[.int .i64 uo, .int .i64 ua, .int .i64 ub, .int .i64 uc] 40); replace bM := bM.alloc (.cells #[.int .i64 uo, .int .i64 ua, .int .i64 ub, .int .i64 uc] 40); replace bN := bN.alloc (.cells #[.int .i64 uo, .int .i64 ua, .int .i64 ub, .int .i64 uc] 40); replace bI := bI.below hbb; have qI := bI.cell; replace bM := bM.below hbb; replace bN := bN.below hbb; replace hB := Below.step0 hB hbb; have qM := bM.cell; have qN := bN.cell; have fN := bN.free; clear hbb))
            go_ret
            exact ⟨rfl, hB.setCell (by show w.heap.size ≤ w1.heap.size; omega) _⟩
          · have g8 : (uo == 8) = false := by simpa using h8
            have g9 : (uo == 9) = true := by simpa using ho.resolve_left h8
            clear h8 ho
            go_enter Tryd.func5, Tryd.ntmps5
            go_wp2_with (first | ((with_reducible refine at_load ?_); refine pl_load_box (by rfl) 31 (.tmp 1) rfl w.heap.size (by rfl) (mcC x0 q0) bM _ Tryd.underlying31 rfl hi0 ?_) | (go_at_call 13; refine (cS _ (HA.out _ hB) (HS.out _ hB)).mono ?_; rintro e w1 ⟨q', rfl, hbb, hA', -⟩; clear cS; replace bM := bM.below hbb; replace hB := Below.step0 hB hbb;  clear hbb) | ((with_reducible refine at_alloc ?_); refine wpList_alloc1 rfl 31 rfl _ (alloc_mach _) ?_) | ((with_reducible refine at_store ?_); refine pl_store_box rfl 31 (.tmp 3) (.tmp 10) rfl w1.heap.size (mcC (stpM x0) q') (by rfl) (by rfl) z64.toArray (Box.new _ _ _) (hz1 q') (hi1 q') (mc_one _ _) ?_; intro bN; have nMN := bM.lt; have hbw : Below w1.heap.size w1 ((w1.alloc (.cells z64.toArray 31)).setCells w1.heap.size 0 (mcC (stpM x0) q')) := below_cells _ _ _ _ ((Below.refl _ _).alloc (Nat.le_refl _) _) (Nat.le_refl _); replace bM := bM.below hbw; replace hB := Below.step0 hB hbw; generalize ((w1.alloc (.cells z64.toArray 31)).setCells w1.heap.size 0 (mcC (stpM x0) q')) = w2 at *; clear hbw) | (go_at_call 16; refine (cO _ (HA.out _ hB) (HS.out _ hB)).mono ?_; rintro e w3 ⟨rfl, hbb⟩; clear cO; replace bM := bM.below hbb; replace bN := bN.below hbb; replace hB := Below.step0 hB hbb;  clear hbb) | (go_at_call 14; refine (keep_stepped _ (HS.out _ (hB.alloc hB.size _))).mono ?_; rintro e w4 ⟨rfl, hbb⟩; have nNI := bN.lt; have bI := Box.new w3 #[.int .i64 uo, .int .i64 ua, .int .i64 ub, .int .i64 uc] 40; replace hB := hB.alloc hB.size (.cells #[.int .i64 uo, .int .i64 ua, .int .i64 ub, .int .i64 uc] 40); replace bM := bM.alloc (.cells #[.int .i64 uo, .int .i64 ua, .int .i64 ub, .int .i64 uc] 40); replace bN := bN.alloc (.cells #[.int .i64 uo, .int .i64 ua, .int .i64 ub, .int .i64 uc] 40); replace bI := bI.below hbb; have qI := bI.cell; replace bM := bM.below hbb; replace bN := bN.below hbb; replace hB := Below.step0 hB hbb; have qM := bM.cell; have qN := bN.cell; have fN := bN.free; clear hbb))
            go_ret
            exact ⟨rfl, hB.setCell (by show w.heap.size ≤ w1.heap.size; omega) _⟩
  · have gE : (stpE x0 != 0) = true := by simpa using hE
    generalize stpE x0 = E at *
    clear gg hE A0 hS
    go_enter Tryd.func5, Tryd.ntmps5
    go_wp2_with (first | ((with_reducible refine at_load ?_); refine pl_load_box (by rfl) 31 (.tmp 1) rfl w.heap.size (by rfl) (mcC x0 q0) bM _ Tryd.underlying31 rfl hi0 ?_) | (go_at_call 13; refine (cS _ (HA.out _ hB) (HS.out _ hB)).mono ?_; rintro e w1 ⟨q', rfl, hbb, hA', -⟩; clear cS; replace bM := bM.below hbb; replace hB := Below.step0 hB hbb;  clear hbb) | ((with_reducible refine at_alloc ?_); refine wpList_alloc1 rfl 31 rfl _ (alloc_mach _) ?_) | ((with_reducible refine at_store ?_); refine pl_store_box rfl 31 (.tmp 3) (.tmp 10) rfl w1.heap.size (mcC (stpM x0) q') (by rfl) (by rfl) z64.toArray (Box.new _ _ _) (hz1 q') (hi1 q') (mc_one _ _) ?_; intro bN; have nMN := bM.lt; have hbw : Below w1.heap.size w1 ((w1.alloc (.cells z64.toArray 31)).setCells w1.heap.size 0 (mcC (stpM x0) q')) := below_cells _ _ _ _ ((Below.refl _ _).alloc (Nat.le_refl _) _) (Nat.le_refl _); replace bM := bM.below hbw; replace hB := Below.step0 hB hbw; generalize ((w1.alloc (.cells z64.toArray 31)).setCells w1.heap.size 0 (mcC (stpM x0) q')) = w2 at *; clear hbw) | (go_at_call 16; refine (cO _ (HA.out _ hB) (HS.out _ hB)).mono ?_; rintro e w3 ⟨rfl, hbb⟩; clear cO; replace bM := bM.below hbb; replace bN := bN.below hbb; replace hB := Below.step0 hB hbb;  clear hbb) | (go_at_call 14; refine (keep_stepped _ (HS.out _ (hB.alloc hB.size _))).mono ?_; rintro e w4 ⟨rfl, hbb⟩; have nNI := bN.lt; have bI := Box.new w3 #[.int .i64 uo, .int .i64 ua, .int .i64 ub, .int .i64 uc] 40; replace hB := hB.alloc hB.size (.cells #[.int .i64 uo, .int .i64 ua, .int .i64 ub, .int .i64 uc] 40); replace bM := bM.alloc (.cells #[.int .i64 uo, .int .i64 ua, .int .i64 ub, .int .i64 uc] 40); replace bN := bN.alloc (.cells #[.int .i64 uo, .int .i64 ua, .int .i64 ub, .int .i64 uc] 40); replace bI := bI.below hbb; have qI := bI.cell; replace bM := bM.below hbb; replace bN := bN.below hbb; replace hB := Below.step0 hB hbb; have qM := bM.cell; have qN := bN.cell; have fN := bN.free; clear hbb))
    go_ret
    exact ⟨rfl, hB⟩

set_option maxRecDepth 1000000 in
theorem contract (H : Type) (enc : TypeId × Value → H) (W : World) (base : Nat) (args : Array Value) (ds gs : List (DataW H)) (before : List MemPlace)
    (hval : ∀ (j : Nat) t v, Tryd.f5.params[j]? = some t → args[j]? = some v → Value.okWide Tryd.prog W .any base t v)
    (hW : DataW.Whole enc Tryd.prog Tryd.f5.params.toList Rows.stepGoesSpec.vars false W args.toList ds gs before) (hsh : W.ShapedOpen Tryd.prog) (hz : (DataW.weightsEach Tryd.prog (Tryd.f5.params.toList ++ (OpenSpec.ofChange Rows.stepGoesSpec).bare.plain.varTypes Tryd.prog) (ds ++ gs)).all (· ≤ reachBytes) = true) (hL : laidMet Tryd.prog Rows.stepGoesRow.laid W) :
    Calls Tryd.prog 5 args W fun e W' => ∃ v, e = .returned v ∧ Rows.stepGoesSpec.post enc Tryd.prog Tryd.f5 false true false false W args v W' := by
  have hW' := hW
  obtain ⟨p, q, hA0, hV, rfl, hfz, hnd⟩ := hW
  have hA : DataW.TrodAll enc Tryd.prog W 0 (fun _ => true) true Tryd.f5.params.toList args.toList ds p := hA0
  rw [Tryd.params5] at hA hval
  obtain ⟨v0, vs0, d0, ds0, p0, q0, hargs, rfl, rfl, h0, r0⟩ := trodAll_cons hA
  obtain ⟨rfl, rfl, rfl⟩ := trodAll_nil r0
  obtain rfl : args = #[v0] := by cases args; simp_all
  obtain ⟨rfl, rfl⟩ := trodVars_none hV
  have k0 := h0
  have lt0 : ∀ x ∈ p0, x.block < W.heap.size := by obtain ⟨m, hm⟩ := k0; exact DataW.trod_lt m _ _ _ hm
  obtain ⟨x0, q0, rfl, O0, A0⟩ := open_mach (hval 0 31 v0 rfl rfl) k0
  clear hA0
  refine (walk x0 q0 O0 W A0 (shp_of_laid hL (.head _))).mono fun e W' ⟨he, bel⟩ => ?_
  subst he
  exact ⟨_, rfl, _, _, _, [], _, [], hW', trodAll_mk1 (shut_bool Tryd.underlying4 _), (trodAll_cons_mk (Below.trod laidOut (by kernel_rfl) (of_decide_eq_true (by kernel_rfl)) k0 bel lt0) trodAll_mk0), rfl, bel.frame _, fun h => by cases h⟩

theorem reads (os : Os) {H : Type} (enc : TypeId × Value → H) : ∃ places, DataW.whole enc Tryd.prog ((World.laidAll Tryd.prog os Rows.stepGoesRow.laid).forCall (fun _ _ => 0) ⟨#[], #[witM], []⟩).memory Tryd.f5.params.toList Rows.stepGoesSpec.vars false (#[witM] : Array Value).toList 8 = some ([.agg [.agg [.agg [.lit (.bool false), .lit (.int .i64 0), .agg [.lit (.int .i64 0), .lit (.int .i64 0), .lit (.int .i64 0), .lit (.int .i64 0), .lit (.int .i64 0)]], .agg [.lit (.bool false), .lit (.int .i64 0), .agg [.lit (.int .i64 0), .lit (.int .i64 0), .lit (.int .i64 0), .lit (.int .i64 0), .lit (.int .i64 0)]], .agg [.lit (.bool false), .lit (.int .i64 0), .agg [.lit (.int .i64 0), .lit (.int .i64 0), .lit (.int .i64 0), .lit (.int .i64 0), .lit (.int .i64 0)]], .agg [.lit (.bool false), .lit (.int .i64 0), .agg [.lit (.int .i64 0), .lit (.int .i64 0), .lit (.int .i64 0), .lit (.int .i64 0), .lit (.int .i64 0)]], .agg [.lit (.bool false), .lit (.int .i64 0), .agg [.lit (.int .i64 0), .lit (.int .i64 0), .lit (.int .i64 0), .lit (.int .i64 0), .lit (.int .i64 0)]], .agg [.lit (.bool false), .lit (.int .i64 0), .agg [.lit (.int .i64 0), .lit (.int .i64 0), .lit (.int .i64 0), .lit (.int .i64 0), .lit (.int .i64 0)]], .agg [.lit (.bool false), .lit (.int .i64 0), .agg [.lit (.int .i64 0), .lit (.int .i64 0), .lit (.int .i64 0), .lit (.int .i64 0), .lit (.int .i64 0)]], .agg [.lit (.bool false), .lit (.int .i64 0), .agg [.lit (.int .i64 0), .lit (.int .i64 0), .lit (.int .i64 0), .lit (.int .i64 0), .lit (.int .i64 0)]]], .agg [.lit (.int .i64 0), .lit (.int .i64 0), .lit (.int .i64 0), .lit (.int .i64 0), .lit (.int .i64 0)], .nil, .nil, .nil]], [], places) :=
  ⟨[], by kernel_rfl⟩
theorem laid_met (os : Os) : laidMet Tryd.prog Rows.stepGoesRow.laid ((World.laidAll Tryd.prog os Rows.stepGoesRow.laid).forCall (fun _ _ => 0) ⟨#[], #[witM], []⟩).memory :=
  laidMet_laidAll _ (by kernel_rfl) (by kernel_rfl)

set_option maxRecDepth 100000 in
theorem lifted (os : Os) (started : os.Started) (H : Type) (enc : TypeId × Value → H) (F : Stop.Interp) :
    ReturnsInHanded {} Tryd.checked os 5 .any ((OpenSpec.ofChange Rows.stepGoesSpec).preRow enc Tryd.prog Tryd.f5 Rows.stepGoesRow.domain false Rows.stepGoesRow.laid) (((OpenSpec.ofChange Rows.stepGoesSpec).at F).post enc Tryd.prog Tryd.f5 false true false false) := by
  obtain ⟨places, hx⟩ := reads os enc
  refine returnsInHanded_of_row (C := Tryd.checked) (s := OpenSpec.ofChange Rows.stepGoesSpec) own started (by kernel_rfl) Tryd.func5
    (witness_row_at (enc := enc) (C := Tryd.checked) false (World.laidAll Tryd.prog os Rows.stepGoesRow.laid) #[witM] (World.laidAll_os _ _ _) (by kernel_rfl) (by kernel_rfl) (by kernel_rfl)
      (OpenSpec.preRow_of_cond 8 hx (by kernel_rfl) (fun k hk => by cases hk) (by kernel_rfl) (laid_met os))) ?_
  intro W base args ds gs before hval hW _ hcond hz hL hsh _
  exact contract H enc W base args ds gs before hval hW hsh hz hL

theorem said : Rows.StepGoesSaid :=
  OpenClaim.holds_of_cond 5 Tryd.f5 rfl rfl rfl rfl rfl rfl rfl ⟨rfl, rfl, rfl, rfl, rfl⟩ rfl rfl rfl rfl rfl (by kernel_rfl) Tryd.func5 (by kernel_rfl)
    (of_decide_eq_true (by kernel_rfl)) (by unfold Func.isWrapper; first | (rw [if_pos (by decide +kernel)]; kernel_rfl) | (rw [if_neg (by decide +kernel)]; exact ⟨rfl, rfl⟩))
    (fun os started H enc _ F => by rw [OpenClaim.pre_eq_preRow]; exact lifted os started H enc F)
theorem plain (f : FuncId) (fn : Func) (hf : Tryd.pinned.checked.prog.funcNamed Rows.stepGoesRow.func = some f) (hfn : Tryd.pinned.checked.prog.funcs[f]? = some fn) :
    true = Tryd.pinned.checked.prog.looks [] ∧ ∀ (j : Nat) t, fn.params[j]? = some t → Tryd.pinned.checked.prog.wantsStandIn t = false := by
  obtain rfl : f = 5 := Option.some.inj ((show Tryd.prog.funcNamed Rows.stepGoesRow.func = some 5 by kernel_rfl).symm.trans hf) |>.symm
  obtain rfl : fn = Tryd.f5 := (Option.some.inj (Tryd.func5.symm.trans hfn)).symm
  refine ⟨by kernel_rfl, fun j t ht => ?_⟩
  rw [Tryd.params5] at ht
  have hm : t ∈ [31] := by simpa using Array.mem_of_getElem? ht
  have hall : ([31].all fun u => !Tryd.prog.wantsStandIn u) = true := by kernel_rfl
  exact (show Tryd.prog.wantsStandIn t = false by simpa using List.all_eq_true.1 hall t hm)
theorem proved : Rows.StepGoesCardSaid :=
  Claim7.holds_tied_plain_at .later [] _ _ _ _ said (fun _ h => by cases h) (by kernel_rfl) (fun _ h => by cases h) stepGoes_row_tie rfl ⟨rfl, rfl⟩ (by kernel_rfl) rfl plain (by kernel_rfl)
#print axioms proved
end Go.Proofs.YtigkmfccbndiiaaDoor.stepGoes
