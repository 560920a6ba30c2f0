/- Chapter 12, P25: it is no matter which of two ranges is swept first; for every machine. -/
import Derived.Test.YthijebhhbflclaaRows
import Derived.Test.YthijebhhbflclaaKeyArg
import Derived.Test.YthijebhhbflclaaMachArg
import Derived.Carry
import Derived.Test.YthijebhhbflclaaKeyPure
import Derived.Test.YthijebhhbflclaaMachArg
import Derived.Test.YthijebhhbflclaaStepChk
import Derived.Test.YthijebhhbflclaaStepChk2
import Derived.Test.YthijebhhbflclaaMachMid
import Derived.Test.YthijebhhbflclaaSweepPure
import Derived.Test.YthijebhhbflclaaRowApp
import Derived.Test.YthijebhhbflclaaMachSet
import Derived.Test.YthijebhhbflclaaSweepTop
import Derived.Test.YthijebhhbflclaaSweepHasT
import Derived.Test.YthijebhhbflclaaEqSame
import Derived.Test.YthijebhhbflclaaEqMach
import Derived.WalkKit
import Derived.ProofKit
import Derived.OpenShut
namespace Go.Proofs.Ythijebhhbflclaa.sweepBoth
open Go.ChangeShapes Go.WideShapes Go.ChangeAt Go.RowKit
set_option linter.unusedVariables false
set_option linter.unusedSimpArgs false

theorem own : ownKnob Try.prog.godebug = none := by kernel_rfl
theorem laidOut : laidOutB Try.prog = true := by kernel_rfl

theorem cK_le (b n : Int) (k : K5) : cK b n k ≤ 1 := by unfold cK b1; split <;> omega
theorem swM_b {b n : Int} {x : MC} (h : McB x) : McB (swM b n x) := by
  have n0 : mvOk nil0 := by show vb 0 0 0 0 0 0; unfold vb kb; decide
  have hv : ∀ v, mvOk v → mvOk (swV b n v) := fun v h => by unfold swV; split; exact n0; exact h
  have hk : ∀ k, k5b k → k5b (swK b n k) := fun k h => by
    unfold swK
    split
    · show kb 0 0 0 0 0
      unfold kb
      decide
    · exact h
  refine ⟨by show (x.r.map (swV b n)).length = 8; rw [List.length_map]; exact h.r8, fun v hm => ?_, hk _ h.k, fun v hm => ?_, fun f hm => ?_, h.o⟩
  · obtain ⟨u, hu, rfl⟩ := List.mem_map.1 hm
    exact hv _ (h.r u hu)
  · obtain ⟨u, hu, rfl⟩ := List.mem_map.1 hm
    exact hv _ (h.m u hu)
  · obtain ⟨u, hu, rfl⟩ := List.mem_map.1 hm
    exact ⟨hk _ (h.s u hu).1, hv _ (h.s u hu).2⟩
set_option maxHeartbeats 4000000 in
set_option maxRecDepth 1000000 in
theorem walk (x0 : MC) (q0 : MA) (a1 : Int) (a2 : Int) (a3 : Int) (a4 : Int) (O0 : McOk x0 q0) (b1 : -9223372036854775808 ≤ a1 ∧ a1 ≤ 9223372036854775807) (b2 : -9223372036854775808 ≤ a2 ∧ a2 ≤ 9223372036854775807) (b3 : -9223372036854775808 ≤ a3 ∧ a3 ≤ 9223372036854775807) (b4 : -9223372036854775808 ≤ a4 ∧ a4 ≤ 9223372036854775807) (w : World) (A0 : McAt w x0 q0) :
    Calls Try.prog 7 #[.agg (mcC x0 q0).toArray, .int .i64 a1, .int .i64 a2, .int .i64 a3, .int .i64 a4] w fun e w' => e = .returned (.bool true) ∧ Below w.heap.size w w' := by
  have hi0 : (Try.prog.info? 31).map (·.size) = some (mcC x0 q0).length := mach_info O0.r8
  have HA : Hid (∀ w', Below w.heap.size w w' → McAt w' x0 q0) := fun w' hb => A0.below hb
  have bM := Box.new w (mcC x0 q0).toArray 31
  have hB : Below w.heap.size w (w.alloc (.cells (mcC x0 q0).toArray 31)) := (Below.refl _ _).alloc (Nat.le_refl _) _
  have lm : x0.m.length ≤ maxLen := Nat.le_trans O0.zm O0.ym
  have ls : x0.s.length ≤ maxLen := Nat.le_trans O0.zs O0.ys
  have lo : x0.o.length ≤ maxLen := Nat.le_trans O0.zo O0.yo
  have cS := fun w hA => sweep_top x0 q0 a1 a2 w hA O0.toMcB b1 b2
  have cT := fun w hA => sweep_top x0 q0 a3 a4 w hA O0.toMcB b3 b4
  have xB : McB (swM a1 a2 x0) := swM_b O0.toMcB
  have yB : McB (swM a3 a4 x0) := swM_b O0.toMcB
  have z8 : zeroM.r.length = 8 := rfl
  have iYzeroM : ∀ q', (Try.prog.info? 31).map (·.size) = some (mcC zeroM q').length := fun q' => mach_info z8
  have zYzeroM : ∀ q', z64.toArray.size = (mcC zeroM q').length := fun q' => by rw [mc_length z8]; rfl
  rcases sw_cases a1 a2 x0 with ⟨hE, e1, e2⟩ | ⟨hE, e1, e2⟩
  · rcases sw_cases a3 a4 x0 with ⟨hF, f1, f2⟩ | ⟨hF, f1, f2⟩
    · have sE := sw_again (a := a3) (k := a4) hE (sw_ok hF).2
      have sF := sw_again (a := a1) (k := a2) hF (sw_ok hE).2
      have cU := fun q w hA => sweep_top (swM a1 a2 x0) q a3 a4 w hA xB b3 b4
      have cV := fun q w hA => sweep_top (swM a3 a4 x0) q a1 a2 w hA yB b1 b2
      have cE := fun q q' w hA hA' => mach_eq (swM a3 a4 (swM a1 a2 x0)) q q' w hA hA' (swM_b xB).r8 (by show ((x0.m.map (swV a1 a2)).map (swV a3 a4)).length ≤ maxLen; rw [List.length_map, List.length_map]; exact lm) (by show ((x0.s.map (swF a1 a2)).map (swF a3 a4)).length ≤ maxLen; rw [List.length_map, List.length_map]; exact ls) lo
      have u8 := (swM_b (b := a3) (n := a4) xB).r8
      have x8 := xB.r8
      have y8 := yB.r8
      have gA : swA a3 a4 (swM a1 a2 x0) = swM a3 a4 (swM a1 a2 x0) ∧ swN a3 a4 (swM a1 a2 x0) = (cM a3 a4 (swM a1 a2 x0) : Int) := by
        rcases sw_cases a3 a4 (swM a1 a2 x0) with ⟨_, h, h'⟩ | ⟨h, _⟩
        · exact ⟨h, h'⟩
        · exact absurd sE h
      have gB : swA a1 a2 (swM a3 a4 x0) = swM a3 a4 (swM a1 a2 x0) ∧ swN a1 a2 (swM a3 a4 x0) = (cM a1 a2 (swM a3 a4 x0) : Int) := by
        rcases sw_cases a1 a2 (swM a3 a4 x0) with ⟨_, h, h'⟩ | ⟨h, _⟩
        · exact ⟨by rw [h, swM_comm], h'⟩
        · exact absurd sF h
      have hN := cM_two a1 a2 a3 a4 x0
      have hX := swok_of O0.r8 (sw_ok hE).1
      have bnd : ∀ b n, ∀ y : MC, y.r.length = 8 → y.m.length ≤ 400 → y.s.length ≤ 16 → cM b n y ≤ 1000 := fun b n y h1 h2 h3 => by
        have l1 := cVs_le b n y.r
        have l2 := cVs_le b n y.m
        have l3 := cFs_le b n y.s
        have l4 := cK_le b n y.k
        unfold cM
        omega
      have n1 := bnd a1 a2 x0 hX.r8 hX.lm hX.ls
      have n2 := bnd a3 a4 x0 hX.r8 hX.lm hX.ls
      have n3 := bnd a3 a4 (swM a1 a2 x0) x8 (by show (x0.m.map (swV a1 a2)).length ≤ 400; rw [List.length_map]; exact hX.lm) (by show (x0.s.map (swF a1 a2)).length ≤ 16; rw [List.length_map]; exact hX.ls)
      have n4 := bnd a1 a2 (swM a3 a4 x0) y8 (by show (x0.m.map (swV a3 a4)).length ≤ 400; rw [List.length_map]; exact hX.lm) (by show (x0.s.map (swF a3 a4)).length ≤ 16; rw [List.length_map]; exact hX.ls)
      rw [gA.1, gA.2, sE] at cU
      rw [gB.1, gB.2, sF] at cV
      rw [e1, e2, hE] at cS
      rw [f1, f2, hF] at cT
      clear hE hF e1 e2 f1 f2 sE sF gA gB bnd xB yB A0 lm ls lo hX
      generalize swM a3 a4 (swM a1 a2 x0) = U at *
      generalize cM a3 a4 (swM a1 a2 x0) = d2 at *
      generalize cM a1 a2 (swM a3 a4 x0) = d1 at *
      generalize swM a1 a2 x0 = X at *
      generalize swM a3 a4 x0 = Y at *
      generalize cM a1 a2 x0 = c1 at *
      generalize cM a3 a4 x0 = c2 at *
      have s1 : IntKind.i64.wrap ((c1 : Int) + (d2 : Int)) = (c1 : Int) + (d2 : Int) := by rw [IntKind.wrap_i64]; omega
      have s2 : IntKind.i64.wrap ((c2 : Int) + (d1 : Int)) = (c1 : Int) + (d2 : Int) := by rw [IntKind.wrap_i64]; omega
      clear n1 n2 n3 n4 hN
      have iYX : ∀ q', (Try.prog.info? 31).map (·.size) = some (mcC X q').length := fun q' => mach_info x8
      have zYX : ∀ q', z64.toArray.size = (mcC X q').length := fun q' => by rw [mc_length x8]; rfl
      have iYY : ∀ q', (Try.prog.info? 31).map (·.size) = some (mcC Y q').length := fun q' => mach_info y8
      have zYY : ∀ q', z64.toArray.size = (mcC Y q').length := fun q' => by rw [mc_length y8]; rfl
      have iYU : ∀ q', (Try.prog.info? 31).map (·.size) = some (mcC U q').length := fun q' => mach_info u8
      have zYU : ∀ q', z64.toArray.size = (mcC U q').length := fun q' => by rw [mc_length u8]; rfl
      go_enter Try.func7, Try.ntmps7
      go_wp2_with (first | ((with_reducible refine at_load ?_); refine pl_load_box (by rfl) 31 (.tmp 5) rfl (w.heap.size) (by rfl) (mcC x0 q0) bM _ Try.underlying31 rfl hi0 ?_) | (go_at_call 12; refine (keep_swept _).mono ?_; rintro e w1 ⟨rfl, hbb⟩; try replace bM := bM.below hbb; replace hB := Below.step0 hB hbb; clear hbb ) | (go_at_call 8; refine (cS _ (HA.out _ hB)).mono ?_; rintro e w2 ⟨q1, rfl, hbb, hX, -⟩; try replace bM := bM.below hbb; replace hB := Below.step0 hB hbb; clear hbb cS) | ((with_reducible refine at_alloc ?_); refine wpList_alloc1 rfl 31 rfl _ (alloc_mach _) ?_) | ((with_reducible refine at_store ?_); refine pl_store_box rfl 31 (.tmp 11) (.tmp 30) rfl w2.heap.size (mcC X q1) (by rfl) (by rfl) z64.toArray (Box.new _ _ _) (zYX q1) (iYX q1) (mc_one _ _) ?_; intro bX; have hbw : Below w2.heap.size w2 ((w2.alloc (.cells z64.toArray 31)).setCells w2.heap.size 0 (mcC X q1)) := below_cells _ _ _ _ ((Below.refl _ _).alloc (Nat.le_refl _) _) (Nat.le_refl _); try replace bM := bM.below hbw; try replace hX := hX.below hbw; replace hB := Below.step0 hB hbw; generalize ((w2.alloc (.cells z64.toArray 31)).setCells w2.heap.size 0 (mcC X q1)) = w3 at *; clear hbw) | (go_at_call 8; refine (cT _ (HA.out _ hB)).mono ?_; rintro e w4 ⟨q2, rfl, hbb, hY, -⟩; try replace bM := bM.below hbb; try replace hX := hX.below hbb; try replace bX := bX.below hbb; replace hB := Below.step0 hB hbb; clear hbb cT) | ((with_reducible refine at_store ?_); refine pl_store_box rfl 31 (.tmp 14) (.tmp 38) rfl w4.heap.size (mcC Y q2) (by rfl) (by rfl) z64.toArray (Box.new _ _ _) (zYY q2) (iYY q2) (mc_one _ _) ?_; intro bY; have hbw : Below w4.heap.size w4 ((w4.alloc (.cells z64.toArray 31)).setCells w4.heap.size 0 (mcC Y q2)) := below_cells _ _ _ _ ((Below.refl _ _).alloc (Nat.le_refl _) _) (Nat.le_refl _); try replace bM := bM.below hbw; try replace hX := hX.below hbw; try replace bX := bX.below hbw; try replace hY := hY.below hbw; replace hB := Below.step0 hB hbw; generalize ((w4.alloc (.cells z64.toArray 31)).setCells w4.heap.size 0 (mcC Y q2)) = w5 at *; clear hbw) | ((with_reducible refine at_load ?_); refine pl_load_box (by rfl) 31 (.tmp 11) rfl (w2.heap.size) (by rfl) (mcC X q1) bX _ Try.underlying31 rfl (iYX q1) ?_) | (go_at_call 8; refine (cU q1 _ hX).mono ?_; rintro e w6 ⟨q3, rfl, hbb, hU, -⟩; try replace bM := bM.below hbb; try replace hX := hX.below hbb; try replace bX := bX.below hbb; try replace hY := hY.below hbb; try replace bY := bY.below hbb; replace hB := Below.step0 hB hbb; clear hbb cU) | ((with_reducible refine at_store ?_); refine pl_store_box rfl 31 (.tmp 17) (.tmp 52) rfl w6.heap.size (mcC U q3) (by rfl) (by rfl) z64.toArray (Box.new _ _ _) (zYU q3) (iYU q3) (mc_one _ _) ?_; intro bU; have hbw : Below w6.heap.size w6 ((w6.alloc (.cells z64.toArray 31)).setCells w6.heap.size 0 (mcC U q3)) := below_cells _ _ _ _ ((Below.refl _ _).alloc (Nat.le_refl _) _) (Nat.le_refl _); try replace bM := bM.below hbw; try replace hX := hX.below hbw; try replace bX := bX.below hbw; try replace hY := hY.below hbw; try replace bY := bY.below hbw; try replace hU := hU.below hbw; replace hB := Below.step0 hB hbw; generalize ((w6.alloc (.cells z64.toArray 31)).setCells w6.heap.size 0 (mcC U q3)) = w7 at *; clear hbw) | ((with_reducible refine at_load ?_); refine pl_load_box (by rfl) 31 (.tmp 14) rfl (w4.heap.size) (by rfl) (mcC Y q2) bY _ Try.underlying31 rfl (iYY q2) ?_) | (go_at_call 8; refine (cV q2 _ hY).mono ?_; rintro e w8 ⟨q4, rfl, hbb, hV, -⟩; try replace bM := bM.below hbb; try replace hX := hX.below hbb; try replace bX := bX.below hbb; try replace hY := hY.below hbb; try replace bY := bY.below hbb; try replace hU := hU.below hbb; try replace bU := bU.below hbb; replace hB := Below.step0 hB hbb; clear hbb cV) | ((with_reducible refine at_store ?_); refine pl_store_box rfl 31 (.tmp 20) (.tmp 60) rfl w8.heap.size (mcC U q4) (by rfl) (by rfl) z64.toArray (Box.new _ _ _) (zYU q4) (iYU q4) (mc_one _ _) ?_; intro bV; have hbw : Below w8.heap.size w8 ((w8.alloc (.cells z64.toArray 31)).setCells w8.heap.size 0 (mcC U q4)) := below_cells _ _ _ _ ((Below.refl _ _).alloc (Nat.le_refl _) _) (Nat.le_refl _); try replace bM := bM.below hbw; try replace hX := hX.below hbw; try replace bX := bX.below hbw; try replace hY := hY.below hbw; try replace bY := bY.below hbw; try replace hU := hU.below hbw; try replace bU := bU.below hbw; try replace hV := hV.below hbw; replace hB := Below.step0 hB hbw; generalize ((w8.alloc (.cells z64.toArray 31)).setCells w8.heap.size 0 (mcC U q4)) = w9 at *; clear hbw) | ((with_reducible refine at_load ?_); refine pl_load_box (by rfl) 31 (.tmp 17) rfl (w6.heap.size) (by rfl) (mcC U q3) bU _ Try.underlying31 rfl (iYU q3) ?_) | ((with_reducible refine at_load ?_); refine pl_load_box (by rfl) 31 (.tmp 20) rfl (w8.heap.size) (by rfl) (mcC U q4) bV _ Try.underlying31 rfl (iYU q4) ?_) | (go_at_call 11; refine (cE q3 q4 _ hU hV).mono ?_; rintro e wA ⟨rfl, hbb⟩; try replace bM := bM.below hbb; try replace hX := hX.below hbb; try replace bX := bX.below hbb; try replace hY := hY.below hbb; try replace bY := bY.below hbb; try replace hU := hU.below hbb; try replace bU := bU.below hbb; try replace hV := hV.below hbb; try replace bV := bV.below hbb; replace hB := Below.step0 hB hbb; clear hbb ))
      go_ret
      exact ⟨rfl, hB⟩
    · have x8 := xB.r8
      rw [e1, e2, hE] at cS
      rw [f1, f2] at cT
      have gE : (swE a3 a4 x0 != 0) = true := by simpa using hF
      generalize swE a3 a4 x0 = E at *
      clear hE hF e1 e2 f1 f2 xB yB A0 lm ls lo
      generalize swM a1 a2 x0 = X at *
      generalize cM a1 a2 x0 = c1 at *
      have iYX : ∀ q', (Try.prog.info? 31).map (·.size) = some (mcC X q').length := fun q' => mach_info x8
      have zYX : ∀ q', z64.toArray.size = (mcC X q').length := fun q' => by rw [mc_length x8]; rfl
      go_enter Try.func7, Try.ntmps7
      go_wp2_with (first | ((with_reducible refine at_load ?_); refine pl_load_box (by rfl) 31 (.tmp 5) rfl (w.heap.size) (by rfl) (mcC x0 q0) bM _ Try.underlying31 rfl hi0 ?_) | (go_at_call 12; refine (keep_swept _).mono ?_; rintro e w1 ⟨rfl, hbb⟩; try replace bM := bM.below hbb; replace hB := Below.step0 hB hbb; clear hbb ) | (go_at_call 8; refine (cS _ (HA.out _ hB)).mono ?_; rintro e w2 ⟨q1, rfl, hbb, hX, -⟩; try replace bM := bM.below hbb; replace hB := Below.step0 hB hbb; clear hbb cS) | ((with_reducible refine at_alloc ?_); refine wpList_alloc1 rfl 31 rfl _ (alloc_mach _) ?_) | ((with_reducible refine at_store ?_); refine pl_store_box rfl 31 (.tmp 11) (.tmp 30) rfl w2.heap.size (mcC X q1) (by rfl) (by rfl) z64.toArray (Box.new _ _ _) (zYX q1) (iYX q1) (mc_one _ _) ?_; intro bX; have hbw : Below w2.heap.size w2 ((w2.alloc (.cells z64.toArray 31)).setCells w2.heap.size 0 (mcC X q1)) := below_cells _ _ _ _ ((Below.refl _ _).alloc (Nat.le_refl _) _) (Nat.le_refl _); try replace bM := bM.below hbw; try replace hX := hX.below hbw; replace hB := Below.step0 hB hbw; generalize ((w2.alloc (.cells z64.toArray 31)).setCells w2.heap.size 0 (mcC X q1)) = w3 at *; clear hbw) | (go_at_call 8; refine (cT _ (HA.out _ hB)).mono ?_; rintro e w4 ⟨q2, rfl, hbb, hY, -⟩; try replace bM := bM.below hbb; try replace hX := hX.below hbb; try replace bX := bX.below hbb; replace hB := Below.step0 hB hbb; clear hbb cT) | ((with_reducible refine at_store ?_); refine pl_store_box rfl 31 (.tmp 14) (.tmp 38) rfl w4.heap.size (mcC zeroM q2) (by rfl) (by rfl) z64.toArray (Box.new _ _ _) (zYzeroM q2) (iYzeroM q2) (mc_one _ _) ?_; intro bY; have hbw : Below w4.heap.size w4 ((w4.alloc (.cells z64.toArray 31)).setCells w4.heap.size 0 (mcC zeroM q2)) := below_cells _ _ _ _ ((Below.refl _ _).alloc (Nat.le_refl _) _) (Nat.le_refl _); try replace bM := bM.below hbw; try replace hX := hX.below hbw; try replace bX := bX.below hbw; try replace hY := hY.below hbw; replace hB := Below.step0 hB hbw; generalize ((w4.alloc (.cells z64.toArray 31)).setCells w4.heap.size 0 (mcC zeroM q2)) = w5 at *; clear hbw))
      go_ret
      exact ⟨rfl, hB⟩
  · rw [e1, e2] at cS
    have gE : (swE a1 a2 x0 != 0) = true := by simpa using hE
    generalize swE a1 a2 x0 = E at *
    have y8 := swA_r8 (b := a3) (n := a4) O0.r8
    clear hE e1 e2 xB yB A0 lm ls lo
    generalize swA a3 a4 x0 = Y at *
    generalize swN a3 a4 x0 = c2 at *
    generalize swE a3 a4 x0 = F at *
    have iYY : ∀ q', (Try.prog.info? 31).map (·.size) = some (mcC Y q').length := fun q' => mach_info y8
    have zYY : ∀ q', z64.toArray.size = (mcC Y q').length := fun q' => by rw [mc_length y8]; rfl
    go_enter Try.func7, Try.ntmps7
    go_wp2_with (first | ((with_reducible refine at_load ?_); refine pl_load_box (by rfl) 31 (.tmp 5) rfl (w.heap.size) (by rfl) (mcC x0 q0) bM _ Try.underlying31 rfl hi0 ?_) | (go_at_call 12; refine (keep_swept _).mono ?_; rintro e w1 ⟨rfl, hbb⟩; try replace bM := bM.below hbb; replace hB := Below.step0 hB hbb; clear hbb ) | (go_at_call 8; refine (cS _ (HA.out _ hB)).mono ?_; rintro e w2 ⟨q1, rfl, hbb, hX, -⟩; try replace bM := bM.below hbb; replace hB := Below.step0 hB hbb; clear hbb cS) | ((with_reducible refine at_alloc ?_); refine wpList_alloc1 rfl 31 rfl _ (alloc_mach _) ?_) | ((with_reducible refine at_store ?_); refine pl_store_box rfl 31 (.tmp 11) (.tmp 30) rfl w2.heap.size (mcC zeroM q1) (by rfl) (by rfl) z64.toArray (Box.new _ _ _) (zYzeroM q1) (iYzeroM q1) (mc_one _ _) ?_; intro bX; have hbw : Below w2.heap.size w2 ((w2.alloc (.cells z64.toArray 31)).setCells w2.heap.size 0 (mcC zeroM q1)) := below_cells _ _ _ _ ((Below.refl _ _).alloc (Nat.le_refl _) _) (Nat.le_refl _); try replace bM := bM.below hbw; try replace hX := hX.below hbw; replace hB := Below.step0 hB hbw; generalize ((w2.alloc (.cells z64.toArray 31)).setCells w2.heap.size 0 (mcC zeroM q1)) = w3 at *; clear hbw) | (go_at_call 8; refine (cT _ (HA.out _ hB)).mono ?_; rintro e w4 ⟨q2, rfl, hbb, hY, -⟩; try replace bM := bM.below hbb; try replace hX := hX.below hbb; try replace bX := bX.below hbb; replace hB := Below.step0 hB hbb; clear hbb cT) | ((with_reducible refine at_store ?_); refine pl_store_box rfl 31 (.tmp 14) (.tmp 38) rfl w4.heap.size (mcC Y q2) (by rfl) (by rfl) z64.toArray (Box.new _ _ _) (zYY q2) (iYY q2) (mc_one _ _) ?_; intro bY; have hbw : Below w4.heap.size w4 ((w4.alloc (.cells z64.toArray 31)).setCells w4.heap.size 0 (mcC Y q2)) := below_cells _ _ _ _ ((Below.refl _ _).alloc (Nat.le_refl _) _) (Nat.le_refl _); try replace bM := bM.below hbw; try replace hX := hX.below hbw; try replace bX := bX.below hbw; try replace hY := hY.below hbw; replace hB := Below.step0 hB hbw; generalize ((w4.alloc (.cells z64.toArray 31)).setCells w4.heap.size 0 (mcC Y q2)) = w5 at *; clear hbw))
    go_ret
    exact ⟨rfl, hB⟩

set_option maxRecDepth 100000 in
theorem lifted (os : Os) (started : os.Started) (H : Type) (enc : TypeId × Value → H) :
    ReturnsInHanded {} Try.checked os 7 .any (Rows.sweepBothSpec.pre6 enc Try.prog Try.f7 Rows.sweepBothRow.domain false) (Rows.sweepBothSpec.post enc Try.prog Try.f7 false true false false) := by
  refine returnsInHanded_of_change (C := Try.checked) own started (by kernel_rfl) Try.func7
    (ChangeSpec.witness6 (enc := enc) (C := Try.checked) false ⟨#[], #[.agg #[.bool false, .int .i64 0, .int .i64 0, .int .i64 0, .int .i64 0, .int .i64 0, .int .i64 0, .bool false, .int .i64 0, .int .i64 0, .int .i64 0, .int .i64 0, .int .i64 0, .int .i64 0, .bool false, .int .i64 0, .int .i64 0, .int .i64 0, .int .i64 0, .int .i64 0, .int .i64 0, .bool false, .int .i64 0, .int .i64 0, .int .i64 0, .int .i64 0, .int .i64 0, .int .i64 0, .bool false, .int .i64 0, .int .i64 0, .int .i64 0, .int .i64 0, .int .i64 0, .int .i64 0, .bool false, .int .i64 0, .int .i64 0, .int .i64 0, .int .i64 0, .int .i64 0, .int .i64 0, .bool false, .int .i64 0, .int .i64 0, .int .i64 0, .int .i64 0, .int .i64 0, .int .i64 0, .bool false, .int .i64 0, .int .i64 0, .int .i64 0, .int .i64 0, .int .i64 0, .int .i64 0, .int .i64 0, .int .i64 0, .int .i64 0, .int .i64 0, .int .i64 0, .slice none 0 0, .slice none 0 0, .slice none 0 0], .int .i64 0, .int .i64 0, .int .i64 0, .int .i64 0], []⟩ 8 (by kernel_rfl) (by kernel_rfl) (by kernel_rfl) (by kernel_rfl)) ?_
  intro W base args ds gs before hval0 hW hcnd _
  have hval : ∀ (j : Nat) t v, Try.f7.params[j]? = some t → args[j]? = some v → Value.okWide Try.prog W .any base t v := hval0
  have hW' := hW
  obtain ⟨p, q, hA0, hV, rfl, hfz, hnd⟩ := hW
  have hA : DataW.TrodAll enc Try.prog W 0 (fun _ => true) true Try.f7.params.toList args.toList ds p := hA0
  rw [Try.params7] at hA hval
  obtain ⟨v0, vs0, d0, ds0, p0, q0, hargs, rfl, rfl, h0, r0⟩ := trodAll_cons hA
  obtain ⟨v1, vs1, d1, ds1, p1, q1, rfl, rfl, rfl, h1, r1⟩ := trodAll_cons r0
  obtain ⟨v2, vs2, d2, ds2, p2, q2, rfl, rfl, rfl, h2, r2⟩ := trodAll_cons r1
  obtain ⟨v3, vs3, d3, ds3, p3, q3, rfl, rfl, rfl, h3, r3⟩ := trodAll_cons r2
  obtain ⟨v4, vs4, d4, ds4, p4, q4, rfl, rfl, rfl, h4, r4⟩ := trodAll_cons r3
  obtain ⟨rfl, rfl, rfl⟩ := trodAll_nil r4
  obtain rfl : args = #[v0, v1, v2, v3, v4] := by cases args; simp_all
  obtain ⟨rfl, rfl⟩ := trodVars_none hV
  have k0 := h0
  have lt0 : ∀ x ∈ p0, x.block < W.heap.size := by obtain ⟨m, hm⟩ := k0; exact DataW.trod_lt m _ _ _ hm
  obtain ⟨x0, q0, rfl, O0, A0⟩ := open_mach (hval 0 31 v0 rfl rfl) k0
  obtain ⟨a1, rfl, rfl, rfl, w1⟩ := open_int Try.underlying3 (hval 1 3 v1 rfl rfl) h1
  obtain ⟨a2, rfl, rfl, rfl, w2⟩ := open_int Try.underlying3 (hval 2 3 v2 rfl rfl) h2
  obtain ⟨a3, rfl, rfl, rfl, w3⟩ := open_int Try.underlying3 (hval 3 3 v3 rfl rfl) h3
  obtain ⟨a4, rfl, rfl, rfl, w4⟩ := open_int Try.underlying3 (hval 4 3 v4 rfl rfl) h4
  clear hA0 hval0
  refine (walk x0 q0 a1 a2 a3 a4 O0 (bounds_i64 w1) (bounds_i64 w2) (bounds_i64 w3) (bounds_i64 w4) W A0).mono fun e W' ⟨he, bel⟩ => ?_
  subst he
  exact ⟨_, rfl, _, _, _, [], _, [], hW', trodAll_mk1 (shut_bool Try.underlying4 _), (trodAll_cons_mk (Below.trod laidOut (by kernel_rfl) (of_decide_eq_true (by kernel_rfl)) k0 bel lt0) (trodAll_cons_mk (shut_int Try.underlying3 w1) (trodAll_cons_mk (shut_int Try.underlying3 w2) (trodAll_cons_mk (shut_int Try.underlying3 w3) (trodAll_cons_mk (shut_int Try.underlying3 w4) trodAll_mk0))))), rfl, bel.frame _, fun h => by cases h⟩

theorem over : Rows.sweepBothRow.holds Try.pinned (OpenSpec.ofChange Rows.sweepBothSpec) :=
  OpenClaim.holds_of_wide 7 Try.f7 rfl rfl rfl rfl rfl rfl rfl ⟨rfl, rfl, rfl, rfl, rfl⟩ rfl rfl rfl rfl rfl (by kernel_rfl) Try.func7 (by kernel_rfl)
    (of_decide_eq_true (by kernel_rfl)) (by unfold Func.isWrapper; first | (rw [if_pos (by decide +kernel)]; kernel_rfl) | (rw [if_neg (by decide +kernel)]; exact ⟨rfl, rfl⟩))
    (fun os started H enc _ => lifted os started H enc)

theorem proved : Rows.SweepBothSaid :=
  over
#print axioms proved
end Go.Proofs.Ythijebhhbflclaa.sweepBoth
