/- Chapters 9 and 10, P19 and P23: run it is what it is step by step, and ends where a step does not go on; for every machine and any number. -/
import Derived.Test.YtigkmfccbndiiaaDoorRows
import Derived.Test.YtigkmfccbndiiaaDoorCards
import Derived.Test.YtigkmfccbndiiaaDoorTie
import Derived.Test.YtigkmfccbndiiaaDoorCardBase
import Derived.Test.YtigkmfccbndiiaaDoorInstShape
import Derived.Test.YtigkmfccbndiiaaDoorInstLaid
import Derived.Test.YtigkmfccbndiiaaDoorMachArg
import Derived.Carry
import Derived.Test.YtigkmfccbndiiaaDoorKeyPure
import Derived.Test.YtigkmfccbndiiaaDoorMachArg
import Derived.Test.YtigkmfccbndiiaaDoorStepOff
import Derived.Test.YtigkmfccbndiiaaDoorStepOwn
import Derived.Test.YtigkmfccbndiiaaDoorStepTop
import Derived.Test.YtigkmfccbndiiaaDoorStepKeep
import Derived.Test.YtigkmfccbndiiaaDoorRangeW
import Derived.Test.YtigkmfccbndiiaaDoorInMid
import Derived.Test.YtigkmfccbndiiaaDoorKeepSmall
import Derived.Test.YtigkmfccbndiiaaDoorKeepOp
import Derived.Test.YtigkmfccbndiiaaDoorNum
import Derived.Test.YtigkmfccbndiiaaDoorRunPlain
import Derived.Test.YtigkmfccbndiiaaDoorRunBase
import Derived.Test.YtigkmfccbndiiaaDoorRunTop
import Derived.Test.YtigkmfccbndiiaaDoorRunPlaces
import Derived.Test.YtigkmfccbndiiaaDoorStepChk2
import Derived.WalkKit
import Derived.ProofKit
import Derived.OpenShut
import Derived.Deep.DeepHandedRow
import Derived.Deep.DeepWitnessRowRef
import Derived.Lay
import Derived.MakeChecks
import Derived.SizedLaws
import Derived.Lib.LaidTab
namespace Go.Proofs.YtigkmfccbndiiaaDoor.runSteps
open Go.ChangeShapes Go.WideShapes Go.ChangeAt Go.RowKit
set_option linter.unusedVariables false
set_option linter.unusedSimpArgs false

theorem own : ownKnob Tryd.prog.godebug = none := by kernel_rfl
theorem laidOut : laidOutB Tryd.prog = true := by kernel_rfl
def witM : Value := .agg #[.bool false, .int .i64 0, .int .i64 0, .int .i64 0, .int .i64 0, .int .i64 0, .int .i64 0, .bool false, .int .i64 0, .int .i64 0, .int .i64 0, .int .i64 0, .int .i64 0, .int .i64 0, .bool false, .int .i64 0, .int .i64 0, .int .i64 0, .int .i64 0, .int .i64 0, .int .i64 0, .bool false, .int .i64 0, .int .i64 0, .int .i64 0, .int .i64 0, .int .i64 0, .int .i64 0, .bool false, .int .i64 0, .int .i64 0, .int .i64 0, .int .i64 0, .int .i64 0, .int .i64 0, .bool false, .int .i64 0, .int .i64 0, .int .i64 0, .int .i64 0, .int .i64 0, .int .i64 0, .bool false, .int .i64 0, .int .i64 0, .int .i64 0, .int .i64 0, .int .i64 0, .int .i64 0, .bool false, .int .i64 0, .int .i64 0, .int .i64 0, .int .i64 0, .int .i64 0, .int .i64 0, .int .i64 0, .int .i64 0, .int .i64 0, .int .i64 0, .int .i64 0, .slice none 0 0, .slice none 0 0, .slice none 0 0]

theorem run_x (x : MC) (f : Int) (q : MA) (w : World) (hA : McAt w x q) (hO : McB x) (hS : Shp w) :
    Calls Tryd.prog 23 #[.agg (mcC x q).toArray, .int .i64 f] w fun e w' => ∃ q', e = .returned (.tuple #[.agg (mcC (runX f x) q').toArray, .int .i64 (runK f x), .int .i64 (runF f x)]) ∧ Below w.heap.size w w' ∧ McAt w' (runX f x) q' ∧ FarX (fun k => k < w.heap.size) (runX f x) q' := run_run x q f w hA hO hS
/-- Behind k of the steps. -/
structure Lp (x0 : MC) (F k : Nat) (x : MC) : Prop where
  m : runM F x0 = runM (F - k) x
  n : runN F x0 = k + runN (F - k) x
  e : runE F x0 = runE (F - k) x
  p : (runP F x0).drop k = runP (F - k) x
  g : Good x
  k : k ≤ F
theorem runM_s {f : Nat} {x : MC} (h : stpE x = 0) : runM (f + 1) x = runM f (stpM x) := by
  show (if stpE x = 0 then runM f (stpM x) else x) = _
  rw [if_pos h]
theorem runN_s {f : Nat} {x : MC} (h : stpE x = 0) : runN (f + 1) x = runN f (stpM x) + 1 := by
  show (if stpE x = 0 then runN f (stpM x) + 1 else 0) = _
  rw [if_pos h]
theorem runE_s {f : Nat} {x : MC} (h : stpE x = 0) : runE (f + 1) x = runE f (stpM x) := by
  show (if stpE x = 0 then runE f (stpM x) else stpE x) = _
  rw [if_pos h]
theorem runP_s {f : Nat} {x : MC} (h : stpE x = 0) : runP (f + 1) x = x.k.a :: runP f (stpM x) := by
  show (if stpE x = 0 then x.k.a :: runP f (stpM x) else []) = _
  rw [if_pos h]
theorem Lp.nil {x : MC} {F : Nat} (h : Good x) : Lp x F 0 x := ⟨rfl, (Nat.zero_add _).symm, rfl, rfl, h, Nat.zero_le _⟩
theorem Lp.step {x0 x : MC} {F k : Nat} (h : Lp x0 F k x) (hk : k < runN F x0) : stpE x = 0 ∧ (runP F x0)[k]? = some x.k.a ∧ Lp x0 F (k + 1) (stpM x) := by
  obtain ⟨h1, h2, h3, h4, h5, h6⟩ := h
  obtain ⟨f, hf⟩ : ∃ f, F - k = f + 1 := by
    cases e : F - k with
    | zero =>
      rw [e] at h2
      have : runN 0 x = 0 := rfl
      omega
    | succ f => exact ⟨f, rfl⟩
  rw [hf] at h1 h2 h3 h4
  by_cases hs : stpE x = 0
  · have e' : F - (k + 1) = f := by omega
    rw [runM_s hs] at h1
    rw [runN_s hs] at h2
    rw [runE_s hs] at h3
    rw [runP_s hs] at h4
    refine ⟨hs, ?_, ⟨by rw [e', h1], by rw [e']; omega, by rw [e', h3], ?_, step_good h5.r8 hs, by omega⟩⟩
    · have := congrArg (fun l => l[0]?) h4
      simpa using this
    · have := congrArg (fun l => l.drop 1) h4
      rw [e']
      simpa [List.drop_drop] using this
  · have : runN (f + 1) x = 0 := by
      show (if stpE x = 0 then runN f (stpM x) + 1 else 0) = _
      rw [if_neg hs]
    omega
theorem Lp.stop {x0 x : MC} {F k : Nat} (h : Lp x0 F k x) (hk : k = runN F x0) : runM F x0 = x ∧ (k = F ∧ runE F x0 = 15 ∨ k < F ∧ runE F x0 = stpE x ∧ ¬ stpE x = 0) := by
  obtain ⟨h1, h2, h3, h4, h5, h6⟩ := h
  cases e : F - k with
  | zero =>
    rw [e] at h1 h3
    exact ⟨h1, .inl ⟨by omega, h3⟩⟩
  | succ f =>
    rw [e] at h1 h2 h3
    by_cases hs : stpE x = 0
    · rw [runN_s hs] at h2
      omega
    · refine ⟨h1.trans ?_, .inr ⟨by omega, h3.trans ?_, hs⟩⟩
      · show (if stpE x = 0 then runM f (stpM x) else x) = _
        rw [if_neg hs]
      · show (if stpE x = 0 then runE f (stpM x) else stpE x) = _
        rw [if_neg hs]
theorem rowQ {w : World} {a : Option Addr} {cs : List Value} {k : Nat} {u : Value} (h : RowAt w a cs) (hk : cs[k]? = some u) : ∃ B off, a = some ⟨B, off, none⟩ ∧ w.cell? ⟨B, off + k, none⟩ = some u := by
  rcases h with h | ⟨B, off, rfl, _, hc⟩
  · rw [h] at hk; cases hk
  · exact ⟨B, off, rfl, hc k u hk⟩
set_option maxHeartbeats 4000000 in
set_option maxRecDepth 1000000 in
theorem walk (x0 : MC) (q0 : MA) (a1 : Int) (O0 : McOk x0 q0) (b1 : -9223372036854775808 ≤ a1 ∧ a1 ≤ 9223372036854775807) (w : World) (A0 : McAt w x0 q0) (hS : Shp w) :
    Calls Tryd.prog 9 #[.agg (mcC x0 q0).toArray, .int .i64 a1] w fun e w' => e = .returned (.bool true) ∧ Below w.heap.size w w' := by
  have hi0 : (Tryd.prog.info? 31).map (·.size) = some (mcC x0 q0).length := mach_info O0.r8
  have HA : Hid (∀ w', Below w.heap.size w w' → McAt w' x0 q0) := fun w' hb => A0.below hb
  have HS : Hid (∀ w', Below w.heap.size w w' → Shp w') := fun w' hb => hS.below hb
  have bM := Box.new w (mcC x0 q0).toArray 31
  have hB : Below w.heap.size w (w.alloc (.cells (mcC x0 q0).toArray 31)) := (Below.refl _ _).alloc (Nat.le_refl _) _
  obtain ⟨F, hF⟩ : ∃ F : Nat, a1 % 60 = (F : Int) := ⟨(a1 % 60).toNat, by omega⟩
  have lF : F < 60 := by omega
  have cA := fun w => ref_rest a1 60 w b1 (by omega)
  rw [hF] at cA
  clear hF
  have c2 := fun q w hA hS => run_x x0 F q w hA O0.toMcB hS
  have cC := fun w hA => step_check x0 q0 w hA O0.toMcB
  have hA0 := A0.lt
  by_cases hE : mcE x0 = 0
  · have hG := good_of O0.r8 hE
    have s0 : Sml x0 := hG.sml
    obtain ⟨e1, e2, e3⟩ := runX_good (f := F) (x := x0) (by omega) hE
    rw [e1, e2, e3] at c2
    rw [hE] at cC
    have sX := (runM_good F x0 hG).sml
    have cP := fun w hA hS => run_places x0 q0 F w hA hG hS (by omega)
    simp only [runP_len] at cP
    have lp0 := Lp.nil (F := F) hG
    obtain ⟨X, hX'⟩ : ∃ X, runM F x0 = X := ⟨_, rfl⟩
    obtain ⟨N, hN'⟩ : ∃ N, runN F x0 = N := ⟨_, rfl⟩
    obtain ⟨E, hE'⟩ : ∃ E, runE F x0 = E := ⟨_, rfl⟩
    have lN : N ≤ F := hN' ▸ runN_le F x0
    rw [hX', hN', hE'] at c2
    rw [hN'] at cP
    rw [hX'] at sX
    have HX : Hid (runM F x0 = X) := hX'
    have HN : Hid (runN F x0 = N) := hN'
    have HE : Hid (runE F x0 = E) := hE'
    clear e1 e2 e3 A0 hS hE hX' hN' hE'
    have iX : ∀ q', (Tryd.prog.info? 31).map (·.size) = some (mcC X q').length := fun q' => mach_info sX.r8
    have zX : ∀ q', z64.toArray.size = (mcC X q').length := fun q' => by rw [mc_length sX.r8]; rfl
    go_enter Tryd.func9, Tryd.ntmps9
    go_wp2_with (first | ((with_reducible refine at_load ?_); refine pl_load_box (by rfl) 31 (.tmp 2) rfl w.heap.size (by rfl) (mcC x0 q0) bM _ Tryd.underlying31 rfl hi0 ?_) | (go_at_call 14; refine (keep_stepped _ (HS.out _ hB)).mono ?_; rintro e w1 ⟨rfl, hbb⟩;  replace bM := bM.below hbb; replace hB := Below.step0 hB hbb;  clear hbb) | (go_at_call 19; refine (cA _).mono ?_; rintro e wz ⟨rfl, hwz⟩; obtain rfl := hwz.symm; clear cA) | (go_at_call 23; refine (c2 q0 _ (HA.out _ hB) (HS.out _ hB)).mono ?_; rintro e w2 ⟨q1, rfl, hbb, hX, hXf⟩; clear c2; have nMX := bM.lt; replace bM := bM.below hbb; replace hB := Below.step0 hB hbb;  clear hbb) | ((with_reducible refine at_alloc ?_); refine wpList_alloc1 rfl 31 rfl _ (alloc_mach _) ?_) | ((with_reducible refine at_store ?_); refine pl_store_box rfl 31 (.tmp 5) (.tmp 23) rfl w2.heap.size (mcC X q1) (by rfl) (by rfl) z64.toArray (Box.new _ _ _) (zX q1) (iX q1) (mc_one _ _) ?_; intro bX; have nM2 := bM.lt; have hbw : Below w2.heap.size w2 ((w2.alloc (.cells z64.toArray 31)).setCells w2.heap.size 0 (mcC X q1)) := below_cells _ _ _ _ ((Below.refl _ _).alloc (Nat.le_refl _) _) (Nat.le_refl _); replace bM := bM.below hbw; replace hX := hX.below hbw; replace hB := Below.step0 hB hbw; generalize ((w2.alloc (.cells z64.toArray 31)).setCells w2.heap.size 0 (mcC X q1)) = w3 at *; clear hbw) | (go_at_call 21; refine (cC _ (HA.out _ hB)).mono ?_; rintro e wc ⟨rfl, hbb⟩;  replace bM := bM.below hbb; replace bX := bX.below hbb; replace hX := hX.below hbb; replace hB := Below.step0 hB hbb;  clear hbb) | (go_at_call 24; refine (cP _ (HA.out _ hB) (HS.out _ hB)).mono ?_; rintro e w4 ⟨sa, sc, rfl, hbb, hP, hPf⟩; have nM4 := bM.lt; replace bM := bM.below hbb; replace bX := bX.below hbb; replace hX := hX.below hbb; replace hB := Below.step0 hB hbb;  clear hbb))
    have hXs : FarX (fun j => j = w.heap.size) X q1 := hXf.mono fun j hj => by omega
    have hPs : FarR (fun j => j = w.heap.size) sa ((runP F x0).map nmC) := hPf.imp id fun h y hy hk => h y hy (by omega)
    have hW2 : w.heap.size < w2.heap.size := nM2
    have hAs : FarX (fun j => j = w.heap.size) x0 q0 := hA0.mono fun j hj => by omega
    clear hXf hPf hA0 cC cP nMX nM4 nM2
    go_loopw [52] (fun i wr => ∃ (k : Nat) (x : MC) (q : MA), k ≤ N ∧ i = .int .i64 (k : Int) ∧ Below w.heap.size w wr ∧ Box wr w.heap.size (mcC x q).toArray ∧ McAt wr x q ∧ FarX (fun j => j = w.heap.size) x q ∧ Lp x0 F k x ∧ Box wr w2.heap.size (mcC X q1).toArray ∧ McAt wr X q1 ∧ NumsAt wr sa (runP F x0)) (fun i _ => N - (intOf i).toNat)
    case atStart => exact ⟨0, x0, q0, Nat.zero_le _, rfl, hB, bM, HA.out _ hB, hAs, lp0, bX, hX, hP⟩
    case round =>
      clear bM bX hX hP hB lp0
      obtain ⟨k, x, q, hk, rfl, hB, bM, hAx, hfx, hL, bX, hX, hP⟩ := hrel
      have hGx := hL.g
      have hix : (Tryd.prog.info? 31).map (·.size) = some (mcC x q).length := mach_info hGx.r8
      by_cases hlt : k < N
      · obtain ⟨hs, hp, hL'⟩ := hL.step (by rw [HN.out]; exact hlt)
        have hp' : ((runP F x0).map nmC)[k]? = some (.int .i64 x.k.a) := by rw [List.getElem?_map, hp]; rfl
        have hgood := hL'.g
        obtain ⟨B, off, e1, hc⟩ := rowQ hP hp'
        subst e1
        have c59 : wr.cell? ⟨w.heap.size, 59, none⟩ = some (.int .i64 x.k.a) := (bM.cell 59).trans (mc_cells x q hGx.r8).c3
        have gk : (k : Int) < (N : Int) := by omega
        have hm8 : ∀ q', (Tryd.prog.info? 31).map (·.size) = some (mcC (stpM x) q').length := fun q' => mach_info hgood.r8
        have hz8 : ∀ q', z64.toArray.size = (mcC (stpM x) q').length := fun q' => by rw [mc_length hgood.r8]; rfl
        have cS := step_top x q wr.drew (hAx.below (below_drew _)) hGx.b ((HS.out _ hB).below (below_drew _))
        rw [hs] at cS
        clear hp hp' hs
        go_upto_region 13 with (fail)
        go_region
        replace bM := bM.drew
        replace bX := bX.drew
        replace hX := hX.below (below_drew _)
        replace hP := hP.below (below_drew _)
        replace hB := hB.drew
        clear hAx c59 hc
        generalize wr.drew = wd at *
        go_wp2_with (first | ((with_reducible refine at_load ?_); refine pl_load_box (by rfl) 31 (.tmp 2) rfl w.heap.size (by rfl) (mcC x q) bM _ Tryd.underlying31 rfl hix ?_) | (go_at_call 13; refine (cS).mono ?_; rintro e w5 ⟨q2, rfl, hbb, hY, hYf⟩; clear cS; have n4 := bM.lt; replace bM := bM.below hbb; replace bX := bX.below hbb; replace hX := hX.below hbb; replace hP := hP.below hbb; replace hB := Below.step0 hB hbb;  clear hbb) | ((with_reducible refine at_alloc ?_); refine wpList_alloc1 rfl 31 rfl _ (alloc_mach _) ?_) | ((with_reducible refine at_store ?_); refine pl_store_box rfl 31 (.tmp 11) (.tmp 66) rfl w5.heap.size (mcC (stpM x) q2) (by rfl) (by rfl) z64.toArray (Box.new _ _ _) (hz8 q2) (hm8 q2) (mc_one _ _) ?_; intro bY; have n5 := bM.lt; have hbw : Below w5.heap.size w5 ((w5.alloc (.cells z64.toArray 31)).setCells w5.heap.size 0 (mcC (stpM x) q2)) := below_cells _ _ _ _ ((Below.refl _ _).alloc (Nat.le_refl _) _) (Nat.le_refl _); replace bM := bM.below hbw; replace bX := bX.below hbw; replace hX := hX.below hbw; replace hY := hY.below hbw; replace hP := hP.below hbw; replace hB := Below.step0 hB hbw; generalize ((w5.alloc (.cells z64.toArray 31)).setCells w5.heap.size 0 (mcC (stpM x) q2)) = w6 at *; clear hbw) | ((with_reducible refine at_load ?_); refine pl_load_box (by rfl) 31 (.tmp 11) rfl w5.heap.size (by rfl) (mcC (stpM x) q2) bY _ Tryd.underlying31 rfl (hm8 q2) ?_) | ((with_reducible refine at_store ?_); refine pl_store_box rfl 31 (.tmp 2) (.tmp 70) rfl w.heap.size (mcC (stpM x) q2) (by rfl) (by rfl) _ bM (by rw [List.size_toArray, mc_length hGx.r8, mc_length hgood.r8]) (hm8 q2) (mc_one _ _) ?_; intro bM2))
        have hO : Off w.heap.size w6 (w6.setCells w.heap.size 0 (mcC (stpM x) q2)) := Off.cells _ _ _ _ (Off.refl _ _) (.inl rfl)
        have hfr := hYf.far (x := stpM x)
        go_roundw
        case rel => exact ⟨k + 1, stpM x, q2, by omega, rfl, below_cells w.heap.size (mcC (stpM x) q2) 0 _ hB (by omega), bM2, (hO.toP (p := fun j => j = w.heap.size) rfl).mcX hY (hfr.mono fun j hj => by omega), hfr.mono fun j hj => by omega, hL', hO.box bX (by omega), (hO.toP (p := fun j => j = w.heap.size) rfl).mcX hX hXs, (hO.toP (p := fun j => j = w.heap.size) rfl).rowR hP hPs⟩
        case measure => simp [intOf]; omega
      · have hkN : k = N := by omega
        obtain ⟨hMx, hEnd⟩ := hL.stop (hkN.trans HN.out.symm)
        rw [HX.out] at hMx
        rw [HE.out] at hEnd
        subst hMx
        clear hlt hL hXs hPs hP hAs
        subst hkN
        have gk : ¬ (k : Int) < (k : Int) := by omega
        have h8' := stp_r8 hGx.r8
        have hm8 : ∀ q', (Tryd.prog.info? 31).map (·.size) = some (mcC (stpM X) q').length := fun q' => mach_info h8'
        have hz8 : ∀ q', z64.toArray.size = (mcC (stpM X) q').length := fun q' => by rw [mc_length h8']; rfl
        have cS := step_top X q wr hAx hGx.b (HS.out _ hB)
        have low := stp_low X
        rcases hEnd with ⟨hkF, hE15⟩ | ⟨hkF, hEs, hE0⟩
        · subst hkF
          subst hE15
          clear low
          generalize stpE X = Es at *
          go_wp2_with (first | ((with_reducible refine at_load ?_); refine pl_load_box (by rfl) 31 (.tmp 2) rfl w.heap.size (by rfl) (mcC X q) bM _ Tryd.underlying31 rfl hix ?_) | (go_at_call 13; refine (cS).mono ?_; rintro e w5 ⟨q2, rfl, hbb, hY, hYf⟩; clear cS; have n4 := bM.lt; replace bM := bM.below hbb; replace bX := bX.below hbb; replace hX := hX.below hbb; replace hAx := hAx.below hbb; replace hB := Below.step0 hB hbb;  clear hbb) | ((with_reducible refine at_alloc ?_); refine wpList_alloc1 rfl 31 rfl _ (alloc_mach _) ?_) | ((with_reducible refine at_store ?_); refine pl_store_box rfl 31 (.tmp 13) (.tmp 75) rfl w5.heap.size (mcC (stpM X) q2) (by rfl) (by rfl) z64.toArray (Box.new _ _ _) (hz8 q2) (hm8 q2) (mc_one _ _) ?_; intro bY; have n5 := bM.lt; have hbw : Below w5.heap.size w5 ((w5.alloc (.cells z64.toArray 31)).setCells w5.heap.size 0 (mcC (stpM X) q2)) := below_cells _ _ _ _ ((Below.refl _ _).alloc (Nat.le_refl _) _) (Nat.le_refl _); replace bM := bM.below hbw; replace bX := bX.below hbw; replace hX := hX.below hbw; replace hAx := hAx.below hbw; replace hB := Below.step0 hB hbw; generalize ((w5.alloc (.cells z64.toArray 31)).setCells w5.heap.size 0 (mcC (stpM X) q2)) = w6 at *; clear hbw) | ((with_reducible refine at_load ?_); refine pl_load_box (by rfl) 31 (.tmp 5) rfl w2.heap.size (by rfl) (mcC X q1) bX _ Tryd.underlying31 rfl (iX q1) ?_) | (go_at_call 15; refine (mach_eq X q q1 _ hAx hX sX.r8 sX.m sX.s sX.o).mono ?_; rintro e w7 ⟨rfl, hbb⟩;   replace hB := Below.step0 hB hbb;  clear hbb))
          go_ret
          exact ⟨rfl, hB⟩
        · have gF : (k : Int) < (F : Int) := by omega
          have g15 : (E == 15) = false := by simpa using hEs ▸ low.2.1
          rw [← hEs] at cS
          clear low hEs hE0
          go_wp2_with (first | ((with_reducible refine at_load ?_); refine pl_load_box (by rfl) 31 (.tmp 2) rfl w.heap.size (by rfl) (mcC X q) bM _ Tryd.underlying31 rfl hix ?_) | (go_at_call 13; refine (cS).mono ?_; rintro e w5 ⟨q2, rfl, hbb, hY, hYf⟩; clear cS; have n4 := bM.lt; replace bM := bM.below hbb; replace bX := bX.below hbb; replace hX := hX.below hbb; replace hAx := hAx.below hbb; replace hB := Below.step0 hB hbb;  clear hbb) | ((with_reducible refine at_alloc ?_); refine wpList_alloc1 rfl 31 rfl _ (alloc_mach _) ?_) | ((with_reducible refine at_store ?_); refine pl_store_box rfl 31 (.tmp 13) (.tmp 75) rfl w5.heap.size (mcC (stpM X) q2) (by rfl) (by rfl) z64.toArray (Box.new _ _ _) (hz8 q2) (hm8 q2) (mc_one _ _) ?_; intro bY; have n5 := bM.lt; have hbw : Below w5.heap.size w5 ((w5.alloc (.cells z64.toArray 31)).setCells w5.heap.size 0 (mcC (stpM X) q2)) := below_cells _ _ _ _ ((Below.refl _ _).alloc (Nat.le_refl _) _) (Nat.le_refl _); replace bM := bM.below hbw; replace bX := bX.below hbw; replace hX := hX.below hbw; replace hAx := hAx.below hbw; replace hB := Below.step0 hB hbw; generalize ((w5.alloc (.cells z64.toArray 31)).setCells w5.heap.size 0 (mcC (stpM X) q2)) = w6 at *; clear hbw) | ((with_reducible refine at_load ?_); refine pl_load_box (by rfl) 31 (.tmp 5) rfl w2.heap.size (by rfl) (mcC X q1) bX _ Tryd.underlying31 rfl (iX q1) ?_) | (go_at_call 15; refine (mach_eq X q q1 _ hAx hX sX.r8 sX.m sX.s sX.o).mono ?_; rintro e w7 ⟨rfl, hbb⟩;   replace hB := Below.step0 hB hbb;  clear hbb))
          go_ret
          exact ⟨rfl, hB⟩
  · have gE : (mcE x0 != 0) = true := by simpa using hE
    obtain ⟨e1, e2, e3⟩ := runX_bad (f := F) (x := x0) (by omega) hE
    rw [e1, e2, e3] at c2
    have sX := sml_zero
    clear e1 e2 e3 A0 hS hE
    generalize mcE x0 = E at *
    generalize zeroM = X at *
    have iX : ∀ q', (Tryd.prog.info? 31).map (·.size) = some (mcC X q').length := fun q' => mach_info sX.r8
    have zX : ∀ q', z64.toArray.size = (mcC X q').length := fun q' => by rw [mc_length sX.r8]; rfl
    go_enter Tryd.func9, Tryd.ntmps9
    go_wp2_with (first | ((with_reducible refine at_load ?_); refine pl_load_box (by rfl) 31 (.tmp 2) rfl w.heap.size (by rfl) (mcC x0 q0) bM _ Tryd.underlying31 rfl hi0 ?_) | (go_at_call 14; refine (keep_stepped _ (HS.out _ hB)).mono ?_; rintro e w1 ⟨rfl, hbb⟩;  replace bM := bM.below hbb; replace hB := Below.step0 hB hbb;  clear hbb) | (go_at_call 19; refine (cA _).mono ?_; rintro e wz ⟨rfl, hwz⟩; obtain rfl := hwz.symm; clear cA) | (go_at_call 23; refine (c2 q0 _ (HA.out _ hB) (HS.out _ hB)).mono ?_; rintro e w2 ⟨q1, rfl, hbb, hX, hXf⟩; clear c2; have nMX := bM.lt; replace bM := bM.below hbb; replace hB := Below.step0 hB hbb;  clear hbb) | ((with_reducible refine at_alloc ?_); refine wpList_alloc1 rfl 31 rfl _ (alloc_mach _) ?_) | ((with_reducible refine at_store ?_); refine pl_store_box rfl 31 (.tmp 5) (.tmp 23) rfl w2.heap.size (mcC X q1) (by rfl) (by rfl) z64.toArray (Box.new _ _ _) (zX q1) (iX q1) (mc_one _ _) ?_; intro bX; have nM2 := bM.lt; have hbw : Below w2.heap.size w2 ((w2.alloc (.cells z64.toArray 31)).setCells w2.heap.size 0 (mcC X q1)) := below_cells _ _ _ _ ((Below.refl _ _).alloc (Nat.le_refl _) _) (Nat.le_refl _); replace bM := bM.below hbw; replace hX := hX.below hbw; replace hB := Below.step0 hB hbw; generalize ((w2.alloc (.cells z64.toArray 31)).setCells w2.heap.size 0 (mcC X q1)) = w3 at *; clear hbw) | (go_at_call 21; refine (cC _ (HA.out _ hB)).mono ?_; rintro e wc ⟨rfl, hbb⟩;  replace bM := bM.below hbb; replace bX := bX.below hbb; replace hX := hX.below hbb; replace hB := Below.step0 hB hbb;  clear hbb))
    go_ret
    exact ⟨rfl, hB⟩

set_option maxRecDepth 1000000 in
theorem contract (H : Type) (enc : TypeId × Value → H) (W : World) (base : Nat) (args : Array Value) (ds gs : List (DataW H)) (before : List MemPlace)
    (hval : ∀ (j : Nat) t v, Tryd.f9.params[j]? = some t → args[j]? = some v → Value.okWide Tryd.prog W .any base t v)
    (hW : DataW.Whole enc Tryd.prog Tryd.f9.params.toList Rows.runStepsSpec.vars false W args.toList ds gs before) (hsh : W.ShapedOpen Tryd.prog) (hz : (DataW.weightsEach Tryd.prog (Tryd.f9.params.toList ++ (OpenSpec.ofChange Rows.runStepsSpec).bare.plain.varTypes Tryd.prog) (ds ++ gs)).all (· ≤ reachBytes) = true) (hL : laidMet Tryd.prog Rows.runStepsRow.laid W) :
    Calls Tryd.prog 9 args W fun e W' => ∃ v, e = .returned v ∧ Rows.runStepsSpec.post enc Tryd.prog Tryd.f9 false true false false W args v W' := by
  have hW' := hW
  obtain ⟨p, q, hA0, hV, rfl, hfz, hnd⟩ := hW
  have hA : DataW.TrodAll enc Tryd.prog W 0 (fun _ => true) true Tryd.f9.params.toList args.toList ds p := hA0
  rw [Tryd.params9] at hA hval
  obtain ⟨v0, vs0, d0, ds0, p0, q0, hargs, rfl, rfl, h0, r0⟩ := trodAll_cons hA
  obtain ⟨v1, vs1, d1, ds1, p1, q1, rfl, rfl, rfl, h1, r1⟩ := trodAll_cons r0
  obtain ⟨rfl, rfl, rfl⟩ := trodAll_nil r1
  obtain rfl : args = #[v0, v1] := by cases args; simp_all
  obtain ⟨rfl, rfl⟩ := trodVars_none hV
  have k0 := h0
  have lt0 : ∀ x ∈ p0, x.block < W.heap.size := by obtain ⟨m, hm⟩ := k0; exact DataW.trod_lt m _ _ _ hm
  obtain ⟨x0, q0, rfl, O0, A0⟩ := open_mach (hval 0 31 v0 rfl rfl) k0
  obtain ⟨a1, rfl, rfl, rfl, w1⟩ := open_int Tryd.underlying3 (hval 1 3 v1 rfl rfl) h1
  clear hA0
  refine (walk x0 q0 a1 O0 (bounds_i64 w1) W A0 (shp_of_laid hL (.head _))).mono fun e W' ⟨he, bel⟩ => ?_
  subst he
  exact ⟨_, rfl, _, _, _, [], _, [], hW', trodAll_mk1 (shut_bool Tryd.underlying4 _), (trodAll_cons_mk (Below.trod laidOut (by kernel_rfl) (of_decide_eq_true (by kernel_rfl)) k0 bel lt0) (trodAll_cons_mk (shut_int Tryd.underlying3 w1) trodAll_mk0)), rfl, bel.frame _, fun h => by cases h⟩

theorem reads (os : Os) {H : Type} (enc : TypeId × Value → H) : ∃ places, DataW.whole enc Tryd.prog ((World.laidAll Tryd.prog os Rows.runStepsRow.laid).forCall (fun _ _ => 0) ⟨#[], #[witM, .int .i64 0], []⟩).memory Tryd.f9.params.toList Rows.runStepsSpec.vars false (#[witM, .int .i64 0] : Array Value).toList 8 = some ([.agg [.agg [.agg [.lit (.bool false), .lit (.int .i64 0), .agg [.lit (.int .i64 0), .lit (.int .i64 0), .lit (.int .i64 0), .lit (.int .i64 0), .lit (.int .i64 0)]], .agg [.lit (.bool false), .lit (.int .i64 0), .agg [.lit (.int .i64 0), .lit (.int .i64 0), .lit (.int .i64 0), .lit (.int .i64 0), .lit (.int .i64 0)]], .agg [.lit (.bool false), .lit (.int .i64 0), .agg [.lit (.int .i64 0), .lit (.int .i64 0), .lit (.int .i64 0), .lit (.int .i64 0), .lit (.int .i64 0)]], .agg [.lit (.bool false), .lit (.int .i64 0), .agg [.lit (.int .i64 0), .lit (.int .i64 0), .lit (.int .i64 0), .lit (.int .i64 0), .lit (.int .i64 0)]], .agg [.lit (.bool false), .lit (.int .i64 0), .agg [.lit (.int .i64 0), .lit (.int .i64 0), .lit (.int .i64 0), .lit (.int .i64 0), .lit (.int .i64 0)]], .agg [.lit (.bool false), .lit (.int .i64 0), .agg [.lit (.int .i64 0), .lit (.int .i64 0), .lit (.int .i64 0), .lit (.int .i64 0), .lit (.int .i64 0)]], .agg [.lit (.bool false), .lit (.int .i64 0), .agg [.lit (.int .i64 0), .lit (.int .i64 0), .lit (.int .i64 0), .lit (.int .i64 0), .lit (.int .i64 0)]], .agg [.lit (.bool false), .lit (.int .i64 0), .agg [.lit (.int .i64 0), .lit (.int .i64 0), .lit (.int .i64 0), .lit (.int .i64 0), .lit (.int .i64 0)]]], .agg [.lit (.int .i64 0), .lit (.int .i64 0), .lit (.int .i64 0), .lit (.int .i64 0), .lit (.int .i64 0)], .nil, .nil, .nil], .lit (.int .i64 0)], [], places) :=
  ⟨[], by kernel_rfl⟩
theorem laid_met (os : Os) : laidMet Tryd.prog Rows.runStepsRow.laid ((World.laidAll Tryd.prog os Rows.runStepsRow.laid).forCall (fun _ _ => 0) ⟨#[], #[witM, .int .i64 0], []⟩).memory :=
  laidMet_laidAll _ (by kernel_rfl) (by kernel_rfl)

set_option maxRecDepth 100000 in
theorem lifted (os : Os) (started : os.Started) (H : Type) (enc : TypeId × Value → H) (F : Stop.Interp) :
    ReturnsInHanded {} Tryd.checked os 9 .any ((OpenSpec.ofChange Rows.runStepsSpec).preRow enc Tryd.prog Tryd.f9 Rows.runStepsRow.domain false Rows.runStepsRow.laid) (((OpenSpec.ofChange Rows.runStepsSpec).at F).post enc Tryd.prog Tryd.f9 false true false false) := by
  obtain ⟨places, hx⟩ := reads os enc
  refine returnsInHanded_of_row (C := Tryd.checked) (s := OpenSpec.ofChange Rows.runStepsSpec) own started (by kernel_rfl) Tryd.func9
    (witness_row_at (enc := enc) (C := Tryd.checked) false (World.laidAll Tryd.prog os Rows.runStepsRow.laid) #[witM, .int .i64 0] (World.laidAll_os _ _ _) (by kernel_rfl) (by kernel_rfl) (by kernel_rfl)
      (OpenSpec.preRow_of_cond 8 hx (by kernel_rfl) (fun k hk => by cases hk) (by kernel_rfl) (laid_met os))) ?_
  intro W base args ds gs before hval hW _ hcond hz hL hsh _
  exact contract H enc W base args ds gs before hval hW hsh hz hL

theorem said : Rows.RunStepsSaid :=
  OpenClaim.holds_of_cond 9 Tryd.f9 rfl rfl rfl rfl rfl rfl rfl ⟨rfl, rfl, rfl, rfl, rfl⟩ rfl rfl rfl rfl rfl (by kernel_rfl) Tryd.func9 (by kernel_rfl)
    (of_decide_eq_true (by kernel_rfl)) (by unfold Func.isWrapper; first | (rw [if_pos (by decide +kernel)]; kernel_rfl) | (rw [if_neg (by decide +kernel)]; exact ⟨rfl, rfl⟩))
    (fun os started H enc _ F => by rw [OpenClaim.pre_eq_preRow]; exact lifted os started H enc F)
theorem plain (f : FuncId) (fn : Func) (hf : Tryd.pinned.checked.prog.funcNamed Rows.runStepsRow.func = some f) (hfn : Tryd.pinned.checked.prog.funcs[f]? = some fn) :
    true = Tryd.pinned.checked.prog.looks [] ∧ ∀ (j : Nat) t, fn.params[j]? = some t → Tryd.pinned.checked.prog.wantsStandIn t = false := by
  obtain rfl : f = 9 := Option.some.inj ((show Tryd.prog.funcNamed Rows.runStepsRow.func = some 9 by kernel_rfl).symm.trans hf) |>.symm
  obtain rfl : fn = Tryd.f9 := (Option.some.inj (Tryd.func9.symm.trans hfn)).symm
  refine ⟨by kernel_rfl, fun j t ht => ?_⟩
  rw [Tryd.params9] at ht
  have hm : t ∈ [31, 3] := by simpa using Array.mem_of_getElem? ht
  have hall : ([31, 3].all fun u => !Tryd.prog.wantsStandIn u) = true := by kernel_rfl
  exact (show Tryd.prog.wantsStandIn t = false by simpa using List.all_eq_true.1 hall t hm)
theorem proved : Rows.RunStepsCardSaid :=
  Claim7.holds_tied_plain_at .later [] _ _ _ _ said (fun _ h => by cases h) (by kernel_rfl) (fun _ h => by cases h) runSteps_row_tie rfl ⟨rfl, rfl⟩ (by kernel_rfl) rfl plain (by kernel_rfl)
#print axioms proved
end Go.Proofs.YtigkmfccbndiiaaDoor.runSteps
