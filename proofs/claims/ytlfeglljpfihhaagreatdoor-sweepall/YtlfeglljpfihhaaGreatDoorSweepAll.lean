/- Chapters 11 and 12, P24, P25: where all cells are swept, no key is come to that has a cell, and nothing runs; for every machine. -/
import Derived.Test.YtlfeglljpfihhaaGreatDoorRows
import Derived.Test.YtlfeglljpfihhaaGreatDoorCards
import Derived.Test.YtlfeglljpfihhaaGreatDoorTie
import Derived.Test.YtlfeglljpfihhaaGreatDoorCardBaseX
import Derived.Test.YtlfeglljpfihhaaGreatDoorInstShapeX
import Derived.Test.YtlfeglljpfihhaaGreatDoorMemPureX
import Derived.Carry
import Derived.Test.YtlfeglljpfihhaaGreatDoorStepRowX
import Derived.Test.YtlfeglljpfihhaaGreatDoorStepOffX
import Derived.Test.YtlfeglljpfihhaaGreatDoorStepOwnedX
import Derived.Test.YtlfeglljpfihhaaGreatDoorStepStepX
import Derived.Test.YtlfeglljpfihhaaGreatDoorRangeWX
import Derived.Test.YtlfeglljpfihhaaGreatDoorMemChkX
import Derived.Test.YtlfeglljpfihhaaGreatDoorRunBaseX
import Derived.Test.YtlfeglljpfihhaaGreatDoorRunTopX
import Derived.Test.YtlfeglljpfihhaaGreatDoorStepChkX
import Derived.Test.YtlfeglljpfihhaaGreatDoorReachSeekX
import Derived.Test.YtlfeglljpfihhaaGreatDoorReachListX
import Derived.Test.YtlfeglljpfihhaaGreatDoorSweepPureX
import Derived.Test.YtlfeglljpfihhaaGreatDoorSweepTopX
import Derived.WalkKit
import Derived.ProofKit
import Derived.OpenShut
import Derived.Deep.DeepHandedRow
import Derived.Deep.DeepWitnessRowRef
import Derived.Lay
import Derived.MakeChecks
import Derived.SizedLaws
import Derived.Lib.LaidTab
namespace Go.Proofs.YtlfeglljpfihhaaGreatDoor.sweepAll
open Go.ChangeShapes Go.WideShapes Go.ChangeAt Go.RowKit
set_option linter.unusedVariables false
set_option linter.unusedSimpArgs false

theorem own : ownKnob Tryz.prog.godebug = none := by kernel_rfl
theorem laidOut : laidOutB Tryz.prog = true := by kernel_rfl
def witM : Value := .agg #[.bool false, .int .i64 0, .int .i64 0, .int .i64 0, .int .i64 0, .int .i64 0, .int .i64 0, .bool false, .int .i64 0, .int .i64 0, .int .i64 0, .int .i64 0, .int .i64 0, .int .i64 0, .bool false, .int .i64 0, .int .i64 0, .int .i64 0, .int .i64 0, .int .i64 0, .int .i64 0, .bool false, .int .i64 0, .int .i64 0, .int .i64 0, .int .i64 0, .int .i64 0, .int .i64 0, .bool false, .int .i64 0, .int .i64 0, .int .i64 0, .int .i64 0, .int .i64 0, .int .i64 0, .bool false, .int .i64 0, .int .i64 0, .int .i64 0, .int .i64 0, .int .i64 0, .int .i64 0, .bool false, .int .i64 0, .int .i64 0, .int .i64 0, .int .i64 0, .int .i64 0, .int .i64 0, .bool false, .int .i64 0, .int .i64 0, .int .i64 0, .int .i64 0, .int .i64 0, .int .i64 0, .int .i64 0, .int .i64 0, .int .i64 0, .int .i64 0, .int .i64 0, .slice none 0 0, .slice none 0 0, .slice none 0 0]

theorem run_x (x : MC) (f : Int) (q : MA) (w : World) (hA : McAt w x q) (hO : McB x) (hS : Shp w) :
    Calls Tryz.prog 8 #[.agg (mcC x q).toArray, .int .i64 f] w fun e w' => ∃ q', e = .returned (.tuple #[.agg (mcC (runX f x) q').toArray, .int .i64 (runK f x), .int .i64 (runF f x)]) ∧ Below w.heap.size w w' ∧ McAt w' (runX f x) q' ∧ FarX (fun k => k < w.heap.size) (runX f x) q' := run_run x q f w hA hO hS
theorem sv_no {b n : Int} {v : MV} (hi : (swV b n v).i = true) : strk b n (vK (swV b n v)) = false := by
  have h := swV_hit b n b n v
  rw [Bool.and_not_self] at h
  unfold hitV at h
  rw [hi, Bool.true_and] at h
  exact h
theorem sk_no {b n : Int} {k : K5} : strk b n (swK b n k) = false := by
  rw [swK_hit, Bool.and_not_self]
theorem sw_free {b n : Int} {x : MC} {d : Bool} {k : K5} (hk : Has (swM b n x) d k) : strk b n k = false := by
  cases hk with
  | rt hr =>
    cases hr with
    | reg v hv hi =>
      obtain ⟨u, _, rfl⟩ := List.mem_map.1 (show v ∈ x.r.map (swV b n) from hv)
      exact sv_no hi
    | code => exact sk_no
    | fc hd f hf =>
      obtain ⟨u, _, rfl⟩ := List.mem_map.1 (show f ∈ x.s.map (swF b n) from hf)
      exact sk_no
    | fd hd f hf hi =>
      obtain ⟨u, _, rfl⟩ := List.mem_map.1 (show f ∈ x.s.map (swF b n) from hf)
      exact sv_no hi
  | cell r j v _ _ _ _ hm hi =>
    obtain ⟨u, _, rfl⟩ := List.mem_map.1 (show v ∈ x.m.map (swV b n) from List.mem_of_getElem? hm)
    exact sv_no hi
theorem has_ok {x : MC} {d : Bool} (h : mcE x = 0) {k : K5} (hk : Has x d k) : ok5 k := by
  obtain ⟨h1, h2, h3, h4, h5⟩ := mc_zero.1 h
  cases hk with
  | rt hr =>
    cases hr with
    | reg v hv hi => exact ok_val (chkL_all.1 h1 v hv) hi
    | code => exact ok_key h2
    | fc hd f hf => exact ok_key (fr_zero.1 (frs_all.1 (stk_zero.1 h4).2 f hf)).1
    | fd hd f hf hi => exact ok_val (fr_zero.1 (frs_all.1 (stk_zero.1 h4).2 f hf)).2 hi
  | cell r j v _ _ _ _ hm hi => exact ok_val (chkL_all.1 (mem_small h3).2 v (List.mem_of_getElem? hm)) hi
theorem sw_none {x : MC} {d : Bool} {k : K5} (h : mcE x = 0) (hk : Has (swM 0 400 x) d k) : ¬ 0 < k.l := by
  have h1 := sw_free hk
  obtain ⟨-, -, h2, h3, h4, -⟩ := ok_lit (has_ok (sw_mc h) hk)
  intro h5
  unfold strk at h1
  rw [decide_eq_false_iff_not] at h1
  omega
theorem sw_b {x : MC} (h8 : x.r.length = 8) (h : mcE x = 0) : Good (swM 0 400 x) := good_of (by show (x.r.map (swV 0 400)).length = 8; rw [List.length_map, h8]) (sw_mc h)
theorem sw_stop {x : MC} (h8 : x.r.length = 8) (h : mcE x = 0) : ¬ stpE (swM 0 400 x) = 0 := fun hs => by
  have hG := sw_b h8 h
  obtain ⟨_, hf, _⟩ := step_eff hG.r8 hs
  have hc := (fet_at hG.m hf).2.2.1
  exact sw_none h (.rt .code : Has (swM 0 400 x) true (swM 0 400 x).k) (cov5_lit.1 hc).1
set_option maxHeartbeats 4000000 in
set_option maxRecDepth 1000000 in
theorem walk (x0 : MC) (q0 : MA) (O0 : McOk x0 q0) (w : World) (A0 : McAt w x0 q0) (hS : Shp w) :
    Calls Tryz.prog 4 #[.agg (mcC x0 q0).toArray] w fun e w' => e = .returned (.bool true) ∧ Below w.heap.size w w' := by
  have hi0 : (Tryz.prog.info? 31).map (·.size) = some (mcC x0 q0).length := mach_info O0.r8
  have HA : Hid (∀ w', Below w.heap.size w w' → McAt w' x0 q0) := fun w' hb => A0.below hb
  have HS : Hid (∀ w', Below w.heap.size w w' → Shp w') := fun w' hb => hS.below hb
  have bM := Box.new w (mcC x0 q0).toArray 31
  have hB : Below w.heap.size w (w.alloc (.cells (mcC x0 q0).toArray 31)) := (Below.refl _ _).alloc (Nat.le_refl _) _
  have r0 := O0.r8
  have cW := fun W hA => sweep_top x0 q0 0 400 W hA O0.toMcB (by decide) (by decide)
  by_cases hE : mcE x0 = 0
  rotate_left 1
  · have e1 : swE 0 400 x0 = mcE x0 := by unfold swE; exact if_neg hE
    have hz : ¬ swE 0 400 x0 = 0 := by rw [e1]; exact hE
    have e2 : swA 0 400 x0 = zeroM := by unfold swA; exact if_neg hz
    rw [e2, e1] at cW
    have gE : (mcE x0 != 0) = true := by simpa using hE
    obtain ⟨X, hX0⟩ : ∃ X, zeroM = X := ⟨_, rfl⟩
    have rX : X.r.length = 8 := by rw [← hX0]; rfl
    rw [hX0] at cW
    have iX : ∀ q', (Tryz.prog.info? 31).map (·.size) = some (mcC X q').length := fun q' => mach_info rX
    have zX : ∀ q', z64.toArray.size = (mcC X q').length := fun q' => by rw [mc_length rX]; rfl
    generalize mcE x0 = E at *
    generalize swN 0 400 x0 = N at *
    clear e1 e2 hE hz A0 hS O0 hX0
    go_enter Tryz.func4, Tryz.ntmps4
    go_wp2_with (first | ((with_reducible refine at_load ?_); refine pl_load_box (by rfl) 31 (.tmp 1) rfl w.heap.size (by rfl) (mcC x0 q0) bM _ Tryz.underlying31 rfl hi0 ?_) | (go_at_call 10; refine (cW _ (HA.out _ hB)).mono ?_; rintro e w1 ⟨q1, rfl, hbb, hX, -⟩; replace hB := Below.step0 hB hbb; clear hbb cW) | ((with_reducible refine at_alloc ?_); refine wpList_alloc1 rfl 31 rfl _ (alloc_mach _) ?_) | ((with_reducible refine at_store ?_); refine pl_store_box rfl 31 (.tmp 3) (.tmp 16) rfl w1.heap.size (mcC X q1) (by rfl) (by rfl) z64.toArray (Box.new _ _ _) (zX q1) (iX q1) (mc_one _ _) ?_; intro bX; have hbw : Below w1.heap.size w1 ((w1.alloc (.cells z64.toArray 31)).setCells w1.heap.size 0 (mcC X q1)) := below_cells _ _ _ _ ((Below.refl _ _).alloc (Nat.le_refl _) _) (Nat.le_refl _); replace hX := hX.below hbw; replace hB := Below.step0 hB hbw; generalize ((w1.alloc (.cells z64.toArray 31)).setCells w1.heap.size 0 (mcC X q1)) = w2 at *; clear hbw) | (go_at_call 11; refine (keep_swept _).mono ?_; rintro e w3 ⟨rfl, hbb⟩; replace bX := bX.below hbb; replace hX := hX.below hbb; replace hB := Below.step0 hB hbb; clear hbb))
    go_ret
    exact ⟨rfl, hB⟩
  have e1 : swE 0 400 x0 = 0 := by unfold swE; rw [if_pos hE]; rfl
  have e2 : swA 0 400 x0 = swM 0 400 x0 := by unfold swA; exact if_pos e1
  rw [e2, e1] at cW
  have GX := sw_b r0 hE
  have hno := fun k (hk : Has (swM 0 400 x0) true k) => sw_none hE hk
  have hst := sw_stop r0 hE
  clear e1 e2
  generalize swM 0 400 x0 = X at *
  generalize swN 0 400 x0 = N at *
  have rX := GX.r8
  have iX : ∀ q', (Tryz.prog.info? 31).map (·.size) = some (mcC X q').length := fun q' => mach_info rX
  have zX : ∀ q', z64.toArray.size = (mcC X q').length := fun q' => by rw [mc_length rX]; rfl
  have cK0 := fun q1 W (hA : McAt W X q1) => reach_keys X q1 true W hA GX.b hA.c.2.1 hA.c.2.2 GX.e
  have c20 := fun q1 W hA hS => run_x X ((5 : Nat) : Int) q1 W hA GX.b hS
  obtain ⟨f1, f2, f3⟩ := runX_good (f := 5) (x := X) (by omega) GX.e
  have g1 : runM 5 X = X := by unfold runM; exact if_neg hst
  have g2 : runN 5 X = 0 := by unfold runN; exact if_neg hst
  have g3 : runE 5 X = stpE X := by unfold runE; exact if_neg hst
  rw [g1] at f1
  rw [g2] at f2
  rw [g3] at f3
  rw [f1, f2, f3] at c20
  have gE : (stpE X != 0) = true := by simpa using hst
  generalize stpE X = E at *
  clear f1 f2 f3 g1 g2 g3 hst hE A0 hS GX O0
  go_enter Tryz.func4, Tryz.ntmps4
  go_upto_region 6 with (first | ((with_reducible refine at_load ?_); refine pl_load_box (by rfl) 31 (.tmp 1) rfl w.heap.size (by rfl) (mcC x0 q0) bM _ Tryz.underlying31 rfl hi0 ?_) | (go_at_call 10; refine (cW _ (HA.out _ hB)).mono ?_; rintro e w1 ⟨q1, rfl, hbb, hX, -⟩; replace hB := Below.step0 hB hbb; clear hbb cW) | ((with_reducible refine at_alloc ?_); refine wpList_alloc1 rfl 31 rfl _ (alloc_mach _) ?_) | ((with_reducible refine at_store ?_); refine pl_store_box rfl 31 (.tmp 3) (.tmp 16) rfl w1.heap.size (mcC X q1) (by rfl) (by rfl) z64.toArray (Box.new _ _ _) (zX q1) (iX q1) (mc_one _ _) ?_; intro bX; have hbw : Below w1.heap.size w1 ((w1.alloc (.cells z64.toArray 31)).setCells w1.heap.size 0 (mcC X q1)) := below_cells _ _ _ _ ((Below.refl _ _).alloc (Nat.le_refl _) _) (Nat.le_refl _); replace hX := hX.below hbw; replace hB := Below.step0 hB hbw; generalize ((w1.alloc (.cells z64.toArray 31)).setCells w1.heap.size 0 (mcC X q1)) = w2 at *; clear hbw) | (go_at_call 11; refine (keep_swept _).mono ?_; rintro e w3 ⟨rfl, hbb⟩; replace bX := bX.below hbb; replace hX := hX.below hbb; replace hB := Below.step0 hB hbb; clear hbb))
  have cK := cK0 q1
  have c2 := c20 q1
  clear cK0 c20
  go_upto_region 10 with (first | ((with_reducible refine at_load ?_); refine pl_load_box (by rfl) 31 (.tmp 3) rfl w1.heap.size (by rfl) (mcC X q1) bX _ Tryz.underlying31 rfl (iX q1) ?_) | (go_at_call 7; refine (cK _ hX).mono ?_; rintro e w4 ⟨ak, ck, ks, rfl, hbb, na, la, ja, -⟩; replace bX := bX.below hbb; replace hX := hX.below hbb; replace hB := Below.step0 hB hbb; clear hbb cK))
  have HK : Hid (∀ k ∈ ks, ¬ 0 < k.l) := fun k hk => Int.not_lt.2 (hno k ((ja k).1 hk))
  have HR : Hid (∀ W, Below w4.heap.size w4 W → RowAt W ak (ks.flatMap k5C)) := fun W hb => na.below hb
  clear ja na hno
  go_loopw [32] (fun i wr => ∃ j : Nat, j ≤ ks.length ∧ i = .int .i64 (j : Int) ∧ Below w4.heap.size w4 wr) (fun i _ => ks.length - (intOf i).toNat)
  case atStart => exact ⟨0, Nat.zero_le _, rfl, Below.refl _ _⟩
  case round =>
    obtain ⟨j, hj, rfl, hb4⟩ := hrel
    replace hB := Below.step0 hB hb4
    replace bX := bX.below hb4
    replace hX := hX.below hb4
    by_cases hlt : j < ks.length
    · have gk : (j : Int) < (ks.length : Int) := by omega
      have hw1 : IntKind.i64.wrap ((j : Int) + 1) = (j : Int) + 1 := by rw [IntKind.wrap_i64]; omega
      obtain ⟨y, hy⟩ : ∃ y, ks[j]? = some y := ⟨_, List.getElem?_eq_getElem hlt⟩
      obtain ⟨Bk, off, rfl, hBl, c0, c1, c22, c3, c4⟩ := keys_at (HR.out _ hb4) hy
      have gl := HK.out y (List.mem_of_getElem? hy)
      have b5 : Below w4.heap.size w4 (wr.alloc (.cells #[.int .i64 y.p, .int .i64 y.b, .int .i64 y.l, .int .i64 y.a, .int .i64 y.s] 23)) := hb4.alloc hb4.size _
      clear hy hb4 hB bX hX c2
      go_wp2
      go_roundw
      case rel => first | exact ⟨j + 1, by omega, rfl, b5⟩ | exact ⟨_, ⟨j + 1, by omega, rfl⟩, b5⟩
      case measure => simp [intOf]; omega
    · obtain rfl : j = ks.length := by omega
      have gk : ¬ (ks.length : Int) < (ks.length : Int) := by omega
      go_wp2_with (first | ((with_reducible refine at_load ?_); refine pl_load_box (by rfl) 31 (.tmp 3) rfl w1.heap.size (by rfl) (mcC X q1) bX _ Tryz.underlying31 rfl (iX q1) ?_) | (go_at_call 8; refine (c2 _ hX (HS.out _ hB)).mono ?_; rintro e w7 ⟨q2, rfl, hbb, -, -⟩; replace hB := Below.step0 hB hbb; clear hbb c2) | ((with_reducible refine at_alloc ?_); refine wpList_alloc1 rfl 31 rfl _ (alloc_mach _) ?_) | ((with_reducible refine at_store ?_); refine pl_store_box rfl 31 (.tmp 10) (.tmp 43) rfl w7.heap.size (mcC X q2) (by rfl) (by rfl) z64.toArray (Box.new _ _ _) (zX q2) (iX q2) (mc_one _ _) ?_; intro bY; have hbw : Below w7.heap.size w7 ((w7.alloc (.cells z64.toArray 31)).setCells w7.heap.size 0 (mcC X q2)) := below_cells _ _ _ _ ((Below.refl _ _).alloc (Nat.le_refl _) _) (Nat.le_refl _); replace hB := Below.step0 hB hbw; generalize ((w7.alloc (.cells z64.toArray 31)).setCells w7.heap.size 0 (mcC X q2)) = w8 at *; clear hbw))
      go_ret
      exact ⟨rfl, hB⟩

set_option maxRecDepth 1000000 in
theorem contract (H : Type) (enc : TypeId × Value → H) (W : World) (base : Nat) (args : Array Value) (ds gs : List (DataW H)) (before : List MemPlace)
    (hval : ∀ (j : Nat) t v, Tryz.f4.params[j]? = some t → args[j]? = some v → Value.okWide Tryz.prog W .any base t v)
    (hW : DataW.Whole enc Tryz.prog Tryz.f4.params.toList Rows.sweepAllSpec.vars false W args.toList ds gs before) (hsh : W.ShapedOpen Tryz.prog) (hz : (DataW.weightsEach Tryz.prog (Tryz.f4.params.toList ++ (OpenSpec.ofChange Rows.sweepAllSpec).bare.plain.varTypes Tryz.prog) (ds ++ gs)).all (· ≤ reachBytes) = true) (hL : laidMet Tryz.prog Rows.sweepAllRow.laid W) :
    Calls Tryz.prog 4 args W fun e W' => ∃ v, e = .returned v ∧ Rows.sweepAllSpec.post enc Tryz.prog Tryz.f4 false true false false W args v W' := by
  have hW' := hW
  obtain ⟨p, q, hA0, hV, rfl, hfz, hnd⟩ := hW
  have hA : DataW.TrodAll enc Tryz.prog W 0 (fun _ => true) true Tryz.f4.params.toList args.toList ds p := hA0
  rw [Tryz.params4] at hA hval
  obtain ⟨v0, vs0, d0, ds0, p0, q0, hargs, rfl, rfl, h0, r0⟩ := trodAll_cons hA
  obtain ⟨rfl, rfl, rfl⟩ := trodAll_nil r0
  obtain rfl : args = #[v0] := by cases args; simp_all
  obtain ⟨rfl, rfl⟩ := trodVars_none hV
  have k0 := h0
  have lt0 : ∀ x ∈ p0, x.block < W.heap.size := by obtain ⟨m, hm⟩ := k0; exact DataW.trod_lt m _ _ _ hm
  obtain ⟨x0, q0, rfl, O0, A0⟩ := open_mach (hval 0 31 v0 rfl rfl) k0
  clear hA0
  refine (walk x0 q0 O0 W A0 (shp_of_laid hL (.head _))).mono fun e W' ⟨he, bel⟩ => ?_
  subst he
  exact ⟨_, rfl, _, _, _, [], _, [], hW', trodAll_mk1 (shut_bool Tryz.underlying4 _), (trodAll_cons_mk (Below.trod laidOut (by kernel_rfl) (of_decide_eq_true (by kernel_rfl)) k0 bel lt0) trodAll_mk0), rfl, bel.frame _, fun h => by cases h⟩

theorem reads (os : Os) {H : Type} (enc : TypeId × Value → H) : ∃ places, DataW.whole enc Tryz.prog ((World.laidAll Tryz.prog os Rows.sweepAllRow.laid).forCall (fun _ _ => 0) ⟨#[], #[witM], []⟩).memory Tryz.f4.params.toList Rows.sweepAllSpec.vars false (#[witM] : Array Value).toList 8 = some ([.agg [.agg [.agg [.lit (.bool false), .lit (.int .i64 0), .agg [.lit (.int .i64 0), .lit (.int .i64 0), .lit (.int .i64 0), .lit (.int .i64 0), .lit (.int .i64 0)]], .agg [.lit (.bool false), .lit (.int .i64 0), .agg [.lit (.int .i64 0), .lit (.int .i64 0), .lit (.int .i64 0), .lit (.int .i64 0), .lit (.int .i64 0)]], .agg [.lit (.bool false), .lit (.int .i64 0), .agg [.lit (.int .i64 0), .lit (.int .i64 0), .lit (.int .i64 0), .lit (.int .i64 0), .lit (.int .i64 0)]], .agg [.lit (.bool false), .lit (.int .i64 0), .agg [.lit (.int .i64 0), .lit (.int .i64 0), .lit (.int .i64 0), .lit (.int .i64 0), .lit (.int .i64 0)]], .agg [.lit (.bool false), .lit (.int .i64 0), .agg [.lit (.int .i64 0), .lit (.int .i64 0), .lit (.int .i64 0), .lit (.int .i64 0), .lit (.int .i64 0)]], .agg [.lit (.bool false), .lit (.int .i64 0), .agg [.lit (.int .i64 0), .lit (.int .i64 0), .lit (.int .i64 0), .lit (.int .i64 0), .lit (.int .i64 0)]], .agg [.lit (.bool false), .lit (.int .i64 0), .agg [.lit (.int .i64 0), .lit (.int .i64 0), .lit (.int .i64 0), .lit (.int .i64 0), .lit (.int .i64 0)]], .agg [.lit (.bool false), .lit (.int .i64 0), .agg [.lit (.int .i64 0), .lit (.int .i64 0), .lit (.int .i64 0), .lit (.int .i64 0), .lit (.int .i64 0)]]], .agg [.lit (.int .i64 0), .lit (.int .i64 0), .lit (.int .i64 0), .lit (.int .i64 0), .lit (.int .i64 0)], .nil, .nil, .nil]], [], places) :=
  ⟨[], by kernel_rfl⟩
theorem laid_met (os : Os) : laidMet Tryz.prog Rows.sweepAllRow.laid ((World.laidAll Tryz.prog os Rows.sweepAllRow.laid).forCall (fun _ _ => 0) ⟨#[], #[witM], []⟩).memory :=
  laidMet_laidAll _ (by kernel_rfl) (by kernel_rfl)

set_option maxRecDepth 100000 in
theorem lifted (os : Os) (started : os.Started) (H : Type) (enc : TypeId × Value → H) (F : Stop.Interp) :
    ReturnsInHanded {} Tryz.checked os 4 .any ((OpenSpec.ofChange Rows.sweepAllSpec).preRow enc Tryz.prog Tryz.f4 Rows.sweepAllRow.domain false Rows.sweepAllRow.laid) (((OpenSpec.ofChange Rows.sweepAllSpec).at F).post enc Tryz.prog Tryz.f4 false true false false) := by
  obtain ⟨places, hx⟩ := reads os enc
  refine returnsInHanded_of_row (C := Tryz.checked) (s := OpenSpec.ofChange Rows.sweepAllSpec) own started (by kernel_rfl) Tryz.func4
    (witness_row_at (enc := enc) (C := Tryz.checked) false (World.laidAll Tryz.prog os Rows.sweepAllRow.laid) #[witM] (World.laidAll_os _ _ _) (by kernel_rfl) (by kernel_rfl) (by kernel_rfl)
      (OpenSpec.preRow_of_cond 8 hx (by kernel_rfl) (fun k hk => by cases hk) (by kernel_rfl) (laid_met os))) ?_
  intro W base args ds gs before hval hW _ hcond hz hL hsh _
  exact contract H enc W base args ds gs before hval hW hsh hz hL

theorem said : Rows.SweepAllSaid :=
  OpenClaim.holds_of_cond 4 Tryz.f4 rfl rfl rfl rfl rfl rfl rfl ⟨rfl, rfl, rfl, rfl, rfl⟩ rfl rfl rfl rfl rfl (by kernel_rfl) Tryz.func4 (by kernel_rfl)
    (of_decide_eq_true (by kernel_rfl)) (by unfold Func.isWrapper; first | (rw [if_pos (by decide +kernel)]; kernel_rfl) | (rw [if_neg (by decide +kernel)]; exact ⟨rfl, rfl⟩))
    (fun os started H enc _ F => by rw [OpenClaim.pre_eq_preRow]; exact lifted os started H enc F)
theorem plain (f : FuncId) (fn : Func) (hf : Tryz.pinned.checked.prog.funcNamed Rows.sweepAllRow.func = some f) (hfn : Tryz.pinned.checked.prog.funcs[f]? = some fn) :
    true = Tryz.pinned.checked.prog.looks [] ∧ ∀ (j : Nat) t, fn.params[j]? = some t → Tryz.pinned.checked.prog.wantsStandIn t = false := by
  obtain rfl : f = 4 := Option.some.inj ((show Tryz.prog.funcNamed Rows.sweepAllRow.func = some 4 by kernel_rfl).symm.trans hf) |>.symm
  obtain rfl : fn = Tryz.f4 := (Option.some.inj (Tryz.func4.symm.trans hfn)).symm
  refine ⟨by kernel_rfl, fun j t ht => ?_⟩
  rw [Tryz.params4] at ht
  have hm : t ∈ [31] := by simpa using Array.mem_of_getElem? ht
  have hall : ([31].all fun u => !Tryz.prog.wantsStandIn u) = true := by kernel_rfl
  exact (show Tryz.prog.wantsStandIn t = false by simpa using List.all_eq_true.1 hall t hm)
theorem proved : Rows.SweepAllCardSaid :=
  Claim7.holds_tied_plain_at .later [] _ _ _ _ said (fun _ h => by cases h) (by kernel_rfl) (fun _ h => by cases h) sweepAll_row_tie rfl ⟨rfl, rfl⟩ (by kernel_rfl) rfl plain (by kernel_rfl)
#print axioms proved
end Go.Proofs.YtlfeglljpfihhaaGreatDoor.sweepAll
