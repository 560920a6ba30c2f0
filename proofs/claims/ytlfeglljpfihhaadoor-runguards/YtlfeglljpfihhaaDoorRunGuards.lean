/- Chapters 10 and 11, P23, P24: a cell that nothing that is come to allows to store is as it was, however long it runs; for every machine and any number. -/
import Derived.Test.YtlfeglljpfihhaaDoorRows
import Derived.Test.YtlfeglljpfihhaaDoorCards
import Derived.Test.YtlfeglljpfihhaaDoorTie
import Derived.Test.YtlfeglljpfihhaaDoorCardBaseX
import Derived.Test.YtlfeglljpfihhaaDoorInstShapeX
import Derived.Test.YtlfeglljpfihhaaDoorMemPureX
import Derived.Carry
import Derived.Test.YtlfeglljpfihhaaDoorStepRowX
import Derived.Test.YtlfeglljpfihhaaDoorStepOffX
import Derived.Test.YtlfeglljpfihhaaDoorStepOwnX
import Derived.Test.YtlfeglljpfihhaaDoorStepStepX
import Derived.Test.YtlfeglljpfihhaaDoorRangeWX
import Derived.Test.YtlfeglljpfihhaaDoorKeepOpX
import Derived.Test.YtlfeglljpfihhaaDoorMemChkX
import Derived.Test.YtlfeglljpfihhaaDoorRunBaseX
import Derived.Test.YtlfeglljpfihhaaDoorRunTopX
import Derived.Test.YtlfeglljpfihhaaDoorStepChkX
import Derived.Test.YtlfeglljpfihhaaDoorReachListX
import Derived.Test.YtlfeglljpfihhaaDoorReachResX
import Derived.WalkKit
import Derived.ProofKit
import Derived.OpenShut
import Derived.Deep.DeepHandedRow
import Derived.Deep.DeepWitnessRowRef
import Derived.Lay
import Derived.MakeChecks
import Derived.SizedLaws
import Derived.Lib.LaidTab
namespace Go.Proofs.YtlfeglljpfihhaaDoor.runGuards
open Go.ChangeShapes Go.WideShapes Go.ChangeAt Go.RowKit
set_option linter.unusedVariables false
set_option linter.unusedSimpArgs false

theorem own : ownKnob Tryd.prog.godebug = none := by kernel_rfl
theorem laidOut : laidOutB Tryd.prog = true := by kernel_rfl
def witM : Value := .agg #[.bool false, .int .i64 0, .int .i64 0, .int .i64 0, .int .i64 0, .int .i64 0, .int .i64 0, .bool false, .int .i64 0, .int .i64 0, .int .i64 0, .int .i64 0, .int .i64 0, .int .i64 0, .bool false, .int .i64 0, .int .i64 0, .int .i64 0, .int .i64 0, .int .i64 0, .int .i64 0, .bool false, .int .i64 0, .int .i64 0, .int .i64 0, .int .i64 0, .int .i64 0, .int .i64 0, .bool false, .int .i64 0, .int .i64 0, .int .i64 0, .int .i64 0, .int .i64 0, .int .i64 0, .bool false, .int .i64 0, .int .i64 0, .int .i64 0, .int .i64 0, .int .i64 0, .int .i64 0, .bool false, .int .i64 0, .int .i64 0, .int .i64 0, .int .i64 0, .int .i64 0, .int .i64 0, .bool false, .int .i64 0, .int .i64 0, .int .i64 0, .int .i64 0, .int .i64 0, .int .i64 0, .int .i64 0, .int .i64 0, .int .i64 0, .int .i64 0, .int .i64 0, .slice none 0 0, .slice none 0 0, .slice none 0 0]

theorem run_x (x : MC) (f : Int) (q : MA) (w : World) (hA : McAt w x q) (hO : McB x) (hS : Shp w) :
    Calls Tryd.prog 20 #[.agg (mcC x q).toArray, .int .i64 f] w fun e w' => ∃ q', e = .returned (.tuple #[.agg (mcC (runX f x) q').toArray, .int .i64 (runK f x), .int .i64 (runF f x)]) ∧ Below w.heap.size w w' ∧ McAt w' (runX f x) q' ∧ FarX (fun k => k < w.heap.size) (runX f x) q' := run_run x q f w hA hO hS
theorem at_of {w : World} {a : Option Addr} {B off k : Nat} {vs : List MV} {v : MV} (h : ValsAt w a vs) (hk : vs[k]? = some v) (e : a = some ⟨B, off, none⟩) : At7 w B (off + k * 7) v := by
  obtain ⟨B', off', e', _, h7⟩ := h.at hk
  rw [e] at e'
  simp only [Option.some.injEq, Addr.mk.injEq, and_true] at e'
  obtain ⟨rfl, rfl⟩ := e'
  exact h7
set_option maxHeartbeats 4000000 in
set_option maxRecDepth 1000000 in
theorem walk (x0 : MC) (q0 : MA) (a1 : Int) (O0 : McOk x0 q0) (b1 : -9223372036854775808 ≤ a1 ∧ a1 ≤ 9223372036854775807) (w : World) (A0 : McAt w x0 q0) (hS : Shp w) :
    Calls Tryd.prog 6 #[.agg (mcC x0 q0).toArray, .int .i64 a1] w fun e w' => e = .returned (.bool true) ∧ Below w.heap.size w w' := by
  have hi0 : (Tryd.prog.info? 31).map (·.size) = some (mcC x0 q0).length := mach_info O0.r8
  have HA : Hid (∀ w', Below w.heap.size w w' → McAt w' x0 q0) := fun w' hb => A0.below hb
  have HS : Hid (∀ w', Below w.heap.size w w' → Shp w') := fun w' hb => hS.below hb
  have bM := Box.new w (mcC x0 q0).toArray 31
  have hB : Below w.heap.size w (w.alloc (.cells (mcC x0 q0).toArray 31)) := (Below.refl _ _).alloc (Nat.le_refl _) _
  obtain ⟨F, hF⟩ : ∃ F : Nat, a1 % 2000 = (F : Int) := ⟨(a1 % 2000).toNat, by omega⟩
  have lF : F < 2000 := by omega
  have cR := fun w => ref_rest a1 2000 w b1 (by omega)
  rw [hF] at cR
  clear hF
  have r0 := O0.r8
  have c2 := fun w hA hS => run_x x0 F q0 w hA O0.toMcB hS
  by_cases hE : mcE x0 = 0
  rotate_left 1
  · have cA := fun w hA => reach_cls_no x0 q0 2 true w hA O0.toMcB hE
    obtain ⟨e1, e2, e3⟩ := runX_bad (f := F) (x := x0) (by omega) hE
    rw [e1, e2, e3] at c2
    have gE : (mcE x0 != 0) = true := by simpa using hE
    generalize mcE x0 = E at *
    have iZ : ∀ q', (Tryd.prog.info? 31).map (·.size) = some (mcC zeroM q').length := fun q' => mach_info rfl
    have zZ : ∀ q', z64.toArray.size = (mcC zeroM q').length := fun q' => rfl
    have mZ : ∀ (W : World) (B : Nat) q', Box W B (mcC zeroM q').toArray → W.cell? ⟨B, 61, none⟩ = some (.slice q'.m 0 q'.cm) := fun W B q' hb => (mc_tail hb rfl).lm
    clear e1 e2 e3 hE A0 hS O0
    go_enter Tryd.func6, Tryd.ntmps6
    go_upto_region 6 with (first | (go_at_call 9; refine (keep_stepped _ (HS.out _ hB)).mono ?_; rintro e w1 ⟨rfl, hbb⟩; try replace bM := bM.below hbb; replace hB := Below.step0 hB hbb; clear hbb ) | (go_at_call 11; refine (cR _).mono ?_; rintro e wr1 ⟨rfl, rfl⟩; clear cR) | ((with_reducible refine at_load ?_); refine pl_load_box (by rfl) 31 (.tmp 2) rfl (w.heap.size) (by rfl) (mcC x0 q0) bM _ Tryd.underlying31 rfl hi0 ?_) | (go_at_call 18; refine (cA _ (HA.out _ hB)).mono ?_; rintro e w2 ⟨rfl, hbb⟩; try replace bM := bM.below hbb; replace hB := Below.step0 hB hbb; clear hbb cA) | (go_at_call 20; refine (c2 _ (HA.out _ hB) (HS.out _ hB)).mono ?_; rintro e w3 ⟨q1, rfl, hbb, hX, hF⟩; try replace bM := bM.below hbb; replace hB := Below.step0 hB hbb; clear hbb c2) | ((with_reducible refine at_alloc ?_); refine wpList_alloc1 rfl 31 rfl _ (alloc_mach _) ?_) | ((with_reducible refine at_store ?_); refine pl_store_box rfl 31 (.tmp 7) (.tmp 24) rfl w3.heap.size (mcC zeroM q1) (by rfl) (by rfl) z64.toArray (Box.new _ _ _) (zZ q1) (iZ q1) (mc_one _ _) ?_; intro bX; have hbw : Below w3.heap.size w3 ((w3.alloc (.cells z64.toArray 31)).setCells w3.heap.size 0 (mcC zeroM q1)) := below_cells _ _ _ _ ((Below.refl _ _).alloc (Nat.le_refl _) _) (Nat.le_refl _); try replace bM := bM.below hbw; replace hB := Below.step0 hB hbw; generalize ((w3.alloc (.cells z64.toArray 31)).setCells w3.heap.size 0 (mcC zeroM q1)) = w4 at *; clear hbw))
    have lm := mZ _ _ _ bX
    go_wp2
    go_ret
    exact ⟨rfl, hB⟩
  · have cA := fun w hA => cls_ok x0 q0 2 true w hA O0.toMcB hE
    have hG := good_of O0.r8 hE
    obtain ⟨e1, e2, e3⟩ := runX_good (f := F) (x := x0) (by omega) hE
    rw [e1, e2, e3] at c2
    obtain ⟨g1, g2⟩ := run_guard F x0 hG
    have rX : (runM F x0).r.length = 8 := (runM_good F x0 hG).r8
    have hlm := (mem_small hG.m).1
    generalize runM F x0 = X at *
    generalize runN F x0 = N at *
    generalize runE F x0 = E at *
    have iX : ∀ q', (Tryd.prog.info? 31).map (·.size) = some (mcC X q').length := fun q' => mach_info rX
    have zX : ∀ q', z64.toArray.size = (mcC X q').length := fun q' => by rw [mc_length rX]; rfl
    have HG2 : Hid (∀ j : Nat, (∀ k, Has x0 true k → inB 2 k.p = true → cov5 k j = false) → X.m[j]? = x0.m[j]?) := g2
    clear e1 e2 e3 hE A0 hS hG g2 O0
    go_enter Tryd.func6, Tryd.ntmps6
    go_upto_region 6 with (first | (go_at_call 9; refine (keep_stepped _ (HS.out _ hB)).mono ?_; rintro e w1 ⟨rfl, hbb⟩; try replace bM := bM.below hbb; replace hB := Below.step0 hB hbb; clear hbb ) | (go_at_call 11; refine (cR _).mono ?_; rintro e wr1 ⟨rfl, rfl⟩; clear cR) | ((with_reducible refine at_load ?_); refine pl_load_box (by rfl) 31 (.tmp 2) rfl (w.heap.size) (by rfl) (mcC x0 q0) bM _ Tryd.underlying31 rfl hi0 ?_) | (go_at_call 18; refine (cA _ (HA.out _ hB)).mono ?_; rintro e w2 ⟨al, cl, b, rfl, hbb, nl, jl⟩; try replace bM := bM.below hbb; replace hB := Below.step0 hB hbb; have HJ : Hid (∀ j, b j = true ↔ Plc1 x0 true 2 j) := jl; clear hbb cA jl) | (go_at_call 20; refine (c2 _ (HA.out _ hB) (HS.out _ hB)).mono ?_; rintro e w3 ⟨q1, rfl, hbb, hX, hF⟩; try replace bM := bM.below hbb; try replace nl := nl.below hbb; replace hB := Below.step0 hB hbb; clear hbb c2 hF) | ((with_reducible refine at_alloc ?_); refine wpList_alloc1 rfl 31 rfl _ (alloc_mach _) ?_) | ((with_reducible refine at_store ?_); refine pl_store_box rfl 31 (.tmp 7) (.tmp 24) rfl w3.heap.size (mcC X q1) (by rfl) (by rfl) z64.toArray (Box.new _ _ _) (zX q1) (iX q1) (mc_one _ _) ?_; intro bX; have hbw : Below w3.heap.size w3 ((w3.alloc (.cells z64.toArray 31)).setCells w3.heap.size 0 (mcC X q1)) := below_cells _ _ _ _ ((Below.refl _ _).alloc (Nat.le_refl _) _) (Nat.le_refl _); try replace bM := bM.below hbw; try replace nl := nl.below hbw; try replace hX := hX.below hbw; replace hB := Below.step0 hB hbw; generalize ((w3.alloc (.cells z64.toArray 31)).setCells w3.heap.size 0 (mcC X q1)) = w4 at *; clear hbw))
    obtain ⟨-, -, -, -, -, lx, -, -⟩ := mc_tail bX rX
    obtain ⟨-, -, -, -, -, lm, -, -⟩ := mc_tail bM r0
    rw [g1] at lx
    obtain ⟨n, hn⟩ : ∃ n, x0.m.length = n := ⟨_, rfl⟩
    have HN : Hid (x0.m.length = n ∧ X.m.length = n) := ⟨hn, g1.trans hn⟩
    rw [hn] at lx lm hlm nl ⊢
    have hM := HA.out _ hB
    clear hn g1 bX bM
    go_upto_region 11 with fail
    go_loopw [48] (fun i wr => ∃ j : Nat, j ≤ n ∧ i = .int .i64 (j : Int) ∧ Below w4.heap.size w4 wr) (fun i _ => n - (intOf i).toNat)
    case atStart => exact ⟨0, Nat.zero_le _, rfl, Below.refl _ _⟩
    case round =>
      obtain ⟨j, hj, rfl, hb4⟩ := hrel
      have hBr := hB.trans (hb4.mono hB.size)
      by_cases hlt : j < n
      · have gk : (j : Int) < (n : Int) := by omega
        have gk0 : (0 : Int) ≤ (j : Int) := by omega
        go_upto_region 13 with fail
        have hw1 : IntKind.i64.wrap ((j : Int) + 1) = (j : Int) + 1 := by rw [IntKind.wrap_i64]; omega
        have lx4 : wr.drew.cell? ⟨w3.heap.size, 61, none⟩ = some (.slice q1.m n q1.cm) := by have := hb4.cell (p := ⟨w3.heap.size, 61, none⟩) (cell_lt lx); exact this.trans lx
        have lm4 : wr.drew.cell? ⟨w.heap.size, 61, none⟩ = some (.slice q0.m n q0.cm) := by have := hb4.cell (p := ⟨w.heap.size, 61, none⟩) (cell_lt lm); exact this.trans lm
        have nl4 : NumsAt wr.drew al (filtN b 0 n) := nl.below (hb4.trans ((below_drew _).mono hb4.size))
        have hle := filt_len b 0 n
        obtain ⟨W, hW⟩ : ∃ W, wr.drew = W := ⟨_, rfl⟩
        rw [hW] at lx4 lm4 nl4
        have hBW : Below w4.heap.size w4 W := by rw [← hW]; exact hb4.drew
        have cH := has_int al cl (filtN b 0 n) (j : Int) W nl4 (by unfold maxLen; omega)
        have HH : Hid ((filtN b 0 n).contains (j : Int) = false → b (j : Int) = false) := by
          show _ → _
          intro h
          cases hb : b (j : Int)
          · rfl
          · have := (filt_mem b 0 (j : Int) n).2 ⟨hb, by omega, by omega⟩
            rw [← List.contains_iff_mem, h] at this
            cases this
        cases hc : (filtN b 0 n).contains (j : Int)
        · rw [hc] at cH
          have hbf := HH.out hc
          have hcov : ∀ k, Has x0 true k → inB 2 k.p = true → cov5 k j = false := fun k h1 h2 => by
            cases h3 : cov5 k j
            · rfl
            · have := (HJ.out (j : Int)).2 ⟨k, h1, by unfold srvB; rw [h2]; simp, h3⟩
              rw [hbf] at this
              cases this
          obtain ⟨v, hv⟩ : ∃ v, x0.m[j]? = some v := ⟨_, List.getElem?_eq_getElem (by rw [HN.out.1]; exact hlt)⟩
          have hv2 : X.m[j]? = some v := (HG2.out j hcov).trans hv
          obtain ⟨B1, o1, e1, hB1, c0, c1, c2, c3, c4, c5, c6⟩ := (hM.m.below hBW).at hv
          obtain ⟨B2, o2, e2, hB2, d0, d1, d2, d3, d4, d5, d6⟩ := (hX.m.below hBW).at hv2
          rw [e1] at lm4
          rw [e2] at lx4
          clear hc hbf hcov hv hv2 HH nl4 hle
          refine wp_region_held_drew (S := fun w' => w' = W) (by kernel_rfl) hW (fun hHeld => ?_)
          rw [hW]
          clear hW hHeld
          have hSW : W = W := rfl
          refine wpAnyH_take (i := 0) (v := ?_) rfl (by kernel_rfl) (by kernel_rfl) (by kernel_rfl) (fun _ _ _ h => h) (Or.inl ⟨by rfl, ?_⟩) (by assumption) ?_
          rotate_left 1
          · intro wz hSw; obtain rfl := hSw; go_simp; try with_reducible rfl
          try simp only [Act.put, List.getElem_toArray, List.getElem_cons_zero, List.getElem_cons_succ, List.setIfInBounds_toArray, List.set_cons_zero, List.set_cons_succ]
          refine wpAnyH_take (i := 1) (v := ?_) rfl (by kernel_rfl) (by kernel_rfl) (by kernel_rfl) (fun _ _ _ h => h) (Or.inl ⟨by rfl, ?_⟩) (by assumption) ?_
          rotate_left 1
          · intro wz hSw; obtain rfl := hSw; go_simp; try with_reducible rfl
          try simp only [Act.put, List.getElem_toArray, List.getElem_cons_zero, List.getElem_cons_succ, List.setIfInBounds_toArray, List.set_cons_zero, List.set_cons_succ]
          refine wpAnyH_ready (rs := [2]) (by kernel_rfl) (by simp) (AllReadyH.cons rfl (fun K hK => ?_) AllReadyH.nil)
          go_simp
          go_at_call 21
          refine cH.mono ?_
          rintro e wz ⟨rfl, hwz⟩
          obtain rfl := hwz.symm
          clear hwz
          refine hK.out _ _ hSW (fun hHeld => ?_)
          try simp only [Act.put, List.getElem_toArray, List.getElem_cons_zero, List.getElem_cons_succ, List.setIfInBounds_toArray, List.set_cons_zero, List.set_cons_succ]
          refine wpAnyH_take (i := 3) (v := ?_) rfl (by kernel_rfl) (by kernel_rfl) (by kernel_rfl) (fun _ _ _ h => h) (Or.inl ⟨by rfl, ?_⟩) (by assumption) ?_
          rotate_left 1
          · intro wz hSw; obtain rfl := hSw; go_simp; try with_reducible rfl
          try simp only [Act.put, List.getElem_toArray, List.getElem_cons_zero, List.getElem_cons_succ, List.setIfInBounds_toArray, List.set_cons_zero, List.set_cons_succ]
          refine wpAnyH_take (i := 4) (v := ?_) rfl (by kernel_rfl) (by kernel_rfl) (by kernel_rfl) (fun _ _ _ h => h) (Or.inl ⟨by rfl, ?_⟩) (by assumption) ?_
          rotate_left 1
          · intro wz hSw; obtain rfl := hSw; go_simp; try with_reducible rfl
          try simp only [Act.put, List.getElem_toArray, List.getElem_cons_zero, List.getElem_cons_succ, List.setIfInBounds_toArray, List.set_cons_zero, List.set_cons_succ]
          refine wpAnyH_take (i := 5) (v := ?_) rfl (by kernel_rfl) (by kernel_rfl) (by kernel_rfl) (fun _ _ _ h => h) (Or.inl ⟨by rfl, ?_⟩) (by assumption) ?_
          rotate_left 1
          · intro wz hSw; obtain rfl := hSw; go_simp; try with_reducible rfl
          try simp only [Act.put, List.getElem_toArray, List.getElem_cons_zero, List.getElem_cons_succ, List.setIfInBounds_toArray, List.set_cons_zero, List.set_cons_succ]
          refine wpAnyH_take (i := 6) (v := ?_) rfl (by kernel_rfl) (by kernel_rfl) (by kernel_rfl) (fun _ _ _ h => h) (Or.inl ⟨by rfl, ?_⟩) (by assumption) ?_
          rotate_left 1
          · intro wz hSw; obtain rfl := hSw; go_simp; try with_reducible rfl
          try simp only [Act.put, List.getElem_toArray, List.getElem_cons_zero, List.getElem_cons_succ, List.setIfInBounds_toArray, List.set_cons_zero, List.set_cons_succ]
          refine wpAnyH_take (i := 7) (v := ?_) rfl (by kernel_rfl) (by kernel_rfl) (by kernel_rfl) (fun _ _ _ h => h) (Or.inl ⟨by rfl, ?_⟩) (by assumption) ?_
          rotate_left 1
          · intro wz hSw; obtain rfl := hSw; go_simp; try with_reducible rfl
          try simp only [Act.put, List.getElem_toArray, List.getElem_cons_zero, List.getElem_cons_succ, List.setIfInBounds_toArray, List.set_cons_zero, List.set_cons_succ]
          refine wpAnyH_take (i := 8) (v := ?_) rfl (by kernel_rfl) (by kernel_rfl) (by kernel_rfl) (fun _ _ _ h => h) (Or.inl ⟨by rfl, ?_⟩) (by assumption) ?_
          rotate_left 1
          · intro wz hSw; obtain rfl := hSw; go_simp; try with_reducible rfl
          try simp only [Act.put, List.getElem_toArray, List.getElem_cons_zero, List.getElem_cons_succ, List.setIfInBounds_toArray, List.set_cons_zero, List.set_cons_succ]
          refine wpAnyH_take (i := 9) (v := ?_) rfl (by kernel_rfl) (by kernel_rfl) (by kernel_rfl) (fun _ _ _ h => h) (Or.inl ⟨by rfl, ?_⟩) (by assumption) ?_
          rotate_left 1
          · intro wz hSw; obtain rfl := hSw; go_simp; try with_reducible rfl
          try simp only [Act.put, List.getElem_toArray, List.getElem_cons_zero, List.getElem_cons_succ, List.setIfInBounds_toArray, List.set_cons_zero, List.set_cons_succ]
          refine wpAnyH_take (i := 10) (v := ?_) rfl (by kernel_rfl) (by kernel_rfl) (by kernel_rfl) (fun _ _ _ h => h) (Or.inl ⟨by rfl, ?_⟩) (by assumption) ?_
          rotate_left 1
          · intro wz hSw; obtain rfl := hSw; go_simp; try with_reducible rfl
          try simp only [Act.put, List.getElem_toArray, List.getElem_cons_zero, List.getElem_cons_succ, List.setIfInBounds_toArray, List.set_cons_zero, List.set_cons_succ]
          refine wpAnyH_take (i := 11) (v := ?_) rfl (by kernel_rfl) (by kernel_rfl) (by kernel_rfl) (fun _ _ _ h => h) (Or.inl ⟨by rfl, ?_⟩) (by assumption) ?_
          rotate_left 1
          · intro wz hSw; obtain rfl := hSw; go_simp; try with_reducible rfl
          try simp only [Act.put, List.getElem_toArray, List.getElem_cons_zero, List.getElem_cons_succ, List.setIfInBounds_toArray, List.set_cons_zero, List.set_cons_succ]
          refine wpAnyH_take (i := 12) (v := ?_) rfl (by kernel_rfl) (by kernel_rfl) (by kernel_rfl) (fun _ _ _ h => h) (Or.inl ⟨by rfl, ?_⟩) (by assumption) ?_
          rotate_left 1
          · intro wz hSw; obtain rfl := hSw; go_simp; try with_reducible rfl
          try simp only [Act.put, List.getElem_toArray, List.getElem_cons_zero, List.getElem_cons_succ, List.setIfInBounds_toArray, List.set_cons_zero, List.set_cons_succ]
          refine wpAnyH_take (i := 13) (v := ?_) rfl (by kernel_rfl) (by kernel_rfl) (by kernel_rfl) (fun _ _ _ h => h) (Or.inl ⟨by rfl, ?_⟩) (by assumption) ?_
          rotate_left 1
          · intro wz hSw; obtain rfl := hSw; go_simp; try with_reducible rfl
          try simp only [Act.put, List.getElem_toArray, List.getElem_cons_zero, List.getElem_cons_succ, List.setIfInBounds_toArray, List.set_cons_zero, List.set_cons_succ]
          refine wpAnyH_take (i := 14) (v := ?_) rfl (by kernel_rfl) (by kernel_rfl) (by kernel_rfl) (fun _ _ _ h => h) (Or.inl ⟨by rfl, ?_⟩) (by assumption) ?_
          rotate_left 1
          · intro wz hSw; obtain rfl := hSw; go_simp; try with_reducible rfl
          try simp only [Act.put, List.getElem_toArray, List.getElem_cons_zero, List.getElem_cons_succ, List.setIfInBounds_toArray, List.set_cons_zero, List.set_cons_succ]
          refine wpAnyH_take (i := 15) (v := .bool false) rfl (by kernel_rfl) (by kernel_rfl) (by kernel_rfl) (fun _ _ _ h => h) (Or.inl ⟨by rfl, ?_⟩) (by assumption) ?_
          · intro wz hSw; obtain rfl := hSw; go_simp
          try simp only [Act.put, List.getElem_toArray, List.getElem_cons_zero, List.getElem_cons_succ, List.setIfInBounds_toArray, List.set_cons_zero, List.set_cons_succ]
          refine wpAnyH_take (i := 16) (v := ?_) rfl (by kernel_rfl) (by kernel_rfl) (by kernel_rfl) (fun _ _ _ h => h) (Or.inl ⟨by rfl, ?_⟩) (by assumption) ?_
          rotate_left 1
          · intro wz hSw; obtain rfl := hSw; go_simp; try with_reducible rfl
          try simp only [Act.put, List.getElem_toArray, List.getElem_cons_zero, List.getElem_cons_succ, List.setIfInBounds_toArray, List.set_cons_zero, List.set_cons_succ]
          refine wpAnyH_done (by kernel_rfl) ?_ _
          go_wp2
          go_roundw
          case rel => first | exact ⟨j + 1, by omega, rfl, hBW⟩ | exact ⟨_, _, _, ⟨j + 1, by omega, rfl⟩, rfl, rfl, rfl⟩
          case measure => simp [intOf]; omega
        · rw [hc] at cH
          clear hc HH nl4 hle
          refine wp_region_held_drew (S := fun w' => w' = W) (by kernel_rfl) hW (fun hHeld => ?_)
          rw [hW]
          clear hW hHeld
          have hSW : W = W := rfl
          refine wpAnyH_take (i := 0) (v := ?_) rfl (by kernel_rfl) (by kernel_rfl) (by kernel_rfl) (fun _ _ _ h => h) (Or.inl ⟨by rfl, ?_⟩) (by assumption) ?_
          rotate_left 1
          · intro wz hSw; obtain rfl := hSw; go_simp; try with_reducible rfl
          try simp only [Act.put, List.getElem_toArray, List.getElem_cons_zero, List.getElem_cons_succ, List.setIfInBounds_toArray, List.set_cons_zero, List.set_cons_succ]
          refine wpAnyH_take (i := 1) (v := ?_) rfl (by kernel_rfl) (by kernel_rfl) (by kernel_rfl) (fun _ _ _ h => h) (Or.inl ⟨by rfl, ?_⟩) (by assumption) ?_
          rotate_left 1
          · intro wz hSw; obtain rfl := hSw; go_simp; try with_reducible rfl
          try simp only [Act.put, List.getElem_toArray, List.getElem_cons_zero, List.getElem_cons_succ, List.setIfInBounds_toArray, List.set_cons_zero, List.set_cons_succ]
          refine wpAnyH_ready (rs := [2]) (by kernel_rfl) (by simp) (AllReadyH.cons rfl (fun K hK => ?_) AllReadyH.nil)
          go_simp
          go_at_call 21
          refine cH.mono ?_
          rintro e wz ⟨rfl, hwz⟩
          obtain rfl := hwz.symm
          clear hwz
          refine hK.out _ _ hSW (fun hHeld => ?_)
          try simp only [Act.put, List.getElem_toArray, List.getElem_cons_zero, List.getElem_cons_succ, List.setIfInBounds_toArray, List.set_cons_zero, List.set_cons_succ]
          refine wpAnyH_take (i := 3) (v := ?_) rfl (by kernel_rfl) (by kernel_rfl) (by kernel_rfl) (fun _ _ _ h => h) (Or.inl ⟨by rfl, ?_⟩) (by assumption) ?_
          rotate_left 1
          · intro wz hSw; obtain rfl := hSw; go_simp; try with_reducible rfl
          try simp only [Act.put, List.getElem_toArray, List.getElem_cons_zero, List.getElem_cons_succ, List.setIfInBounds_toArray, List.set_cons_zero, List.set_cons_succ]
          refine wpAnyH_take (i := 4) (v := ?_) rfl (by kernel_rfl) (by kernel_rfl) (by kernel_rfl) (fun _ _ _ h => h) (Or.inl ⟨by rfl, ?_⟩) (by assumption) ?_
          rotate_left 1
          · intro wz hSw; obtain rfl := hSw; go_simp; try with_reducible rfl
          try simp only [Act.put, List.getElem_toArray, List.getElem_cons_zero, List.getElem_cons_succ, List.setIfInBounds_toArray, List.set_cons_zero, List.set_cons_succ]
          refine wpAnyH_take (i := 5) (v := undef) rfl (by kernel_rfl) (by kernel_rfl) (by kernel_rfl) (fun _ _ _ h => h) (Or.inr ⟨by rfl, rfl⟩) (by assumption) ?_
          try simp only [Act.put, List.getElem_toArray, List.getElem_cons_zero, List.getElem_cons_succ, List.setIfInBounds_toArray, List.set_cons_zero, List.set_cons_succ]
          refine wpAnyH_take (i := 6) (v := undef) rfl (by kernel_rfl) (by kernel_rfl) (by kernel_rfl) (fun _ _ _ h => h) (Or.inr ⟨by rfl, rfl⟩) (by assumption) ?_
          try simp only [Act.put, List.getElem_toArray, List.getElem_cons_zero, List.getElem_cons_succ, List.setIfInBounds_toArray, List.set_cons_zero, List.set_cons_succ]
          refine wpAnyH_take (i := 7) (v := undef) rfl (by kernel_rfl) (by kernel_rfl) (by kernel_rfl) (fun _ _ _ h => h) (Or.inr ⟨by rfl, rfl⟩) (by assumption) ?_
          try simp only [Act.put, List.getElem_toArray, List.getElem_cons_zero, List.getElem_cons_succ, List.setIfInBounds_toArray, List.set_cons_zero, List.set_cons_succ]
          refine wpAnyH_take (i := 8) (v := undef) rfl (by kernel_rfl) (by kernel_rfl) (by kernel_rfl) (fun _ _ _ h => h) (Or.inr ⟨by rfl, rfl⟩) (by assumption) ?_
          try simp only [Act.put, List.getElem_toArray, List.getElem_cons_zero, List.getElem_cons_succ, List.setIfInBounds_toArray, List.set_cons_zero, List.set_cons_succ]
          refine wpAnyH_take (i := 9) (v := undef) rfl (by kernel_rfl) (by kernel_rfl) (by kernel_rfl) (fun _ _ _ h => h) (Or.inr ⟨by rfl, rfl⟩) (by assumption) ?_
          try simp only [Act.put, List.getElem_toArray, List.getElem_cons_zero, List.getElem_cons_succ, List.setIfInBounds_toArray, List.set_cons_zero, List.set_cons_succ]
          refine wpAnyH_take (i := 10) (v := undef) rfl (by kernel_rfl) (by kernel_rfl) (by kernel_rfl) (fun _ _ _ h => h) (Or.inr ⟨by rfl, rfl⟩) (by assumption) ?_
          try simp only [Act.put, List.getElem_toArray, List.getElem_cons_zero, List.getElem_cons_succ, List.setIfInBounds_toArray, List.set_cons_zero, List.set_cons_succ]
          refine wpAnyH_take (i := 11) (v := undef) rfl (by kernel_rfl) (by kernel_rfl) (by kernel_rfl) (fun _ _ _ h => h) (Or.inr ⟨by rfl, rfl⟩) (by assumption) ?_
          try simp only [Act.put, List.getElem_toArray, List.getElem_cons_zero, List.getElem_cons_succ, List.setIfInBounds_toArray, List.set_cons_zero, List.set_cons_succ]
          refine wpAnyH_take (i := 12) (v := undef) rfl (by kernel_rfl) (by kernel_rfl) (by kernel_rfl) (fun _ _ _ h => h) (Or.inr ⟨by rfl, rfl⟩) (by assumption) ?_
          try simp only [Act.put, List.getElem_toArray, List.getElem_cons_zero, List.getElem_cons_succ, List.setIfInBounds_toArray, List.set_cons_zero, List.set_cons_succ]
          refine wpAnyH_take (i := 13) (v := undef) rfl (by kernel_rfl) (by kernel_rfl) (by kernel_rfl) (fun _ _ _ h => h) (Or.inr ⟨by rfl, rfl⟩) (by assumption) ?_
          try simp only [Act.put, List.getElem_toArray, List.getElem_cons_zero, List.getElem_cons_succ, List.setIfInBounds_toArray, List.set_cons_zero, List.set_cons_succ]
          refine wpAnyH_take (i := 14) (v := undef) rfl (by kernel_rfl) (by kernel_rfl) (by kernel_rfl) (fun _ _ _ h => h) (Or.inr ⟨by rfl, rfl⟩) (by assumption) ?_
          try simp only [Act.put, List.getElem_toArray, List.getElem_cons_zero, List.getElem_cons_succ, List.setIfInBounds_toArray, List.set_cons_zero, List.set_cons_succ]
          refine wpAnyH_take (i := 15) (v := undef) rfl (by kernel_rfl) (by kernel_rfl) (by kernel_rfl) (fun _ _ _ h => h) (Or.inr ⟨by rfl, rfl⟩) (by assumption) ?_
          try simp only [Act.put, List.getElem_toArray, List.getElem_cons_zero, List.getElem_cons_succ, List.setIfInBounds_toArray, List.set_cons_zero, List.set_cons_succ]
          refine wpAnyH_take (i := 16) (v := ?_) rfl (by kernel_rfl) (by kernel_rfl) (by kernel_rfl) (fun _ _ _ h => h) (Or.inl ⟨by rfl, ?_⟩) (by assumption) ?_
          rotate_left 1
          · intro wz hSw; obtain rfl := hSw; go_simp; try with_reducible rfl
          try simp only [Act.put, List.getElem_toArray, List.getElem_cons_zero, List.getElem_cons_succ, List.setIfInBounds_toArray, List.set_cons_zero, List.set_cons_succ]
          refine wpAnyH_done (by kernel_rfl) ?_ _
          go_wp2
          go_roundw
          case rel => first | exact ⟨j + 1, by omega, rfl, hBW⟩ | exact ⟨_, _, _, ⟨j + 1, by omega, rfl⟩, rfl, rfl, rfl⟩
          case measure => simp [intOf]; omega
      · obtain rfl : j = n := by omega
        have gk : ¬ (j : Int) < (j : Int) := by omega
        go_wp2
        go_ret
        exact ⟨rfl, hBr⟩

set_option maxRecDepth 1000000 in
theorem contract (H : Type) (enc : TypeId × Value → H) (W : World) (base : Nat) (args : Array Value) (ds gs : List (DataW H)) (before : List MemPlace)
    (hval : ∀ (j : Nat) t v, Tryd.f6.params[j]? = some t → args[j]? = some v → Value.okWide Tryd.prog W .any base t v)
    (hW : DataW.Whole enc Tryd.prog Tryd.f6.params.toList Rows.runGuardsSpec.vars false W args.toList ds gs before) (hsh : W.ShapedOpen Tryd.prog) (hz : (DataW.weightsEach Tryd.prog (Tryd.f6.params.toList ++ (OpenSpec.ofChange Rows.runGuardsSpec).bare.plain.varTypes Tryd.prog) (ds ++ gs)).all (· ≤ reachBytes) = true) (hL : laidMet Tryd.prog Rows.runGuardsRow.laid W) :
    Calls Tryd.prog 6 args W fun e W' => ∃ v, e = .returned v ∧ Rows.runGuardsSpec.post enc Tryd.prog Tryd.f6 false true false false W args v W' := by
  have hW' := hW
  obtain ⟨p, q, hA0, hV, rfl, hfz, hnd⟩ := hW
  have hA : DataW.TrodAll enc Tryd.prog W 0 (fun _ => true) true Tryd.f6.params.toList args.toList ds p := hA0
  rw [Tryd.params6] at hA hval
  obtain ⟨v0, vs0, d0, ds0, p0, q0, hargs, rfl, rfl, h0, r0⟩ := trodAll_cons hA
  obtain ⟨v1, vs1, d1, ds1, p1, q1, rfl, rfl, rfl, h1, r1⟩ := trodAll_cons r0
  obtain ⟨rfl, rfl, rfl⟩ := trodAll_nil r1
  obtain rfl : args = #[v0, v1] := by cases args; simp_all
  obtain ⟨rfl, rfl⟩ := trodVars_none hV
  have k0 := h0
  have lt0 : ∀ x ∈ p0, x.block < W.heap.size := by obtain ⟨m, hm⟩ := k0; exact DataW.trod_lt m _ _ _ hm
  obtain ⟨x0, q0, rfl, O0, A0⟩ := open_mach (hval 0 31 v0 rfl rfl) k0
  obtain ⟨a1, rfl, rfl, rfl, w1⟩ := open_int Tryd.underlying3 (hval 1 3 v1 rfl rfl) h1
  clear hA0
  refine (walk x0 q0 a1 O0 (bounds_i64 w1) W A0 (shp_of_laid hL (.head _))).mono fun e W' ⟨he, bel⟩ => ?_
  subst he
  exact ⟨_, rfl, _, _, _, [], _, [], hW', trodAll_mk1 (shut_bool Tryd.underlying4 _), (trodAll_cons_mk (Below.trod laidOut (by kernel_rfl) (of_decide_eq_true (by kernel_rfl)) k0 bel lt0) (trodAll_cons_mk (shut_int Tryd.underlying3 w1) trodAll_mk0)), rfl, bel.frame _, fun h => by cases h⟩

theorem reads (os : Os) {H : Type} (enc : TypeId × Value → H) : ∃ places, DataW.whole enc Tryd.prog ((World.laidAll Tryd.prog os Rows.runGuardsRow.laid).forCall (fun _ _ => 0) ⟨#[], #[witM, .int .i64 0], []⟩).memory Tryd.f6.params.toList Rows.runGuardsSpec.vars false (#[witM, .int .i64 0] : Array Value).toList 8 = some ([.agg [.agg [.agg [.lit (.bool false), .lit (.int .i64 0), .agg [.lit (.int .i64 0), .lit (.int .i64 0), .lit (.int .i64 0), .lit (.int .i64 0), .lit (.int .i64 0)]], .agg [.lit (.bool false), .lit (.int .i64 0), .agg [.lit (.int .i64 0), .lit (.int .i64 0), .lit (.int .i64 0), .lit (.int .i64 0), .lit (.int .i64 0)]], .agg [.lit (.bool false), .lit (.int .i64 0), .agg [.lit (.int .i64 0), .lit (.int .i64 0), .lit (.int .i64 0), .lit (.int .i64 0), .lit (.int .i64 0)]], .agg [.lit (.bool false), .lit (.int .i64 0), .agg [.lit (.int .i64 0), .lit (.int .i64 0), .lit (.int .i64 0), .lit (.int .i64 0), .lit (.int .i64 0)]], .agg [.lit (.bool false), .lit (.int .i64 0), .agg [.lit (.int .i64 0), .lit (.int .i64 0), .lit (.int .i64 0), .lit (.int .i64 0), .lit (.int .i64 0)]], .agg [.lit (.bool false), .lit (.int .i64 0), .agg [.lit (.int .i64 0), .lit (.int .i64 0), .lit (.int .i64 0), .lit (.int .i64 0), .lit (.int .i64 0)]], .agg [.lit (.bool false), .lit (.int .i64 0), .agg [.lit (.int .i64 0), .lit (.int .i64 0), .lit (.int .i64 0), .lit (.int .i64 0), .lit (.int .i64 0)]], .agg [.lit (.bool false), .lit (.int .i64 0), .agg [.lit (.int .i64 0), .lit (.int .i64 0), .lit (.int .i64 0), .lit (.int .i64 0), .lit (.int .i64 0)]]], .agg [.lit (.int .i64 0), .lit (.int .i64 0), .lit (.int .i64 0), .lit (.int .i64 0), .lit (.int .i64 0)], .nil, .nil, .nil], .lit (.int .i64 0)], [], places) :=
  ⟨[], by kernel_rfl⟩
theorem laid_met (os : Os) : laidMet Tryd.prog Rows.runGuardsRow.laid ((World.laidAll Tryd.prog os Rows.runGuardsRow.laid).forCall (fun _ _ => 0) ⟨#[], #[witM, .int .i64 0], []⟩).memory :=
  laidMet_laidAll _ (by kernel_rfl) (by kernel_rfl)

set_option maxRecDepth 100000 in
theorem lifted (os : Os) (started : os.Started) (H : Type) (enc : TypeId × Value → H) (F : Stop.Interp) :
    ReturnsInHanded {} Tryd.checked os 6 .any ((OpenSpec.ofChange Rows.runGuardsSpec).preRow enc Tryd.prog Tryd.f6 Rows.runGuardsRow.domain false Rows.runGuardsRow.laid) (((OpenSpec.ofChange Rows.runGuardsSpec).at F).post enc Tryd.prog Tryd.f6 false true false false) := by
  obtain ⟨places, hx⟩ := reads os enc
  refine returnsInHanded_of_row (C := Tryd.checked) (s := OpenSpec.ofChange Rows.runGuardsSpec) own started (by kernel_rfl) Tryd.func6
    (witness_row_at (enc := enc) (C := Tryd.checked) false (World.laidAll Tryd.prog os Rows.runGuardsRow.laid) #[witM, .int .i64 0] (World.laidAll_os _ _ _) (by kernel_rfl) (by kernel_rfl) (by kernel_rfl)
      (OpenSpec.preRow_of_cond 8 hx (by kernel_rfl) (fun k hk => by cases hk) (by kernel_rfl) (laid_met os))) ?_
  intro W base args ds gs before hval hW _ hcond hz hL hsh _
  exact contract H enc W base args ds gs before hval hW hsh hz hL

theorem said : Rows.RunGuardsSaid :=
  OpenClaim.holds_of_cond 6 Tryd.f6 rfl rfl rfl rfl rfl rfl rfl ⟨rfl, rfl, rfl, rfl, rfl⟩ rfl rfl rfl rfl rfl (by kernel_rfl) Tryd.func6 (by kernel_rfl)
    (of_decide_eq_true (by kernel_rfl)) (by unfold Func.isWrapper; first | (rw [if_pos (by decide +kernel)]; kernel_rfl) | (rw [if_neg (by decide +kernel)]; exact ⟨rfl, rfl⟩))
    (fun os started H enc _ F => by rw [OpenClaim.pre_eq_preRow]; exact lifted os started H enc F)
theorem plain (f : FuncId) (fn : Func) (hf : Tryd.pinned.checked.prog.funcNamed Rows.runGuardsRow.func = some f) (hfn : Tryd.pinned.checked.prog.funcs[f]? = some fn) :
    true = Tryd.pinned.checked.prog.looks [] ∧ ∀ (j : Nat) t, fn.params[j]? = some t → Tryd.pinned.checked.prog.wantsStandIn t = false := by
  obtain rfl : f = 6 := Option.some.inj ((show Tryd.prog.funcNamed Rows.runGuardsRow.func = some 6 by kernel_rfl).symm.trans hf) |>.symm
  obtain rfl : fn = Tryd.f6 := (Option.some.inj (Tryd.func6.symm.trans hfn)).symm
  refine ⟨by kernel_rfl, fun j t ht => ?_⟩
  rw [Tryd.params6] at ht
  have hm : t ∈ [31, 3] := by simpa using Array.mem_of_getElem? ht
  have hall : ([31, 3].all fun u => !Tryd.prog.wantsStandIn u) = true := by kernel_rfl
  exact (show Tryd.prog.wantsStandIn t = false by simpa using List.all_eq_true.1 hall t hm)
theorem proved : Rows.RunGuardsCardSaid :=
  Claim7.holds_tied_plain_at .later [] _ _ _ _ said (fun _ h => by cases h) (by kernel_rfl) (fun _ h => by cases h) runGuards_row_tie rfl ⟨rfl, rfl⟩ (by kernel_rfl) rfl plain (by kernel_rfl)
#print axioms proved
end Go.Proofs.YtlfeglljpfihhaaDoor.runGuards
