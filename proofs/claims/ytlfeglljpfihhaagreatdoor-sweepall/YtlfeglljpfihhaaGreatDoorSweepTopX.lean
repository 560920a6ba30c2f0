/- package sweep: Sweep. package sweep: Sweep. -/
import Derived.Test.YtlfeglljpfihhaaGreatDoorRows
import Derived.Test.YtlfeglljpfihhaaGreatDoorCardBaseX
import Derived.Test.YtlfeglljpfihhaaGreatDoorValArgX
import Derived.Test.YtlfeglljpfihhaaGreatDoorMemPureX
import Derived.Test.YtlfeglljpfihhaaGreatDoorStepChkX
import Derived.Test.YtlfeglljpfihhaaGreatDoorStepRowX
import Derived.Test.YtlfeglljpfihhaaGreatDoorSweepPureX
import Derived.Test.YtlfeglljpfihhaaGreatDoorSweepStrikeX
import Derived.Test.YtlfeglljpfihhaaGreatDoorRowAppX
import Derived.Test.YtlfeglljpfihhaaGreatDoorSweepValsX
import Derived.WalkKit
import Derived.ProofKit
import Derived.OpenShut
import Derived.Deep.MidRow
import Derived.Deep.CutBlock
import Derived.Deep.RegionHeld3
namespace Go.Proofs.YtlfeglljpfihhaaGreatDoor
section
open Go.ChangeShapes Go.WideShapes Go.ChangeAt Go.RowKit
set_option linter.unusedSimpArgs false
set_option linter.unusedVariables false
set_option maxRecDepth 100000

theorem swok_of {x : MC} (h8 : x.r.length = 8) (h : mcE x = 0) : SwOk x := by
  obtain ⟨h1, h2, h3, h4, h5⟩ := mc_zero.1 h
  have key : ∀ v : MV, chk1 v = 0 → v.i = true → ok5 (vK v) := fun v hv hi => by
    obtain ⟨i, n, p, b, l, a, s⟩ := v
    cases hi
    exact (keyE_ok hv).2
  have k5 : ∀ k : K5, chk5 k = 0 → ok5 k := fun k hk => by
    rcases chk5_cases k with ⟨h, _⟩ | ⟨_, h⟩
    · exact h
    · rw [h] at hk; cases hk
  obtain ⟨m1, m2⟩ := mem_small h3
  obtain ⟨s1, s2⟩ := stk_zero.1 h4
  refine ⟨h8, m1, s1, ?_, fun v hv => key v (chkL_all.1 h1 v hv), k5 _ h2, fun v hv => key v (chkL_all.1 m2 v hv), fun f hf => ?_⟩
  · unfold outE at h5
    split at h5
    · cases h5
    · omega
  · obtain ⟨f1, f2⟩ := fr_zero.1 (frs_all.1 s2 f hf)
    exact ⟨k5 _ f1, key _ f2⟩
set_option maxHeartbeats 2000000 in
theorem sweep_check (x : MC) (q : MA) (b n : Int) (w : World) (hA : McAt w x q) (hO : McB x) (hb : -9223372036854775808 ≤ b ∧ b ≤ 9223372036854775807) (hn : -9223372036854775808 ≤ n ∧ n ≤ 9223372036854775807) :
    Calls Tryz.prog 21 #[.agg (mcC x q).toArray, .int .i64 b, .int .i64 n] w fun e w' => e = .returned (.int .i64 (swE b n x)) ∧ Below w.heap.size w w' := by
  have cC := fun w hA => step_check x q w hA hO
  have hi : (Tryz.prog.info? 31).map (·.size) = some (mcC x q).length := by rw [mc_length hO.r8]; exact info_mach
  have hB : ∀ T, Below w.heap.size w (w.alloc T) := fun T => (Below.refl _ _).alloc (Nat.le_refl _) _
  have HA : Hid (∀ w', Below w.heap.size w w' → McAt w' x q) := fun w' hb => hA.below hb
  obtain ⟨R, hR⟩ : ∃ R, swE b n x = R := ⟨_, rfl⟩
  rw [hR]
  unfold swE at hR
  generalize mcC x q = L at *
  clear hA
  by_cases h0 : mcE x = 0
  · rw [if_pos h0] at hR
    rw [h0] at cC
    unfold argE at hR
    by_cases h1 : b < 0
    · rw [if_pos h1] at hR
      subst hR
      clear h0
      go_enter Tryz.func21, Tryz.ntmps21
      go_wp2_with (first | (refine wpList_load_mid rfl 31 (.tmp 3) rfl w.heap.size 0 (by rfl) L _ (box_range (Box.new _ _ _)) Tryz.underlying31 rfl hi ?_) | (go_at_call 24; refine (cC _ (HA.out _ (hB _))).mono ?_; rintro e w1 ⟨rfl, hbb⟩; have hb1 := Below.step0 (hB _) hbb; clear hbb cC))
      go_ret
      exact ⟨rfl, hb1⟩
    · rw [if_neg h1] at hR
      by_cases h2 : n < 0
      · rw [if_pos h2] at hR
        subst hR
        clear h0
        go_enter Tryz.func21, Tryz.ntmps21
        go_wp2_with (first | (refine wpList_load_mid rfl 31 (.tmp 3) rfl w.heap.size 0 (by rfl) L _ (box_range (Box.new _ _ _)) Tryz.underlying31 rfl hi ?_) | (go_at_call 24; refine (cC _ (HA.out _ (hB _))).mono ?_; rintro e w1 ⟨rfl, hbb⟩; have hb1 := Below.step0 (hB _) hbb; clear hbb cC))
        go_ret
        exact ⟨rfl, hb1⟩
      · rw [if_neg h2] at hR
        have hwr : IntKind.i64.wrap (400 - n) = 400 - n := by rw [IntKind.wrap_i64]; omega
        by_cases h3 : 400 - n < b
        · rw [if_pos h3] at hR
          subst hR
          clear h0
          go_enter Tryz.func21, Tryz.ntmps21
          go_wp2_with (first | (refine wpList_load_mid rfl 31 (.tmp 3) rfl w.heap.size 0 (by rfl) L _ (box_range (Box.new _ _ _)) Tryz.underlying31 rfl hi ?_) | (go_at_call 24; refine (cC _ (HA.out _ (hB _))).mono ?_; rintro e w1 ⟨rfl, hbb⟩; have hb1 := Below.step0 (hB _) hbb; clear hbb cC))
          go_ret
          exact ⟨rfl, hb1⟩
        · rw [if_neg h3] at hR
          subst hR
          clear h0
          go_enter Tryz.func21, Tryz.ntmps21
          go_wp2_with (first | (refine wpList_load_mid rfl 31 (.tmp 3) rfl w.heap.size 0 (by rfl) L _ (box_range (Box.new _ _ _)) Tryz.underlying31 rfl hi ?_) | (go_at_call 24; refine (cC _ (HA.out _ (hB _))).mono ?_; rintro e w1 ⟨rfl, hbb⟩; have hb1 := Below.step0 (hB _) hbb; clear hbb cC))
          go_ret
          exact ⟨rfl, hb1⟩
  · rw [if_neg h0] at hR
    rw [hR] at cC h0
    have gR : (R != 0) = true := by simpa using h0
    clear h0 hR
    go_enter Tryz.func21, Tryz.ntmps21
    go_wp2_with (first | (refine wpList_load_mid rfl 31 (.tmp 3) rfl w.heap.size 0 (by rfl) L _ (box_range (Box.new _ _ _)) Tryz.underlying31 rfl hi ?_) | (go_at_call 24; refine (cC _ (HA.out _ (hB _))).mono ?_; rintro e w1 ⟨rfl, hbb⟩; have hb1 := Below.step0 (hB _) hbb; clear hbb cC))
    go_ret
    exact ⟨rfl, hb1⟩
set_option maxHeartbeats 4000000 in
theorem sweep_top (x : MC) (q : MA) (b n : Int) (w : World) (hA : McAt w x q) (hO : McB x) (hb : -9223372036854775808 ≤ b ∧ b ≤ 9223372036854775807) (hn : -9223372036854775808 ≤ n ∧ n ≤ 9223372036854775807) :
    Calls Tryz.prog 10 #[.agg (mcC x q).toArray, .int .i64 b, .int .i64 n] w fun e w' => ∃ q', e = .returned (.tuple #[.agg (mcC (swA b n x) q').toArray, .int .i64 (swN b n x), .int .i64 (swE b n x)]) ∧ Below w.heap.size w w' ∧ McAt w' (swA b n x) q' ∧ OwnQ w.heap.size w'.heap.size (swA b n x) q' := by
  have cC := fun w hA => sweep_check x q b n w hA hO hb hn
  have hi : (Tryz.prog.info? 31).map (·.size) = some (mcC x q).length := by rw [mc_length hO.r8]; exact info_mach
  have HA : Hid (∀ w', Below w.heap.size w w' → McAt w' x q) := fun w' hb => hA.below hb
  have b0 := Box.new w (mcC x q).toArray 31
  rcases sw_cases b n x with ⟨hE, e1, e2⟩ | ⟨hE, e1, e2⟩
  · rw [e1, e2, hE]
    rw [hE] at cC
    obtain ⟨f1, f2⟩ := sw_ok hE
    obtain ⟨g1, g2, g3⟩ := arg_ok f2
    have hX := swok_of hO.r8 f1
    have h8 := hX.r8
    have y8 : (swM b n x).r.length = 8 := by show (x.r.map (swV b n)).length = 8; rw [List.length_map]; exact h8
    have hwr : IntKind.i64.wrap (b + n) = b + n := by rw [IntKind.wrap_i64]; omega
    have hw0 : Hid (McAt w x q) := hA
    have hcm : cM b n x ≤ 1000 := by
      have l1 := cVs_le b n x.r
      have l2 := cVs_le b n x.m
      have l3 := cFs_le b n x.s
      have l4 : cK b n x.k ≤ 1 := by unfold cK b1; split <;> omega
      have := hX.lm
      have := hX.ls
      unfold cM
      omega
    have cS := fun S w' (hA' : ∀ W, Off S w' W → McAt W x q) hR => sweep_sweep S b n x q w' hA' hX hR
    have iY : ∀ q', (Tryz.prog.info? 31).map (·.size) = some (mcC (swM b n x) q').length := fun q' => mach_info y8
    have zY : ∀ q', z64.toArray.size = (mcC (swM b n x) q').length := fun q' => by rw [mc_length y8]; rfl
    have HX : Hid (0 ≤ b ∧ 0 ≤ n ∧ b + n ≤ 400) := ⟨g1, g2, g3⟩
    clear hA hE e1 e2 f1 f2
    generalize hcc : cM b n x = c at *
    clear hcc
    obtain ⟨Y, hY⟩ : ∃ Y, swM b n x = Y := ⟨_, rfl⟩
    rw [hY] at cS iY zY y8 ⊢
    clear hY
    go_enter Tryz.func10, Tryz.ntmps10
    go_upto_region 1 with (first | ((with_reducible refine at_alloc ?_); refine wpList_alloc1 rfl 31 rfl _ (alloc_mach _) ?_))
    obtain ⟨w0, hw0⟩ : ∃ w0, w0 = (w.alloc (.cells (mcC x q).toArray 31)).alloc (.cells z64.toArray 31) := ⟨_, rfl⟩
    rw [← hw0]
    have bM : Box w0 w.heap.size (mcC x q).toArray := by rw [hw0]; exact b0.alloc _
    have bZ : Box w0 (w.heap.size + 1) z64.toArray := by rw [hw0]; exact Box.new1 _ _ _ _
    have hB : Below w.heap.size w w0 := by rw [hw0]; exact two _ _
    clear hw0 b0
    go_upto_region 5 with (first | ((with_reducible refine at_load ?_); refine pl_load_box (by rfl) 31 (.tmp 3) rfl w.heap.size (by rfl) (mcC x q) bM _ Tryz.underlying31 rfl hi ?_) | (go_at_call 21; refine (cC _ (HA.out _ hB)).mono ?_; rintro e w1 ⟨rfl, hbb⟩; replace bM := bM.below hbb; replace bZ := bZ.below hbb; replace hB := Below.step0 hB hbb; clear hbb cC))
    obtain ⟨w2, hw2⟩ : ∃ w2, w2 = w1.alloc (.cells #[.int .i64 b, .int .i64 (b + n), .int .i64 0] 66) := ⟨_, rfl⟩
    rw [← hw2]
    have hR : Brm w2 w1.heap.size b n 0 := by rw [hw2]; exact ⟨Box.new _ _ _, HX.out, Nat.zero_le _⟩
    have hz0 := bZ.lt
    replace bM : Box w2 w.heap.size (mcC x q).toArray := by rw [hw2]; exact bM.alloc _
    replace bZ : Box w2 (w.heap.size + 1) z64.toArray := by rw [hw2]; exact bZ.alloc _
    have hs1 : w.heap.size ≤ w1.heap.size := hB.size
    replace hB : Below w.heap.size w w2 := by rw [hw2]; exact hB.alloc hs1 _
    have hl2 : w1.heap.size < w2.heap.size := hR.box.lt
    have hAW : ∀ W, Off w1.heap.size w2 W → McAt W x q := fun W hW => by
      have h1 : Off w1.heap.size w W := ((Off.refl _ w).below hB).trans hW
      have h2 := hw0.out
      exact ⟨RowAt.vals (h2.m.row.offS hs1 h1), RowAt.offS h2.s hs1 h1, RowAt.offS h2.o hs1 h1, h2.c⟩
    have m1 : ¬ w.heap.size = w1.heap.size := by omega
    have m2 : ¬ w.heap.size + 1 = w1.heap.size := by omega
    clear hw2
    go_upto_region 6 with (first | ((with_reducible refine at_load ?_); refine pl_load_box (by rfl) 31 (.tmp 3) rfl w.heap.size (by rfl) (mcC x q) bM _ Tryz.underlying31 rfl hi ?_) | (go_at_call 22; refine (cS _ _ hAW hR).mono ?_; rintro e w3 ⟨q1, rfl, hOv, hRv, hAv, hQv⟩; replace bZ := hOv.box bZ m2; replace hB := hB.trans (hOv.to hs1 (Nat.le_of_lt hl2)); clear bM cS hR hAW) | ((with_reducible refine at_alloc ?_); refine wpList_alloc1 rfl 31 rfl _ (alloc_mach _) ?_) | ((with_reducible refine at_store ?_); refine pl_store_box rfl 31 (.tmp 11) (.tmp 26) rfl w3.heap.size (mcC Y q1) (by rfl) (by rfl) z64.toArray (Box.new _ _ _) (zY q1) (iY q1) (mc_one _ _) ?_; intro bT))
    have hbw : Below w3.heap.size w3 ((w3.alloc (.cells z64.toArray 31)).setCells w3.heap.size 0 (mcC Y q1)) := below_cells _ _ _ _ ((Below.refl _ _).alloc (Nat.le_refl _) _) (Nat.le_refl _)
    have hz3 := bZ.lt
    have hs3 := hRv.box.lt
    replace bZ := bZ.below hbw
    replace hRv := hRv.below hbw
    replace hAv := hAv.below hbw
    replace hB := hB.trans (hbw.mono hB.size)
    have hQ2 : OwnQ w2.heap.size ((w3.alloc (.cells z64.toArray 31)).setCells w3.heap.size 0 (mcC Y q1)).heap.size Y q1 := ⟨fun y hy => ⟨(hQv.m y hy).1, Nat.lt_of_lt_of_le (hQv.m y hy).2 hbw.size⟩, fun y hy => ⟨(hQv.s y hy).1, Nat.lt_of_lt_of_le (hQv.s y hy).2 hbw.size⟩, fun y hy => ⟨(hQv.o y hy).1, Nat.lt_of_lt_of_le (hQv.o y hy).2 hbw.size⟩, hQv.cm, hQv.cs, hQv.co⟩
    clear hbw hQv hOv
    generalize (w3.alloc (.cells z64.toArray 31)).setCells w3.heap.size 0 (mcC Y q1) = w4 at *
    obtain ⟨W, hW⟩ : ∃ W, W = w4.drew := ⟨_, rfl⟩
    replace bZ : Box W (w.heap.size + 1) z64.toArray := by rw [hW]; exact bZ.drew
    replace bT : Box W w3.heap.size (mcC Y q1).toArray := by rw [hW]; exact bT.drew
    replace hRv : Brm W w1.heap.size b n (0 + c) := by rw [Nat.zero_add, hW]; exact hRv.below (below_drew _)
    rw [Nat.zero_add] at hRv
    replace hAv : McAt W Y q1 := by rw [hW]; exact hAv.below (below_drew _)
    replace hB : Below w.heap.size w W := by rw [hW]; exact hB.drew
    replace hQ2 : OwnQ w2.heap.size W.heap.size Y q1 := by rw [hW]; exact hQ2
    have m3 : w3.heap.size ≠ w.heap.size + 1 := by omega
    have m4 : w1.heap.size ≠ w.heap.size + 1 := by omega
    have HF : Hid (w.heap.size + 1 < w2.heap.size ∧ Below w.heap.size w W ∧ McAt W Y q1 ∧ OwnQ w2.heap.size W.heap.size Y q1) := ⟨by omega, hB, hAv, hQ2⟩
    clear hB hAv hQ2
    refine wp_region_held_drew (S := fun w' => Off (w.heap.size + 1) W w') (by kernel_rfl) (by rw [hW]; exact Off.refl _ _) (fun hHeld => ?_)
    rw [← hW] at hHeld ⊢
    clear hW
    refine wpAnyH_take (i := 0) (v := .agg (mcC Y q1).toArray) rfl (by kernel_rfl) (by kernel_rfl) (by kernel_rfl) (fun _ _ _ h => h) (yieldsIf_load_mid (by rfl) 31 (.tmp 11) rfl w3.heap.size 0 (by rfl) (mcC Y q1) _ (fun wz hSw => box_range (hSw.box bT m3)) Tryz.underlying31 rfl (iY q1)) (by assumption) ?_
    try simp only [Act.put, List.getElem_toArray, List.getElem_cons_zero, List.getElem_cons_succ, List.setIfInBounds_toArray, List.set_cons_zero, List.set_cons_succ]
    refine wpAnyH_take (i := 1) (v := .pointer (some ⟨w1.heap.size, 2, none⟩)) rfl (by kernel_rfl) (by kernel_rfl) (by kernel_rfl) (fun _ _ _ h => h) (Or.inl ⟨by rfl, fun wz hSw => by go_simp⟩) (by assumption) ?_
    try simp only [Act.put, List.getElem_toArray, List.getElem_cons_zero, List.getElem_cons_succ, List.setIfInBounds_toArray, List.set_cons_zero, List.set_cons_succ]
    refine wpAnyH_take (i := 2) (v := .int .i64 (c : Int)) rfl (by kernel_rfl) (by kernel_rfl) (by kernel_rfl) (fun _ _ _ h => h) (Or.inl ⟨by rfl, fun wz hSw => by have q := (hRv.off hSw m4).cells.1; go_simp⟩) (by assumption) ?_
    try simp only [Act.put, List.getElem_toArray, List.getElem_cons_zero, List.getElem_cons_succ, List.setIfInBounds_toArray, List.set_cons_zero, List.set_cons_succ]
    refine wpAnyH_ready (rs := [3]) (by kernel_rfl) (by simp) (AllReadyH.cons rfl (fun K hK => ?_) AllReadyH.nil)
    rw [if_pos (by rfl)]
    refine wp_store_mid 31 (.tmp 6) (.tmp 27) rfl (w.heap.size + 1) 0 (mcC Y q1).toArray (by rfl) (by rfl) (box_there bZ (by rw [zY q1, List.size_toArray])) (by rw [List.size_toArray]; exact iY q1) (all_oneCell_toArray (mc_one _ _)) ?_
    refine hK.out _ _ (Off.cells _ _ _ _ (Off.refl _ _) (.inl rfl)) (fun hHeld => ?_)
    try simp only [Act.put, List.getElem_toArray, List.getElem_cons_zero, List.getElem_cons_succ, List.setIfInBounds_toArray, List.set_cons_zero, List.set_cons_succ]
    refine wpAnyH_take (i := 4) (v := .int .i64 (c : Int)) rfl (by kernel_rfl) (by kernel_rfl) (by kernel_rfl) (fun _ _ _ h => h) (Or.inl ⟨by rfl, fun wz hSw => by go_simp⟩) (by assumption) ?_
    try simp only [Act.put, List.getElem_toArray, List.getElem_cons_zero, List.getElem_cons_succ, List.setIfInBounds_toArray, List.set_cons_zero, List.set_cons_succ]
    refine wpAnyH_take (i := 5) (v := .int .i64 0) rfl (by kernel_rfl) (by kernel_rfl) (by kernel_rfl) (fun _ _ _ h => h) (Or.inl ⟨by rfl, fun wz hSw => by go_simp⟩) (by assumption) ?_
    try simp only [Act.put, List.getElem_toArray, List.getElem_cons_zero, List.getElem_cons_succ, List.setIfInBounds_toArray, List.set_cons_zero, List.set_cons_succ]
    refine wpAnyH_done (by kernel_rfl) ?_ _
    have bR := box_cells (cs := mcC Y q1) bZ (zY q1)
    have hld := run_loadVar_mid (P := Tryz.prog) (W.setCells (w.heap.size + 1) 0 (mcC Y q1)) (w.heap.size + 1) 0 31 (mcC Y q1) _ (box_range bR) Tryz.underlying31 rfl (iY q1)
    obtain ⟨hq0, hB, hAv, hQ2⟩ := HF.out
    go_wp2
    exact bodyPost_ret (v := .tuple #[.agg (mcC Y q1).toArray, .int .i64 (c : Int), .int .i64 0]) (by simp [results, Tryz.results10, asAddr, Act.put, hld]) rfl ⟨q1, rfl, below_cells _ _ _ _ hB (Nat.le_succ _), ⟨RowAt.vals (rows_cellsA (fun y hy => by have := (hQ2.m y hy).1; omega) hAv.m.row _), rows_cellsA (fun y hy => by have := (hQ2.s y hy).1; omega) hAv.s _, rows_cellsA (fun y hy => by have := (hQ2.o y hy).1; omega) hAv.o _, hAv.c⟩, by rw [size_cells]; exact ⟨fun y hy => ⟨by have := (hQ2.m y hy).1; omega, (hQ2.m y hy).2⟩, fun y hy => ⟨by have := (hQ2.s y hy).1; omega, (hQ2.s y hy).2⟩, fun y hy => ⟨by have := (hQ2.o y hy).1; omega, (hQ2.o y hy).2⟩, hQ2.cm, hQ2.cs, hQ2.co⟩⟩
  · rw [e1, e2]
    have gE : (swE b n x != 0) = true := by simpa using hE
    generalize swE b n x = E at *
    clear e1 e2 hE hA
    go_enter Tryz.func10, Tryz.ntmps10
    go_upto_region 1 with (first | ((with_reducible refine at_alloc ?_); refine wpList_alloc1 rfl 31 rfl _ (alloc_mach _) ?_))
    obtain ⟨w0, hw0⟩ : ∃ w0, w0 = (w.alloc (.cells (mcC x q).toArray 31)).alloc (.cells z64.toArray 31) := ⟨_, rfl⟩
    rw [← hw0]
    have bM : Box w0 w.heap.size (mcC x q).toArray := by rw [hw0]; exact b0.alloc _
    have bZ : Box w0 (w.heap.size + 1) z64.toArray := by rw [hw0]; exact Box.new1 _ _ _ _
    have hB : Below w.heap.size w w0 := by rw [hw0]; exact two _ _
    clear hw0 b0
    go_wp2_with (first |  ((with_reducible refine at_load ?_); refine pl_load_box (by rfl) 31 (.tmp 3) rfl w.heap.size (by rfl) (mcC x q) bM _ Tryz.underlying31 rfl hi ?_) | (go_at_call 21; refine (cC _ (HA.out _ hB)).mono ?_; rintro e w1 ⟨rfl, hbb⟩; replace bM := bM.below hbb; replace bZ := bZ.below hbb; replace hB := Below.step0 hB hbb; clear hbb cC) | ((with_reducible refine at_store ?_); refine pl_store_box rfl 31 (.tmp 6) (.tmp 18) rfl (w.heap.size + 1) z64 (by rfl) (by rfl) z64.toArray bZ rfl (by kernel_rfl) (mc_one _ _) ?_; intro bR))
    have hld := run_loadVar_mid (P := Tryz.prog) (w1.setCells (w.heap.size + 1) 0 z64) (w.heap.size + 1) 0 31 z64 _ (box_range bR) Tryz.underlying31 rfl (by kernel_rfl)
    exact bodyPost_ret (v := .tuple #[.agg z64.toArray, .int .i64 0, .int .i64 E]) (by simp [results, Tryz.results10, asAddr, Act.put, hld]) rfl ⟨zeroA, rfl, below_cells _ _ _ _ hB (Nat.le_succ _), ⟨.inl rfl, .inl rfl, .inl rfl, Nat.le_refl _, Nat.le_refl _, Nat.zero_le _⟩, ⟨fun y hy => (by cases hy), fun y hy => (by cases hy), fun y hy => (by cases hy), ⟨Nat.le_refl _, Nat.zero_le _⟩, ⟨Nat.le_refl _, Nat.zero_le _⟩, ⟨Nat.le_refl _, Nat.zero_le _⟩⟩⟩
end
section
open Go.ChangeShapes Go.WideShapes Go.ChangeAt Go.RowKit
set_option linter.unusedSimpArgs false
set_option linter.unusedVariables false
set_option maxRecDepth 100000

theorem swA_r8 {b n : Int} {x : MC} (h8 : x.r.length = 8) : (swA b n x).r.length = 8 := by
  rcases sw_cases b n x with ⟨_, e, _⟩ | ⟨_, e, _⟩
  · rw [e]
    show (x.r.map (swV b n)).length = 8
    rw [List.length_map]
    exact h8
  · rw [e]; rfl
def x39s : MC := ⟨[nil0, nil0, nil0, nil0, nil0, nil0, nil0, nil0], key0, [⟨true, 0, 0, 3, 2, 0, 0⟩], [], []⟩
theorem x39s_b : McB x39s := by
  refine ⟨rfl, fun v hv => ?_, ?_, fun v hv => ?_, fun f hf => ?_, fun f hf => ?_⟩
  · simp only [x39s, List.mem_cons, List.not_mem_nil, or_false, or_self] at hv
    subst hv
    unfold mvOk vb kb nil0
    decide
  · unfold x39s k5b kb key0; decide
  · simp only [x39s, List.mem_cons, List.not_mem_nil, or_false] at hv
    subst hv
    unfold mvOk vb kb
    decide
  · simp [x39s] at hf
  · simp [x39s] at hf
theorem zeroM_b : McB zeroM := by
  refine ⟨rfl, fun v hv => ?_, ?_, fun v hv => ?_, fun f hf => ?_, fun f hf => ?_⟩
  · simp only [zeroM, List.mem_cons, List.not_mem_nil, or_false, or_self] at hv
    subst hv
    unfold mvOk vb kb nil0
    decide
  · unfold zeroM k5b kb; decide
  · simp [zeroM] at hv
  · simp [zeroM] at hf
  · simp [zeroM] at hf
theorem sweep39 (g : Nat) (W : World) (hg : g < W.heap.size) (hc : At7 W g 0 ⟨true, 0, 0, 3, 2, 0, 0⟩) :
    Calls Tryz.prog 10 #[.agg #[.bool false, .int .i64 0, .int .i64 0, .int .i64 0, .int .i64 0, .int .i64 0, .int .i64 0, .bool false, .int .i64 0, .int .i64 0, .int .i64 0, .int .i64 0, .int .i64 0, .int .i64 0, .bool false, .int .i64 0, .int .i64 0, .int .i64 0, .int .i64 0, .int .i64 0, .int .i64 0, .bool false, .int .i64 0, .int .i64 0, .int .i64 0, .int .i64 0, .int .i64 0, .int .i64 0, .bool false, .int .i64 0, .int .i64 0, .int .i64 0, .int .i64 0, .int .i64 0, .int .i64 0, .bool false, .int .i64 0, .int .i64 0, .int .i64 0, .int .i64 0, .int .i64 0, .int .i64 0, .bool false, .int .i64 0, .int .i64 0, .int .i64 0, .int .i64 0, .int .i64 0, .int .i64 0, .bool false, .int .i64 0, .int .i64 0, .int .i64 0, .int .i64 0, .int .i64 0, .int .i64 0, .int .i64 0, .int .i64 0, .int .i64 0, .int .i64 0, .int .i64 0, .slice (some ⟨g, 0, none⟩) 1 1, .slice none 0 0, .slice none 0 0], .int .i64 4, .int .i64 1] W fun e w' => ∃ (Y : MC) (q' : MA) (B off : Nat), e = .returned (.tuple #[.agg (mcC Y q').toArray, .int .i64 1, .int .i64 0]) ∧ Below W.heap.size W w' ∧ Y.r.length = 8 ∧ Y.m.length = 1 ∧ q'.m = some ⟨B, off, none⟩ ∧ B < w'.heap.size ∧ At7 w' B off nil0 := by
  have hA : McAt W x39s ⟨some ⟨g, 0, none⟩, 1, none, 0, none, 0⟩ := ⟨.inr ⟨g, 0, rfl, hg, flat_of [⟨true, 0, 0, 3, 2, 0, 0⟩] fun k v hk j u hj => by
    cases k with
    | succ k => simp at hk
    | zero =>
      simp only [List.getElem?_cons_zero, Option.some.injEq] at hk
      subst hk
      obtain ⟨c0, c1, c2, c3, c4, c5, c6⟩ := hc
      rcases j with _ | _ | _ | _ | _ | _ | _ | j
      all_goals first | (cases hj; assumption) | (simp [mvC] at hj)⟩, .inl rfl, .inl rfl, Nat.le_refl _, Nat.le_refl _, show (1 : Nat) ≤ maxLen by unfold maxLen; decide⟩
  have h := sweep_top x39s ⟨some ⟨g, 0, none⟩, 1, none, 0, none, 0⟩ 4 1 W hA x39s_b (by decide) (by decide)
  refine h.mono ?_
  rintro e w' ⟨q', rfl, hB, hM, _⟩
  have e1 : swN 4 1 x39s = 1 := by decide +kernel
  have e2 : swE 4 1 x39s = 0 := by decide +kernel
  have e0 : swA 4 1 x39s = swM 4 1 x39s := by
    rcases sw_cases 4 1 x39s with ⟨_, h, _⟩ | ⟨h, _⟩
    · exact h
    · exact absurd e2 h
  rw [e0] at hM ⊢
  rw [e1, e2]
  obtain ⟨B, off, hq, hl, h7⟩ := hM.m.at (k := 0) (v := nil0) rfl
  exact ⟨_, q', B, off, rfl, hB, rfl, rfl, hq, hl, h7⟩
theorem sweep40 (W : World) :
    Calls Tryz.prog 10 #[.agg #[.bool false, .int .i64 0, .int .i64 0, .int .i64 0, .int .i64 0, .int .i64 0, .int .i64 0, .bool false, .int .i64 0, .int .i64 0, .int .i64 0, .int .i64 0, .int .i64 0, .int .i64 0, .bool false, .int .i64 0, .int .i64 0, .int .i64 0, .int .i64 0, .int .i64 0, .int .i64 0, .bool false, .int .i64 0, .int .i64 0, .int .i64 0, .int .i64 0, .int .i64 0, .int .i64 0, .bool false, .int .i64 0, .int .i64 0, .int .i64 0, .int .i64 0, .int .i64 0, .int .i64 0, .bool false, .int .i64 0, .int .i64 0, .int .i64 0, .int .i64 0, .int .i64 0, .int .i64 0, .bool false, .int .i64 0, .int .i64 0, .int .i64 0, .int .i64 0, .int .i64 0, .int .i64 0, .bool false, .int .i64 0, .int .i64 0, .int .i64 0, .int .i64 0, .int .i64 0, .int .i64 0, .int .i64 0, .int .i64 0, .int .i64 0, .int .i64 0, .int .i64 0, .slice none 0 0, .slice none 0 0, .slice none 0 0], .int .i64 (-1), .int .i64 0] W fun e w' => ∃ q', e = .returned (.tuple #[.agg (mcC zeroM q').toArray, .int .i64 0, .int .i64 1]) ∧ Below W.heap.size W w' := by
  have h := sweep_top zeroM zeroA (-1) 0 W ⟨.inl rfl, .inl rfl, .inl rfl, Nat.le_refl _, Nat.le_refl _, show (0 : Nat) ≤ maxLen from Nat.zero_le _⟩ zeroM_b (by decide) (by decide)
  refine h.mono ?_
  rintro e w' ⟨q', rfl, hB, hM, _⟩
  have e1 : swN (-1) 0 zeroM = 0 := by decide +kernel
  have e2 : swE (-1) 0 zeroM = 1 := by decide +kernel
  have e0 : swA (-1) 0 zeroM = zeroM := by
    rcases sw_cases (-1) 0 zeroM with ⟨h, _⟩ | ⟨_, h, _⟩
    · rw [e2] at h; cases h
    · exact h
  rw [e0, e1, e2]
  exact ⟨q', rfl, hB⟩
set_option maxHeartbeats 4000000 in
theorem keep_swept (w : World) : Calls Tryz.prog 11 #[] w fun e w' => e = .returned (.bool true) ∧ Below w.heap.size w w' := by
  go_enter Tryz.func11, Tryz.ntmps11
  go_upto_region 2 with (first | (go_at_call 10; refine (sweep39 w.heap.size _ (by simp) ⟨by simp, by simp, by simp, by simp, by simp, by simp, by simp⟩).mono ?_; rintro e w1 ⟨Y, q1, B, off, rfl, hbb, y8, ym, hq, hBl, h7⟩; have hB := Below.step0 ((Below.refl _ _).alloc (Nat.le_refl _) _) hbb; clear hbb; have iY : (Tryz.prog.info? 31).map (·.size) = some (mcC Y q1).length := mach_info y8; have zY : z64.toArray.size = (mcC Y q1).length := by rw [mc_length y8]; rfl) | ((with_reducible refine at_alloc ?_); refine wpList_alloc1 rfl 31 rfl _ (alloc_mach _) ?_) | ((with_reducible refine at_store ?_); refine pl_store_box rfl 31 (.tmp 1) (.tmp 13) rfl w1.heap.size (mcC Y q1) (by rfl) (by rfl) z64.toArray (Box.new _ _ _) zY iY (mc_one _ _) ?_; intro bT))
  have hbw : Below w1.heap.size w1 ((w1.alloc (.cells z64.toArray 31)).setCells w1.heap.size 0 (mcC Y q1)) := below_cells _ _ _ _ ((Below.refl _ _).alloc (Nat.le_refl _) _) (Nat.le_refl _)
  replace hB := Below.step0 hB hbw
  have hA7 : ValsAt ((w1.alloc (.cells z64.toArray 31)).setCells w1.heap.size 0 (mcC Y q1)) (some ⟨B, off, none⟩) [nil0] := ValsAt.below (w := w1) (.inr ⟨B, off, rfl, hBl, flat_of [nil0] fun k v hk j u hj => by
    cases k with
    | succ k => simp at hk
    | zero =>
      simp only [List.getElem?_cons_zero, Option.some.injEq] at hk
      subst hk
      obtain ⟨c0, c1, c2, c3, c4, c5, c6⟩ := h7
      rcases j with _ | _ | _ | _ | _ | _ | _ | j
      all_goals first | (cases hj; assumption) | (simp [mvC] at hj)⟩) hbw
  clear hbw h7
  generalize (w1.alloc (.cells z64.toArray 31)).setCells w1.heap.size 0 (mcC Y q1) = w2 at *
  have z2 := bT.lt
  go_upto_region 3 with (first | (go_at_call 10; refine (sweep40 _).mono ?_; rintro e w3 ⟨q2, rfl, hbb⟩; replace hB := Below.step0 hB hbb; replace bT := bT.below hbb; replace hA7 := hA7.below hbb; clear hbb) | ((with_reducible refine at_alloc ?_); refine wpList_alloc1 rfl 31 rfl _ (alloc_mach _) ?_) | ((with_reducible refine at_store ?_); refine pl_store_box rfl 31 (.tmp 4) (.tmp 19) rfl w3.heap.size (mcC zeroM q2) (by rfl) (by rfl) z64.toArray (Box.new _ _ _) rfl (mach_info rfl) (mc_one _ _) ?_; intro bU))
  have hbw : Below w3.heap.size w3 ((w3.alloc (.cells z64.toArray 31)).setCells w3.heap.size 0 (mcC zeroM q2)) := below_cells _ _ _ _ ((Below.refl _ _).alloc (Nat.le_refl _) _) (Nat.le_refl _)
  replace hB := Below.step0 hB hbw
  replace bT := bT.below hbw
  replace hA7 := hA7.below hbw
  clear hbw bU
  generalize (w3.alloc (.cells z64.toArray 31)).setCells w3.heap.size 0 (mcC zeroM q2) = w4 at *
  have lm := (mc_tail bT y8).lm
  rw [hq, ym] at lm
  obtain ⟨B', off', hq', _, c0, c1, c2, c3, c4, c5, c6⟩ := hA7.at (k := 0) (v := nil0) rfl
  cases hq'
  rw [Nat.zero_mul, Nat.add_zero] at c0 c1 c2 c3 c4 c5 c6
  simp only [nil0] at c0 c1 c2 c3 c4 c5 c6
  clear hA7 bT
  go_wp2
  go_ret
  exact ⟨rfl, hB⟩
end
end Go.Proofs.YtlfeglljpfihhaaGreatDoor
