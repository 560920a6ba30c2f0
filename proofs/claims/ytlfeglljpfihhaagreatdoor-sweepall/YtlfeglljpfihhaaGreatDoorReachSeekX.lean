/- package reach: seek: all that a machine comes to is held. -/
import Derived.Test.YtlfeglljpfihhaaGreatDoorRows
import Derived.Test.YtlfeglljpfihhaaGreatDoorCardBaseX
import Derived.Test.YtlfeglljpfihhaaGreatDoorValArgX
import Derived.Test.YtlfeglljpfihhaaGreatDoorCellChkX
import Derived.Test.YtlfeglljpfihhaaGreatDoorMemPureX
import Derived.Test.YtlfeglljpfihhaaGreatDoorStepRowX
import Derived.Test.YtlfeglljpfihhaaGreatDoorStepChkX
import Derived.Test.YtlfeglljpfihhaaGreatDoorSweepPureX
import Derived.Test.YtlfeglljpfihhaaGreatDoorRunTopX
import Derived.Test.YtlfeglljpfihhaaGreatDoorReachAddX
import Derived.Test.YtlfeglljpfihhaaGreatDoorReachFindX
import Derived.WalkKit
import Derived.ProofKit
import Derived.OpenShut
import Derived.OwnWalk
import Derived.Maps.OwnOps
import Derived.Deep.MidRow
import Derived.Deep.CutBlock
import Derived.Deep.RegionHeld3
namespace Go.Proofs.YtlfeglljpfihhaaGreatDoor
open Go.ChangeShapes Go.WideShapes Go.ChangeAt Go.RowKit
set_option linter.unusedSimpArgs false
set_option linter.unusedVariables false
set_option maxRecDepth 100000


/-- All keys of a machine. -/
def allK (x : MC) : List K5 := x.k :: (kysL x.r ++ kysL x.m ++ x.s.flatMap (fun f => f.c :: kysL [f.d]))
theorem all_len {x : MC} (h8 : x.r.length = 8) (h : mcE x = 0) : (allK x).length ≤ 500 := by
  obtain ⟨h1, h2, h3, h4, h5⟩ := mc_zero.1 h
  have m1 := (mem_small h3).1
  have s1 := (stk_zero.1 h4).1
  have l1 := kys_len x.r
  have l2 := kys_len x.m
  have l3 : ∀ fs : List FR, (fs.flatMap (fun f => f.c :: kysL [f.d])).length ≤ fs.length * 2 := fun fs => by
    induction fs with
    | nil => exact Nat.le_refl _
    | cons f fs ih =>
      have := kys_len [f.d]
      rw [List.flatMap_cons, List.length_append, List.length_cons]
      simp only [List.length_cons, List.length_nil] at this ⊢
      omega
  have := l3 x.s
  unfold allK
  rw [List.length_cons, List.length_append, List.length_append]
  omega
theorem ok_val {v : MV} (hv : chk1 v = 0) (hi : v.i = true) : ok5 (vK v) := by
  obtain ⟨i, n, p, b, l, a, s⟩ := v
  cases hi
  exact (keyE_ok hv).2
theorem ok_key {k : K5} (hk : chk5 k = 0) : ok5 k := by
  rcases chk5_cases k with ⟨h, _⟩ | ⟨_, h⟩
  · exact h
  · rw [h] at hk; cases hk
theorem all_ctx {x : MC} {q : MA} (h8 : x.r.length = 8) (h : mcE x = 0) (hz : x.m.length ≤ q.cm) (hy : q.cm ≤ maxLen) : RCtx x.m (allK x) q.cm (allK x).length := by
  obtain ⟨h1, h2, h3, h4, h5⟩ := mc_zero.1 h
  refine ⟨fun k hk => ?_, fun k hk => ?_, hz, hy, ?_⟩
  · unfold allK at hk
    simp only [List.mem_cons, List.mem_append, List.mem_flatMap] at hk
    rcases hk with rfl | (hk | hk) | ⟨f, hf, hk⟩
    · exact ok_key h2
    · obtain ⟨v, hv, hi, rfl⟩ := mem_kys.1 hk
      exact ok_val (chkL_all.1 h1 v hv) hi
    · obtain ⟨v, hv, hi, rfl⟩ := mem_kys.1 hk
      exact ok_val (chkL_all.1 (mem_small h3).2 v hv) hi
    · obtain ⟨g1, g2⟩ := fr_zero.1 (frs_all.1 (stk_zero.1 h4).2 f hf)
      rcases hk with rfl | hk
      · exact ok_key g1
      · obtain ⟨v, hv, hi, rfl⟩ := mem_kys.1 hk
        rw [List.mem_singleton] at hv
        subst hv
        exact ok_val g2 hi
  · unfold allK
    simp only [List.mem_cons, List.mem_append]
    exact .inr (.inl (.inr hk))
  · have := all_len h8 h
    unfold maxLen
    omega
/-- What of a machine has been looked for: its registers, its key, so many of its frames. -/
def rootT (x : MC) (n : Nat) (k : K5) : Prop := (k ∈ kysL x.r ∨ k = x.k) ∨ ∃ f ∈ x.s.take n, k = f.c ∨ k ∈ kysL [f.d]
theorem root_next {x : MC} {n : Nat} {f : FR} (hf : x.s[n]? = some f) (k : K5) : rootT x (n + 1) k ↔ rootT x n k ∨ (k = f.c ∨ k ∈ kysL [f.d]) := by
  unfold rootT
  rw [List.take_add_one, hf]
  simp only [Option.toList_some, List.mem_append, List.mem_singleton]
  constructor
  · rintro (h | ⟨g, hg | rfl, h⟩)
    · exact .inl (.inl h)
    · exact .inl (.inr ⟨g, hg, h⟩)
    · exact .inr h
  · rintro ((h | ⟨g, hg, h⟩) | h)
    · exact .inl h
    · exact .inr ⟨g, .inl hg, h⟩
    · exact .inr ⟨f, .inr rfl, h⟩
theorem root_rt {x : MC} {d : Bool} (k : K5) : Rt x d k ↔ rootT x (if d = true then x.s.length else 0) k := by
  constructor
  · intro h
    cases h with
    | reg v hv hi => exact .inl (.inl (mem_kys.2 ⟨v, hv, hi, rfl⟩))
    | code => exact .inl (.inr rfl)
    | fc hd f hf => rw [if_pos hd]; exact .inr ⟨f, by rw [List.take_length]; exact hf, .inl rfl⟩
    | fd hd f hf hi => rw [if_pos hd]; exact .inr ⟨f, by rw [List.take_length]; exact hf, .inr (mem_kys.2 ⟨f.d, by simp, hi, rfl⟩)⟩
  · rintro ((h | rfl) | ⟨f, hf, h⟩)
    · obtain ⟨v, hv, hi, rfl⟩ := mem_kys.1 h
      exact .reg v hv hi
    · exact .code
    · cases d
      · simp at hf
      · rw [if_pos rfl, List.take_length] at hf
        rcases h with rfl | h
        · exact .fc rfl f hf
        · obtain ⟨v, hv, hi, rfl⟩ := mem_kys.1 h
          rw [List.mem_singleton] at hv
          subst hv
          exact .fd rfl f hf hi
theorem all_root {x : MC} {n : Nat} {k : K5} (h : rootT x n k) : k ∈ allK x := by
  unfold allK
  simp only [List.mem_cons, List.mem_append, List.mem_flatMap]
  rcases h with (h | h) | ⟨f, hf, h⟩
  · exact .inr (.inl (.inl h))
  · exact .inl h
  · exact .inr (.inr ⟨f, List.mem_of_mem_take hf, h⟩)
theorem seek_zero (w : World) : (Instr.alloc 53 true (.tuple #[])).run Tryz.prog w = .ok (.pointer (some ⟨w.heap.size, 0, none⟩)) (w.alloc (.cells #[.map none, .slice none 0 0, .bool false] 53)) := by kernel_rfl
theorem info_seek : (Tryz.prog.info? 53).map (·.size) = some 3 := by kernel_rfl
set_option maxHeartbeats 4000000 in
theorem reach_seek_no (x : MC) (q : MA) (d : Bool) (w : World) (hA : McAt w x q) (hO : McB x) (h : ¬ mcE x = 0) :
    Calls Tryz.prog 14 #[.agg (mcC x q).toArray, .bool d] w fun e w' => e = .returned (.tuple #[.agg #[.map none, .slice none 0 0, .bool false], .int .i64 (mcE x)]) ∧ Below w.heap.size w w' := by
  have cC := fun w hA => step_check x q w hA hO
  have hi : (Tryz.prog.info? 31).map (·.size) = some (mcC x q).length := mach_info hO.r8
  have HA : Hid (∀ w', Below w.heap.size w w' → McAt w' x q) := fun w' hb => hA.below hb
  obtain ⟨E, hE⟩ : ∃ E, mcE x = E := ⟨_, rfl⟩
  rw [hE] at cC h ⊢
  have gE : (E != 0) = true := by simpa using h
  have hB : Below w.heap.size w ((w.alloc (.cells (mcC x q).toArray 31)).alloc (.cells #[.map none, .slice none 0 0, .bool false] 53)) := two _ _
  have bM := (Box.new w (mcC x q).toArray 31).alloc (.cells #[.map none, .slice none 0 0, .bool false] 53)
  have bZ := Box.new1 w (.cells (mcC x q).toArray 31) #[.map none, .slice none 0 0, .bool false] 53
  clear hA hE h
  generalize mcC x q = L at *
  go_enter Tryz.func14, Tryz.ntmps14
  go_wp2_with (first | ((with_reducible refine at_alloc ?_); refine wpList_alloc1 rfl 53 rfl _ (seek_zero _) ?_) | ((with_reducible refine at_load ?_); refine pl_load_box (by rfl) 31 (.tmp 2) rfl w.heap.size (by rfl) L bM _ Tryz.underlying31 rfl hi ?_) | (go_at_call 24; refine (cC _ (HA.out _ hB)).mono ?_; rintro e w1 ⟨rfl, hbb⟩; replace bZ := bZ.below hbb; replace hB := Below.step0 hB hbb; clear hbb cC bM) | ((with_reducible refine at_store ?_); refine pl_store_box rfl 53 (.tmp 4) (.tmp 14) rfl (w.heap.size + 1) [.map none, .slice none 0 0, .bool false] (by rfl) (by rfl) #[.map none, .slice none 0 0, .bool false] bZ rfl info_seek (by decide) ?_; intro bR))
  have hld := run_loadVar_mid (P := Tryz.prog) _ (w.heap.size + 1) 0 53 [.map none, .slice none 0 0, .bool false] _ (box_range bR) Tryz.underlying53 rfl info_seek
  exact bodyPost_ret (v := .tuple #[.agg #[.map none, .slice none 0 0, .bool false], .int .i64 E]) (by rw [results_cell_tmp Tryz.results14]; simp [asAddr, Result.andThen, hld]) rfl ⟨rfl, below_cells _ _ _ _ hB (by omega)⟩
theorem vals_one {w W : World} {v : MV} {T : TypeId} {B : Nat} (hW : Off B (w.alloc (.cells #[.bool v.i, .int .i64 v.n, .int .i64 v.p, .int .i64 v.b, .int .i64 v.l, .int .i64 v.a, .int .i64 v.s] T)) W) (hB : B < w.heap.size) : ValsAt W (some ⟨w.heap.size, 0, none⟩) [v] := by
  have b := hW.box (Box.new w #[.bool v.i, .int .i64 v.n, .int .i64 v.p, .int .i64 v.b, .int .i64 v.l, .int .i64 v.a, .int .i64 v.s] T) (by omega)
  refine .inr ⟨_, 0, rfl, b.lt, fun j u hj => ?_⟩
  rw [Nat.zero_add, b.cell]
  rw [List.flatMap_cons, List.flatMap_nil, List.append_nil] at hj
  show (mvC v).toArray[j]? = _
  rw [List.getElem?_toArray]
  exact hj
theorem vals_box {W : World} {b : Nat} {x : MC} {q : MA} (h : Box W b (mcC x q).toArray) : ValsAt W (some ⟨b, 0, none⟩) x.r := by
  refine .inr ⟨b, 0, rfl, h.lt, fun j u hj => ?_⟩
  rw [Nat.zero_add, h.cell, List.getElem?_toArray]
  unfold mcC
  rw [List.getElem?_append_left (List.getElem?_eq_some_iff.1 hj).1]
  exact hj
set_option maxHeartbeats 8000000 in
theorem reach_seek (x : MC) (q : MA) (d : Bool) (w : World) (hA : McAt w x q) (hO : McB x) (zm : x.m.length ≤ q.cm) (ym : q.cm ≤ maxLen) (h : mcE x = 0) :
    Calls Tryz.prog 14 #[.agg (mcC x q).toArray, .bool d] w fun e w' => ∃ B n s, e = .returned (.tuple #[.agg #[.map (some B), .slice q.m x.m.length q.cm, .bool d], .int .i64 0]) ∧ KMap w' B n s ∧ (n ≤ 500 ∧ ∀ k, s k = true ↔ Has x d k) ∧ Below w.heap.size w w' ∧ w.heap.size ≤ B := by
  have cC := fun w hA => step_check x q w hA hO
  rw [h] at cC
  have h8 := hO.r8
  have hctx : RCtx x.m (allK x) q.cm (allK x).length := all_ctx h8 h zm ym
  have hall := all_len h8 h
  have hs16 := (stk_zero.1 (mc_zero.1 h).2.2.2.1).1
  have hi : (Tryz.prog.info? 31).map (·.size) = some (mcC x q).length := mach_info h8
  have HA : Hid (∀ w', Below w.heap.size w w' → McAt w' x q) := fun w' hb => hA.below hb
  have hB : Below w.heap.size w ((w.alloc (.cells (mcC x q).toArray 31)).alloc (.cells #[.map none, .slice none 0 0, .bool false] 53)) := two _ _
  have bM := (Box.new w (mcC x q).toArray 31).alloc (.cells #[.map none, .slice none 0 0, .bool false] 53)
  have bZ := Box.new1 w (.cells (mcC x q).toArray 31) #[.map none, .slice none 0 0, .bool false] 53
  have hmm := @run_makeMap Tryz.prog
  have cR := fun (B : Nat) W (hM : KMap W B 0 (fun _ => false)) hS hV => fin_all x.m d (allK x) B (allK x).length q.m q.cm hctx (cntN (fun _ => false) (allK x)) x.r (some ⟨w.heap.size, 0, none⟩) 8 W 0 (fun _ => false) (fun k hk => all_root (n := 0) (.inl (.inl hk))) (by unfold maxLen; omega) (Nat.le_refl _) (by rw [cnt_all]; omega) hM hS hV
  have HF : Hid (∀ B m, FindC x.m d (allK x) B (allK x).length q.m q.cm m) := fun B m => find_all x.m d (allK x) B (allK x).length q.m q.cm hctx m
  have HI : Hid (∀ B m, FindInC x.m d (allK x) B (allK x).length q.m q.cm m) := fun B m => fin_all x.m d (allK x) B (allK x).length q.m q.cm hctx m
  rw [h8] at cR
  clear hA h hctx
  obtain ⟨L, hL⟩ : ∃ L, mcC x q = L := ⟨_, rfl⟩
  have HL : Hid (mcC x q = L) := hL
  rw [hL] at hi hB bM bZ cC ⊢
  clear hL
  go_enter Tryz.func14, Tryz.ntmps14
  go_upto_region 4 with (first | ((with_reducible refine at_alloc ?_); refine wpList_alloc1 rfl 53 rfl _ (seek_zero _) ?_) | ((with_reducible refine at_load ?_); refine pl_load_box (by rfl) 31 (.tmp 2) rfl w.heap.size (by rfl) L bM _ Tryz.underlying31 rfl hi ?_) | (go_at_call 24; refine (cC _ (HA.out _ hB)).mono ?_; rintro e w1 ⟨rfl, hbb⟩; replace bZ := bZ.below hbb; replace bM := bM.below hbb; replace hB := Below.step0 hB hbb; clear hbb cC))
  have hl0 := bZ.lt
  have hl1 : w.heap.size ≤ w1.heap.size := hB.size
  have hl2 : w.heap.size < w1.heap.size := by omega
  obtain ⟨-, -, -, -, -, lm, -, -⟩ := mc_tail (q := q) (by rw [HL.out]; exact bM) h8
  go_upto_region 5 with fail
  obtain ⟨wA, hwA⟩ : ∃ wA, wA = ((w1.alloc (.map #[] 0)).alloc (.cells #[.map (some w1.heap.size), .slice q.m x.m.length q.cm, .bool d] 53)) := ⟨_, rfl⟩
  have bS : Box wA (w1.heap.size + 1) #[.map (some w1.heap.size), .slice q.m x.m.length q.cm, .bool d] := by rw [hwA]; exact Box.new1 _ _ _ _
  have hX : Below w1.heap.size w1 wA := by rw [hwA]; exact two _ _
  have hMA : KMap wA.drew w1.heap.size 0 (fun _ => false) := by rw [hwA]; exact ((KMap.made w1).below ((Below.refl _ _).alloc (Nat.le_refl _) _)).below (below_drew _)
  have hsA : w1.heap.size ≤ wA.heap.size := hX.size
  rw [← hwA]
  have HW : Hid (∀ W, Off w1.heap.size wA W → Box W w.heap.size (mcC x q).toArray ∧ Box W (w.heap.size + 1) #[.map none, .slice none 0 0, .bool false] ∧ Box W (w1.heap.size + 1) #[.map (some w1.heap.size), .slice q.m x.m.length q.cm, .bool d] ∧ Below w.heap.size w W ∧ McAt W x q) := fun W hW => by
    have g1 : Box wA w.heap.size L.toArray := bM.below hX
    have g2 : Box wA (w.heap.size + 1) #[.map none, .slice none 0 0, .bool false] := bZ.below hX
    have g5 : Below w.heap.size w W := (Below.step0 hB hX).trans (hW.to hl1 hsA)
    refine ⟨?_, hW.box g2 (by omega), hW.box bS (by omega), g5, HA.out _ g5⟩
    rw [HL.out]
    exact hW.box g1 (by omega)
  clear hwA hX
  obtain ⟨zM, -, zS, -, -⟩ := HW.out wA (Off.refl _ _)
  refine wp_region_held_drew (S := fun w' => Box w' w.heap.size (mcC x q).toArray ∧ Box w' (w1.heap.size + 1) #[.map (some w1.heap.size), .slice q.m x.m.length q.cm, .bool d]) (by kernel_rfl) ⟨zM.drew, zS.drew⟩ (fun hHeld => ?_)
  refine wpAnyH_take (i := 0) (v := ?_) rfl (by kernel_rfl) (by kernel_rfl) (by kernel_rfl) (fun _ _ _ h => h) (Or.inl ⟨by rfl, ?_⟩) (by assumption) ?_
  rotate_left 1
  · intro wz hSw; obtain ⟨⟨_, q1, _⟩, ⟨_, q2, _⟩⟩ := hSw; go_simp; try with_reducible rfl
  try simp only [Act.put, List.getElem_toArray, List.getElem_cons_zero, List.getElem_cons_succ, List.setIfInBounds_toArray, List.set_cons_zero, List.set_cons_succ]
  refine wpAnyH_take (i := 1) (v := ?_) rfl (by kernel_rfl) (by kernel_rfl) (by kernel_rfl) (fun _ _ _ h => h) (Or.inl ⟨by rfl, ?_⟩) (by assumption) ?_
  rotate_left 1
  · intro wz hSw; obtain ⟨⟨_, q1, _⟩, ⟨_, q2, _⟩⟩ := hSw; go_simp; try with_reducible rfl
  try simp only [Act.put, List.getElem_toArray, List.getElem_cons_zero, List.getElem_cons_succ, List.setIfInBounds_toArray, List.set_cons_zero, List.set_cons_succ]
  refine wpAnyH_take (i := 2) (v := ?_) rfl (by kernel_rfl) (by kernel_rfl) (by kernel_rfl) (fun _ _ _ h => h) (Or.inl ⟨by rfl, ?_⟩) (by assumption) ?_
  rotate_left 1
  · intro wz hSw; obtain ⟨⟨_, q1, _⟩, ⟨_, q2, _⟩⟩ := hSw; go_simp; try with_reducible rfl
  try simp only [Act.put, List.getElem_toArray, List.getElem_cons_zero, List.getElem_cons_succ, List.setIfInBounds_toArray, List.set_cons_zero, List.set_cons_succ]
  refine wpAnyH_ready (rs := [3]) (by kernel_rfl) (by simp) (AllReadyH.cons rfl (fun K hK => ?_) AllReadyH.nil)
  go_simp
  go_at_call 27
  refine (cR _ wA.drew hMA (fun W hW => (HW.out _ ((Off.refl _ _).drew.trans hW)).2.2.2.2.m) (fun W hW => vals_box (HW.out _ ((Off.refl _ _).drew.trans hW)).1)).mono ?_
  rintro e w2 ⟨rfl, hP⟩
  have HP : Hid (FPost x.m d (allK x) w1.heap.size (allK x).length (fun _ => false) (fun j => j ∈ kysL x.r) wA.drew w2) := hP
  have hO2 : Off w1.heap.size wA w2 := (by obtain ⟨_, _, _, _, _, g4⟩ := HP.out; exact (Off.refl _ _).drew.trans g4)
  clear hP
  refine hK.out _ _ ⟨(HW.out _ hO2).1, (HW.out _ hO2).2.2.1⟩ (fun hHeld => ?_)
  try simp only [Act.put, List.getElem_toArray, List.getElem_cons_zero, List.getElem_cons_succ, List.setIfInBounds_toArray, List.set_cons_zero, List.set_cons_succ]
  refine wpAnyH_done (by kernel_rfl) ?_ _
  go_upto_region 6 with fail
  obtain ⟨n2, s2, g1, g2, g3, g4⟩ := HP.out
  obtain ⟨zM2, zR2, zS2, -, -⟩ := HW.out _ hO2
  obtain ⟨k0, k1, k2, k3, k4, -, ls, -⟩ := mc_tail zM2 h8
  have qS2 := zS2.cell
  have lS2 := zS2.lt
  have lM2 := zM2.lt
  have cF := HF.out w1.heap.size (cntN s2 (allK x)) x.k w2 n2 s2 (all_root (n := 0) (.inl (.inr rfl))) (Nat.le_refl _) g2 g1 (fun W hW => (HW.out _ (hO2.trans hW)).2.2.2.2.m)
  unfold kV5 at cF
  have HG2 : Hid (Gr x.m d (fun _ => (false : Bool) = true) (fun k => s2 k = true) (fun j => j ∈ kysL x.r)) := g3
  clear HP g1 g2 g3 g4 cR hMA zM zS hHeld lm bM bZ hB hi hmm
  cases d
  · go_upto_region 14 with (go_at_call 28; refine cF.mono ?_; rintro e w3 ⟨rfl, hP3⟩; have HP3 : Hid (FPost x.m false (allK x) w1.heap.size (allK x).length s2 (fun j => j = x.k) w2 w3) := hP3; clear hP3)
    obtain ⟨n3, s3, g1, g2, g3, g4⟩ := HP3.out
    have hO3 := hO2.trans g4
    have hr := gr_has (x := x) (d := false) ((HG2.out.trans g3 (T := Rt x false) (fun k => by rw [root_rt]; unfold rootT; simp))) (fun k h => by cases h)
    clear k0 k1 k2 k3 k4 ls qS2 cF
    obtain ⟨zM, zR, zS, zB, zA⟩ := HW.out _ hO3
    go_wp2_with (first | ((with_reducible refine at_load ?_); refine pl_load_box (by rfl) 53 (.tmp 7) rfl (w1.heap.size + 1) (by rfl) [.map (some w1.heap.size), .slice q.m x.m.length q.cm, .bool false] zS _ Tryz.underlying53 rfl info_seek ?_) | ((with_reducible refine at_store ?_); refine pl_store_box rfl 53 (.tmp 4) (.tmp 47) rfl (w.heap.size + 1) [.map (some w1.heap.size), .slice q.m x.m.length q.cm, .bool false] (by rfl) (by rfl) #[.map none, .slice none 0 0, .bool false] zR rfl info_seek (by intro u hu; simp only [List.mem_cons, List.not_mem_nil, or_false] at hu; rcases hu with rfl | rfl | rfl <;> rfl) ?_; intro bR))
    have hld := run_loadVar_mid (P := Tryz.prog) _ (w.heap.size + 1) 0 53 [.map (some w1.heap.size), .slice q.m x.m.length q.cm, .bool false] _ (box_range bR) Tryz.underlying53 rfl info_seek
    first | exact bodyPost_ret (v := .tuple #[.agg #[.map (some w1.heap.size), .slice q.m x.m.length q.cm, .bool false], .int .i64 0]) (by rw [results_cell_tmp Tryz.results14]; simp [asAddr, Result.andThen, hld]) rfl ⟨w1.heap.size, _, _, rfl, KMap.off g1 (Off.cells _ _ _ _ (Off.refl _ _) (.inl rfl)) (by omega), ⟨by omega, hr⟩, below_cells _ _ _ _ zB (by omega), hl1⟩ | exact bodyPost_ret (v := .tuple #[.agg #[.map (some w1.heap.size), .slice q.m x.m.length q.cm, .bool false], .int .i64 0]) (by rw [results_cell_tmp Tryz.results14]; simp [asAddr, Result.andThen, hld]) rfl ⟨w1.heap.size, rfl, _, _, KMap.off g1 (Off.cells _ _ _ _ (Off.refl _ _) (.inl rfl)) (by omega), ⟨by omega, hr⟩, below_cells _ _ _ _ zB (by omega), hl1⟩
  · go_upto_region 9 with (go_at_call 28; refine cF.mono ?_; rintro e w3 ⟨rfl, hP3⟩; have HP3 : Hid (FPost x.m true (allK x) w1.heap.size (allK x).length s2 (fun j => j = x.k) w2 w3) := hP3; have ls3 : w3.cell? ⟨w.heap.size, 62, none⟩ = some (.slice q.s x.s.length q.cs) := (by obtain ⟨_, _, _, _, _, g4⟩ := HP3.out; exact (mc_tail (HW.out _ (hO2.trans g4)).1 h8).ls); clear hP3)
    obtain ⟨n3, s3, g1, g2, g3, g4⟩ := HP3.out
    have hO3 := hO2.trans g4
    have hr := HG2.out.trans g3 (T := rootT x 0) (fun k => by unfold rootT; simp)
    clear HP3 HG2 k0 k1 k2 k3 k4 ls ls3 qS2 lS2 lM2 zM2 zR2 zS2 g3 g4 hO2 cF
    go_loopw [33] (fun i wr => ∃ k : Nat, k ≤ x.s.length ∧ i = .int .i64 (k : Int) ∧ Off w1.heap.size wA wr ∧ ∃ n' s', KMap wr w1.heap.size n' s' ∧ n' + cntN s' (allK x) ≤ (allK x).length ∧ Gr x.m true (fun _ => (false : Bool) = true) (fun k => s' k = true) (rootT x k)) (fun i _ => x.s.length - (intOf i).toNat)
    case atStart => exact ⟨0, Nat.zero_le _, rfl, hO3, n3, s3, g1, g2, hr⟩
    case round =>
      clear hO3 g1 g2 hr
      obtain ⟨k, hk, rfl, hOr, n', s', hM, hN, hG⟩ := hrel
      have HG : Hid (Gr x.m true (fun _ => (false : Bool) = true) (fun k => s' k = true) (rootT x k)) := hG
      clear hG
      obtain ⟨zM, zR, zS, zB, zA⟩ := HW.out _ hOr
      have lS := zS.lt
      by_cases hlt : k < x.s.length
      · have gk : (k : Int) < (x.s.length : Int) := by omega
        have hw1 : IntKind.i64.wrap ((k : Int) + 1) = (k : Int) + 1 := by rw [IntKind.wrap_i64]; omega
        obtain ⟨f, hf⟩ : ∃ f, x.s[k]? = some f := ⟨_, List.getElem?_eq_getElem hlt⟩
        obtain ⟨BB, off, hqs, hBl2, c0, c1, c2, c3, c4, c5, c6, c7, c8, c9, c10, c11⟩ := zA.s.at hf
        have Hf : Hid (x.s[k]? = some f) := hf
        have hfm := List.mem_of_getElem? hf
        obtain ⟨w4, hw4⟩ : ∃ w4, w4 = wr.alloc (.cells #[.int .i64 f.c.p, .int .i64 f.c.b, .int .i64 f.c.l, .int .i64 f.c.a, .int .i64 f.c.s, .bool f.d.i, .int .i64 f.d.n, .int .i64 f.d.p, .int .i64 f.d.b, .int .i64 f.d.l, .int .i64 f.d.a, .int .i64 f.d.s] 76) := ⟨_, rfl⟩
        have bF : Box w4 wr.heap.size #[.int .i64 f.c.p, .int .i64 f.c.b, .int .i64 f.c.l, .int .i64 f.c.a, .int .i64 f.c.s, .bool f.d.i, .int .i64 f.d.n, .int .i64 f.d.p, .int .i64 f.d.b, .int .i64 f.d.l, .int .i64 f.d.a, .int .i64 f.d.s] := by rw [hw4]; exact Box.new _ _ _
        have hB4 : Below wr.heap.size wr w4 := by rw [hw4]; exact (Below.refl _ _).alloc (Nat.le_refl _) _
        have hM4 := hM.below hB4
        have hO4 := hOr.below hB4
        have qS := zS.cell
        have q4 := (zS.below hB4).cell
        have qF := bF.cell
        have l4 := bF.lt
        have cF := HF.out w1.heap.size (cntN s' (allK x)) f.c w4 n' s' (all_root (n := k + 1) ((root_next hf _).2 (.inr (.inl rfl)))) (Nat.le_refl _) hN hM4 (fun W hW => (HW.out _ (hO4.trans hW)).2.2.2.2.m)
        have cI := fun (p : Option Addr) W n s (hc : n + cntN s (allK x) ≤ (allK x).length) (hMW : KMap W w1.heap.size n s) (hOW : Off w1.heap.size wA W) (hV : ∀ W', Off w1.heap.size W W' → ValsAt W' p [f.d]) => HI.out w1.heap.size (cntN s (allK x)) [f.d] p 1 W n s (fun j hj => all_root (n := k + 1) ((root_next hf _).2 (.inr (.inr hj)))) (by unfold maxLen; simp) (Nat.le_refl _) hc hMW (fun W' hW => (HW.out _ (hOW.trans hW)).2.2.2.2.m) hV
        unfold kV5 at cF
        rw [hqs]
        clear hf hfm zM zR zB zA hM hB4
        go_upto_region 11 with fail
        rw [← hw4]
        clear hw4
        go_upto_region 12 with (go_at_call 28; refine cF.mono ?_; rintro e w5 ⟨rfl, hP5⟩; have HP5 : Hid (FPost x.m true (allK x) w1.heap.size (allK x).length s' (fun j => j = f.c) w4 w5) := hP5; clear hP5)
        obtain ⟨n5, s5, g1, g2, g3, g4⟩ := HP5.out
        have hO5 := hO4.trans g4
        have b5 := g4.box bF (by omega)
        have z5 := (HW.out _ hO5).2.2.1
        have hB5 : ∀ x, Below w5.heap.size w5 (w5.alloc x) := fun x => (Below.refl _ _).alloc (Nat.le_refl _) _
        have hM5 : ∀ x, KMap (w5.alloc x) w1.heap.size n5 s5 := fun x => g1.below (hB5 x)
        have hO6 : ∀ x, Off w1.heap.size wA (w5.alloc x) := fun x => hO5.alloc _
        have hc5 := g2
        have HG5 : Hid (Gr x.m true (fun k => s' k = true) (fun k => s5 k = true) (fun j => j = f.c)) := g3
        have q5 := b5.cell
        have y5 := z5.cell
        have m5 := b5.lt
        have r5 := z5.lt
        have dB : w1.heap.size < w5.heap.size := by omega
        clear HP5 g1 g2 g3 g4 bF q4 qF qS cF hB5 hN zS l4 lS c0 c1 c2 c3 c4 c5 c6 c7 c8 c9 c10 c11
        go_wp2_with (go_at_call 27; refine (cI _ _ n5 s5 hc5 (hM5 _) (hO6 _) (fun W' hW => vals_one hW dB)).mono ?_; rintro e w7 ⟨rfl, hP7⟩; have HP7 : Hid (FPost x.m true (allK x) w1.heap.size (allK x).length s5 (fun j => j ∈ kysL [f.d]) _ w7) := hP7; clear hP7)
        obtain ⟨n7, s7, g1, g2, g3, g4⟩ := HP7.out
        go_roundw
        case rel =>
          exact ⟨k + 1, by omega, rfl, (hO6 _).trans g4, n7, s7, g1, g2, (HG.out.trans HG5.out (T := fun j => rootT x k j ∨ j = f.c) (fun j => Iff.rfl)).trans g3 (fun j => by rw [root_next Hf.out]; exact or_assoc.symm)⟩
        case measure => simp [intOf]; omega
      · obtain rfl : k = x.s.length := by omega
        have gk : ¬ (x.s.length : Int) < (x.s.length : Int) := by omega
        have hr := gr_has (x := x) (d := true) (HG.out.cast (T := Rt x true) (fun k => by rw [root_rt, if_pos rfl])) (fun k h => by cases h)
        clear zM zS zB zA
        go_upto_region 14 with fail
        obtain ⟨zM, zR, zS, zB, zA⟩ := HW.out _ hOr
        go_wp2_with (first | ((with_reducible refine at_load ?_); refine pl_load_box (by rfl) 53 (.tmp 7) rfl (w1.heap.size + 1) (by rfl) [.map (some w1.heap.size), .slice q.m x.m.length q.cm, .bool true] zS _ Tryz.underlying53 rfl info_seek ?_) | ((with_reducible refine at_store ?_); refine pl_store_box rfl 53 (.tmp 4) (.tmp 47) rfl (w.heap.size + 1) [.map (some w1.heap.size), .slice q.m x.m.length q.cm, .bool true] (by rfl) (by rfl) #[.map none, .slice none 0 0, .bool false] zR rfl info_seek (by intro u hu; simp only [List.mem_cons, List.not_mem_nil, or_false] at hu; rcases hu with rfl | rfl | rfl <;> rfl) ?_; intro bR))
        have hld := run_loadVar_mid (P := Tryz.prog) _ (w.heap.size + 1) 0 53 [.map (some w1.heap.size), .slice q.m x.m.length q.cm, .bool true] _ (box_range bR) Tryz.underlying53 rfl info_seek
        first | exact bodyPost_ret (v := .tuple #[.agg #[.map (some w1.heap.size), .slice q.m x.m.length q.cm, .bool true], .int .i64 0]) (by rw [results_cell_tmp Tryz.results14]; simp [asAddr, Result.andThen, hld]) rfl ⟨w1.heap.size, _, _, rfl, KMap.off hM (Off.cells _ _ _ _ (Off.refl _ _) (.inl rfl)) (by omega), ⟨by omega, hr⟩, below_cells _ _ _ _ zB (by omega), hl1⟩ | exact bodyPost_ret (v := .tuple #[.agg #[.map (some w1.heap.size), .slice q.m x.m.length q.cm, .bool true], .int .i64 0]) (by rw [results_cell_tmp Tryz.results14]; simp [asAddr, Result.andThen, hld]) rfl ⟨w1.heap.size, rfl, _, _, KMap.off hM (Off.cells _ _ _ _ (Off.refl _ _) (.inl rfl)) (by omega), ⟨by omega, hr⟩, below_cells _ _ _ _ zB (by omega), hl1⟩
end Go.Proofs.YtlfeglljpfihhaaGreatDoor
