/- package sweep: a list of values. package sweep: a list of frames. package sweep: a whole machine. -/
import Derived.Test.YtlfeglljpfihhaaGreatDoorRows
import Derived.Test.YtlfeglljpfihhaaGreatDoorCardBaseX
import Derived.Test.YtlfeglljpfihhaaGreatDoorValArgX
import Derived.Test.YtlfeglljpfihhaaGreatDoorMemPureX
import Derived.Test.YtlfeglljpfihhaaGreatDoorStepChkX
import Derived.Test.YtlfeglljpfihhaaGreatDoorStepRowX
import Derived.Test.YtlfeglljpfihhaaGreatDoorSweepPureX
import Derived.Test.YtlfeglljpfihhaaGreatDoorSweepStrikeX
import Derived.WalkKit
import Derived.ProofKit
import Derived.OpenShut
import Derived.Deep.MidRow
import Derived.Deep.CutBlock
import Derived.Deep.RegionLaw
import Derived.Test.YtlfeglljpfihhaaGreatDoorRowAppX
namespace Go.Proofs.YtlfeglljpfihhaaGreatDoor
section
open Go.ChangeShapes Go.WideShapes Go.ChangeAt Go.RowKit
set_option linter.unusedSimpArgs false
set_option linter.unusedVariables false
set_option maxRecDepth 100000

set_option maxHeartbeats 4000000 in
theorem sweep_values (S : Nat) (b n : Int) (c : Nat) (s : Option Addr) (cap : Nat) (vs : List MV) (w : World) (hA : ∀ W, Off S w W → ValsAt W s vs) (hl : vs.length ≤ 400) (hk : ∀ v ∈ vs, v.i = true → ok5 (vK v)) (hS : Brm w S b n c) (hc : c + cVs b n vs ≤ 1000) :
    Calls Tryz.prog 38 #[.pointer (some ⟨S, 0, none⟩), .slice s vs.length cap] w fun e w' => ∃ g, e = .returned (.slice (some ⟨g, 0, none⟩) vs.length vs.length) ∧ Off S w w' ∧ Brm w' S b n (c + cVs b n vs) ∧ (w.heap.size ≤ g ∧ g < w'.heap.size) ∧ RowAt w' (some ⟨g, 0, none⟩) ((vs.map (swV b n)).flatMap mvC) := by
  obtain ⟨i0, hi, hz0, hz1, hz2⟩ := info_vals
  have hr := run_make (P := Tryz.prog) w 27 25 i0 _ Tryz.underlying27 hi hz0 .i64 .i64 (vs.length : Int) (vs.length : Int) (by omega) (Int.le_refl _) (by rw [hz2]; omega) (by omega)
  simp only [Int.toNat_natCast, hz1] at hr
  obtain ⟨C, hC⟩ : ∃ C, madeCells (Value.cells (.agg #[.bool false, .int .i64 0, .int .i64 0, .int .i64 0, .int .i64 0, .int .i64 0, .int .i64 0])) (vs.length * 7) = C := ⟨_, rfl⟩
  have zC : C.size = vs.length * 7 := by rw [← hC]; exact size_madeCells _ _
  rw [hC] at hr
  clear hC hi hz0 hz1 hz2
  have hlt := hS.box.lt
  have HH : Hid ((∀ W, Off S w W → ValsAt W s vs) ∧ (∀ v ∈ vs, v.i = true → ok5 (vK v)) ∧ Brm w S b n c ∧ c + cVs b n vs ≤ 1000 ∧ C.size = vs.length * 7) := ⟨hA, hk, hS, hc, zC⟩
  clear hA hk hS hc zC
  go_enter Tryz.func38, Tryz.ntmps38
  go_wp2
  go_loopw [13] (fun i wr => ∃ k : Nat, k ≤ vs.length ∧ i = .int .i64 (k : Int) ∧ Off S w wr ∧ Brm wr S b n (c + cVs b n (vs.take k)) ∧ ∃ D, Box wr w.heap.size D ∧ D.size = vs.length * 7 ∧ Pre D (((vs.take k).map (swV b n)).flatMap mvC)) (fun i _ => vs.length - (intOf i).toNat)
  case atStart =>
    obtain ⟨h1, h3, h4, h5, h6⟩ := HH.out
    exact ⟨0, Nat.zero_le _, rfl, (Off.refl _ _).alloc _, h4.below ((Below.refl _ _).alloc (Nat.le_refl _) _), C, Box.new _ _ _, h6, pre_nil _⟩
  case round =>
    obtain ⟨k, hk, rfl, hO, hR, D, hD, zD, pD⟩ := hrel
    by_cases hlt2 : k < vs.length
    · have gk : (k : Int) < (vs.length : Int) := by omega
      obtain ⟨v, hv⟩ : ∃ v, vs[k]? = some v := ⟨_, List.getElem?_eq_getElem hlt2⟩
      obtain ⟨h1, h3, h4, h5, h6⟩ := HH.out
      obtain ⟨B, off, rfl, hBl, c0, c1, c2, c3, c4, c5, c6⟩ := (h1 _ hO).at hv
      have hok := h3 v (List.mem_of_getElem? hv)
      obtain ⟨e1, e2⟩ := cVs_take (b := b) (n := n) hv
      have hgd := hD.lt
      have hsz := hO.size
      have hSl := hR.box.lt
      have cS := fun w hR => sweep_value S b n (c + cVs b n (vs.take k)) v w hok hR (by omega)
      have hlk : (((vs.take k).map (swV b n)).flatMap mvC).length = k * 7 := by rw [flat_len mvC_len, List.length_map, List.length_take, Nat.min_eq_left hk]
      have HP : Hid (Pre D (((vs.take k).map (swV b n)).flatMap mvC) ∧ (((vs.take k).map (swV b n)).flatMap mvC).length = k * 7 ∧ vs[k]? = some v ∧ D.size = vs.length * 7 ∧ cVs b n (vs.take (k + 1)) = cVs b n (vs.take k) + cV b n v) := ⟨pD, hlk, hv, zD, e1⟩
      have hD7 : k * 7 + 7 ≤ D.size := by omega
      have n1 : ¬ w.heap.size = wr.heap.size := by omega
      have n2 : ¬ wr.heap.size = w.heap.size := by omega
      have n3 : ¬ w.heap.size = S := by omega
      clear h1 h3 h4 h5 h6 hok hv e1 e2 pD zD hlk
      go_wp2_with (first | (go_at_call 36; refine (cS _ (hR.below ((Below.refl _ _).alloc (Nat.le_refl _) _))).mono ?_; rintro e w1 ⟨rfl, hOv, hRv⟩; have hD1 := hOv.box (hD.alloc _) n3; have hO1 := (hO.alloc _).trans hOv; clear hOv cS) | ((with_reducible refine at_store ?_); refine pl_store_part rfl 25 (.tmp 23) (.tmp 22) rfl w.heap.size (k * 7) (mvC (swV b n v)) (by rfl) (by rfl) D hD1 hD7 info_val7 (val_one _) ?_; intro w2 D' hOs hDs zDs k1 k2))
      have hFin : Hid (Off S w w2 ∧ Brm w2 S b n (c + cVs b n (vs.take (k + 1))) ∧ Box w2 w.heap.size D' ∧ D'.size = vs.length * 7 ∧ Pre D' (((vs.take (k + 1)).map (swV b n)).flatMap mvC)) := by
        obtain ⟨p1, p2, p3, p4, p5⟩ := HP.out
        refine ⟨hO1.new hOs (Nat.le_refl _), ?_, hDs, by rw [zDs, p4], ?_⟩
        · rw [p5, ← Nat.add_assoc]
          exact hRv.off hOs (by omega)
        · rw [take_snoc p3, List.flatMap_append]
          exact pre_snoc p2 p1 (by simpa using k1) (by simpa using k2)
      clear hOs hDs zDs k1 k2 hO1 hRv hD1 hO hR hD
      go_roundw
      case rel =>
        obtain ⟨f1, f2, f3, f4, f5⟩ := hFin.out
        exact ⟨k + 1, by omega, rfl, f1, f2, D', f3, f4, f5⟩
      case measure => simp [intOf]; omega
    · obtain rfl : k = vs.length := by omega
      have gk : ¬ (vs.length : Int) < (vs.length : Int) := by omega
      rw [List.take_length] at hR pD
      have hgd := hD.lt
      have hrow := pre_row hD pD
      have HE : Hid (Off S w wr ∧ Brm wr S b n (c + cVs b n vs) ∧ (w.heap.size ≤ w.heap.size ∧ w.heap.size < wr.heap.size) ∧ RowAt wr (some ⟨w.heap.size, 0, none⟩) ((vs.map (swV b n)).flatMap mvC)) := ⟨hO, hR, ⟨Nat.le_refl _, hgd⟩, hrow⟩
      clear hO hR hD zD pD hrow
      go_wp2
      go_ret
      exact ⟨_, rfl, HE.out⟩
end
section
open Go.ChangeShapes Go.WideShapes Go.ChangeAt Go.RowKit
set_option linter.unusedSimpArgs false
set_option linter.unusedVariables false
set_option maxRecDepth 100000

theorem frC_one (f : FR) : ∀ u ∈ frC f, u.oneCell' = true := by
  intro u hu
  simp only [frC, List.mem_cons, List.not_mem_nil, or_false] at hu
  rcases hu with rfl | rfl | rfl | rfl | rfl | rfl | rfl | rfl | rfl | rfl | rfl | rfl <;> rfl
theorem some_cell {D : Array Value} {j : Nat} (h : j < D.size) : ∃ u, D[j]? = some u := ⟨_, Array.getElem?_eq_getElem h⟩
set_option maxHeartbeats 4000000 in
theorem sweep_frames (S : Nat) (b n : Int) (c : Nat) (s : Option Addr) (cap : Nat) (vs : List FR) (w : World) (hA : ∀ W, Off S w W → FrsAt W s vs) (hl : vs.length ≤ 16) (hk : ∀ f ∈ vs, ok5 f.c ∧ (f.d.i = true → ok5 (vK f.d))) (hS : Brm w S b n c) (hc : c + cFs b n vs ≤ 1000) :
    Calls Tryz.prog 39 #[.pointer (some ⟨S, 0, none⟩), .slice s vs.length cap] w fun e w' => ∃ g, e = .returned (.slice (some ⟨g, 0, none⟩) vs.length vs.length) ∧ Off S w w' ∧ Brm w' S b n (c + cFs b n vs) ∧ (w.heap.size ≤ g ∧ g < w'.heap.size) ∧ RowAt w' (some ⟨g, 0, none⟩) ((vs.map (swF b n)).flatMap frC) := by
  obtain ⟨i0, hi, hz0, hz1, hz2⟩ := info_frames
  have hr := run_make (P := Tryz.prog) w 28 76 i0 _ Tryz.underlying28 hi hz0 .i64 .i64 (vs.length : Int) (vs.length : Int) (by omega) (Int.le_refl _) (by rw [hz2]; omega) (by omega)
  simp only [Int.toNat_natCast, hz1] at hr
  obtain ⟨C, hC⟩ : ∃ C, madeCells (Value.cells (.agg #[.int .i64 0, .int .i64 0, .int .i64 0, .int .i64 0, .int .i64 0, .bool false, .int .i64 0, .int .i64 0, .int .i64 0, .int .i64 0, .int .i64 0, .int .i64 0])) (vs.length * 12) = C := ⟨_, rfl⟩
  have zC : C.size = vs.length * 12 := by rw [← hC]; exact size_madeCells _ _
  rw [hC] at hr
  clear hC hi hz0 hz1 hz2
  have hlt := hS.box.lt
  have HH : Hid ((∀ W, Off S w W → FrsAt W s vs) ∧ (∀ f ∈ vs, ok5 f.c ∧ (f.d.i = true → ok5 (vK f.d))) ∧ Brm w S b n c ∧ c + cFs b n vs ≤ 1000 ∧ C.size = vs.length * 12) := ⟨hA, hk, hS, hc, zC⟩
  clear hA hk hS hc zC
  go_enter Tryz.func39, Tryz.ntmps39
  go_wp2
  go_loopw [13] (fun i wr => ∃ k : Nat, k ≤ vs.length ∧ i = .int .i64 (k : Int) ∧ Off S w wr ∧ Brm wr S b n (c + cFs b n (vs.take k)) ∧ ∃ D, Box wr w.heap.size D ∧ D.size = vs.length * 12 ∧ Pre D (((vs.take k).map (swF b n)).flatMap frC)) (fun i _ => vs.length - (intOf i).toNat)
  case atStart =>
    obtain ⟨h1, h3, h4, h5, h6⟩ := HH.out
    exact ⟨0, Nat.zero_le _, rfl, (Off.refl _ _).alloc _, h4.below ((Below.refl _ _).alloc (Nat.le_refl _) _), C, Box.new _ _ _, h6, pre_nil _⟩
  case round =>
    obtain ⟨k, hk, rfl, hO, hR, D, hD, zD, pD⟩ := hrel
    by_cases hlt2 : k < vs.length
    · have gk : (k : Int) < (vs.length : Int) := by omega
      obtain ⟨f, hv⟩ : ∃ f, vs[k]? = some f := ⟨_, List.getElem?_eq_getElem hlt2⟩
      obtain ⟨h1, h3, h4, h5, h6⟩ := HH.out
      obtain ⟨B, off, rfl, hBl, c0, c1, c2, c3, c4, c5, c6, c7, c8, c9, c10, c11⟩ := FrsAt.at (h1 _ hO) hv
      have hok := h3 f (List.mem_of_getElem? hv)
      obtain ⟨e1, e2⟩ := cFs_take (b := b) (n := n) hv
      have e3 : cF b n f = cK b n f.c + cV b n f.d := rfl
      have hgd := hD.lt
      have hsz := hO.size
      have hSl := hR.box.lt
      have cK' := fun w hR => sweep_key S b n (c + cFs b n (vs.take k)) f.c w hok.1 hR (by omega)
      have cV' := fun w hR => sweep_value S b n (c + cFs b n (vs.take k) + cK b n f.c) f.d w hok.2 hR (by omega)
      have hlk : (((vs.take k).map (swF b n)).flatMap frC).length = k * 12 := by rw [flat_len frC_len, List.length_map, List.length_take, Nat.min_eq_left hk]
      have HP : Hid (Pre D (((vs.take k).map (swF b n)).flatMap frC) ∧ (((vs.take k).map (swF b n)).flatMap frC).length = k * 12 ∧ vs[k]? = some f ∧ D.size = vs.length * 12 ∧ cFs b n (vs.take (k + 1)) = cFs b n (vs.take k) + cF b n f ∧ k * 12 + 12 ≤ D.size) := ⟨pD, hlk, hv, zD, e1, by omega⟩
      obtain ⟨z0, d0⟩ : ∃ u, D[k * 12]? = some u := some_cell (by omega)
      obtain ⟨z1, d1⟩ : ∃ u, D[k * 12 + 1]? = some u := some_cell (by omega)
      obtain ⟨z2, d2⟩ : ∃ u, D[k * 12 + 2]? = some u := some_cell (by omega)
      obtain ⟨z3, d3⟩ : ∃ u, D[k * 12 + 3]? = some u := some_cell (by omega)
      obtain ⟨z4, d4⟩ : ∃ u, D[k * 12 + 4]? = some u := some_cell (by omega)
      obtain ⟨z5, d5⟩ : ∃ u, D[k * 12 + 5]? = some u := some_cell (by omega)
      obtain ⟨z6, d6⟩ : ∃ u, D[k * 12 + 6]? = some u := some_cell (by omega)
      obtain ⟨z7, d7⟩ : ∃ u, D[k * 12 + 7]? = some u := some_cell (by omega)
      obtain ⟨z8, d8⟩ : ∃ u, D[k * 12 + 8]? = some u := some_cell (by omega)
      obtain ⟨z9, d9⟩ : ∃ u, D[k * 12 + 9]? = some u := some_cell (by omega)
      obtain ⟨z10, d10⟩ : ∃ u, D[k * 12 + 10]? = some u := some_cell (by omega)
      obtain ⟨z11, d11⟩ : ∃ u, D[k * 12 + 11]? = some u := some_cell (by omega)
      have n1 : ¬ w.heap.size = wr.heap.size := by omega
      have n2 : ¬ wr.heap.size = w.heap.size := by omega
      have n3 : ¬ w.heap.size = S := by omega
      have n4 : ¬ wr.heap.size = S := by omega
      clear h1 h3 h4 h5 h6 hok hv e1 e2 e3 pD zD hlk
      go_upto_region 5 with fail
      obtain ⟨wq, hwq⟩ : ∃ wq, wq = wr.alloc (.cells #[.int .i64 f.c.p, .int .i64 f.c.b, .int .i64 f.c.l, .int .i64 f.c.a, .int .i64 f.c.s, .bool f.d.i, .int .i64 f.d.n, .int .i64 f.d.p, .int .i64 f.d.b, .int .i64 f.d.l, .int .i64 f.d.a, .int .i64 f.d.s] 76) := ⟨_, rfl⟩
      rw [← hwq]
      have bF : Box wq.drew wr.heap.size #[.int .i64 f.c.p, .int .i64 f.c.b, .int .i64 f.c.l, .int .i64 f.c.a, .int .i64 f.c.s, .bool f.d.i, .int .i64 f.d.n, .int .i64 f.d.p, .int .i64 f.d.b, .int .i64 f.d.l, .int .i64 f.d.a, .int .i64 f.d.s] := by rw [hwq]; exact (Box.new _ _ _).drew
      have hO1 : Off S w wq.drew := by rw [hwq]; exact (hO.alloc _).drew
      have hR1 : Brm wq.drew S b n (c + cFs b n (vs.take k)) := by rw [hwq]; exact (hR.below ((Below.refl _ _).alloc (Nat.le_refl _) _)).below (below_drew _)
      have hD1 : Box wq.drew w.heap.size D := by rw [hwq]; exact (hD.alloc _).drew
      have qF := bF.cell
      have qD := hD1.cell
      have fD := hD1.free
      clear hwq hD hR hO
      go_region_law (first | (go_simp; go_at_call 37; refine (cK' _ hR1).mono ?_; rintro e w1 ⟨rfl, hOv, hRv⟩; replace bF := hOv.box bF n4; replace qF := bF.cell; replace hD1 := hOv.box hD1 n3; replace qD := hD1.cell; replace fD := hD1.free; replace hO1 := hO1.trans hOv; clear hOv cK' hR1) | (go_simp; go_at_call 36; refine (cV' _ hRv).mono ?_; rintro e w2 ⟨rfl, hOv, hRw⟩; replace bF := hOv.box bF n4; replace qF := bF.cell; replace hD1 := hOv.box hD1 n3; replace qD := hD1.cell; replace fD := hD1.free; replace hO1 := hO1.trans hOv; clear hOv cV' hRv))
      all_goals
        have hFin : Hid (Off S w (w2.setCells w.heap.size (k * 12) (frC (swF b n f))) ∧ Brm (w2.setCells w.heap.size (k * 12) (frC (swF b n f))) S b n (c + cFs b n (vs.take (k + 1))) ∧ ∃ D', Box (w2.setCells w.heap.size (k * 12) (frC (swF b n f))) w.heap.size D' ∧ D'.size = vs.length * 12 ∧ Pre D' (((vs.take (k + 1)).map (swF b n)).flatMap frC)) := by
          obtain ⟨p1, p2, p3, p4, p5, p6⟩ := HP.out
          have hOs : Off w.heap.size w2 (w2.setCells w.heap.size (k * 12) (frC (swF b n f))) := Off.cells _ _ _ _ (Off.refl _ _) (.inl rfl)
          obtain ⟨D', hDs, zDs, k1, k2⟩ := box_part (frC (swF b n f)) (k * 12) w2 D hD1 p6
          refine ⟨hO1.new hOs (Nat.le_refl _), ?_, D', hDs, by rw [zDs, p4], ?_⟩
          · rw [p5, ← Nat.add_assoc]
            have e3 : cF b n f = cK b n f.c + cV b n f.d := rfl
            rw [Nat.add_assoc c, e3, ← Nat.add_assoc, ← Nat.add_assoc]
            exact hRw.off hOs (by omega)
          · rw [take_snoc p3, List.flatMap_append]
            exact pre_snoc p2 p1 (by simpa using k1) (by simpa using k2)
        clear hO1 hRw hD1 bF qF qD fD
        go_wp2
        go_roundw
        case rel =>
          obtain ⟨f1, f2, D', f3, f4, f5⟩ := hFin.out
          exact ⟨k + 1, by omega, rfl, f1, f2, D', f3, f4, f5⟩
        case measure => simp [intOf]; omega
    · obtain rfl : k = vs.length := by omega
      have gk : ¬ (vs.length : Int) < (vs.length : Int) := by omega
      rw [List.take_length] at hR pD
      have hgd := hD.lt
      have hrow := pre_row hD pD
      have HE : Hid (Off S w wr ∧ Brm wr S b n (c + cFs b n vs) ∧ (w.heap.size ≤ w.heap.size ∧ w.heap.size < wr.heap.size) ∧ RowAt wr (some ⟨w.heap.size, 0, none⟩) ((vs.map (swF b n)).flatMap frC)) := ⟨hO, hR, ⟨Nat.le_refl _, hgd⟩, hrow⟩
      clear hO hR hD zD pD hrow
      go_wp2
      go_ret
      exact ⟨_, rfl, HE.out⟩
end
section
open Go.ChangeShapes Go.WideShapes Go.ChangeAt Go.RowKit
set_option linter.unusedSimpArgs false
set_option linter.unusedVariables false
set_option maxRecDepth 100000

/-- The first k registers are swept. -/
def rgT (b n : Int) (k : Nat) (x : MC) : MC := { x with r := (x.r.take k).map (swV b n) ++ x.r.drop k }
theorem rgT_zero (b n : Int) (x : MC) : rgT b n 0 x = x := by unfold rgT; simp
theorem rgT_r8 {b n : Int} {k : Nat} {x : MC} (h8 : x.r.length = 8) : (rgT b n k x).r.length = 8 := by unfold rgT; simp; omega
theorem rgT_put {b n : Int} {k : Nat} {x : MC} {v : MV} (hv : x.r[k]? = some v) : putR (rgT b n k x) k (swV b n v) = rgT b n (k + 1) x := by
  obtain ⟨hk, e⟩ := List.getElem?_eq_some_iff.1 hv
  unfold putR rgT
  dsimp only
  congr 1
  have hl : ((x.r.take k).map (swV b n)).length = k := by rw [List.length_map, List.length_take]; omega
  rw [List.set_append_right _ _ (by omega), hl, Nat.sub_self, List.drop_eq_getElem_cons hk, e, List.set_cons_zero, take_snoc hv, List.append_assoc]
  rfl
theorem rgT_all {b n : Int} {x : MC} (h8 : x.r.length = 8) : rgT b n 8 x = { x with r := x.r.map (swV b n) } := by
  unfold rgT
  rw [List.take_of_length_le (by omega), List.drop_eq_nil_of_le (by omega), List.append_nil]
structure SwOk (x : MC) : Prop where
  r8 : x.r.length = 8
  lm : x.m.length ≤ 400
  ls : x.s.length ≤ 16
  lo : x.o.length ≤ 100
  r : ∀ v ∈ x.r, v.i = true → ok5 (vK v)
  k : ok5 x.k
  m : ∀ v ∈ x.m, v.i = true → ok5 (vK v)
  s : ∀ f ∈ x.s, ok5 f.c ∧ (f.d.i = true → ok5 (vK f.d))
set_option maxHeartbeats 4000000 in
theorem sweep_sweep (S : Nat) (b n : Int) (x : MC) (q : MA) (w : World) (hA : ∀ W, Off S w W → McAt W x q) (hX : SwOk x) (hS : Brm w S b n 0) :
    Calls Tryz.prog 22 #[.pointer (some ⟨S, 0, none⟩), .agg (mcC x q).toArray] w fun e w' => ∃ q', e = .returned (.agg (mcC (swM b n x) q').toArray) ∧ Off S w w' ∧ Brm w' S b n (cM b n x) ∧ McAt w' (swM b n x) q' ∧ OwnQ w.heap.size w'.heap.size (swM b n x) q' := by
  have h8 := hX.r8
  have hix := fun w k v (hv : x.r[k]? = some v) => regs_index w h8 hv
  have hlt := hS.box.lt
  have n1 : ¬ w.heap.size = S := by omega
  have n2 : ¬ w.heap.size + 1 = S := by omega
  have hlen : (x.r.flatMap mvC).length = 56 := by rw [mv_len, h8]
  obtain ⟨L, hL⟩ : ∃ L, x.r.flatMap mvC = L := ⟨_, rfl⟩
  rw [hL] at hix hlen
  have HIX : Hid (∀ (w : World) (k : Nat) (v : MV), x.r[k]? = some v → (Instr.index 26 (.agg L.toArray) (.int .i64 (k : Int))).run Tryz.prog w = .ok (.agg #[.bool v.i, .int .i64 v.n, .int .i64 v.p, .int .i64 v.b, .int .i64 v.l, .int .i64 v.a, .int .i64 v.s]) w) := hix
  clear hix
  have HI : Hid ((Tryz.prog.info? 26).map (·.size) = some L.length) := by show _ = _; rw [hlen]; kernel_rfl
  have HX : Hid ((∀ W, Off S w W → McAt W x q) ∧ SwOk x ∧ Brm w S b n 0 ∧ x.r.flatMap mvC = L ∧ L.length = 56) := ⟨hA, hX, hS, hL, hlen⟩
  have b0 := Box.new w (mcC x q).toArray 31
  clear hA hX hS hL hlen
  go_enter Tryz.func22, Tryz.ntmps22
  go_upto_region 1 with (first | ((with_reducible refine at_alloc ?_); refine wpList_alloc1 rfl 31 rfl _ (alloc_mach _) ?_))
  obtain ⟨w0, hw0⟩ : ∃ w0, w0 = (w.alloc (.cells (mcC x q).toArray 31)).alloc (.cells z64.toArray 31) := ⟨_, rfl⟩
  rw [← hw0]
  have bM : Box w0 w.heap.size (mcC x q).toArray := by rw [hw0]; exact b0.alloc _
  have bZ : Box w0 (w.heap.size + 1) z64.toArray := by rw [hw0]; exact Box.new1 _ _ _ _
  have hO : Off S w w0 := by rw [hw0]; exact ((Off.refl _ _).alloc _).alloc _
  have hR : Brm w0 S b n 0 := by rw [hw0]; exact HX.out.2.2.1.below (two _ _)
  have HG : Hid (w0.rangeAt w.heap.size 0 L) := by
    show w0.rangeAt w.heap.size 0 L
    intro j u hj
    rw [← HX.out.2.2.2.1] at hj
    rw [Nat.zero_add, bM.cell, List.getElem?_toArray]
    unfold mcC
    rw [List.getElem?_append_left (List.getElem?_eq_some_iff.1 hj).1]
    exact hj
  clear hw0 b0
  go_upto_region 2 with (first | (refine wpList_load_mid rfl 26 (.tmp 7) rfl w.heap.size 0 (by rfl) L _ HG.out Tryz.underlying26 rfl HI.out ?_))
  clear HG
  go_loopw [9] (fun i wr => ∃ k : Nat, k ≤ 8 ∧ i = .int .i64 (k : Int) ∧ Off S w wr ∧ Brm wr S b n (0 + cVs b n (x.r.take k)) ∧ Box wr w.heap.size (mcC (rgT b n k x) q).toArray ∧ Box wr (w.heap.size + 1) z64.toArray) (fun i _ => 8 - (intOf i).toNat)
  case atStart => exact ⟨0, Nat.zero_le _, rfl, hO, hR, by rw [rgT_zero]; exact bM, bZ⟩
  case round =>
    clear hO hR bM bZ
    obtain ⟨k, hk, rfl, hO, hR, bM, bZ⟩ := hrel
    by_cases hk8 : k < 8
    · have gk : (k : Int) < 8 := by omega
      obtain ⟨v, hv⟩ : ∃ v, x.r[k]? = some v := ⟨_, List.getElem?_eq_getElem (by omega)⟩
      have hx1 := fun w => HIX.out w k v hv
      have hok := HX.out.2.1.r v (List.mem_of_getElem? hv)
      obtain ⟨e1, e2⟩ := cVs_take (b := b) (n := n) hv
      have hle := cVs_le b n x.r
      have cS := fun w hR => sweep_value S b n (0 + cVs b n (x.r.take k)) v w hok hR (by omega)
      have h8' : (rgT b n k x).r.length = 8 := rgT_r8 h8
      have hbl := bM.lt
      have n3 : ¬ wr.heap.size = S := by have := hR.box.lt; omega
      have HV : Hid (x.r[k]? = some v ∧ cVs b n (x.r.take (k + 1)) = cVs b n (x.r.take k) + cV b n v) := ⟨hv, e1⟩
      clear hv e1 e2 hle hok
      go_wp2_with (first | (go_at_call 36; refine (cS _ (hR.below ((Below.refl _ _).alloc (Nat.le_refl _) _))).mono ?_; rintro e w1 ⟨rfl, hOv, hRv⟩; have bM1 := hOv.box (bM.alloc _) n1; have bZ1 := hOv.box (bZ.alloc _) n2; have hO1 := (hO.alloc _).trans hOv; clear hOv cS hR bM bZ hO) | ((with_reducible refine at_store ?_); refine @pl_store_reg w1 w.heap.size (rgT b n k x) q k _ _ _ _ _ rfl (.tmp 18) (.tmp 16) rfl (swV b n v) (by rfl) (by rfl) bM1 h8' hk8 ?_; intro w2 hOs bM2))
      have hFin : Hid (Off S w w2 ∧ Brm w2 S b n (0 + cVs b n (x.r.take (k + 1))) ∧ Box w2 w.heap.size (mcC (rgT b n (k + 1) x) q).toArray ∧ Box w2 (w.heap.size + 1) z64.toArray) := by
        obtain ⟨p1, p2⟩ := HV.out
        refine ⟨hO1.new hOs (Nat.le_refl _), ?_, by rw [← rgT_put p1]; exact bM2, hOs.box bZ1 (by omega)⟩
        rw [p2, ← Nat.add_assoc]
        exact hRv.off hOs (by omega)
      clear hO1 hOs bM2 bM1 bZ1 hRv hx1
      go_roundw
      case rel => exact ⟨k + 1, by omega, rfl, hFin.out⟩
      case measure => simp [intOf]; omega
    · obtain rfl : k = 8 := by omega
      rw [rgT_all h8] at bM
      rw [List.take_of_length_le (by omega), Nat.zero_add] at hR
      have hs0 := hO.size
      have hbl := bM.lt
      have hSl := hR.box.lt
      have l1 := cVs_le b n x.r
      have l2 := cVs_le b n x.m
      have l3 := cFs_le b n x.s
      have l4 : cK b n x.k ≤ 1 := by unfold cK b1; split <;> omega
      have HXm := HX.out.2.1.lm
      have HXs := HX.out.2.1.ls
      have hr8 : (x.r.map (swV b n)).length = 8 := by rw [List.length_map]; exact h8
      have cK' := fun w hR => sweep_key S b n (cVs b n x.r) x.k w HX.out.2.1.k hR (by omega)
      have cV' := fun w hA hR => sweep_values S b n (cVs b n x.r + cK b n x.k) q.m q.cm x.m w hA HXm HX.out.2.1.m hR (by omega)
      have cF' := fun w hA hR => sweep_frames S b n (cVs b n x.r + cK b n x.k + cVs b n x.m) q.s q.cs x.s w hA HXs HX.out.2.1.s hR (by omega)
      replace bM : Box wr w.heap.size (mcC ⟨x.r.map (swV b n), x.k, x.m, x.s, x.o⟩ q).toArray := bM
      obtain ⟨k0, k1, k2, k3, k4, -, -, -⟩ := mc_tail bM hr8
      dsimp only at k0 k1 k2 k3 k4
      have f0 := bM.free
      have em : (x.m.map (swV b n)).length = x.m.length := List.length_map _
      have es : (x.s.map (swF b n)).length = x.s.length := List.length_map _
      clear l1 l2 l3 l4 HXm HXs
      go_upto_region 7 with (go_at_call 37; refine (cK' _ hR).mono ?_; rintro e w1 ⟨rfl, hOv, hRv⟩; replace bM := hOv.box bM n1; replace bZ := hOv.box bZ n2; replace hO := hO.trans hOv; clear k0 k1 k2 k3 k4 f0; obtain ⟨k0, k1, k2, k3, k4, -, -, -⟩ := mc_tail bM hr8; dsimp only at k0 k1 k2 k3 k4; have f0 := bM.free; clear hOv cK' hR)
      replace bM : Box (((((w1.setCell ⟨w.heap.size, 56, none⟩ (.int .i64 (swK b n x.k).p)).setCell ⟨w.heap.size, 57, none⟩ (.int .i64 (swK b n x.k).b)).setCell ⟨w.heap.size, 58, none⟩ (.int .i64 (swK b n x.k).l)).setCell ⟨w.heap.size, 59, none⟩ (.int .i64 (swK b n x.k).a)).setCell ⟨w.heap.size, 60, none⟩ (.int .i64 (swK b n x.k).s)) w.heap.size (mcC ⟨x.r.map (swV b n), swK b n x.k, x.m, x.s, x.o⟩ q).toArray := box_setK bM hr8 (swK b n x.k)
      replace bZ := (((((bZ.aside' (p := ⟨w.heap.size, 56, none⟩) (Nat.ne_of_lt (Nat.lt_succ_self _)) (.int .i64 (swK b n x.k).p)).aside' (p := ⟨w.heap.size, 57, none⟩) (Nat.ne_of_lt (Nat.lt_succ_self _)) (.int .i64 (swK b n x.k).b)).aside' (p := ⟨w.heap.size, 58, none⟩) (Nat.ne_of_lt (Nat.lt_succ_self _)) (.int .i64 (swK b n x.k).l)).aside' (p := ⟨w.heap.size, 59, none⟩) (Nat.ne_of_lt (Nat.lt_succ_self _)) (.int .i64 (swK b n x.k).a)).aside' (p := ⟨w.heap.size, 60, none⟩) (Nat.ne_of_lt (Nat.lt_succ_self _)) (.int .i64 (swK b n x.k).s))
      replace hO := (((((hO.setNew (p := ⟨w.heap.size, 56, none⟩) (Nat.le_refl _) (.int .i64 (swK b n x.k).p)).setNew (p := ⟨w.heap.size, 57, none⟩) (Nat.le_refl _) (.int .i64 (swK b n x.k).b)).setNew (p := ⟨w.heap.size, 58, none⟩) (Nat.le_refl _) (.int .i64 (swK b n x.k).l)).setNew (p := ⟨w.heap.size, 59, none⟩) (Nat.le_refl _) (.int .i64 (swK b n x.k).a)).setNew (p := ⟨w.heap.size, 60, none⟩) (Nat.le_refl _) (.int .i64 (swK b n x.k).s))
      have hR := (((((hRv.aside (p := ⟨w.heap.size, 56, none⟩) n1 (.int .i64 (swK b n x.k).p)).aside (p := ⟨w.heap.size, 57, none⟩) n1 (.int .i64 (swK b n x.k).b)).aside (p := ⟨w.heap.size, 58, none⟩) n1 (.int .i64 (swK b n x.k).l)).aside (p := ⟨w.heap.size, 59, none⟩) n1 (.int .i64 (swK b n x.k).a)).aside (p := ⟨w.heap.size, 60, none⟩) n1 (.int .i64 (swK b n x.k).s))
      clear hRv k0 k1 k2 k3 k4 f0
      generalize (((((w1.setCell ⟨w.heap.size, 56, none⟩ (.int .i64 (swK b n x.k).p)).setCell ⟨w.heap.size, 57, none⟩ (.int .i64 (swK b n x.k).b)).setCell ⟨w.heap.size, 58, none⟩ (.int .i64 (swK b n x.k).l)).setCell ⟨w.heap.size, 59, none⟩ (.int .i64 (swK b n x.k).a)).setCell ⟨w.heap.size, 60, none⟩ (.int .i64 (swK b n x.k).s)) = w2 at *
      obtain ⟨-, -, -, -, -, lm, ls, lo⟩ := mc_tail bM hr8
      dsimp only at lm ls lo
      have f0 := bM.free
      go_upto_region 8 with (go_at_call 38; refine (cV' _ (fun W hW => (HX.out.1 W (hO.trans hW)).m) hR).mono ?_; rintro e w3 ⟨g1, rfl, hOv, hRv, hg, r1⟩; have hz := bZ.lt; have hsl := hR.box.lt; have lgg1 : w.heap.size + 1 < g1 ∧ S < g1 ∧ g1 < w3.heap.size := ⟨by omega, by omega, hg.2⟩; clear hg; replace bM := hOv.box bM n1; replace bZ := hOv.box bZ n2; replace hO := hO.trans hOv; clear lm ls lo f0; obtain ⟨-, -, -, -, -, lm, ls, lo⟩ := mc_tail bM hr8; dsimp only at lm ls lo; have f0 := bM.free; clear hOv cV' hR hz hsl)
      have bM2 := box_setM bM hr8 (x.m.map (swV b n)) (some ⟨g1, 0, none⟩) x.m.length
      rw [em] at bM2
      dsimp only at bM2
      replace bZ := bZ.aside' (p := ⟨w.heap.size, 61, none⟩) (Nat.ne_of_lt (Nat.lt_succ_self _)) (.slice (some ⟨g1, 0, none⟩) x.m.length x.m.length)
      replace hO := hO.setNew (p := ⟨w.heap.size, 61, none⟩) (Nat.le_refl _) (.slice (some ⟨g1, 0, none⟩) x.m.length x.m.length)
      have hR := hRv.aside (p := ⟨w.heap.size, 61, none⟩) n1 (.slice (some ⟨g1, 0, none⟩) x.m.length x.m.length)
      replace r1 := RowAt.off r1 (by have := lgg1.1; omega) ((Off.refl w.heap.size w3).set 61 (.slice (some ⟨g1, 0, none⟩) x.m.length x.m.length))
      have lgg1' : g1 < (w3.setCell ⟨w.heap.size, 61, none⟩ (.slice (some ⟨g1, 0, none⟩) x.m.length x.m.length)).heap.size := by simpa [World.setCell] using lgg1.2.2
      replace lgg1 : w.heap.size + 1 < g1 ∧ S < g1 ∧ g1 < (w3.setCell ⟨w.heap.size, 61, none⟩ (.slice (some ⟨g1, 0, none⟩) x.m.length x.m.length)).heap.size := ⟨lgg1.1, lgg1.2.1, lgg1'⟩
      clear lgg1'
      clear hRv lm ls lo f0 bM
      have bM := bM2
      clear bM2
      generalize w3.setCell ⟨w.heap.size, 61, none⟩ (.slice (some ⟨g1, 0, none⟩) x.m.length x.m.length) = w4 at *
      obtain ⟨-, -, -, -, -, lm, ls, lo⟩ := mc_tail bM hr8
      dsimp only at lm ls lo
      have f0 := bM.free
      go_upto_region 9 with (go_at_call 39; refine (cF' _ (fun W hW => (HX.out.1 W (hO.trans hW)).s) hR).mono ?_; rintro e w5 ⟨g2, rfl, hOv, hRv, hg, r2⟩; have hz := bZ.lt; have hsl := hR.box.lt; have lgg2 : w.heap.size + 1 < g2 ∧ S < g2 ∧ g2 < w5.heap.size := ⟨by omega, by omega, hg.2⟩; replace r1 := RowAt.off r1 (by have := lgg1.2.1; omega) hOv; replace lgg1 : w.heap.size + 1 < g1 ∧ S < g1 ∧ g1 < w5.heap.size := ⟨lgg1.1, lgg1.2.1, Nat.lt_of_lt_of_le lgg1.2.2 hOv.size⟩; clear hg; replace bM := hOv.box bM n1; replace bZ := hOv.box bZ n2; replace hO := hO.trans hOv; clear lm ls lo f0; obtain ⟨-, -, -, -, -, lm, ls, lo⟩ := mc_tail bM hr8; dsimp only at lm ls lo; have f0 := bM.free; clear hOv cF' hR hz hsl)
      have bM2 := box_setS bM hr8 (x.s.map (swF b n)) (some ⟨g2, 0, none⟩) x.s.length
      rw [es] at bM2
      dsimp only at bM2
      replace bZ := bZ.aside' (p := ⟨w.heap.size, 62, none⟩) (Nat.ne_of_lt (Nat.lt_succ_self _)) (.slice (some ⟨g2, 0, none⟩) x.s.length x.s.length)
      replace hO := hO.setNew (p := ⟨w.heap.size, 62, none⟩) (Nat.le_refl _) (.slice (some ⟨g2, 0, none⟩) x.s.length x.s.length)
      have hR := hRv.aside (p := ⟨w.heap.size, 62, none⟩) n1 (.slice (some ⟨g2, 0, none⟩) x.s.length x.s.length)
      replace r1 := RowAt.off r1 (by have := lgg1.1; omega) ((Off.refl w.heap.size w5).set 62 (.slice (some ⟨g2, 0, none⟩) x.s.length x.s.length))
      have lgg1' : g1 < (w5.setCell ⟨w.heap.size, 62, none⟩ (.slice (some ⟨g2, 0, none⟩) x.s.length x.s.length)).heap.size := by simpa [World.setCell] using lgg1.2.2
      replace lgg1 : w.heap.size + 1 < g1 ∧ S < g1 ∧ g1 < (w5.setCell ⟨w.heap.size, 62, none⟩ (.slice (some ⟨g2, 0, none⟩) x.s.length x.s.length)).heap.size := ⟨lgg1.1, lgg1.2.1, lgg1'⟩
      clear lgg1'
      replace r2 := RowAt.off r2 (by have := lgg2.1; omega) ((Off.refl w.heap.size w5).set 62 (.slice (some ⟨g2, 0, none⟩) x.s.length x.s.length))
      have lgg2' : g2 < (w5.setCell ⟨w.heap.size, 62, none⟩ (.slice (some ⟨g2, 0, none⟩) x.s.length x.s.length)).heap.size := by simpa [World.setCell] using lgg2.2.2
      replace lgg2 : w.heap.size + 1 < g2 ∧ S < g2 ∧ g2 < (w5.setCell ⟨w.heap.size, 62, none⟩ (.slice (some ⟨g2, 0, none⟩) x.s.length x.s.length)).heap.size := ⟨lgg2.1, lgg2.2.1, lgg2'⟩
      clear lgg2'
      clear hRv lm ls lo f0 bM
      have bM := bM2
      clear bM2
      generalize w5.setCell ⟨w.heap.size, 62, none⟩ (.slice (some ⟨g2, 0, none⟩) x.s.length x.s.length) = w6 at *
      obtain ⟨i3, hi3, hz3, hy3, hx3⟩ := info_ints
      have HXo := HX.out.2.1.lo
      obtain ⟨-, -, -, -, -, -, -, lo⟩ := mc_tail bM hr8
      dsimp only at lo
      have f0 := bM.free
      have qA := fun C T => (mc_tail (bM.alloc (.cells C T)) hr8).lo
      dsimp only at qA
      go_upto_region 10 with (at_builtin; refine wpList_app _ rfl _ _ _ rfl 3 i3 _ 1 8 Tryz.underlying29 hi3 hz3 hy3 hx3 rfl (by decide) _ rfl (by simp [World.setCell]) q.o x.o.length q.co (x.o.map nmC) rfl (by rw [List.length_map, Nat.mul_one]) (HX.out.1 _ (hO.alloc _)).o (nm_one x.o) (by omega) (by unfold maxLen; omega) ?_; intro a3 c3 w7 hbb k3 r3 hf; have hz := bZ.lt; have hsl := hR.box.lt; have hsz := hbb.size; simp only [World.size_alloc] at hsz hf; replace hsz := Nat.le_of_succ_le hsz; have lg3 : ∀ y ∈ a3, w.heap.size + 1 < y.block ∧ y.block < w7.heap.size := fun y hy => ⟨Nat.lt_of_lt_of_le hz (hf y hy).1, (hf y hy).2⟩; replace r1 := (r1.below ((Below.refl _ _).alloc (Nat.le_refl _) _)).below hbb; replace r2 := (r2.below ((Below.refl _ _).alloc (Nat.le_refl _) _)).below hbb; replace lgg1 : w.heap.size + 1 < g1 ∧ S < g1 ∧ g1 < w7.heap.size := ⟨lgg1.1, lgg1.2.1, Nat.lt_of_lt_of_le lgg1.2.2 hsz⟩; replace lgg2 : w.heap.size + 1 < g2 ∧ S < g2 ∧ g2 < w7.heap.size := ⟨lgg2.1, lgg2.2.1, Nat.lt_of_lt_of_le lgg2.2.2 hsz⟩; replace hO := (hO.alloc _).below hbb; replace hR := (hR.below ((Below.refl _ _).alloc (Nat.le_refl _) _)).below hbb; replace bM := (bM.alloc _).below hbb; replace bZ := (bZ.alloc _).below hbb; clear lo f0 qA hbb hf hz hsl hsz; obtain ⟨-, -, -, -, -, -, -, lo⟩ := mc_tail bM hr8; dsimp only at lo; have f0 := bM.free)
      have bM2 := box_setO bM hr8 x.o a3 c3
      dsimp only at bM2
      replace bZ := bZ.aside' (p := ⟨w.heap.size, 63, none⟩) (Nat.ne_of_lt (Nat.lt_succ_self _)) (.slice a3 x.o.length c3)
      replace hO := hO.setNew (p := ⟨w.heap.size, 63, none⟩) (Nat.le_refl _) (.slice a3 x.o.length c3)
      replace hR := hR.aside (p := ⟨w.heap.size, 63, none⟩) n1 (.slice a3 x.o.length c3)
      replace r1 := RowAt.off r1 (by have := lgg1.1; omega) ((Off.refl w.heap.size w7).set 63 (.slice a3 x.o.length c3))
      replace r2 := RowAt.off r2 (by have := lgg2.1; omega) ((Off.refl w.heap.size w7).set 63 (.slice a3 x.o.length c3))
      replace r3 := one_row (b := w.heap.size) (fun y hy => by have := (lg3 y hy).1; omega) r3 (⟨w.heap.size, 63, none⟩ : Addr) (Nat.le_refl _) (.slice a3 x.o.length c3)
      have es8 : (w7.setCell ⟨w.heap.size, 63, none⟩ (.slice a3 x.o.length c3)).heap.size = w7.heap.size := by simp [World.setCell]
      rw [← es8] at lgg1 lgg2 lg3
      clear bM lo f0 es8
      generalize w7.setCell ⟨w.heap.size, 63, none⟩ (.slice a3 x.o.length c3) = w8 at *
      obtain ⟨Y, hY⟩ : ∃ Y, Y = mcC (swM b n x) ⟨some ⟨g1, 0, none⟩, x.m.length, some ⟨g2, 0, none⟩, x.s.length, a3, c3⟩ := ⟨_, rfl⟩
      replace bM2 : Box w8 w.heap.size Y.toArray := by rw [hY]; exact bM2
      have yl : Y.length = 64 := by rw [hY]; exact mc_length hr8
      have y1 : ∀ u ∈ Y, u.oneCell' = true := by rw [hY]; exact mc_one _ _
      have hO9 : Off S w (w8.setCells (w.heap.size + 1) 0 Y) := hO.new (g := w.heap.size + 1) (Off.cells _ _ _ _ (Off.refl _ _) (.inl rfl)) (Nat.le_succ _)
      have HE : Hid (Off S w (w8.setCells (w.heap.size + 1) 0 Y) ∧ Brm (w8.setCells (w.heap.size + 1) 0 Y) S b n (cM b n x) ∧ McAt (w8.setCells (w.heap.size + 1) 0 Y) (swM b n x) ⟨some ⟨g1, 0, none⟩, x.m.length, some ⟨g2, 0, none⟩, x.s.length, a3, c3⟩ ∧ OwnQ w.heap.size (w8.setCells (w.heap.size + 1) 0 Y).heap.size (swM b n x) ⟨some ⟨g1, 0, none⟩, x.m.length, some ⟨g2, 0, none⟩, x.s.length, a3, c3⟩) := by
        refine ⟨hO9, hR.off (g := w.heap.size + 1) (Off.cells _ _ _ _ (Off.refl _ _) (.inl rfl)) (Ne.symm n2), ⟨RowAt.vals (RowAt.off r1 (by have := lgg1.1; omega) (Off.cells (w.heap.size + 1) Y 0 w8 (Off.refl _ _) (.inl rfl))), RowAt.off r2 (by have := lgg2.1; omega) (Off.cells (w.heap.size + 1) Y 0 w8 (Off.refl _ _) (.inl rfl)), rows_cellsA (fun y hy => (lg3 y hy).1) r3 Y, ⟨k3.1, Nat.le_of_eq em, (show x.m.length ≤ maxLen by have := HX.out.2.1.lm; unfold maxLen; omega)⟩⟩, ?_⟩
        rw [size_cells]
        have m4 : x.m.length ≤ maxLen := by have := HX.out.2.1.lm; unfold maxLen; omega
        have m5 : x.s.length ≤ maxLen := by have := HX.out.2.1.ls; unfold maxLen; omega
        exact ⟨fun y hy => by cases hy; exact ⟨by have := lgg1.1; simp only; omega, lgg1.2.2⟩, fun y hy => by cases hy; exact ⟨by have := lgg2.1; simp only; omega, lgg2.2.2⟩, fun y hy => ⟨by have := (lg3 y hy).1; omega, (lg3 y hy).2⟩, ⟨Nat.le_of_eq em, m4⟩, ⟨Nat.le_of_eq es, m5⟩, k3⟩
      have bR := box_cells (cs := Y) bZ (by rw [yl]; rfl)
      have HI2 : Hid ((Tryz.prog.info? 31).map (·.size) = some Y.length) := by show _ = _; rw [yl]; exact info_mach
      have HL : Hid (Box w8 w.heap.size Y.toArray ∧ Box w8 (w.heap.size + 1) z64.toArray ∧ z64.toArray.size = Y.length ∧ (∀ u ∈ Y, u.oneCell' = true) ∧ Box (w8.setCells (w.heap.size + 1) 0 Y) (w.heap.size + 1) Y.toArray ∧ Y = mcC (swM b n x) ⟨some ⟨g1, 0, none⟩, x.m.length, some ⟨g2, 0, none⟩, x.s.length, a3, c3⟩) := ⟨bM2, bZ, by rw [yl]; rfl, y1, bR, hY⟩
      clear bM2 bZ hR hO r1 r2 r3 lgg1 lgg2 lg3 k3 hO9 bR y1 hY yl
      go_wp2_with (first | ((with_reducible refine at_load ?_); refine pl_load_box (by rfl) 31 (.tmp 3) rfl w.heap.size (by rfl) Y HL.out.1 _ Tryz.underlying31 rfl HI2.out ?_) | ((with_reducible refine at_store ?_); refine pl_store_box rfl 31 (.tmp 4) (.tmp 40) rfl (w.heap.size + 1) Y (by rfl) (by rfl) z64.toArray HL.out.2.1 HL.out.2.2.1 HI2.out HL.out.2.2.2.1 ?_; intro _))
      have hld := run_loadVar_mid (P := Tryz.prog) (w8.setCells (w.heap.size + 1) 0 Y) (w.heap.size + 1) 0 31 Y _ (box_range HL.out.2.2.2.2.1) Tryz.underlying31 rfl HI2.out
      exact bodyPost_ret (v := .agg Y.toArray) (by simp [results, Tryz.results22, asAddr, Act.put, hld]) rfl ⟨_, by rw [HL.out.2.2.2.2.2], HE.out⟩
end
end Go.Proofs.YtlfeglljpfihhaaGreatDoor
