/- step.own: a machine with lists of its own. package step: what is thrown, and what is asked of a register. -/
import Derived.Test.YtlfeglljpfihhaaGreatDoorRows
import Derived.Test.YtlfeglljpfihhaaGreatDoorCardBaseX
import Derived.Test.YtlfeglljpfihhaaGreatDoorValArgX
import Derived.Test.YtlfeglljpfihhaaGreatDoorMemPureX
import Derived.Test.YtlfeglljpfihhaaGreatDoorStepRowX
import Derived.Test.YtlfeglljpfihhaaGreatDoorStepChkX
import Derived.Test.YtlfeglljpfihhaaGreatDoorStepOffX
import Derived.WalkKit
import Derived.ProofKit
import Derived.OpenShut
import Derived.Deep.MidRow
import Derived.Deep.RegionLaw
import Derived.Laws.ResultCell
import Derived.Test.YtlfeglljpfihhaaGreatDoorMemChkX
import Derived.WalkLawsBesides
namespace Go.Proofs.YtlfeglljpfihhaaGreatDoor
section
open Go.ChangeShapes Go.WideShapes Go.ChangeAt Go.RowKit
set_option linter.unusedSimpArgs false
set_option maxRecDepth 100000

set_option maxHeartbeats 4000000 in
theorem step_own (x : MC) (q : MA) (w : World) (hA : McAt w x q) (h8 : x.r.length = 8) (lm : x.m.length ≤ 400) (ls : x.s.length ≤ 16) (lo : x.o.length ≤ 100) :
    Calls Tryz.prog 25 #[.agg (mcC x q).toArray] w fun e w' => ∃ q', e = .returned (.agg (mcC x q').toArray) ∧ Below w.heap.size w w' ∧ McAt w' x q' ∧ (∀ y ∈ q'.m, w.heap.size ≤ y.block) ∧ (∀ y ∈ q'.s, w.heap.size ≤ y.block) ∧ (∀ y ∈ q'.o, w.heap.size ≤ y.block) ∧ q'.cs = x.s.length ∧ q'.co = x.o.length ∧ (∀ y ∈ q'.m, y.block < w'.heap.size) ∧ (∀ y ∈ q'.s, y.block < w'.heap.size) ∧ (∀ y ∈ q'.o, y.block < w'.heap.size) := by
  have HC := mc_cells x q h8
  have HL : Hid (∀ a l b m c n, (((mcC x q).set 61 (.slice a x.m.length l)).set 62 (.slice b x.s.length m)).set 63 (.slice c x.o.length n) = mcC x ⟨a, l, b, m, c, n⟩) := fun a l b m c n => mc_sets h8 a b c l m n
  obtain ⟨L, hL⟩ : ∃ L, mcC x q = L := ⟨_, rfl⟩
  have hlen : L.length = 64 := by rw [← hL]; exact mc_length h8
  rw [hL] at HC ⊢
  unfold Hid at HL
  rw [hL] at HL
  obtain ⟨-, -, -, -, -, -, -, -, c5, c6, c7⟩ := HC
  have HL' : Hid (∀ a l b m c n, ((L.set 61 (.slice a x.m.length l)).set 62 (.slice b x.s.length m)).set 63 (.slice c x.o.length n) = mcC x ⟨a, l, b, m, c, n⟩) := HL
  have cV := fun w hA => fresh_vals q.m q.cm x.m w hA lm
  have cF := fun w hA => fresh_frames q.s q.cs x.s w hA ls
  have cI := fun w hA => fresh_ints q.o q.co x.o w hA lo
  have HA : Hid (∀ w', Below w.heap.size w w' → McAt w' x q) := fun w' hb => hA.below hb
  have H8 : Hid (x.r.length = 8 ∧ L.length = 64 ∧ x.m.length ≤ maxLen) := ⟨h8, hlen, by unfold maxLen; omega⟩
  clear hL hA HL h8 hlen
  go_enter Tryz.func25, Tryz.ntmps25
  go_wp2
  obtain ⟨w0, hw0⟩ : ∃ w0, w0 = (w.alloc (.cells L.toArray 31)).alloc (.cells #[.bool false, .int .i64 0, .int .i64 0, .int .i64 0, .int .i64 0, .int .i64 0, .int .i64 0, .bool false, .int .i64 0, .int .i64 0, .int .i64 0, .int .i64 0, .int .i64 0, .int .i64 0, .bool false, .int .i64 0, .int .i64 0, .int .i64 0, .int .i64 0, .int .i64 0, .int .i64 0, .bool false, .int .i64 0, .int .i64 0, .int .i64 0, .int .i64 0, .int .i64 0, .int .i64 0, .bool false, .int .i64 0, .int .i64 0, .int .i64 0, .int .i64 0, .int .i64 0, .int .i64 0, .bool false, .int .i64 0, .int .i64 0, .int .i64 0, .int .i64 0, .int .i64 0, .int .i64 0, .bool false, .int .i64 0, .int .i64 0, .int .i64 0, .int .i64 0, .int .i64 0, .int .i64 0, .bool false, .int .i64 0, .int .i64 0, .int .i64 0, .int .i64 0, .int .i64 0, .int .i64 0, .int .i64 0, .int .i64 0, .int .i64 0, .int .i64 0, .int .i64 0, .slice none 0 0, .slice none 0 0, .slice none 0 0] 31) := ⟨_, rfl⟩
  rw [← hw0]
  obtain ⟨Z, zZ, bZ⟩ : ∃ Z : Array Value, Z.size = 64 ∧ Box w0 (w.heap.size + 1) Z := by rw [hw0]; exact ⟨_, rfl, Box.new1 _ _ _ _⟩
  have bM : Box w0 w.heap.size L.toArray := by rw [hw0]; exact (Box.new _ _ _).alloc _
  have hB : Below w.heap.size w w0 := by rw [hw0]; exact two _ _
  have qM := bM.cell
  have fM := bM.free
  have HZ : Hid (Z.size = 64) := zZ
  replace bM : Box w0.drew w.heap.size L.toArray := ⟨bM.1, bM.2.1, bM.2.2⟩
  replace bZ : Box w0.drew (w.heap.size + 1) Z := ⟨bZ.1, bZ.2.1, bZ.2.2⟩
  replace hB := hB.drew
  clear hw0 zZ
  go_region_law (first | (go_simp; go_at_call 46; refine (cV _ (HA.out _ hB).m.row).mono ?_; rintro e w1 ⟨g1, rfl, hbb, hg1, r1⟩; have lg1 : w.heap.size + 1 < g1 := Nat.lt_of_lt_of_le bZ.lt hg1.1; have ug1 := hg1.2;  replace bM := bM.below hbb; replace bZ := bZ.below hbb; replace qM := bM.cell; replace fM := bM.free; replace hB := Below.step0 hB hbb; clear hbb hg1 cV) | (go_simp; go_at_call 47; refine (cF _ (HA.out _ hB).s).mono ?_; rintro e w2 ⟨g2, rfl, hbb, hg2, r2⟩; have lg2 : w.heap.size + 1 < g2 := Nat.lt_of_lt_of_le bZ.lt hg2.1; have ug2 := hg2.2; replace ug1 := Nat.lt_of_lt_of_le ug1 hbb.size;  replace bM := bM.below hbb; replace bZ := bZ.below hbb; replace qM := bM.cell; replace fM := bM.free; replace r1 := r1.below hbb; replace hB := Below.step0 hB hbb; clear hbb hg2 cF) | (go_simp; go_at_call 48; refine (cI _ (HA.out _ hB).o).mono ?_; rintro e w3 ⟨g3, rfl, hbb, hg3, r3⟩; have lg3 : w.heap.size + 1 < g3 := Nat.lt_of_lt_of_le bZ.lt hg3.1; have ug3 := hg3.2; replace ug1 := Nat.lt_of_lt_of_le ug1 hbb.size; replace ug2 := Nat.lt_of_lt_of_le ug2 hbb.size;  replace bM := bM.below hbb; replace bZ := bZ.below hbb; replace qM := bM.cell; replace fM := bM.free; replace r1 := r1.below hbb; replace r2 := r2.below hbb; replace hB := Below.step0 hB hbb; clear hbb hg3 cI))
  all_goals
    have b1 := ((bM.setL' (v := .slice (some ⟨g1, 0, none⟩) x.m.length x.m.length) (j := 61) (by rw [H8.out.2.1]; omega)).setL' (v := .slice (some ⟨g2, 0, none⟩) x.s.length x.s.length) (j := 62) (by rw [List.length_set, H8.out.2.1]; omega)).setL' (v := .slice (some ⟨g3, 0, none⟩) x.o.length x.o.length) (j := 63) (by rw [List.length_set, List.length_set, H8.out.2.1]; omega)
    rw [HL'.out] at b1
    have b2 := ((bZ.aside' (p := ⟨w.heap.size, 61, none⟩) (by show w.heap.size ≠ w.heap.size + 1; omega) (.slice (some ⟨g1, 0, none⟩) x.m.length x.m.length)).aside' (p := ⟨w.heap.size, 62, none⟩) (by show w.heap.size ≠ w.heap.size + 1; omega) (.slice (some ⟨g2, 0, none⟩) x.s.length x.s.length)).aside' (p := ⟨w.heap.size, 63, none⟩) (by show w.heap.size ≠ w.heap.size + 1; omega) (.slice (some ⟨g3, 0, none⟩) x.o.length x.o.length)
    have b3 := three_rows lg1 r1 (.slice (some ⟨g1, 0, none⟩) x.m.length x.m.length) (.slice (some ⟨g2, 0, none⟩) x.s.length x.s.length) (.slice (some ⟨g3, 0, none⟩) x.o.length x.o.length)
    have b4 := three_rows lg2 r2 (.slice (some ⟨g1, 0, none⟩) x.m.length x.m.length) (.slice (some ⟨g2, 0, none⟩) x.s.length x.s.length) (.slice (some ⟨g3, 0, none⟩) x.o.length x.o.length)
    have b5 := three_rows lg3 r3 (.slice (some ⟨g1, 0, none⟩) x.m.length x.m.length) (.slice (some ⟨g2, 0, none⟩) x.s.length x.s.length) (.slice (some ⟨g3, 0, none⟩) x.o.length x.o.length)
    have b6 := ((hB.setCell (p := ⟨w.heap.size, 61, none⟩) (Nat.le_refl _) (.slice (some ⟨g1, 0, none⟩) x.m.length x.m.length)).setCell (p := ⟨w.heap.size, 62, none⟩) (Nat.le_refl _) (.slice (some ⟨g2, 0, none⟩) x.s.length x.s.length)).setCell (p := ⟨w.heap.size, 63, none⟩) (Nat.le_refl _) (.slice (some ⟨g3, 0, none⟩) x.o.length x.o.length)
    have v0 : (((w3.setCell ⟨w.heap.size, 61, none⟩ (.slice (some ⟨g1, 0, none⟩) x.m.length x.m.length)).setCell ⟨w.heap.size, 62, none⟩ (.slice (some ⟨g2, 0, none⟩) x.s.length x.s.length)).setCell ⟨w.heap.size, 63, none⟩ (.slice (some ⟨g3, 0, none⟩) x.o.length x.o.length)).heap.size = w3.heap.size := by simp [World.setCell]
    have v1 : g1 < (((w3.setCell ⟨w.heap.size, 61, none⟩ (.slice (some ⟨g1, 0, none⟩) x.m.length x.m.length)).setCell ⟨w.heap.size, 62, none⟩ (.slice (some ⟨g2, 0, none⟩) x.s.length x.s.length)).setCell ⟨w.heap.size, 63, none⟩ (.slice (some ⟨g3, 0, none⟩) x.o.length x.o.length)).heap.size ∧ g2 < (((w3.setCell ⟨w.heap.size, 61, none⟩ (.slice (some ⟨g1, 0, none⟩) x.m.length x.m.length)).setCell ⟨w.heap.size, 62, none⟩ (.slice (some ⟨g2, 0, none⟩) x.s.length x.s.length)).setCell ⟨w.heap.size, 63, none⟩ (.slice (some ⟨g3, 0, none⟩) x.o.length x.o.length)).heap.size ∧ g3 < (((w3.setCell ⟨w.heap.size, 61, none⟩ (.slice (some ⟨g1, 0, none⟩) x.m.length x.m.length)).setCell ⟨w.heap.size, 62, none⟩ (.slice (some ⟨g2, 0, none⟩) x.s.length x.s.length)).setCell ⟨w.heap.size, 63, none⟩ (.slice (some ⟨g3, 0, none⟩) x.o.length x.o.length)).heap.size := by rw [v0]; exact ⟨ug1, ug2, ug3⟩
    clear bM bZ hB qM fM r1 r2 r3 c5 c6 c7 v0 ug1 ug2 ug3
    generalize ((w3.setCell ⟨w.heap.size, 61, none⟩ (.slice (some ⟨g1, 0, none⟩) x.m.length x.m.length)).setCell ⟨w.heap.size, 62, none⟩ (.slice (some ⟨g2, 0, none⟩) x.s.length x.s.length)).setCell ⟨w.heap.size, 63, none⟩ (.slice (some ⟨g3, 0, none⟩) x.o.length x.o.length) = W4 at *
    have b7 := box_cells b2 (cs := mcC x ⟨some ⟨g1, 0, none⟩, x.m.length, some ⟨g2, 0, none⟩, x.s.length, some ⟨g3, 0, none⟩, x.o.length⟩) (by rw [HZ.out, mc_length H8.out.1])
    have b8 := below_cells (w.heap.size + 1) (mcC x ⟨some ⟨g1, 0, none⟩, x.m.length, some ⟨g2, 0, none⟩, x.s.length, some ⟨g3, 0, none⟩, x.o.length⟩) 0 W4 b6 (by omega)
    have b9 := rows_cells lg1 b3 (mcC x ⟨some ⟨g1, 0, none⟩, x.m.length, some ⟨g2, 0, none⟩, x.s.length, some ⟨g3, 0, none⟩, x.o.length⟩)
    have b10 := rows_cells lg2 b4 (mcC x ⟨some ⟨g1, 0, none⟩, x.m.length, some ⟨g2, 0, none⟩, x.s.length, some ⟨g3, 0, none⟩, x.o.length⟩)
    have b11 := rows_cells lg3 b5 (mcC x ⟨some ⟨g1, 0, none⟩, x.m.length, some ⟨g2, 0, none⟩, x.s.length, some ⟨g3, 0, none⟩, x.o.length⟩)
    have hin : (Tryz.prog.info? 31).map (·.size) = some (mcC x ⟨some ⟨g1, 0, none⟩, x.m.length, some ⟨g2, 0, none⟩, x.s.length, some ⟨g3, 0, none⟩, x.o.length⟩).length := by rw [mc_length H8.out.1]; exact info_mach
    have hin2 : (Tryz.prog.info? 31).map (·.size) = some (mcC x ⟨some ⟨g1, 0, none⟩, x.m.length, some ⟨g2, 0, none⟩, x.s.length, some ⟨g3, 0, none⟩, x.o.length⟩).toArray.size := by rw [List.size_toArray]; exact hin
    have HW : Hid (Box W4 w.heap.size (mcC x ⟨some ⟨g1, 0, none⟩, x.m.length, some ⟨g2, 0, none⟩, x.s.length, some ⟨g3, 0, none⟩, x.o.length⟩).toArray ∧ W4.there (w.heap.size + 1) 0 (mcC x ⟨some ⟨g1, 0, none⟩, x.m.length, some ⟨g2, 0, none⟩, x.s.length, some ⟨g3, 0, none⟩, x.o.length⟩).toArray.size ∧ (mcC x ⟨some ⟨g1, 0, none⟩, x.m.length, some ⟨g2, 0, none⟩, x.s.length, some ⟨g3, 0, none⟩, x.o.length⟩).toArray.all (·.oneCell') = true) := ⟨b1, box_there b2 (by rw [HZ.out, List.size_toArray, mc_length H8.out.1]), all_oneCell_toArray (mc_one _ _)⟩
    have HE : Hid (Below w.heap.size w (W4.setCells (w.heap.size + 1) 0 (mcC x ⟨some ⟨g1, 0, none⟩, x.m.length, some ⟨g2, 0, none⟩, x.s.length, some ⟨g3, 0, none⟩, x.o.length⟩)) ∧ McAt (W4.setCells (w.heap.size + 1) 0 (mcC x ⟨some ⟨g1, 0, none⟩, x.m.length, some ⟨g2, 0, none⟩, x.s.length, some ⟨g3, 0, none⟩, x.o.length⟩)) x ⟨some ⟨g1, 0, none⟩, x.m.length, some ⟨g2, 0, none⟩, x.s.length, some ⟨g3, 0, none⟩, x.o.length⟩) := ⟨b8, ⟨RowAt.vals b9, b10, b11, Nat.le_refl _, Nat.le_refl _, H8.out.2.2⟩⟩
    have HR : Hid (Box (W4.setCells (w.heap.size + 1) 0 (mcC x ⟨some ⟨g1, 0, none⟩, x.m.length, some ⟨g2, 0, none⟩, x.s.length, some ⟨g3, 0, none⟩, x.o.length⟩)) (w.heap.size + 1) (mcC x ⟨some ⟨g1, 0, none⟩, x.m.length, some ⟨g2, 0, none⟩, x.s.length, some ⟨g3, 0, none⟩, x.o.length⟩).toArray) := b7
    have HG : Hid (w.heap.size ≤ g1 ∧ w.heap.size ≤ g2 ∧ w.heap.size ≤ g3) := ⟨by omega, by omega, by omega⟩
    have HI : Hid (_ ∧ _) := ⟨hin, hin2⟩
    have HU : Hid (g1 < (W4.setCells (w.heap.size + 1) 0 (mcC x ⟨some ⟨g1, 0, none⟩, x.m.length, some ⟨g2, 0, none⟩, x.s.length, some ⟨g3, 0, none⟩, x.o.length⟩)).heap.size ∧ g2 < (W4.setCells (w.heap.size + 1) 0 (mcC x ⟨some ⟨g1, 0, none⟩, x.m.length, some ⟨g2, 0, none⟩, x.s.length, some ⟨g3, 0, none⟩, x.o.length⟩)).heap.size ∧ g3 < (W4.setCells (w.heap.size + 1) 0 (mcC x ⟨some ⟨g1, 0, none⟩, x.m.length, some ⟨g2, 0, none⟩, x.s.length, some ⟨g3, 0, none⟩, x.o.length⟩)).heap.size) := by
      show _ ∧ _ ∧ _
      rw [size_cells]
      exact v1
    clear v1
    clear b1 b2 b3 b4 b5 b6 b7 b8 b9 b10 b11 hin hin2 HL' lg1 lg2 lg3
    generalize hQ : (⟨some ⟨g1, 0, none⟩, x.m.length, some ⟨g2, 0, none⟩, x.s.length, some ⟨g3, 0, none⟩, x.o.length⟩ : MA) = q' at *
    have HQ : Hid (q' = ⟨some ⟨g1, 0, none⟩, x.m.length, some ⟨g2, 0, none⟩, x.s.length, some ⟨g3, 0, none⟩, x.o.length⟩) := hQ.symm
    clear hQ
    go_wp2_with (first | (refine wpList_load_mid rfl 31 (.tmp 1) rfl w.heap.size 0 (by rfl) (mcC x q') _ (box_range HW.out.1) Tryz.underlying31 rfl HI.out.1 ?_) | (refine wpList_store_mid rfl 31 (.tmp 2) (.tmp 15) rfl (w.heap.size + 1) 0 (mcC x q').toArray (by rfl) (by rfl) HW.out.2.1 HI.out.2 HW.out.2.2 ?_))
    have hld := run_loadVar_mid (P := Tryz.prog) (W4.setCells (w.heap.size + 1) 0 (mcC x q')) (w.heap.size + 1) 0 31 (mcC x q') _ (box_range HR.out) Tryz.underlying31 rfl HI.out.1
    obtain ⟨d1, d2, d3⟩ := HG.out
    obtain ⟨d4, d5, d6⟩ := HU.out
    have hq := HQ.out
    refine bodyPost_ret (v := .agg (mcC x q').toArray) (by simp [results, Tryz.results25, asAddr, hld]) rfl ⟨q', rfl, HE.out.1, HE.out.2, fun y hy => ?_, fun y hy => ?_, fun y hy => ?_, by rw [hq], by rw [hq], fun y hy => ?_, fun y hy => ?_, fun y hy => ?_⟩
    all_goals
      rw [hq] at hy
      cases hy
      assumption
end
section
open Go.ChangeShapes Go.WideShapes Go.ChangeAt Go.RowKit
set_option linter.unusedSimpArgs false
set_option linter.unusedVariables false
set_option maxRecDepth 100000

/-- What is thrown. -/
inductive Th where
  | e (n : Int)
  | u
  | h
def thV : Th → Value
  | .e n => .iface 35 (.int .i64 n)
  | .u => .iface 101 (.agg #[])
  | .h => .iface 102 (.agg #[])
/-- What it is told as. -/
def thE : Th → Int
  | .e n => n
  | .u => 10
  | .h => 16
def thrown (t : Th) : Ending := .panicked [{ v := thV t, recovered := false }]
theorem step_refuse_no (e : Int) (w : World) : Calls Tryz.prog 73 #[.bool false, .int .i64 e] w fun r w' => r = .returned (.tuple #[]) ∧ w' = w := by
  go_enter Tryz.func73, Tryz.ntmps73
  go_wp2
  go_end0
  exact ⟨rfl, rfl⟩
theorem step_refuse_yes (e : Int) (w : World) : Calls Tryz.prog 73 #[.bool true, .int .i64 e] w fun r w' => r = thrown (.e e) ∧ w' = w := by
  go_enter Tryz.func73, Tryz.ntmps73
  go_wp2
  exact ⟨rfl, rfl, rfl⟩
theorem step_refuse_no' (b : Bool) (hb : b = false) (e : Int) (w : World) : Calls Tryz.prog 73 #[.bool b, .int .i64 e] w fun r w' => r = .returned (.tuple #[]) ∧ w' = w := by
  subst hb
  exact step_refuse_no e w
theorem step_refuse_yes' (b : Bool) (hb : b = true) (e : Int) (w : World) : Calls Tryz.prog 73 #[.bool b, .int .i64 e] w fun r w' => r = thrown (.e e) ∧ w' = w := by
  subst hb
  exact step_refuse_yes e w
theorem sure_key_yes (p b l a s : Int) (w : World) : Calls Tryz.prog 87 #[.agg #[.int .i64 p, .int .i64 b, .int .i64 l, .int .i64 a, .int .i64 s], .int .i64 0] w fun r w' => r = .returned (.agg #[.int .i64 p, .int .i64 b, .int .i64 l, .int .i64 a, .int .i64 s]) ∧ Below w.heap.size w w' := by
  go_enter Tryz.func87, Tryz.ntmps87
  go_wp2_with (go_at_call 73; refine (step_refuse_no _ _).mono ?_; rintro e w1 ⟨rfl, rfl⟩)
  exact bodyPost_ret (v := .agg #[.int .i64 p, .int .i64 b, .int .i64 l, .int .i64 a, .int .i64 s]) (by simp [results, Tryz.results87, go_sem]) rfl ⟨rfl, two _ _⟩
theorem sure_key_no (p b l a s e : Int) (h : ¬ e = 0) (w : World) : Calls Tryz.prog 87 #[.agg #[.int .i64 p, .int .i64 b, .int .i64 l, .int .i64 a, .int .i64 s], .int .i64 e] w fun r w' => r = thrown (.e e) ∧ Below w.heap.size w w' := by
  have g : (e != 0) = true := by simpa using h
  go_enter Tryz.func87, Tryz.ntmps87
  go_wp2_with (go_at_call 73; refine (step_refuse_yes _ _).mono ?_; unfold thrown; rintro e w1 ⟨rfl, rfl⟩)
  exact ⟨rfl, rfl, two _ _⟩
theorem sure_inst_yes (o a b c : Int) (w : World) : Calls Tryz.prog 74 #[.agg #[.int .i64 o, .int .i64 a, .int .i64 b, .int .i64 c], .int .i64 0] w fun r w' => r = .returned (.agg #[.int .i64 o, .int .i64 a, .int .i64 b, .int .i64 c]) ∧ Below w.heap.size w w' := by
  go_enter Tryz.func74, Tryz.ntmps74
  go_wp2_with (go_at_call 73; refine (step_refuse_no _ _).mono ?_; rintro e w1 ⟨rfl, rfl⟩)
  exact bodyPost_ret (v := .agg #[.int .i64 o, .int .i64 a, .int .i64 b, .int .i64 c]) (by simp [results, Tryz.results74, go_sem]) rfl ⟨rfl, two _ _⟩
theorem sure_inst_no (o a b c e : Int) (h : ¬ e = 0) (w : World) : Calls Tryz.prog 74 #[.agg #[.int .i64 o, .int .i64 a, .int .i64 b, .int .i64 c], .int .i64 e] w fun r w' => r = thrown (.e e) ∧ Below w.heap.size w w' := by
  have g : (e != 0) = true := by simpa using h
  go_enter Tryz.func74, Tryz.ntmps74
  go_wp2_with (go_at_call 73; refine (step_refuse_yes _ _).mono ?_; unfold thrown; rintro e w1 ⟨rfl, rfl⟩)
  exact ⟨rfl, rfl, two _ _⟩
theorem sure_val_yes (v : MV) (w : World) : Calls Tryz.prog 80 #[.agg #[.bool v.i, .int .i64 v.n, .int .i64 v.p, .int .i64 v.b, .int .i64 v.l, .int .i64 v.a, .int .i64 v.s], .int .i64 0] w fun r w' => r = .returned (.agg #[.bool v.i, .int .i64 v.n, .int .i64 v.p, .int .i64 v.b, .int .i64 v.l, .int .i64 v.a, .int .i64 v.s]) ∧ Below w.heap.size w w' := by
  go_enter Tryz.func80, Tryz.ntmps80
  go_wp2_with (go_at_call 73; refine (step_refuse_no _ _).mono ?_; rintro e w1 ⟨rfl, rfl⟩)
  exact bodyPost_ret (v := .agg #[.bool v.i, .int .i64 v.n, .int .i64 v.p, .int .i64 v.b, .int .i64 v.l, .int .i64 v.a, .int .i64 v.s]) (by simp [results, Tryz.results80, go_sem]) rfl ⟨rfl, two _ _⟩
theorem sure_val_no (v : MV) (e : Int) (h : ¬ e = 0) (w : World) : Calls Tryz.prog 80 #[.agg #[.bool v.i, .int .i64 v.n, .int .i64 v.p, .int .i64 v.b, .int .i64 v.l, .int .i64 v.a, .int .i64 v.s], .int .i64 e] w fun r w' => r = thrown (.e e) ∧ Below w.heap.size w w' := by
  have g : (e != 0) = true := by simpa using h
  go_enter Tryz.func80, Tryz.ntmps80
  go_wp2_with (go_at_call 73; refine (step_refuse_yes _ _).mono ?_; unfold thrown; rintro e w1 ⟨rfl, rfl⟩)
  exact ⟨rfl, rfl, two _ _⟩
theorem sure_vals_yes (V : Value) (w : World) : Calls Tryz.prog 83 #[V, .int .i64 0] w fun r w' => r = .returned V ∧ w' = w := by
  go_enter Tryz.func83, Tryz.ntmps83
  go_wp2_with (go_at_call 73; refine (step_refuse_no _ _).mono ?_; rintro e w1 ⟨rfl, rfl⟩)
  go_ret
  exact ⟨rfl, rfl⟩
theorem sure_vals_no (V : Value) (e : Int) (h : ¬ e = 0) (w : World) : Calls Tryz.prog 83 #[V, .int .i64 e] w fun r w' => r = thrown (.e e) ∧ w' = w := by
  have g : (e != 0) = true := by simpa using h
  go_enter Tryz.func83, Tryz.ntmps83
  go_wp2_with (go_at_call 73; refine (step_refuse_yes _ _).mono ?_; unfold thrown; rintro e w1 ⟨rfl, rfl⟩)
  exact ⟨rfl, rfl, rfl⟩
theorem sure_int_yes (n : Int) (w : World) : Calls Tryz.prog 105 #[.int .i64 n, .int .i64 0] w fun r w' => r = .returned (.int .i64 n) ∧ w' = w := by
  go_enter Tryz.func105, Tryz.ntmps105
  go_wp2_with (go_at_call 73; refine (step_refuse_no _ _).mono ?_; rintro e w1 ⟨rfl, rfl⟩)
  go_ret
  exact ⟨rfl, rfl⟩
theorem sure_int_no (n e : Int) (h : ¬ e = 0) (w : World) : Calls Tryz.prog 105 #[.int .i64 n, .int .i64 e] w fun r w' => r = thrown (.e e) ∧ w' = w := by
  have g : (e != 0) = true := by simpa using h
  go_enter Tryz.func105, Tryz.ntmps105
  go_wp2_with (go_at_call 73; refine (step_refuse_yes _ _).mono ?_; unfold thrown; rintro e w1 ⟨rfl, rfl⟩)
  exact ⟨rfl, rfl, rfl⟩
section
variable {w : World} {S bb : Nat} {x : MC} {q : MA} {i : ID} {n : K5} {k : Nat} {v : MV}
theorem reg_lt (h : St w S bb x q i n) (hv : x.r[k]? = some v) : k < 8 := by
  have := (List.getElem?_eq_some_iff.1 hv).1
  have := h.r8
  omega
theorem step_number_yes (h : St w S bb x q i n) (hv : x.r[k]? = some v) (hi : v.i = false) :
    Calls Tryz.prog 78 #[.pointer (some ⟨S, 0, none⟩), .int .i64 (k : Int)] w fun r w' => r = .returned (.int .i64 v.n) ∧ w' = w := by
  obtain ⟨c0, c1, _⟩ := h.reg hv
  have hk := reg_lt h hv
  have g1 : (k : Int) < 8 := by omega
  rw [hi] at c0
  go_enter Tryz.func78, Tryz.ntmps78
  go_wp2
  go_ret
  exact ⟨rfl, rfl⟩
theorem step_number_no (h : St w S bb x q i n) (hv : x.r[k]? = some v) (hi : v.i = true) :
    Calls Tryz.prog 78 #[.pointer (some ⟨S, 0, none⟩), .int .i64 (k : Int)] w fun r w' => r = thrown .u ∧ w' = w := by
  obtain ⟨c0, c1, _⟩ := h.reg hv
  have hk := reg_lt h hv
  have g1 : (k : Int) < 8 := by omega
  rw [hi] at c0
  go_enter Tryz.func78, Tryz.ntmps78
  go_wp2
  exact ⟨rfl, rfl, rfl⟩
theorem step_key_yes (h : St w S bb x q i n) (hv : x.r[k]? = some v) (hi : v.i = true) :
    Calls Tryz.prog 82 #[.pointer (some ⟨S, 0, none⟩), .int .i64 (k : Int)] w fun r w' => r = .returned (.agg #[.int .i64 v.p, .int .i64 v.b, .int .i64 v.l, .int .i64 v.a, .int .i64 v.s]) ∧ Below w.heap.size w w' := by
  have h' := h.below ((Below.refl _ _).alloc (Nat.le_refl _) (.cells #[.int .i64 0, .int .i64 0, .int .i64 0, .int .i64 0, .int .i64 0] 23))
  obtain ⟨c0, c1, c2, c3, c4, c5, c6⟩ := h'.reg hv
  have hk := reg_lt h hv
  have g1 : (k : Int) < 8 := by omega
  rw [hi] at c0
  clear h'
  go_enter Tryz.func82, Tryz.ntmps82
  go_wp2
  exact bodyPost_ret (v := .agg #[.int .i64 v.p, .int .i64 v.b, .int .i64 v.l, .int .i64 v.a, .int .i64 v.s]) (by simp [results, Tryz.results82, go_sem]) rfl ⟨rfl, (Below.refl _ _).alloc (Nat.le_refl _) _⟩
theorem step_key_no (h : St w S bb x q i n) (hv : x.r[k]? = some v) (hi : v.i = false) :
    Calls Tryz.prog 82 #[.pointer (some ⟨S, 0, none⟩), .int .i64 (k : Int)] w fun r w' => r = thrown .u ∧ Below w.heap.size w w' := by
  have h' := h.below ((Below.refl _ _).alloc (Nat.le_refl _) (.cells #[.int .i64 0, .int .i64 0, .int .i64 0, .int .i64 0, .int .i64 0] 23))
  obtain ⟨c0, c1, c2, c3, c4, c5, c6⟩ := h'.reg hv
  have hk := reg_lt h hv
  have g1 : (k : Int) < 8 := by omega
  rw [hi] at c0
  clear h'
  go_enter Tryz.func82, Tryz.ntmps82
  go_wp2
  exact ⟨rfl, rfl, (Below.refl _ _).alloc (Nat.le_refl _) _⟩
end
end
end Go.Proofs.YtlfeglljpfihhaaGreatDoor
