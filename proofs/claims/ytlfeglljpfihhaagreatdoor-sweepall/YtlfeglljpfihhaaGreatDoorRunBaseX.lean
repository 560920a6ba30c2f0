/- custodianref.Eq over two lists that hold the same: true; custodianref.MachineEq over two machines that are the same: true. custodianref.MachineEq over two machines that are the same: true. custodianref.Copy: a list of its own; custodianref.MachineCopy: a machine of its own. run.own: a machine of its own. run.steps: the function that it answers hands the machine, as it is ahead of each step, and what comes of that step, to a round. -/
import Derived.Test.YtlfeglljpfihhaaGreatDoorRows
import Derived.Test.YtlfeglljpfihhaaGreatDoorCardBaseX
import Derived.Test.YtlfeglljpfihhaaGreatDoorValArgX
import Derived.Test.YtlfeglljpfihhaaGreatDoorMemPureX
import Derived.Test.YtlfeglljpfihhaaGreatDoorStepChkX
import Derived.Test.YtlfeglljpfihhaaGreatDoorStepRowX
import Derived.WalkKit
import Derived.ProofKit
import Derived.OpenShut
import Derived.Deep.MidRow
import Derived.ChangeKeysEq
import Derived.Deep.CutBlock
import Derived.Test.YtlfeglljpfihhaaGreatDoorRowAppX
import Derived.Deep.AppendLies
import Derived.Deep.RegionLaw
import Derived.ArgAppend
import Derived.Test.YtlfeglljpfihhaaGreatDoorStepOffX
import Derived.Test.YtlfeglljpfihhaaGreatDoorStepOwnedX
import Derived.Test.YtlfeglljpfihhaaGreatDoorInstShapeX
import Derived.Test.YtlfeglljpfihhaaGreatDoorStepStepX
import Derived.Test.YtlfeglljpfihhaaGreatDoorRangeWX
import Derived.Shelf.RegionOpen
namespace Go.Proofs.YtlfeglljpfihhaaGreatDoor
section
open Go.ChangeShapes Go.WideShapes Go.ChangeAt Go.RowKit
set_option linter.unusedSimpArgs false
set_option linter.unusedVariables false
set_option maxRecDepth 100000


theorem regs_lit {x : MC} (h8 : x.r.length = 8) : ∃ v0 v1 v2 v3 v4 v5 v6 v7, x.r = [v0, v1, v2, v3, v4, v5, v6, v7] := by
  obtain ⟨r0, r1, r2, r3, r4, r5, r6, r7, h⟩ := list8 h8
  exact ⟨r0, r1, r2, r3, r4, r5, r6, r7, h⟩
/-- The registers, held against themselves. -/
theorem eql_regs (x : MC) (h8 : x.r.length = 8) (w : World) : (Op.equalIn 10000 26 (.agg (x.r.flatMap mvC).toArray) (.agg (x.r.flatMap mvC).toArray)).run Tryz.prog w = .ok true w := by
  obtain ⟨⟨i0, n0, p0, b0, l0, a0, s0⟩, ⟨i1, n1, p1, b1, l1, a1, s1⟩, ⟨i2, n2, p2, b2, l2, a2, s2⟩, ⟨i3, n3, p3, b3, l3, a3, s3⟩, ⟨i4, n4, p4, b4, l4, a4, s4⟩, ⟨i5, n5, p5, b5, l5, a5, s5⟩, ⟨i6, n6, p6, b6, l6, a6, s6⟩, ⟨i7, n7, p7, b7, l7, a7, s7⟩, h⟩ := regs_lit h8
  rw [h]
  obtain ⟨i, hi⟩ : ∃ i, Tryz.prog.info? 25 = some i := ⟨_, rfl⟩
  rw [show (10000 : Nat) = 9996 + 1 + 1 + 1 + 1 from rfl, run_equalIn_array w (9996 + 1 + 1 + 1) _ _ Tryz.underlying26 hi, cells_val]
  simp [Op.eqItems, List.range, List.range.loop, mvC, go_sem]
end
section
open Go.ChangeShapes Go.WideShapes Go.ChangeAt Go.RowKit
set_option linter.unusedSimpArgs false
set_option linter.unusedVariables false
set_option maxRecDepth 100000

/-- A load of a row that stands behind a guard. -/
theorem wpList_load_midG {P : Program} {ops : Array Oper} {rest : List Oper} {op : Oper} {a : Act} {w : World} {Q : Exit → Act → World → Prop} (hgd : Region.wanted op (yielded ops a.tmps) = true) (ty : TypeId) (x : Operand) (ho : op.op = .load ty x)
    (b o : Nat) (hx : a.eval x = .pointer (some ⟨b, o, none⟩)) (cs : List Value) (d : TypeDesc) (hc : w.rangeAt b o cs)
    (hu : P.underlying ty = some d) (hd : d.isRow = true) (hi : (P.info? ty).map (·.size) = some cs.length)
    (h : wpList P ops Q rest (a.put op.dst (.agg cs.toArray)) w) : wpList P ops Q (op :: rest) a w :=
  BigFrame.wpList_want hgd fun _ hK => wp_load_mid ty x ho b o hx cs d hc hu hd hi (hK _ _ h)
end
section
open Go.ChangeShapes Go.WideShapes Go.ChangeAt Go.RowKit
set_option linter.unusedSimpArgs false
set_option linter.unusedVariables false
set_option maxRecDepth 100000

end
section
open Go.ChangeShapes Go.WideShapes Go.ChangeAt Go.RowKit
set_option linter.unusedSimpArgs false
set_option linter.unusedVariables false
set_option maxRecDepth 100000

theorem get62 {L : List Value} {v u : Value} (h : L.toArray[62]? = some u) : (L.set 61 v).toArray[62]? = some u := by
  rw [List.getElem?_toArray] at h ⊢
  rw [List.getElem?_set_ne (by omega)]
  exact h
theorem get63 {L : List Value} {v v' u : Value} (h : L.toArray[63]? = some u) : ((L.set 61 v).set 62 v').toArray[63]? = some u := by
  rw [List.getElem?_toArray] at h ⊢
  rw [List.getElem?_set_ne (by omega), List.getElem?_set_ne (by omega)]
  exact h
set_option maxHeartbeats 4000000 in
theorem run_own (x : MC) (q : MA) (w : World) (hA : McAt w x q) (h8 : x.r.length = 8) (lm : x.m.length ≤ 400) (ls : x.s.length ≤ 16) (lo : x.o.length ≤ 100) :
    Calls Tryz.prog 19 #[.agg (mcC x q).toArray] w fun e w' => ∃ q', e = .returned (.agg (mcC x q').toArray) ∧ Below w.heap.size w w' ∧ McAt w' x q' ∧ OwnQ w.heap.size w'.heap.size x q' := by
  have HC := mc_cells x q h8
  have HL : Hid (∀ a l b m c n, (((mcC x q).set 61 (.slice a x.m.length l)).set 62 (.slice b x.s.length m)).set 63 (.slice c x.o.length n) = mcC x ⟨a, l, b, m, c, n⟩) := fun a l b m c n => mc_sets h8 a b c l m n
  obtain ⟨L, hL⟩ : ∃ L, mcC x q = L := ⟨_, rfl⟩
  have hlen : L.length = 64 := by rw [← hL]; exact mc_length h8
  rw [hL] at HC ⊢
  unfold Hid at HL
  rw [hL] at HL
  obtain ⟨-, -, -, -, -, -, -, -, c5, c6, c7⟩ := HC
  have HL' : Hid (∀ a l b m c n, ((L.set 61 (.slice a x.m.length l)).set 62 (.slice b x.s.length m)).set 63 (.slice c x.o.length n) = mcC x ⟨a, l, b, m, c, n⟩) := HL
  obtain ⟨i1, hi1, hz1, hy1, hx1⟩ := info_vals
  obtain ⟨i2, hi2, hz2, hy2, hx2⟩ := info_frames
  obtain ⟨i3, hi3, hz3, hy3, hx3⟩ := info_ints
  have HA : Hid (∀ w', Below w.heap.size w w' → McAt w' x q) := fun w' hb => hA.below hb
  have H8 : Hid (x.r.length = 8 ∧ L.length = 64) := ⟨h8, hlen⟩
  clear hL hA HL h8 hlen
  go_enter Tryz.func19, Tryz.ntmps19
  have c6' := fun v => get62 (v := v) c6
  have c7' := fun v v' => get63 (v := v) (v' := v') c7
  go_upto_region 1 with fail
  obtain ⟨w0, hw0⟩ : ∃ w0, w0 = (w.alloc (.cells L.toArray 31)).alloc (.cells #[.bool false, .int .i64 0, .int .i64 0, .int .i64 0, .int .i64 0, .int .i64 0, .int .i64 0, .bool false, .int .i64 0, .int .i64 0, .int .i64 0, .int .i64 0, .int .i64 0, .int .i64 0, .bool false, .int .i64 0, .int .i64 0, .int .i64 0, .int .i64 0, .int .i64 0, .int .i64 0, .bool false, .int .i64 0, .int .i64 0, .int .i64 0, .int .i64 0, .int .i64 0, .int .i64 0, .bool false, .int .i64 0, .int .i64 0, .int .i64 0, .int .i64 0, .int .i64 0, .int .i64 0, .bool false, .int .i64 0, .int .i64 0, .int .i64 0, .int .i64 0, .int .i64 0, .int .i64 0, .bool false, .int .i64 0, .int .i64 0, .int .i64 0, .int .i64 0, .int .i64 0, .int .i64 0, .bool false, .int .i64 0, .int .i64 0, .int .i64 0, .int .i64 0, .int .i64 0, .int .i64 0, .int .i64 0, .int .i64 0, .int .i64 0, .int .i64 0, .int .i64 0, .slice none 0 0, .slice none 0 0, .slice none 0 0] 31) := ⟨_, rfl⟩
  rw [← hw0]
  obtain ⟨Z, zZ, bZ⟩ : ∃ Z : Array Value, Z.size = 64 ∧ Box w0 (w.heap.size + 1) Z := by rw [hw0]; exact ⟨_, rfl, Box.new1 _ _ _ _⟩
  have bM : Box w0 w.heap.size L.toArray := by rw [hw0]; exact (Box.new _ _ _).alloc _
  have hB : Below w.heap.size w w0 := by rw [hw0]; exact two _ _
  have qM := bM.cell
  have fM := bM.free
  have HZ : Hid (Z.size = 64) := zZ
  have qA := fun C T => (bM.alloc (.cells C T)).cell
  clear hw0 zZ
  go_upto_region 4 with (first | (at_builtin; refine wpList_app _ rfl _ _ _ rfl 25 i1 _ 7 56 Tryz.underlying27 hi1 hz1 hy1 hx1 rfl (by decide) _ rfl (by simp [World.setCell]) q.m x.m.length q.cm (x.m.flatMap mvC) rfl (flat_len mvC_len x.m) (HA.out _ (hB.alloc hB.size _)).m.row (mv_one x.m) (by omega) (by unfold maxLen; omega) ?_; intro a1 c1 w1 hbb k1 r1 hf; have hz := bZ.lt; have hsz := hbb.size; simp only [World.size_alloc] at hsz hf; replace hsz := Nat.le_of_succ_le hsz; have lg1 : ∀ y ∈ a1, w.heap.size + 1 < y.block ∧ y.block < w1.heap.size := fun y hy => ⟨Nat.lt_of_lt_of_le hz (hf y hy).1, (hf y hy).2⟩; replace bM := (bM.alloc _).below hbb; replace bZ := (bZ.alloc _).below hbb; replace hB := Below.step0 (hB.alloc hB.size _) hbb; clear qM fM qA hbb hf hz hsz; have qM := bM.cell; have fM := bM.free; replace bM := bM.setL' (v := (.slice a1 x.m.length c1)) (j := 61) (by rw [H8.out.2]; omega); replace bZ := bZ.aside' (p := ⟨w.heap.size, 61, none⟩) (by show w.heap.size ≠ w.heap.size + 1; omega) (.slice a1 x.m.length c1); replace hB := hB.setCell (p := ⟨w.heap.size, 61, none⟩) (Nat.le_refl _) (.slice a1 x.m.length c1); have es1 : (w1.setCell ⟨w.heap.size, 61, none⟩ (.slice a1 x.m.length c1)).heap.size = w1.heap.size := (by simp [World.setCell]); rw [← es1] at lg1; replace r1 := one_row (fun y hy => (lg1 y hy).1) r1 (⟨w.heap.size, 61, none⟩ : Addr) (Nat.le_succ _) (.slice a1 x.m.length c1); have qA := fun C T => (bM.alloc (.cells C T)).cell) | (at_builtin; refine wpList_app _ rfl _ _ _ rfl 76 i2 _ 12 96 Tryz.underlying28 hi2 hz2 hy2 hx2 rfl (by decide) _ rfl (by simp [World.setCell]) q.s x.s.length q.cs (x.s.flatMap frC) rfl (flat_len frC_len x.s) (HA.out _ (hB.alloc hB.size _)).s (fr_one x.s) (by omega) (by unfold maxLen; omega) ?_; intro a2 c2 w2 hbb k2 r2 hf; have hz := bZ.lt; rw [es1] at hz; have hsz := hbb.size; simp only [World.size_alloc] at hsz hf; replace hsz := Nat.le_of_succ_le hsz; have lg2 : ∀ y ∈ a2, w.heap.size + 1 < y.block ∧ y.block < w2.heap.size := fun y hy => ⟨Nat.lt_of_lt_of_le hz (hf y hy).1, (hf y hy).2⟩; replace r1 := (r1.below ((Below.refl _ _).alloc (Nat.le_refl _) _)).below hbb; have lgn := lg1; replace lg1 := fun y hy => (⟨(lgn y hy).1, Nat.lt_of_lt_of_le (lgn y hy).2 hsz⟩ : w.heap.size + 1 < y.block ∧ y.block < w2.heap.size); clear lgn; replace bM := (bM.alloc _).below hbb; replace bZ := (bZ.alloc _).below hbb; replace hB := Below.step0 (hB.alloc hB.size _) hbb; clear qM fM qA hbb hf hz hsz es1; have qM := bM.cell; have fM := bM.free; replace bM := bM.setL' (v := (.slice a2 x.s.length c2)) (j := 62) (by rw [List.length_set, H8.out.2]; omega); replace bZ := bZ.aside' (p := ⟨w.heap.size, 62, none⟩) (by show w.heap.size ≠ w.heap.size + 1; omega) (.slice a2 x.s.length c2); replace hB := hB.setCell (p := ⟨w.heap.size, 62, none⟩) (Nat.le_refl _) (.slice a2 x.s.length c2); have es2 : (w2.setCell ⟨w.heap.size, 62, none⟩ (.slice a2 x.s.length c2)).heap.size = w2.heap.size := (by simp [World.setCell]); rw [← es2] at lg1 lg2; replace r1 := one_row (fun y hy => (lg1 y hy).1) r1 (⟨w.heap.size, 62, none⟩ : Addr) (Nat.le_succ _) (.slice a2 x.s.length c2); replace r2 := one_row (fun y hy => (lg2 y hy).1) r2 (⟨w.heap.size, 62, none⟩ : Addr) (Nat.le_succ _) (.slice a2 x.s.length c2); have qA := fun C T => (bM.alloc (.cells C T)).cell) | (at_builtin; refine wpList_app _ rfl _ _ _ rfl 3 i3 _ 1 8 Tryz.underlying29 hi3 hz3 hy3 hx3 rfl (by decide) _ rfl (by simp [World.setCell]) q.o x.o.length q.co (x.o.map nmC) rfl (by rw [List.length_map, Nat.mul_one]) (HA.out _ (hB.alloc hB.size _)).o (nm_one x.o) (by omega) (by unfold maxLen; omega) ?_; intro a3 c3 w3 hbb k3 r3 hf; have hz := bZ.lt; rw [es2] at hz; have hsz := hbb.size; simp only [World.size_alloc] at hsz hf; replace hsz := Nat.le_of_succ_le hsz; have lg3 : ∀ y ∈ a3, w.heap.size + 1 < y.block ∧ y.block < w3.heap.size := fun y hy => ⟨Nat.lt_of_lt_of_le hz (hf y hy).1, (hf y hy).2⟩; replace r1 := (r1.below ((Below.refl _ _).alloc (Nat.le_refl _) _)).below hbb; have lgn := lg1; replace lg1 := fun y hy => (⟨(lgn y hy).1, Nat.lt_of_lt_of_le (lgn y hy).2 hsz⟩ : w.heap.size + 1 < y.block ∧ y.block < w3.heap.size); clear lgn; replace r2 := (r2.below ((Below.refl _ _).alloc (Nat.le_refl _) _)).below hbb; have lgn := lg2; replace lg2 := fun y hy => (⟨(lgn y hy).1, Nat.lt_of_lt_of_le (lgn y hy).2 hsz⟩ : w.heap.size + 1 < y.block ∧ y.block < w3.heap.size); clear lgn; replace bM := (bM.alloc _).below hbb; replace bZ := (bZ.alloc _).below hbb; replace hB := Below.step0 (hB.alloc hB.size _) hbb; clear qM fM qA hbb hf hz hsz es2; have qM := bM.cell; have fM := bM.free))
  have b1 := bM.setL' (v := (.slice a3 x.o.length c3)) (j := 63) (by rw [List.length_set, List.length_set, H8.out.2]; omega)
  rw [HL'.out] at b1
  have b2 := bZ.aside' (p := ⟨w.heap.size, 63, none⟩) (by show w.heap.size ≠ w.heap.size + 1; omega) (.slice a3 x.o.length c3)
  have b3 := one_row (fun y hy => (lg1 y hy).1) r1 (⟨w.heap.size, 63, none⟩ : Addr) (Nat.le_succ _) (.slice a3 x.o.length c3)
  have b4 := one_row (fun y hy => (lg2 y hy).1) r2 (⟨w.heap.size, 63, none⟩ : Addr) (Nat.le_succ _) (.slice a3 x.o.length c3)
  have b5 := one_row (fun y hy => (lg3 y hy).1) r3 (⟨w.heap.size, 63, none⟩ : Addr) (Nat.le_succ _) (.slice a3 x.o.length c3)
  have b6 := hB.setCell (p := ⟨w.heap.size, 63, none⟩) (Nat.le_refl _) (.slice a3 x.o.length c3)
  have v0 : (w3.setCell ⟨w.heap.size, 63, none⟩ (.slice a3 x.o.length c3)).heap.size = w3.heap.size := by simp [World.setCell]
  have v1 : (∀ y ∈ a1, y.block < (w3.setCell ⟨w.heap.size, 63, none⟩ (.slice a3 x.o.length c3)).heap.size) ∧ (∀ y ∈ a2, y.block < (w3.setCell ⟨w.heap.size, 63, none⟩ (.slice a3 x.o.length c3)).heap.size) ∧ (∀ y ∈ a3, y.block < (w3.setCell ⟨w.heap.size, 63, none⟩ (.slice a3 x.o.length c3)).heap.size) := by rw [v0]; exact ⟨fun y hy => (lg1 y hy).2, fun y hy => (lg2 y hy).2, fun y hy => (lg3 y hy).2⟩
  clear bM bZ hB qM fM r1 r2 r3 c5 c6 c7 c6' c7' v0
  generalize (w3.setCell ⟨w.heap.size, 63, none⟩ (.slice a3 x.o.length c3)) = W4 at *
  have b7 := box_cells b2 (cs := mcC x ⟨a1, c1, a2, c2, a3, c3⟩) (by rw [HZ.out, mc_length H8.out.1])
  have b8 := below_cells (w.heap.size + 1) (mcC x ⟨a1, c1, a2, c2, a3, c3⟩) 0 W4 b6 (by omega)
  have b9 := rows_cellsA (fun y hy => (lg1 y hy).1) b3 (mcC x ⟨a1, c1, a2, c2, a3, c3⟩)
  have b10 := rows_cellsA (fun y hy => (lg2 y hy).1) b4 (mcC x ⟨a1, c1, a2, c2, a3, c3⟩)
  have b11 := rows_cellsA (fun y hy => (lg3 y hy).1) b5 (mcC x ⟨a1, c1, a2, c2, a3, c3⟩)
  have hin : (Tryz.prog.info? 31).map (·.size) = some (mcC x ⟨a1, c1, a2, c2, a3, c3⟩).length := by rw [mc_length H8.out.1]; exact info_mach
  have hin2 : (Tryz.prog.info? 31).map (·.size) = some (mcC x ⟨a1, c1, a2, c2, a3, c3⟩).toArray.size := by rw [List.size_toArray]; exact hin
  have HW : Hid (Box W4 w.heap.size (mcC x ⟨a1, c1, a2, c2, a3, c3⟩).toArray ∧ W4.there (w.heap.size + 1) 0 (mcC x ⟨a1, c1, a2, c2, a3, c3⟩).toArray.size ∧ (mcC x ⟨a1, c1, a2, c2, a3, c3⟩).toArray.all (·.oneCell') = true) := ⟨b1, box_there b2 (by rw [HZ.out, List.size_toArray, mc_length H8.out.1]), all_oneCell_toArray (mc_one _ _)⟩
  have HE : Hid (Below w.heap.size w (W4.setCells (w.heap.size + 1) 0 (mcC x ⟨a1, c1, a2, c2, a3, c3⟩)) ∧ McAt (W4.setCells (w.heap.size + 1) 0 (mcC x ⟨a1, c1, a2, c2, a3, c3⟩)) x ⟨a1, c1, a2, c2, a3, c3⟩) := ⟨b8, ⟨RowAt.vals b9, b10, b11, k3.1, k1⟩⟩
  have HR : Hid (Box (W4.setCells (w.heap.size + 1) 0 (mcC x ⟨a1, c1, a2, c2, a3, c3⟩)) (w.heap.size + 1) (mcC x ⟨a1, c1, a2, c2, a3, c3⟩).toArray) := b7
  have HG : Hid (OwnQ w.heap.size (W4.setCells (w.heap.size + 1) 0 (mcC x ⟨a1, c1, a2, c2, a3, c3⟩)).heap.size x ⟨a1, c1, a2, c2, a3, c3⟩) := by
    rw [size_cells]
    exact ⟨fun y hy => ⟨by have := (lg1 y hy).1; omega, v1.1 y hy⟩, fun y hy => ⟨by have := (lg2 y hy).1; omega, v1.2.1 y hy⟩, fun y hy => ⟨by have := (lg3 y hy).1; omega, v1.2.2 y hy⟩, k1, k2, k3⟩
  have HI : Hid (_ ∧ _) := ⟨hin, hin2⟩
  clear v1
  clear b1 b2 b3 b4 b5 b6 b7 b8 b9 b10 b11 hin hin2 HL' lg1 lg2 lg3 k1 k2 k3
  generalize hQ : (⟨a1, c1, a2, c2, a3, c3⟩ : MA) = q' at *
  clear hQ
  go_wp2_with (first | (refine wpList_load_mid rfl 31 (.tmp 1) rfl w.heap.size 0 (by rfl) (mcC x q') _ (box_range HW.out.1) Tryz.underlying31 rfl HI.out.1 ?_) | (refine wpList_store_mid rfl 31 (.tmp 2) (.tmp 18) rfl (w.heap.size + 1) 0 (mcC x q').toArray (by rfl) (by rfl) HW.out.2.1 HI.out.2 HW.out.2.2 ?_))
  have hld := run_loadVar_mid (P := Tryz.prog) (W4.setCells (w.heap.size + 1) 0 (mcC x q')) (w.heap.size + 1) 0 31 (mcC x q') _ (box_range HR.out) Tryz.underlying31 rfl HI.out.1
  exact bodyPost_ret (v := .agg (mcC x q').toArray) (by simp [results, Tryz.results19, asAddr, hld]) rfl ⟨q', rfl, HE.out.1, HE.out.2, HG.out⟩
end
section
open Go.ChangeShapes Go.WideShapes Go.ChangeAt Go.RowKit
set_option linter.unusedSimpArgs false
set_option linter.unusedVariables false
set_option maxRecDepth 100000
attribute [local go_sem] Oper.semAt_some

/-- What is dealt. -/
abbrev DD := MC × MA × Int
def ddV (y : DD) : Array Value := #[.agg (mcC y.1 y.2.1).toArray, .int .i64 y.2.2]
def ddP (y : DD) : MC × Int := (y.1, y.2.2)
/-- What is known of one that is dealt, in the world in which it is. -/
structure Ad (p : Nat → Prop) (x0 : MC) (f S l : Nat) (pre : List DD) (y : DD) (own : Nat → Prop) (A : World) : Prop where
  at_ : McAt A y.1 y.2.1
  far : FarX (fun k => own k ∨ k = l ∨ k = S ∨ p k) y.1 y.2.1
  good : Good y.1
  pre : ∃ r, pre.map ddP ++ ddP y :: r = dealt f x0
def FinD (x0 : MC) (f : Nat) (xs : List DD) (_ : World) : Prop := xs.map ddP = dealt f x0
/-- What the caller owns: nothing of the machine that it hands in, nor what the function has captured. -/
structure ClD (p : Nat → Prop) (x0 : MC) (q0 : MA) (bm bf b : Nat) (l : Nat) (own : Nat → Prop) : Prop where
  far : FarX (fun k => own k ∨ k = l ∨ p k) x0 q0
  pb : ∀ k, p k → k < b
  bm : ¬ own bm
  bf : ¬ own bf
  tab : ¬ own 0
  lf : l < b
theorem off_cell {S : Nat} {a b : World} (h : Off S a b) {k o : Nat} {u : Value} (hc : a.cell? ⟨k, o, none⟩ = some u) (hk : k ≠ S) : b.cell? ⟨k, o, none⟩ = some u := by
  rw [World.cell?_of_block (w := a) (a := ⟨k, o, none⟩) (h.block k (cell_lt hc) hk)]
  exact hc
set_option maxHeartbeats 4000000 in
theorem iter_deals (p : Nat → Prop) (x0 : MC) (q0 : MA) (bm bf f : Nat) (W : World) (hS : Shp W) (hbm : Box W bm (mcC x0 q0).toArray) (hbf : W.cell? ⟨bf, 0, none⟩ = some (.int .i64 (f : Int))) (hA : McAt W x0 q0) (hG : Good x0) (hf : f ≤ 5000) :
    Deals Tryz.prog 33 #[.pointer (some ⟨bm, 0, none⟩), .pointer (some ⟨bf, 0, none⟩)] ddV (Ad p x0 f W.heap.size) (FinD x0 f) (ClD p x0 q0 bm bf W.heap.size) W := by
  intro l own0 J hcl hown hoff hY h0
  refine (callsIn_wide (n := 0)).1 ?_
  have hi0 : (Tryz.prog.info? 31).map (·.size) = some (mcC x0 q0).length := mach_info hG.r8
  have hbl := cell_lt hbf
  simp only at hbl
  have hO1 : Off W.heap.size W ((W.alloc (.cells z64.toArray 31)).setCells W.heap.size 0 (mcC x0 q0)) := Off.cells _ _ _ _ ((Off.refl _ _).alloc _) (.inl rfl)
  have hz1 : ((W.alloc (.cells z64.toArray 31)).setCells W.heap.size 0 (mcC x0 q0)).heap.size = W.heap.size + 1 := by rw [size_cells]; simp
  have hf1 := off_cell hO1 hbf (by omega)
  have HJ : Hid (J [] own0 ((W.alloc (.cells z64.toArray 31)).setCells W.heap.size 0 (mcC x0 q0))) := hoff _ _ _ _ h0 hO1
  have HS1 : Hid (Shp ((W.alloc (.cells z64.toArray 31)).setCells W.heap.size 0 (mcC x0 q0))) := hS.offP (p := fun k => k = W.heap.size) (hO1.toP rfl) (by have := hS.1; omega)
  have hA1 : McAt ((W.alloc (.cells z64.toArray 31)).setCells W.heap.size 0 (mcC x0 q0)) x0 q0 := (hO1.toP (p := fun k => k = W.heap.size) rfl).mcX hA (hA.lt.mono fun k hk => by omega)
  have hfar : FarX (fun k => own0 k ∨ k = l ∨ k = W.heap.size ∨ p k) x0 q0 := (hcl.far.or (hA.lt.mono (p' := fun k => k = W.heap.size) fun k hk => by omega)).mono fun k hk => by rcases hk with h | h | h | h; exact .inl (.inl h); exact .inl (.inr (.inl h)); exact .inr h; exact .inl (.inr (.inr h))
  have hpb := hcl.pb
  have HA : Hid (McAt ((W.alloc (.cells z64.toArray 31)).setCells W.heap.size 0 (mcC x0 q0)) x0 q0 ∧ FarX (fun k => own0 k ∨ k = l ∨ k = W.heap.size ∨ p k) x0 q0) := ⟨hA1, hfar⟩
  have hown1 : ¬ own0 W.heap.size := fun h => by have := hown _ h; omega
  have htab := hcl.tab
  have hTW : 0 < W.heap.size := hS.1
  have hlf := hcl.lf
  have hown2 : ∀ k, own0 k → k < W.heap.size + 1 := fun k h => by have := hown _ h; omega
  clear hO1 hA1 hfar hA hS h0 hcl
  refine callsIn_of_wp (F := Fence.wide) Tryz.func33 rfl trivial ?_ rfl
  simp only [Tryz.ntmps33, List.size_toArray, List.length_cons, List.length_nil, Nat.reduceAdd, Nat.reduceSub, Array.replicate_succ, Array.replicate_zero, List.push_toArray, List.append_toArray, List.nil_append, List.cons_append]
  gi_wp2_with (first | (refine in_load_box rfl 31 (.tmp 1) rfl bm rfl (mcC x0 q0) hbm _ Tryz.underlying31 rfl hi0 ?_) | (refine in_alloc_row rfl 31 rfl _ _ (alloc_mach _) ?_) | (refine in_store_box rfl 31 (.tmp 4) (.tmp 7) rfl W.heap.size (mcC x0 q0) rfl rfl z64.toArray (Box.new _ _ _) (by rw [List.size_toArray, z64_len, mc_length hG.r8]) hi0 (mc_one _ _) ?_; intro bS; generalize (W.alloc (.cells z64.toArray 31)).setCells W.heap.size 0 (mcC x0 q0) = W1 at *; clear hbm hi0))
  have hyp : Hid (∀ (pre : List DD) (x : DD) (own : Nat → Prop) (A : World), J pre own A → Ad p x0 f W.heap.size l pre x own A → YieldAt Fence.wide 0 Tryz.prog l (ddV x) A fun e B => e = .returned (.bool true) ∧ OffP own A B ∧ ∃ own', J (pre ++ [x]) own' B ∧ ∀ (k : Nat), own' k → own k ∨ A.heap.size ≤ k ∧ k < B.heap.size) := hY
  clear hY
  gi_loopw [9] (fun i wr => ∃ (k : Nat) (pre : List DD) (own : Nat → Prop) (x : MC) (q : MA), k ≤ f ∧ i = .int .i64 (k : Int) ∧ J pre own wr ∧ Box wr W.heap.size (mcC x q).toArray ∧ McAt wr x q ∧ FarX (fun k => own k ∨ k = l ∨ k = W.heap.size ∨ p k) x q ∧ Good x ∧ pre.map ddP ++ dealt (f - k) x = dealt f x0 ∧ (∀ k, own k → k < wr.heap.size) ∧ ¬ own W.heap.size ∧ ¬ own 0 ∧ Shp wr ∧ W.heap.size < wr.heap.size) (fun i _ => f - (intOf i).toNat)
  case atStart => exact ⟨0, [], own0, x0, q0, Nat.zero_le _, rfl, HJ.out, bS, HA.out.1, HA.out.2, hG, by simp, by rw [hz1]; exact hown2, hown1, htab, HS1.out, by omega⟩
  case round =>
    obtain ⟨k, pre, own, x, q, hk, rfl, hJ, hbS, hAx, hfar, hGx, hpre, hownx, hownS, hownT, hSx, hSl⟩ := hrel
    have hix : (Tryz.prog.info? 31).map (·.size) = some (mcC x q).length := mach_info hGx.r8
    by_cases hlt : k < f
    · have gk : (k : Int) < (f : Int) := by omega
      have kb : (k : Int) ≤ 5000 := by omega
      have cS := step_top x q wr hAx hGx.b hSx
      obtain ⟨E, hE⟩ : ∃ E, stpE x = E := ⟨_, rfl⟩
      rw [hE] at cS
      have hm8 : ∀ q', (Tryz.prog.info? 31).map (·.size) = some (mcC (stpM x) q').length := fun q' => mach_info (stp_r8 hGx.r8)
      have hz8 : ∀ q', z64.toArray.size = (mcC (stpM x) q').length := fun q' => by rw [mc_length (stp_r8 hGx.r8)]; rfl
      by_cases hE0 : E = 0
      · have hd : pre.map ddP ++ ddP (x, q, E) :: dealt (f - (k + 1)) (stpM x) = dealt f x0 := by
          rw [← hpre, show f - k = (f - (k + 1)) + 1 by omega, dealt_step (hE.trans hE0), hE0]
          rfl
        have hgood := step_good hGx.r8 (hE.trans hE0)
        clear hE
        subst hE0
        gi_wp2_with (first | (refine in_load_box rfl 31 (.tmp 4) rfl W.heap.size rfl (mcC x q) hbS _ Tryz.underlying31 rfl hix ?_) | (refine ⟨trivial, rfl, ?_⟩; gi_at_call 13; refine (callsIn_wide.2 cS).mono ?_; rintro e w1 ⟨q', rfl, hbb, hA', hF'⟩; clear cS) | (refine in_alloc_row rfl 31 rfl _ _ (alloc_mach _) ?_) | (refine in_store_box rfl 31 (.tmp 5) (.tmp 14) rfl w1.heap.size (mcC (stpM x) q') rfl rfl z64.toArray (Box.new _ _ _) (hz8 q') (hm8 q') (mc_one _ _) ?_; intro bN; have hO2 : Off W.heap.size wr ((w1.alloc (.cells z64.toArray 31)).setCells w1.heap.size 0 (mcC (stpM x) q')) := Off.cells _ _ _ _ (((Off.refl _ _).below hbb).alloc _) (.inr hbb.size); have hB2 : Below w1.heap.size w1 ((w1.alloc (.cells z64.toArray 31)).setCells w1.heap.size 0 (mcC (stpM x) q')) := below_cells _ _ _ _ ((Below.refl _ _).alloc (Nat.le_refl _) _) (Nat.le_refl _); have hz2 : ((w1.alloc (.cells z64.toArray 31)).setCells w1.heap.size 0 (mcC (stpM x) q')).heap.size = w1.heap.size + 1 := (by rw [size_cells]; simp); generalize (w1.alloc (.cells z64.toArray 31)).setCells w1.heap.size 0 (mcC (stpM x) q') = W2 at *; replace hbS := (hbS.below hbb).below hB2; have hA2 := (hAx.below hbb).below hB2; have hN2 := hA'.below hB2; have hJ2 := hoff _ _ _ _ hJ hO2; have hS2 := (hSx.below hbb).below hB2; obtain ⟨fn, tmps, assign, body, hy, hR⟩ := hyp.out pre (x, q, (0 : Int)) own W2 hJ2 ⟨hA2, hfar, hGx, _, hd⟩; dsimp only [ddV] at hy))
        refine ⟨rfl, hR.mono ?_⟩
        rintro e W3 ⟨rfl, hO3, own', hJ3, hown3⟩
        have hw1 := hbb.size
        have nN : ¬ own w1.heap.size := fun h => by have := hownx _ h; omega
        have bN3 := hO3.box bN nN
        have bS3 := hO3.box hbS hownS
        have hfr : FarX (fun k => k < wr.heap.size) (stpM x) q' := hF'.far
        have hlt' : FarX (fun k => w1.heap.size ≤ k) (stpM x) q' := hA'.lt
        have hN3 : McAt W3 (stpM x) q' := hO3.mcX hN2 (hfr.mono fun k hk => hownx k hk)
        have hS3 := hS2.offP hO3 hownT
        have hO4 : Off W.heap.size W3 (W3.setCells W.heap.size 0 (mcC (stpM x) q')) := Off.cells _ _ _ _ (Off.refl _ _) (.inl rfl)
        have hN4 : McAt (W3.setCells W.heap.size 0 (mcC (stpM x) q')) (stpM x) q' := (hO4.toP (p := fun k => k = W.heap.size) rfl).mcX hN3 (hfr.mono fun k hk => by omega)
        have hS4 : Shp (W3.setCells W.heap.size 0 (mcC (stpM x) q')) := hS3.offP (p := fun k => k = W.heap.size) (hO4.toP rfl) (by omega)
        have hz4 : (W3.setCells W.heap.size 0 (mcC (stpM x) q')).heap.size = W3.heap.size := size_cells _ _ _ _
        have hz3 := hO3.size
        gi_wp2_with (first | (refine in_load_box rfl 31 (.tmp 5) rfl w1.heap.size rfl (mcC (stpM x) q') bN3 _ Tryz.underlying31 rfl (hm8 q') ?_) | (refine in_store_box rfl 31 (.tmp 4) (.tmp 25) rfl W.heap.size (mcC (stpM x) q') rfl rfl _ bS3 (by rw [List.size_toArray, mc_length hGx.r8, mc_length (stp_r8 hGx.r8)]) (hm8 q') (mc_one _ _) ?_; intro bS4))
        go_roundw
        case rel =>
          refine ⟨k + 1, pre ++ [(x, q, (0 : Int))], own', stpM x, q', by omega, rfl, hoff _ _ _ _ hJ3 hO4, bS4, hN4, ?_, hgood, ?_, fun j hj => ?_, fun h => ?_, fun h => ?_, hS4, by omega⟩
          · refine ((hfr.or hlt').mono fun j hj => ?_)
            rcases hj with h | h | h | h
            · rcases hown3 _ h with h | h
              · exact .inl (hownx _ h)
              · exact .inr (by omega)
            · exact .inl (by omega)
            · exact .inl (by omega)
            · have := hpb _ h
              exact .inl (by omega)
          · rw [List.map_append, List.append_assoc]
            exact hd
          · rcases hown3 j hj with h | h
            · have := hownx _ h; omega
            · omega
          · rcases hown3 _ h with h | h
            · exact hownS h
            · omega
          · rcases hown3 _ h with h | h
            · exact hownT h
            · omega
        case measure => simp [intOf]; omega
      · have hd : pre.map ddP ++ [ddP (x, q, E)] = dealt f x0 := by
          rw [← hpre, show f - k = (f - (k + 1)) + 1 by omega, dealt_stop (by rw [hE]; exact hE0), hE]
          rfl
        have gE : (E != 0) = true := by simpa using hE0
        clear hE
        gi_wp2_with (first | (refine in_load_box rfl 31 (.tmp 4) rfl W.heap.size rfl (mcC x q) hbS _ Tryz.underlying31 rfl hix ?_) | (refine ⟨trivial, rfl, ?_⟩; gi_at_call 13; refine (callsIn_wide.2 cS).mono ?_; rintro e w1 ⟨q', rfl, hbb, hA', hF'⟩; clear cS) | (refine in_alloc_row rfl 31 rfl _ _ (alloc_mach _) ?_) | (refine in_store_box rfl 31 (.tmp 5) (.tmp 14) rfl w1.heap.size (mcC (stpM x) q') rfl rfl z64.toArray (Box.new _ _ _) (hz8 q') (hm8 q') (mc_one _ _) ?_; intro bN; have hO2 : Off W.heap.size wr ((w1.alloc (.cells z64.toArray 31)).setCells w1.heap.size 0 (mcC (stpM x) q')) := Off.cells _ _ _ _ (((Off.refl _ _).below hbb).alloc _) (.inr hbb.size); have hB2 : Below w1.heap.size w1 ((w1.alloc (.cells z64.toArray 31)).setCells w1.heap.size 0 (mcC (stpM x) q')) := below_cells _ _ _ _ ((Below.refl _ _).alloc (Nat.le_refl _) _) (Nat.le_refl _); have hz2 : ((w1.alloc (.cells z64.toArray 31)).setCells w1.heap.size 0 (mcC (stpM x) q')).heap.size = w1.heap.size + 1 := (by rw [size_cells]; simp); generalize (w1.alloc (.cells z64.toArray 31)).setCells w1.heap.size 0 (mcC (stpM x) q') = W2 at *; replace hbS := (hbS.below hbb).below hB2; have hA2 := (hAx.below hbb).below hB2; have hN2 := hA'.below hB2; have hJ2 := hoff _ _ _ _ hJ hO2; have hS2 := (hSx.below hbb).below hB2; obtain ⟨fn, tmps, assign, body, hy, hR⟩ := hyp.out pre (x, q, E) own W2 hJ2 ⟨hA2, hfar, hGx, _, hd⟩; dsimp only [ddV] at hy))
        refine ⟨rfl, hR.mono ?_⟩
        rintro e W3 ⟨rfl, hO3, own', hJ3, hown3⟩
        gi_wp2
        refine bodyPost_ret (results_none rfl _ _ _) rfl ?_
        exact ⟨⟨_, rfl⟩, _, own', by show _ = _; rw [List.map_append]; exact hd, hJ3⟩
    · obtain rfl : k = f := by omega
      have gk : ¬ (k : Int) < (k : Int) := by omega
      have hd : pre.map ddP ++ [ddP (x, q, (15 : Int))] = dealt k x0 := by
        rw [← hpre, Nat.sub_self]
        rfl
      obtain ⟨fn, tmps, assign, body, hy, hR⟩ := hyp.out pre (x, q, (15 : Int)) own wr hJ ⟨hAx, hfar, hGx, _, hd⟩
      dsimp only [ddV] at hy
      gi_wp2_with (refine in_load_box rfl 31 (.tmp 4) rfl W.heap.size rfl (mcC x q) hbS _ Tryz.underlying31 rfl hix ?_)
      refine ⟨rfl, hR.mono ?_⟩
      rintro e W3 ⟨rfl, hO3, own', hJ3, hown3⟩
      gi_wp2
      go_end0
      exact ⟨⟨_, rfl⟩, _, own', by show _ = _; rw [List.map_append]; exact hd, hJ3⟩
end
end Go.Proofs.YtlfeglljpfihhaaGreatDoor
