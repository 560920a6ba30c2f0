/- step.fresh: a list of the same values, in memory of its own. -/
import Derived.Test.YthapfaohnliklaaDoorRows
import Derived.Test.YthapfaohnliklaaDoorKeyPure
import Derived.Test.YthapfaohnliklaaDoorCellPure
import Derived.Test.YthapfaohnliklaaDoorValsArg
import Derived.Test.YthapfaohnliklaaDoorMemPure
import Derived.Test.YthapfaohnliklaaDoorMemUse
import Derived.Test.YthapfaohnliklaaDoorMachArg
import Derived.WalkKit
import Derived.ProofKit
import Derived.OpenShut
import Derived.Laws.CopyOwn
import Derived.Laws.OwnMore
import Derived.Laws.Rows
namespace Go.Proofs.YthapfaohnliklaaDoor
open Go.ChangeShapes Go.WideShapes Go.ChangeAt Go.RowKit
set_option linter.unusedSimpArgs false
set_option maxRecDepth 100000

theorem info_vals : ∃ i, Tryd.prog.info? 25 = some i ∧ i.zero = some (.agg #[.bool false, .int .i64 0, .int .i64 0, .int .i64 0, .int .i64 0, .int .i64 0, .int .i64 0]) ∧ i.size = 7 ∧ i.bytes = 56 := by
  refine ⟨_, rfl, ?_, ?_, ?_⟩ <;> kernel_rfl
theorem info_frames : ∃ i, Tryd.prog.info? 69 = some i ∧ i.zero = some (.agg #[.int .i64 0, .int .i64 0, .int .i64 0, .int .i64 0, .int .i64 0, .bool false, .int .i64 0, .int .i64 0, .int .i64 0, .int .i64 0, .int .i64 0, .int .i64 0]) ∧ i.size = 12 ∧ i.bytes = 96 := by
  refine ⟨_, rfl, ?_, ?_, ?_⟩ <;> kernel_rfl
theorem info_ints : ∃ i, Tryd.prog.info? 3 = some i ∧ i.zero = some (.int .i64 0) ∧ i.size = 1 ∧ i.bytes = 8 := by
  refine ⟨_, rfl, ?_, ?_, ?_⟩ <;> kernel_rfl
theorem fr_one (fs : List FR) : ∀ u ∈ fs.flatMap frC, u.oneCell' = true := fun u hu => by
  obtain ⟨f, _, hv⟩ := List.mem_flatMap.1 hu
  simp only [frC, List.mem_cons, List.not_mem_nil, or_false] at hv
  rcases hv with rfl | rfl | rfl | rfl | rfl | rfl | rfl | rfl | rfl | rfl | rfl | rfl <;> rfl
theorem nm_one (ns : List Int) : ∀ u ∈ ns.map nmC, u.oneCell' = true := fun u hu => by
  obtain ⟨n, _, rfl⟩ := List.mem_map.1 hu
  rfl
theorem copy_none {P : Program} (w : World) (dT sT ty elem : TypeId) (size g : Nat) (s : Option Addr) (c : Nat) (hu : P.underlying dT = some (.slice elem)) (hs : (P.info? elem).map (·.size) = some size) :
    (Builtin.copy_ #[dT, sT] ty #[.slice (some ⟨g, 0, none⟩) 0 0, .slice s 0 c]).run P w = .ok (goInt 0) w := by
  cases hq : P.info? elem with
  | none => simp [hq] at hs
  | some i =>
    cases s <;> simp [Builtin.copy_, run_underlying hu, Builtin.lenOf, Builtin.firstCells, sizeOf, typeInfo, hq, loadCells, loadCellsFrom, storeCells]
set_option maxHeartbeats 1000000
theorem fresh_vals (s : Option Addr) (c : Nat) (vs : List MV) (w : World) (hA : RowAt w s (vs.flatMap mvC)) (hl : vs.length ≤ 400) :
    Calls Tryd.prog 36 #[.slice s vs.length c] w fun e w' => ∃ g, e = .returned (.slice (some ⟨g, 0, none⟩) vs.length vs.length) ∧ Below w.heap.size w w' ∧ (w.heap.size ≤ g ∧ g < w'.heap.size) ∧ RowAt w' (some ⟨g, 0, none⟩) (vs.flatMap mvC) := by
  obtain ⟨i0, hi, hz0, hz1, hz2⟩ := info_vals
  have hr := run_make (P := Tryd.prog) w 27 25 i0 _ Tryd.underlying27 hi hz0 .i64 .i64 (vs.length : Int) (vs.length : Int) (by omega) (Int.le_refl _) (by rw [hz2]; omega) (by omega)
  simp only [Int.toNat_natCast, hz1] at hr
  obtain ⟨C, hC⟩ : ∃ C, madeCells (Value.cells (.agg #[.bool false, .int .i64 0, .int .i64 0, .int .i64 0, .int .i64 0, .int .i64 0, .int .i64 0])) (vs.length * 7) = C := ⟨_, rfl⟩
  have zC : C.size = vs.length * 7 := by rw [← hC]; exact size_madeCells _ _
  rw [hC] at hr
  have zm : (vs.flatMap mvC).length = vs.length * 7 := mv_len vs
  have om : ∀ u ∈ vs.flatMap mvC, u.oneCell' = true := mv_one vs
  generalize hL : vs.flatMap mvC = L at *
  clear hC
  have hne : w.heap.size ≤ w.heap.size := Nat.le_refl _
  have hg2 : (w.alloc (.cells C 25)).heap[w.heap.size]? = some (.cells C 25 (0, 0)) := heap_alloc_new _ _
  have hb2 : Below w.heap.size w (w.alloc (.cells C 25)) := (Below.refl _ _).alloc (Nat.le_refl _) _
  rcases hA with h0 | ⟨B, off, rfl, hB, hcells⟩
  · have hv0 : vs = [] := by
      rw [h0] at zm
      exact List.length_eq_zero_iff.1 (by simp at zm; omega)
    subst hv0
    have HL : Hid (L = []) := h0
    have hr0 : (Instr.makeSlice 27 (.int .i64 0) (.int .i64 0)).run Tryd.prog w = .ok (.slice (some ⟨w.heap.size, 0, none⟩) 0 0) (w.alloc (.cells C 25)) := hr
    have hcp := fun s => copy_none (P := Tryd.prog) (w.alloc (.cells C 25)) 27 27 3 25 7 w.heap.size s c Tryd.underlying27 (by rw [hi]; simp [hz1])
    clear hg2 om zm hL h0 hi hz0 hr
    cases s
    all_goals
      go_enter Tryd.func36, Tryd.ntmps36
      go_wp2
      go_ret
      refine ⟨w.heap.size, rfl, hb2, ⟨Nat.le_refl _, by simp⟩, .inl HL.out⟩
  · obtain ⟨w3, hc3, hg3, hb3⟩ := copy_rows (P := Tryd.prog) (w.alloc (.cells C 25)) 27 27 3 25 7 w.heap.size vs.length vs.length ⟨B, off, none⟩ vs.length c vs.length C 25 L Tryd.underlying27 (by rw [hi]; simp [hz1]) hg2 (by simp) zm (fun j u hj => by rw [addr_add, hb2.cell (p := ⟨B, off + j, none⟩) hB]; exact hcells j u hj) (by rw [zm, zC]) om
    have HU : Hid (w.heap.size < w3.heap.size) := (Array.getElem?_eq_some_iff.1 hg3).1
    have HW : Hid (Below w.heap.size w w3 ∧ RowAt w3 (some ⟨w.heap.size, 0, none⟩) L) := ⟨hb2.trans hb3, .inr ⟨w.heap.size, 0, rfl, (Array.getElem?_eq_some_iff.1 hg3).1, fun j u hj => by rw [cell_of_row w3 w.heap.size _ _ 25 _ hg3, Nat.zero_add]; simpa using hj⟩⟩
    clear hg2 hg3 hb3 hb2 hcells om zm zC hi hz0 hL
    go_enter Tryd.func36, Tryd.ntmps36
    go_wp2
    go_ret
    exact ⟨w.heap.size, rfl, HW.out.1, ⟨Nat.le_refl _, HU.out⟩, HW.out.2⟩
theorem fresh_frames (s : Option Addr) (c : Nat) (vs : List FR) (w : World) (hA : RowAt w s (vs.flatMap frC)) (hl : vs.length ≤ 16) :
    Calls Tryd.prog 37 #[.slice s vs.length c] w fun e w' => ∃ g, e = .returned (.slice (some ⟨g, 0, none⟩) vs.length vs.length) ∧ Below w.heap.size w w' ∧ (w.heap.size ≤ g ∧ g < w'.heap.size) ∧ RowAt w' (some ⟨g, 0, none⟩) (vs.flatMap frC) := by
  obtain ⟨i0, hi, hz0, hz1, hz2⟩ := info_frames
  have hr := run_make (P := Tryd.prog) w 28 69 i0 _ Tryd.underlying28 hi hz0 .i64 .i64 (vs.length : Int) (vs.length : Int) (by omega) (Int.le_refl _) (by rw [hz2]; omega) (by omega)
  simp only [Int.toNat_natCast, hz1] at hr
  obtain ⟨C, hC⟩ : ∃ C, madeCells (Value.cells (.agg #[.int .i64 0, .int .i64 0, .int .i64 0, .int .i64 0, .int .i64 0, .bool false, .int .i64 0, .int .i64 0, .int .i64 0, .int .i64 0, .int .i64 0, .int .i64 0])) (vs.length * 12) = C := ⟨_, rfl⟩
  have zC : C.size = vs.length * 12 := by rw [← hC]; exact size_madeCells _ _
  rw [hC] at hr
  have zm : (vs.flatMap frC).length = vs.length * 12 := flat_len frC_len vs
  have om : ∀ u ∈ vs.flatMap frC, u.oneCell' = true := fr_one vs
  generalize hL : vs.flatMap frC = L at *
  clear hC
  have hne : w.heap.size ≤ w.heap.size := Nat.le_refl _
  have hg2 : (w.alloc (.cells C 69)).heap[w.heap.size]? = some (.cells C 69 (0, 0)) := heap_alloc_new _ _
  have hb2 : Below w.heap.size w (w.alloc (.cells C 69)) := (Below.refl _ _).alloc (Nat.le_refl _) _
  rcases hA with h0 | ⟨B, off, rfl, hB, hcells⟩
  · have hv0 : vs = [] := by
      rw [h0] at zm
      exact List.length_eq_zero_iff.1 (by simp at zm; omega)
    subst hv0
    have HL : Hid (L = []) := h0
    have hr0 : (Instr.makeSlice 28 (.int .i64 0) (.int .i64 0)).run Tryd.prog w = .ok (.slice (some ⟨w.heap.size, 0, none⟩) 0 0) (w.alloc (.cells C 69)) := hr
    have hcp := fun s => copy_none (P := Tryd.prog) (w.alloc (.cells C 69)) 28 28 3 69 12 w.heap.size s c Tryd.underlying28 (by rw [hi]; simp [hz1])
    clear hg2 om zm hL h0 hi hz0 hr
    cases s
    all_goals
      go_enter Tryd.func37, Tryd.ntmps37
      go_wp2
      go_ret
      refine ⟨w.heap.size, rfl, hb2, ⟨Nat.le_refl _, by simp⟩, .inl HL.out⟩
  · obtain ⟨w3, hc3, hg3, hb3⟩ := copy_rows (P := Tryd.prog) (w.alloc (.cells C 69)) 28 28 3 69 12 w.heap.size vs.length vs.length ⟨B, off, none⟩ vs.length c vs.length C 69 L Tryd.underlying28 (by rw [hi]; simp [hz1]) hg2 (by simp) zm (fun j u hj => by rw [addr_add, hb2.cell (p := ⟨B, off + j, none⟩) hB]; exact hcells j u hj) (by rw [zm, zC]) om
    have HU : Hid (w.heap.size < w3.heap.size) := (Array.getElem?_eq_some_iff.1 hg3).1
    have HW : Hid (Below w.heap.size w w3 ∧ RowAt w3 (some ⟨w.heap.size, 0, none⟩) L) := ⟨hb2.trans hb3, .inr ⟨w.heap.size, 0, rfl, (Array.getElem?_eq_some_iff.1 hg3).1, fun j u hj => by rw [cell_of_row w3 w.heap.size _ _ 69 _ hg3, Nat.zero_add]; simpa using hj⟩⟩
    clear hg2 hg3 hb3 hb2 hcells om zm zC hi hz0 hL
    go_enter Tryd.func37, Tryd.ntmps37
    go_wp2
    go_ret
    exact ⟨w.heap.size, rfl, HW.out.1, ⟨Nat.le_refl _, HU.out⟩, HW.out.2⟩
theorem fresh_ints (s : Option Addr) (c : Nat) (vs : List Int) (w : World) (hA : RowAt w s (vs.map nmC)) (hl : vs.length ≤ 100) :
    Calls Tryd.prog 38 #[.slice s vs.length c] w fun e w' => ∃ g, e = .returned (.slice (some ⟨g, 0, none⟩) vs.length vs.length) ∧ Below w.heap.size w w' ∧ (w.heap.size ≤ g ∧ g < w'.heap.size) ∧ RowAt w' (some ⟨g, 0, none⟩) (vs.map nmC) := by
  obtain ⟨i0, hi, hz0, hz1, hz2⟩ := info_ints
  have hr := run_make (P := Tryd.prog) w 29 3 i0 _ Tryd.underlying29 hi hz0 .i64 .i64 (vs.length : Int) (vs.length : Int) (by omega) (Int.le_refl _) (by rw [hz2]; omega) (by omega)
  simp only [Int.toNat_natCast, hz1] at hr
  obtain ⟨C, hC⟩ : ∃ C, madeCells (Value.cells (.int .i64 0)) (vs.length * 1) = C := ⟨_, rfl⟩
  have zC : C.size = vs.length * 1 := by rw [← hC]; exact size_madeCells _ _
  rw [hC] at hr
  have zm : (vs.map nmC).length = vs.length * 1 := by rw [List.length_map, Nat.mul_one]
  have om : ∀ u ∈ vs.map nmC, u.oneCell' = true := nm_one vs
  generalize hL : vs.map nmC = L at *
  clear hC
  have hne : w.heap.size ≤ w.heap.size := Nat.le_refl _
  have hg2 : (w.alloc (.cells C 3)).heap[w.heap.size]? = some (.cells C 3 (0, 0)) := heap_alloc_new _ _
  have hb2 : Below w.heap.size w (w.alloc (.cells C 3)) := (Below.refl _ _).alloc (Nat.le_refl _) _
  rcases hA with h0 | ⟨B, off, rfl, hB, hcells⟩
  · have hv0 : vs = [] := by
      rw [h0] at zm
      exact List.length_eq_zero_iff.1 (by simp at zm; omega)
    subst hv0
    have HL : Hid (L = []) := h0
    have hr0 : (Instr.makeSlice 29 (.int .i64 0) (.int .i64 0)).run Tryd.prog w = .ok (.slice (some ⟨w.heap.size, 0, none⟩) 0 0) (w.alloc (.cells C 3)) := hr
    have hcp := fun s => copy_none (P := Tryd.prog) (w.alloc (.cells C 3)) 29 29 3 3 1 w.heap.size s c Tryd.underlying29 (by rw [hi]; simp [hz1])
    clear hg2 om zm hL h0 hi hz0 hr
    cases s
    all_goals
      go_enter Tryd.func38, Tryd.ntmps38
      go_wp2
      go_ret
      refine ⟨w.heap.size, rfl, hb2, ⟨Nat.le_refl _, by simp⟩, .inl HL.out⟩
  · obtain ⟨w3, hc3, hg3, hb3⟩ := copy_rows (P := Tryd.prog) (w.alloc (.cells C 3)) 29 29 3 3 1 w.heap.size vs.length vs.length ⟨B, off, none⟩ vs.length c vs.length C 3 L Tryd.underlying29 (by rw [hi]; simp [hz1]) hg2 (by simp) zm (fun j u hj => by rw [addr_add, hb2.cell (p := ⟨B, off + j, none⟩) hB]; exact hcells j u hj) (by rw [zm, zC]) om
    have HU : Hid (w.heap.size < w3.heap.size) := (Array.getElem?_eq_some_iff.1 hg3).1
    have HW : Hid (Below w.heap.size w w3 ∧ RowAt w3 (some ⟨w.heap.size, 0, none⟩) L) := ⟨hb2.trans hb3, .inr ⟨w.heap.size, 0, rfl, (Array.getElem?_eq_some_iff.1 hg3).1, fun j u hj => by rw [cell_of_row w3 w.heap.size _ _ 3 _ hg3, Nat.zero_add]; simpa using hj⟩⟩
    clear hg2 hg3 hb3 hb2 hcells om zm zC hi hz0 hL
    go_enter Tryd.func38, Tryd.ntmps38
    go_wp2
    go_ret
    exact ⟨w.heap.size, rfl, HW.out.1, ⟨Nat.le_refl _, HU.out⟩, HW.out.2⟩
end Go.Proofs.YthapfaohnliklaaDoor
