/- custodiankeep.loaded answers yes, and turns nothing that was in memory. -/
import Derived.Test.YtpkmpkbgngbkjaaRows
import Derived.Test.YtpkmpkbgngbkjaaBits
import Derived.Test.YtpkmpkbgngbkjaaWithin
import Derived.Test.YtpkmpkbgngbkjaaKeyPure
import Derived.Test.YtpkmpkbgngbkjaaCellPure
import Derived.Test.YtpkmpkbgngbkjaaValsArg
import Derived.Test.YtpkmpkbgngbkjaaMemPure
import Derived.Test.YtpkmpkbgngbkjaaMemChk
import Derived.Test.YtpkmpkbgngbkjaaMemUse
import Derived.WalkKit
import Derived.ProofKit
import Derived.OpenShut
namespace Go.Proofs.Ytpkmpkbgngbkjaa
open Go.ChangeShapes Go.WideShapes Go.ChangeAt Go.RowKit
set_option linter.unusedSimpArgs false

theorem mk401 : ∃ C, ∀ w, (Instr.makeSlice 22 (.int .i64 401) (.int .i64 401)).run Try.prog w = .ok (.slice (some ⟨w.heap.size, 0, none⟩) 401 401) (w.alloc (.cells C 26)) := by
  obtain ⟨i0, hi, hz0, hz1, hz2⟩ := info_val
  exact ⟨_, fun w => run_make (P := Try.prog) w 22 26 i0 _ Try.underlying22 hi hz0 .i64 .i64 401 401 (by omega) (by omega) (by rw [hz2]; omega) (by omega)⟩
theorem ok_pair : mvsOk [⟨false, 4, 0, 0, 0, 0, 0⟩, ⟨false, 5, 0, 0, 0, 0, 0⟩] := by
  intro v hv
  simp only [List.mem_cons, List.not_mem_nil, or_false] at hv
  rcases hv with rfl | rfl <;> (unfold mvOk vb kb; dsimp only; omega)
theorem load_pair : loadE [⟨false, 4, 0, 0, 0, 0, 0⟩, ⟨false, 5, 0, 0, 0, 0, 0⟩] ⟨1, 0, 2, 0, 0⟩ 1 = 0 ∧ loadV [⟨false, 4, 0, 0, 0, 0, 0⟩, ⟨false, 5, 0, 0, 0, 0, 0⟩] ⟨1, 0, 2, 0, 0⟩ 1 = ⟨false, 5, 0, 0, 0, 0, 0⟩ := by
  have h1 : loadE [⟨false, 4, 0, 0, 0, 0, 0⟩, ⟨false, 5, 0, 0, 0, 0, 0⟩] ⟨1, 0, 2, 0, 0⟩ 1 = 0 := by
    refine load_mk (by decide) (plE_mk (by unfold ok5 ok; dsimp only; omega) rfl (by decide) (by decide) (by decide))
  refine ⟨h1, ?_⟩
  unfold loadV
  rw [if_pos h1]
  rfl
set_option maxHeartbeats 2000000 in
theorem keep_loaded (w : World) : Calls Try.prog 17 #[] w fun e w' => e = .returned (.bool true) ∧ Below w.heap.size w w' := by
  obtain ⟨C, hmk⟩ := mk401
  obtain ⟨hE, hV⟩ := load_pair
  have cL := fun s c w hA => mem_load s c [⟨false, 4, 0, 0, 0, 0, 0⟩, ⟨false, 5, 0, 0, 0, 0, 0⟩] ⟨1, 0, 2, 0, 0⟩ 1 w hA ok_pair (by unfold k5b kb; dsimp only; omega) (by omega)
  rw [hE, hV] at cL
  have cB := fun s c w => mem_check_large s 401 c w (by omega)
  clear hE hV
  have hA : ValsAt (w.alloc (.cells #[.bool false, .int .i64 4, .int .i64 0, .int .i64 0, .int .i64 0, .int .i64 0, .int .i64 0, .bool false, .int .i64 5, .int .i64 0, .int .i64 0, .int .i64 0, .int .i64 0, .int .i64 0] 26)) (some ⟨w.heap.size, 0, none⟩) [⟨false, 4, 0, 0, 0, 0, 0⟩, ⟨false, 5, 0, 0, 0, 0, 0⟩] := vals_row (t := 26) (heap_alloc_new _ _)
  go_enter Try.func17, Try.ntmps17
  go_wp2_with (first | (go_at_call 9; refine (cL _ _ _ hA).mono ?_; rintro e w1 ⟨rfl, hbb⟩; have hB1 := Below.step0 ((Below.refl _ _).alloc (Nat.le_refl _) _) hbb; clear hbb cL hA) | (go_at_call 11; refine (cB _ _ _).mono ?_; rintro e w2 ⟨rfl, rfl⟩))
  go_ret
  exact ⟨rfl, (hB1.alloc hB1.size _).alloc (by have := hB1.size; simp; omega) _⟩
end Go.Proofs.Ytpkmpkbgngbkjaa
