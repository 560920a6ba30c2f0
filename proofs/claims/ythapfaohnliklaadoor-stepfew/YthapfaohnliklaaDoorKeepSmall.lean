/- custodiankeep.stepped: true; custodiankeep.opOf: the instruction that is next; custodiankeep.named: which registers it names. -/
import Derived.Test.YthapfaohnliklaaDoorRows
import Derived.Test.YthapfaohnliklaaDoorKeyPure
import Derived.Test.YthapfaohnliklaaDoorInstShape
import Derived.Test.YthapfaohnliklaaDoorInstDev
import Derived.Test.YthapfaohnliklaaDoorMachArg
import Derived.Test.YthapfaohnliklaaDoorStepChk
import Derived.Test.YthapfaohnliklaaDoorStepChk2
import Derived.Test.YthapfaohnliklaaDoorStepOff
import Derived.Test.YthapfaohnliklaaDoorStepOwn
import Derived.Test.YthapfaohnliklaaDoorStepFetch
import Derived.Test.YthapfaohnliklaaDoorStepTop
import Derived.Test.YthapfaohnliklaaDoorStepKeep
import Derived.Test.YthapfaohnliklaaDoorRangeW
import Derived.Test.YthapfaohnliklaaDoorInMid
import Derived.WalkKit
import Derived.ProofKit
import Derived.Deep.MidRow
namespace Go.Proofs.YthapfaohnliklaaDoor
open Go.ChangeShapes Go.WideShapes Go.ChangeAt Go.RowKit
set_option linter.unusedSimpArgs false
set_option linter.unusedVariables false
set_option maxRecDepth 100000

/-- The machine that is tried: 'set 3 9'. -/
def x39 : MC := ⟨[nil0, nil0, nil0, nil0, nil0, nil0, nil0, nil0], ⟨4, 0, 1, 0, 0⟩, [⟨false, 4212833, 0, 0, 0, 0, 0⟩], [], []⟩
theorem pack39 : packD 1 3 0 9 = 4212833 ∧ chkD 1 3 0 9 = 0 := by decide +kernel
theorem stp39 : stpE x39 = 0 := by decide +kernel
theorem b39 : McB x39 := by
  have h0 : mvOk nil0 := by
    show vb 0 0 0 0 0 0
    unfold vb kb
    decide
  refine ⟨rfl, fun v hv => ?_, ?_, fun v hv => ?_, fun v hv => (by cases hv), fun v hv => (by cases hv)⟩
  · simp only [x39, List.mem_cons, List.not_mem_nil, or_false, or_self] at hv
    rw [hv]
    exact h0
  · show kb 4 0 1 0 0
    unfold kb
    decide
  · obtain rfl := List.mem_singleton.1 hv
    show vb 4212833 0 0 0 0 0
    unfold vb kb
    decide
theorem out39 (q : MA) : (mcC (stpM x39) q).toArray[21]? = some (.bool false) ∧ (mcC (stpM x39) q).toArray[22]? = some (.int .i64 9) ∧ (mcC (stpM x39) q).toArray[23]? = some (.int .i64 0) ∧ (mcC (stpM x39) q).toArray[24]? = some (.int .i64 0) ∧ (mcC (stpM x39) q).toArray[25]? = some (.int .i64 0) ∧ (mcC (stpM x39) q).toArray[26]? = some (.int .i64 0) ∧ (mcC (stpM x39) q).toArray[27]? = some (.int .i64 0) ∧ (mcC (stpM x39) q).toArray[59]? = some (.int .i64 1) := by
  refine ⟨?_, ?_, ?_, ?_, ?_, ?_, ?_, ?_⟩ <;> kernel_rfl
theorem step39 (k : Nat) (w : World) (hk : w.cell? ⟨k, 0, none⟩ = some (.bool false)) (h1 : ∀ j, 1 ≤ j → j < 7 → w.cell? ⟨k, j, none⟩ = some (.int .i64 (if j = 1 then 4212833 else 0))) (hS : Shp w) :
    Calls Tryd.prog 7 #[.agg #[.bool false, .int .i64 0, .int .i64 0, .int .i64 0, .int .i64 0, .int .i64 0, .int .i64 0, .bool false, .int .i64 0, .int .i64 0, .int .i64 0, .int .i64 0, .int .i64 0, .int .i64 0, .bool false, .int .i64 0, .int .i64 0, .int .i64 0, .int .i64 0, .int .i64 0, .int .i64 0, .bool false, .int .i64 0, .int .i64 0, .int .i64 0, .int .i64 0, .int .i64 0, .int .i64 0, .bool false, .int .i64 0, .int .i64 0, .int .i64 0, .int .i64 0, .int .i64 0, .int .i64 0, .bool false, .int .i64 0, .int .i64 0, .int .i64 0, .int .i64 0, .int .i64 0, .int .i64 0, .bool false, .int .i64 0, .int .i64 0, .int .i64 0, .int .i64 0, .int .i64 0, .int .i64 0, .bool false, .int .i64 0, .int .i64 0, .int .i64 0, .int .i64 0, .int .i64 0, .int .i64 0, .int .i64 4, .int .i64 0, .int .i64 1, .int .i64 0, .int .i64 0, .slice (some ⟨k, 0, none⟩) 1 1, .slice none 0 0, .slice none 0 0]] w fun r w' => ∃ q', r = .returned (.tuple #[.agg (mcC (stpM x39) q').toArray, .int .i64 0]) ∧ Below w.heap.size w w' := by
  have hrow : McAt w x39 ⟨some ⟨k, 0, none⟩, 1, none, 0, none, 0⟩ := by
    refine ⟨.inr ⟨k, 0, rfl, cell_lt hk, fun j u hj => ?_⟩, .inl rfl, .inl rfl, Nat.le_refl _⟩
    have hj7 : j < 7 := (List.getElem?_eq_some_iff.1 hj).1
    rw [Nat.zero_add]
    have h2 := fun h => h1 j h hj7
    have hc : j = 0 ∨ j = 1 ∨ j = 2 ∨ j = 3 ∨ j = 4 ∨ j = 5 ∨ j = 6 := by omega
    rcases hc with rfl | rfl | rfl | rfl | rfl | rfl | rfl
    · cases hj; exact hk
    all_goals
      cases hj
      exact h2 (by omega)
  have h := step_top x39 ⟨some ⟨k, 0, none⟩, 1, none, 0, none, 0⟩ w hrow b39 hS
  rw [stp39] at h
  refine Calls.mono (R := fun r w' => ∃ q', r = .returned (.tuple #[.agg (mcC (stpM x39) q').toArray, .int .i64 0]) ∧ Below w.heap.size w w' ∧ McAt w' (stpM x39) q' ∧ FreshQ w.heap.size q') h ?_
  rintro r w' ⟨q', rfl, hb, _⟩
  exact ⟨q', rfl, hb⟩
set_option maxHeartbeats 4000000 in
theorem keep_stepped (w : World) (hS : Shp w) : Calls Tryd.prog 8 #[] w fun e w' => e = .returned (.bool true) ∧ Below w.heap.size w w' := by
  have cP := fun w hS => inst_pack 1 3 0 9 w hS
  rw [pack39.1, pack39.2] at cP
  have r8 : (stpM x39).r.length = 8 := stp_r8 rfl
  have hz8 : ∀ q', z64.toArray.size = (mcC (stpM x39) q').length := fun q' => by rw [mc_length r8]; rfl
  have HS : Hid (∀ w', Below w.heap.size w w' → Shp w') := fun w' hb => hS.below hb
  clear hS
  go_enter Tryd.func8, Tryd.ntmps8
  go_wp2_with (first | (go_at_call 21; refine (cP _ (HS.out _ (Below.refl _ _))).mono ?_; rintro e w1 ⟨rfl, hB⟩) | (go_at_call 7; refine (step39 w1.heap.size _ (by simp) (fun j h1 h7 => by have hc : j = 1 ∨ j = 2 ∨ j = 3 ∨ j = 4 ∨ j = 5 ∨ j = 6 := (by omega); rcases hc with rfl | rfl | rfl | rfl | rfl | rfl <;> simp) (HS.out _ (hB.alloc hB.size _))).mono ?_; rintro e w2 ⟨q', rfl, hbb⟩; replace hB := Below.step0 (hB.alloc hB.size _) hbb; clear hbb) | (refine wpList_alloc1 rfl 31 rfl _ (alloc_mach _) ?_) | (refine pl_store_box rfl 31 (.tmp 3) (.tmp 17) rfl w2.heap.size (mcC (stpM x39) q') (by rfl) (by rfl) z64.toArray (Box.new _ _ _) (hz8 q') (mach_info r8) (mc_one _ _) ?_; intro bM; have hB3 := below_cells w2.heap.size (mcC (stpM x39) q') 0 _ (hB.alloc hB.size (.cells z64.toArray 31)) hB.size; obtain ⟨m0, m1, m2, m3, m4, m5, m6, m7⟩ := out39 q'; generalize (w2.alloc (.cells z64.toArray 31)).setCells w2.heap.size 0 (mcC (stpM x39) q') = w3 at *; generalize (mcC (stpM x39) q').toArray = M at *; have q3 := bM.cell))
  go_ret
  exact ⟨rfl, hB3⟩
end Go.Proofs.YthapfaohnliklaaDoor
