/- step.step's deferred closure: what was thrown is told. -/
import Derived.Test.YtlfeglljpfihhaaGreatDoorRows
import Derived.Test.YtlfeglljpfihhaaGreatDoorCardBaseX
import Derived.Test.YtlfeglljpfihhaaGreatDoorStepOwnedX
import Derived.WalkKit
import Derived.ProofKit
import Derived.Defers
import Derived.Recover
import Derived.WalkLawsBesides
namespace Go.Proofs.YtlfeglljpfihhaaGreatDoor
open Go.ChangeShapes Go.WideShapes Go.ChangeAt Go.RowKit
set_option linter.unusedSimpArgs false
set_option linter.unusedVariables false
set_option maxRecDepth 100000
set_option maxHeartbeats 1000000 in
theorem catch_idle (p : Addr) (w : World) :
    CallsD Tryz.prog 49 #[.pointer (some p)] .returning w fun e u' w' => e = .returned (.tuple #[]) ∧ u' = .returning ∧ w' = w := by
  refine callsD_of_wpS Tryz.func49 rfl fun c₀ cs hu => ?_
  apply wpS_seq
  apply wpS_region
  simp [wpOpsS, go_sem, recoverD, hu, Tryz.ntmps49, Exit.thenS]
  rw [show (#[Value.pointer (some p)] ++ (Array.replicate 18 undef).setIfInBounds 5 (.nilIface) : Array Value) = #[.pointer (some p), undef, undef, undef, undef, undef, .nilIface, undef, undef, undef, undef, undef, undef, undef, undef, undef, undef, undef, undef] from rfl]
  refine wpS_of_wp ?_
  go_wp2
  cases c₀
  simp_all [bodyPostS, results, Tryz.results49]
theorem ta_yes {P : Program} (v : Value) (s t : TypeId) (d : TypeDesc) (hu : P.underlying t = some d) (hd : ∀ m, d ≠ .interface m) (w : World) : (Instr.typeAssert (.iface t v) s t true).run P w = .ok (.tuple #[v, .bool true]) w := by
  unfold Instr.typeAssert
  cases d <;> simp_all [run_underlying hu]
theorem ta_no {P : Program} (v z : Value) (s t t' : TypeId) (d : TypeDesc) (hu : P.underlying t = some d) (hd : ∀ m, d ≠ .interface m) (hn : ¬ t' = t) (hz : ∀ w, (zeroValue t).run P w = .ok z w) (w : World) : (Instr.typeAssert (.iface t' v) s t true).run P w = .ok (.tuple #[z, .bool false]) w := by
  unfold Instr.typeAssert
  cases d <;> simp_all [run_underlying hu]
set_option maxHeartbeats 2000000 in
theorem catch_err (E : Nat) (x : Int) (m : Int) (older : List PanicEntry) (w : World) (hc : w.cell? ⟨E, 0, none⟩ = some (.int .i64 x)) (hz : w.frozen? ⟨E, 0, none⟩ = false) (hlt : E < w.heap.size) :
    CallsD Tryz.prog 49 #[.pointer (some ⟨E, 0, none⟩)] (.panicking ({ v := thV (.e m), recovered := false } :: older)) w fun e u' w' =>
      e = .returned (.tuple #[]) ∧ u' = .panicking ({ v := thV (.e m), recovered := true } :: older) ∧ w' = w.setCell ⟨E, 0, none⟩ (.int .i64 m) := by
  refine callsD_of_wpS Tryz.func49 rfl fun c₀ cs hu => ?_
  have t1 := fun s w => ta_yes (P := Tryz.prog) (.int .i64 m) s 35 _ Tryz.underlying35 (fun _ h => by cases h) w
  have n1 : ¬ E = w.heap.size := by omega
  have n2 : ¬ w.heap.size = E := by omega
  unfold thV at *
  apply wpS_seq
  apply wpS_region
  simp [wpOpsS, go_sem, recoverD, hu, Tryz.ntmps49, Exit.thenS]
  rw [show (#[Value.pointer (some ⟨E, 0, none⟩)] ++ (Array.replicate 18 undef).setIfInBounds 5 (.iface 35 (.int .i64 m)) : Array Value) = #[.pointer (some ⟨E, 0, none⟩), undef, undef, undef, undef, undef, .iface 35 (.int .i64 m), undef, undef, undef, undef, undef, undef, undef, undef, undef, undef, undef, undef] from rfl]
  refine wpS_of_wp ?_
  go_wp2
  cases c₀
  simp_all [bodyPostS, results, Tryz.results49]
set_option maxHeartbeats 2000000 in
theorem catch_u (E : Nat) (x : Int) (older : List PanicEntry) (w : World) (hc : w.cell? ⟨E, 0, none⟩ = some (.int .i64 x)) (hz : w.frozen? ⟨E, 0, none⟩ = false) (hlt : E < w.heap.size) :
    CallsD Tryz.prog 49 #[.pointer (some ⟨E, 0, none⟩)] (.panicking ({ v := thV .u, recovered := false } :: older)) w fun e u' w' =>
      e = .returned (.tuple #[]) ∧ u' = .panicking ({ v := thV .u, recovered := true } :: older) ∧ w' = (w.setCell ⟨E, 0, none⟩ (.int .i64 10)).alloc (.cells #[] 101) := by
  refine callsD_of_wpS Tryz.func49 rfl fun c₀ cs hu => ?_
  have t1 := fun s w => ta_no (P := Tryz.prog) (.agg #[]) (.int .i64 0) s 35 101 _ Tryz.underlying35 (fun _ h => by cases h) (by decide) (fun w => by simp [go_sem]) w
  have t2 := fun s w => ta_yes (P := Tryz.prog) (.agg #[]) s 101 _ Tryz.underlying101 (fun _ h => by cases h) w
  have n1 : ¬ E = w.heap.size := by omega
  have n2 : ¬ w.heap.size = E := by omega
  unfold thV at *
  apply wpS_seq
  apply wpS_region
  simp [wpOpsS, go_sem, recoverD, hu, Tryz.ntmps49, Exit.thenS]
  rw [show (#[Value.pointer (some ⟨E, 0, none⟩)] ++ (Array.replicate 18 undef).setIfInBounds 5 (.iface 101 (.agg #[])) : Array Value) = #[.pointer (some ⟨E, 0, none⟩), undef, undef, undef, undef, undef, .iface 101 (.agg #[]), undef, undef, undef, undef, undef, undef, undef, undef, undef, undef, undef, undef] from rfl]
  refine wpS_of_wp ?_
  go_wp2
  cases c₀
  simp_all [bodyPostS, results, Tryz.results49]
set_option maxHeartbeats 2000000 in
theorem catch_h (E : Nat) (x : Int) (older : List PanicEntry) (w : World) (hc : w.cell? ⟨E, 0, none⟩ = some (.int .i64 x)) (hz : w.frozen? ⟨E, 0, none⟩ = false) (hlt : E < w.heap.size) :
    CallsD Tryz.prog 49 #[.pointer (some ⟨E, 0, none⟩)] (.panicking ({ v := thV .h, recovered := false } :: older)) w fun e u' w' =>
      e = .returned (.tuple #[]) ∧ u' = .panicking ({ v := thV .h, recovered := true } :: older) ∧ w' = (w.setCell ⟨E, 0, none⟩ (.int .i64 16)).alloc (.cells #[] 102) := by
  refine callsD_of_wpS Tryz.func49 rfl fun c₀ cs hu => ?_
  have t1 := fun s w => ta_no (P := Tryz.prog) (.agg #[]) (.int .i64 0) s 35 102 _ Tryz.underlying35 (fun _ h => by cases h) (by decide) (fun w => by simp [go_sem]) w
  have t2 := fun s w => ta_no (P := Tryz.prog) (.agg #[]) (.agg #[]) s 101 102 _ Tryz.underlying101 (fun _ h => by cases h) (by decide) (fun w => by simp [go_sem]) w
  have t3 := fun s w => ta_yes (P := Tryz.prog) (.agg #[]) s 102 _ Tryz.underlying102 (fun _ h => by cases h) w
  have n1 : ¬ E = w.heap.size := by omega
  have n2 : ¬ w.heap.size = E := by omega
  unfold thV at *
  apply wpS_seq
  apply wpS_region
  simp [wpOpsS, go_sem, recoverD, hu, Tryz.ntmps49, Exit.thenS]
  rw [show (#[Value.pointer (some ⟨E, 0, none⟩)] ++ (Array.replicate 18 undef).setIfInBounds 5 (.iface 102 (.agg #[])) : Array Value) = #[.pointer (some ⟨E, 0, none⟩), undef, undef, undef, undef, undef, .iface 102 (.agg #[]), undef, undef, undef, undef, undef, undef, undef, undef, undef, undef, undef, undef] from rfl]
  refine wpS_of_wp ?_
  go_wp2
  cases c₀
  simp_all [bodyPostS, results, Tryz.results49]
end Go.Proofs.YtlfeglljpfihhaaGreatDoor
