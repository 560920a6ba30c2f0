/- Chapter 8, P16: Check answers what the document says, for whatever memory; nothing that was in memory is turned. -/
import Derived.Test.YtpkmpkbgngbkjaaRows
import Derived.Test.YtpkmpkbgngbkjaaKeyArg
import Derived.Test.YtpkmpkbgngbkjaaValsArg
import Derived.Test.YtpkmpkbgngbkjaaKeyPure
import Derived.Test.YtpkmpkbgngbkjaaCellPure
import Derived.Test.YtpkmpkbgngbkjaaMemPure
import Derived.Test.YtpkmpkbgngbkjaaMemChk
import Derived.Test.YtpkmpkbgngbkjaaMemUse
import Derived.Test.YtpkmpkbgngbkjaaMemRef
import Derived.Test.YtpkmpkbgngbkjaaMemLoaded
import Derived.WalkKit
import Derived.ProofKit
import Derived.OpenShut
namespace Go.Proofs.Ytpkmpkbgngbkjaa.memChecks
open Go.ChangeShapes Go.WideShapes Go.ChangeAt Go.RowKit
set_option linter.unusedVariables false
set_option linter.unusedSimpArgs false

theorem own : ownKnob Try.prog.godebug = none := by kernel_rfl
theorem laidOut : laidOutB Try.prog = true := by kernel_rfl


set_option maxHeartbeats 4000000 in
set_option maxRecDepth 1000000 in
theorem walk (s0 : Option Addr) (c0 : Nat) (a0 : List MV)  (w : World) (n0 : mvsOk a0) (z0 : a0.length ≤ c0) (y0 : c0 ≤ maxLen) (A0 : ValsAt w s0 a0) :
    Calls Try.prog 5 #[.slice s0 a0.length c0] w fun e w' => e = .returned (.bool true) ∧ Below w.heap.size w w' := by
  obtain ⟨C, hmk⟩ := mk401
  have cM := fun w hA => mem_check s0 c0 a0 w hA n0
  have cR := fun w hA => ref_memcheck s0 c0 a0 w hA
  have cB := fun s c w => mem_check_large s 401 c w (by omega)
  have HA : Hid (∀ w', Below w.heap.size w w' → ValsAt w' s0 a0) := fun w' hb => A0.below hb
  generalize memE a0 = E at *
  clear A0
  go_enter Try.func5, Try.ntmps5
  go_wp2_with (first | (go_at_call 11; first | (refine (cM _ (HA.out _ (Below.refl _ _))).mono ?_; rintro e w1 ⟨rfl, hB1⟩; clear cM) | (refine (cB _ _ _).mono ?_; rintro e w3 ⟨rfl, rfl⟩; clear cB)) | (go_at_call 12; refine (cR _ (HA.out _ hB1)).mono ?_; rintro e w2 ⟨rfl, hbb⟩; have hB2 := Below.step0 hB1 hbb; clear hbb cR))
  go_ret
  exact ⟨rfl, hB2.alloc hB2.size _⟩

set_option maxRecDepth 100000 in
theorem lifted (os : Os) (started : os.Started) (H : Type) (enc : TypeId × Value → H) :
    ReturnsInHanded {} Try.checked os 5 .any (Rows.memChecksSpec.pre6 enc Try.prog Try.f5 Rows.memChecksRow.domain false) (Rows.memChecksSpec.post enc Try.prog Try.f5 false true false false) := by
  refine returnsInHanded_of_change (C := Try.checked) own started (by kernel_rfl) Try.func5
    (ChangeSpec.witness6 (enc := enc) (C := Try.checked) false ⟨#[], #[.slice none 0 0], []⟩ 8 (by kernel_rfl) (by kernel_rfl) (by kernel_rfl) (by kernel_rfl)) ?_
  intro W base args ds gs before hval0 hW hcnd _
  have hval : ∀ (j : Nat) t v, Try.f5.params[j]? = some t → args[j]? = some v → Value.okWide Try.prog W .any base t v := hval0
  have hW' := hW
  obtain ⟨p, q, hA0, hV, rfl, hfz, hnd⟩ := hW
  have hA : DataW.TrodAll enc Try.prog W 0 (fun _ => true) true Try.f5.params.toList args.toList ds p := hA0
  rw [Try.params5] at hA hval
  obtain ⟨v0, vs0, d0, ds0, p0, q0, hargs, rfl, rfl, h0, r0⟩ := trodAll_cons hA
  obtain ⟨rfl, rfl, rfl⟩ := trodAll_nil r0
  obtain rfl : args = #[v0] := by cases args; simp_all
  obtain ⟨rfl, rfl⟩ := trodVars_none hV
  obtain ⟨s0, len0, c0, rfl⟩ := okWide_slice Try.underlying22 (hval 0 22 v0 rfl rfl)
  have k0 := h0
  have lt0 : ∀ x ∈ p0, x.block < W.heap.size := by obtain ⟨m, hm⟩ := k0; exact DataW.trod_lt m _ _ _ hm
  obtain ⟨a0, rfl, z0, y0, n0, A0⟩ := open_vals k0
  clear hA0 hval0
  refine (walk s0 c0 a0  W n0 z0 y0 A0).mono fun e W' ⟨he, bel⟩ => ?_
  subst he
  exact ⟨_, rfl, _, _, _, [], _, [], hW', trodAll_mk1 (shut_bool Try.underlying4 _), (trodAll_cons_mk (Below.trod laidOut (by kernel_rfl) (of_decide_eq_true (by kernel_rfl)) k0 bel lt0) trodAll_mk0), rfl, bel.frame _, fun h => by cases h⟩

theorem over : Rows.memChecksRow.holds Try.pinned (OpenSpec.ofChange Rows.memChecksSpec) :=
  OpenClaim.holds_of_wide 5 Try.f5 rfl rfl rfl rfl rfl rfl rfl ⟨rfl, rfl, rfl, rfl, rfl⟩ rfl rfl rfl rfl rfl (by kernel_rfl) Try.func5 (by kernel_rfl)
    (of_decide_eq_true (by kernel_rfl)) (by unfold Func.isWrapper; first | (rw [if_pos (by decide +kernel)]; kernel_rfl) | (rw [if_neg (by decide +kernel)]; exact ⟨rfl, rfl⟩))
    (fun os started H enc _ => lifted os started H enc)

theorem proved : Rows.MemChecksSaid :=
  over
#print axioms proved
end Go.Proofs.Ytpkmpkbgngbkjaa.memChecks
