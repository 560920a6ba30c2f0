/- For whatever two keys, the law KeysSeals returns true: the program's Seal answers what the document's own reckoning answers; no condition. -/
import Derived.Test.YtpmmgpiamginaaaRows
import Derived.Test.YtpmmgpiamginaaaKeyArg
import Derived.Test.YtpmmgpiamginaaaBits
import Derived.Test.YtpmmgpiamginaaaWithin
import Derived.Test.YtpmmgpiamginaaaKeyPure
import Derived.Test.YtpmmgpiamginaaaKeys
import Derived.Test.YtpmmgpiamginaaaKeysRef
import Derived.WalkKit
import Derived.ProofKit
import Derived.OpenShut
namespace Go.Proofs.Ytpmmgpiamginaaa.keysSeals
open Go.ChangeShapes Go.WideShapes Go.ChangeAt Go.RowKit
set_option linter.unusedVariables false

theorem own : ownKnob Try.prog.godebug = none := by kernel_rfl

theorem chk401 : chkE 0 0 401 0 0 = 1 := by decide
theorem kb401 : kb 0 0 401 0 0 := by unfold kb; omega

set_option maxHeartbeats 4000000 in
set_option maxRecDepth 1000000 in
theorem walk (a0p a0b a0l a0a a0s : Int) (a1p a1b a1l a1a a1s : Int) (K0 : kb a0p a0b a0l a0a a0s) (K1 : kb a1p a1b a1l a1a a1s) (w : World) :
    Calls Try.prog 6 #[.agg #[.int .i64 a0p, .int .i64 a0b, .int .i64 a0l, .int .i64 a0a, .int .i64 a0s], .agg #[.int .i64 a1p, .int .i64 a1b, .int .i64 a1l, .int .i64 a1a, .int .i64 a1s]] w fun e w' => e = .returned (.bool true) ∧ Below w.heap.size w w' := by
  go_enter Try.func6, Try.ntmps6
  go_wp2_with (first | (go_at_call 19; refine (keys_seal _ _ _ _ _ _ _ _ _ _ _ K0 K1).mono ?_; rintro e w1 ⟨rfl, hbb⟩; first | (replace B4 := (B4.alloc _).below hbb; replace B3 := (B3.alloc _).below hbb; replace B2 := (B2.alloc _).below hbb; replace B1 := (B1.alloc _).below hbb; have B5 := (Box.new _ _ _).below hbb; clear q1 z1 q2 z2 q3 z3 q4 z4; have q1 := B1.cell; have z1 := B1.lt; have q2 := B2.cell; have z2 := B2.lt; have q3 := B3.cell; have z3 := B3.lt; have q4 := B4.cell; have z4 := B4.lt; have q5 := B5.cell; have z5 := B5.lt; replace hB := Below.step0 (hB.alloc hB.size _) hbb; clear hbb) | (replace B4 := B4.below hbb; replace B3 := B3.below hbb; replace B2 := B2.below hbb; replace B1 := B1.below hbb; clear q1 z1 q2 z2 q3 z3 q4 z4; have q1 := B1.cell; have z1 := B1.lt; have q2 := B2.cell; have z2 := B2.lt; have q3 := B3.cell; have z3 := B3.lt; have q4 := B4.cell; have z4 := B4.lt; replace hB := Below.step0 hB hbb; clear hbb) | (replace B3 := (B3.alloc _).below hbb; replace B2 := (B2.alloc _).below hbb; replace B1 := (B1.alloc _).below hbb; have B4 := (Box.new _ _ _).below hbb; clear q1 z1 q2 z2 q3 z3; have q1 := B1.cell; have z1 := B1.lt; have q2 := B2.cell; have z2 := B2.lt; have q3 := B3.cell; have z3 := B3.lt; have q4 := B4.cell; have z4 := B4.lt; replace hB := Below.step0 (hB.alloc hB.size _) hbb; clear hbb) | (replace B3 := B3.below hbb; replace B2 := B2.below hbb; replace B1 := B1.below hbb; clear q1 z1 q2 z2 q3 z3; have q1 := B1.cell; have z1 := B1.lt; have q2 := B2.cell; have z2 := B2.lt; have q3 := B3.cell; have z3 := B3.lt; replace hB := Below.step0 hB hbb; clear hbb) | (replace B2 := (B2.alloc _).below hbb; replace B1 := (B1.alloc _).below hbb; have B3 := (Box.new _ _ _).below hbb; clear q1 z1 q2 z2; have q1 := B1.cell; have z1 := B1.lt; have q2 := B2.cell; have z2 := B2.lt; have q3 := B3.cell; have z3 := B3.lt; replace hB := Below.step0 (hB.alloc hB.size _) hbb; clear hbb) | (replace B2 := B2.below hbb; replace B1 := B1.below hbb; clear q1 z1 q2 z2; have q1 := B1.cell; have z1 := B1.lt; have q2 := B2.cell; have z2 := B2.lt; replace hB := Below.step0 hB hbb; clear hbb) | (have B1 := ((Box.new _ _ _).alloc _).below hbb; have B2 := (Box.new1 _ _ _ _).below hbb; have q1 := B1.cell; have z1 := B1.lt; have q2 := B2.cell; have z2 := B2.lt; have hB := Below.step0 (two _ _) hbb; clear hbb)) | (go_at_call 20; refine (ref_seal _ _ _ _ _ _ _ _ _ _ _ K1).mono ?_; rintro e w1 ⟨rfl, hbb⟩; first | (replace B4 := (B4.alloc _).below hbb; replace B3 := (B3.alloc _).below hbb; replace B2 := (B2.alloc _).below hbb; replace B1 := (B1.alloc _).below hbb; have B5 := (Box.new _ _ _).below hbb; clear q1 z1 q2 z2 q3 z3 q4 z4; have q1 := B1.cell; have z1 := B1.lt; have q2 := B2.cell; have z2 := B2.lt; have q3 := B3.cell; have z3 := B3.lt; have q4 := B4.cell; have z4 := B4.lt; have q5 := B5.cell; have z5 := B5.lt; replace hB := Below.step0 (hB.alloc hB.size _) hbb; clear hbb) | (replace B4 := B4.below hbb; replace B3 := B3.below hbb; replace B2 := B2.below hbb; replace B1 := B1.below hbb; clear q1 z1 q2 z2 q3 z3 q4 z4; have q1 := B1.cell; have z1 := B1.lt; have q2 := B2.cell; have z2 := B2.lt; have q3 := B3.cell; have z3 := B3.lt; have q4 := B4.cell; have z4 := B4.lt; replace hB := Below.step0 hB hbb; clear hbb) | (replace B3 := (B3.alloc _).below hbb; replace B2 := (B2.alloc _).below hbb; replace B1 := (B1.alloc _).below hbb; have B4 := (Box.new _ _ _).below hbb; clear q1 z1 q2 z2 q3 z3; have q1 := B1.cell; have z1 := B1.lt; have q2 := B2.cell; have z2 := B2.lt; have q3 := B3.cell; have z3 := B3.lt; have q4 := B4.cell; have z4 := B4.lt; replace hB := Below.step0 (hB.alloc hB.size _) hbb; clear hbb) | (replace B3 := B3.below hbb; replace B2 := B2.below hbb; replace B1 := B1.below hbb; clear q1 z1 q2 z2 q3 z3; have q1 := B1.cell; have z1 := B1.lt; have q2 := B2.cell; have z2 := B2.lt; have q3 := B3.cell; have z3 := B3.lt; replace hB := Below.step0 hB hbb; clear hbb) | (replace B2 := (B2.alloc _).below hbb; replace B1 := (B1.alloc _).below hbb; have B3 := (Box.new _ _ _).below hbb; clear q1 z1 q2 z2; have q1 := B1.cell; have z1 := B1.lt; have q2 := B2.cell; have z2 := B2.lt; have q3 := B3.cell; have z3 := B3.lt; replace hB := Below.step0 (hB.alloc hB.size _) hbb; clear hbb) | (replace B2 := B2.below hbb; replace B1 := B1.below hbb; clear q1 z1 q2 z2; have q1 := B1.cell; have z1 := B1.lt; have q2 := B2.cell; have z2 := B2.lt; replace hB := Below.step0 hB hbb; clear hbb) | (have B1 := ((Box.new _ _ _).alloc _).below hbb; have B2 := (Box.new1 _ _ _ _).below hbb; have q1 := B1.cell; have z1 := B1.lt; have q2 := B2.cell; have z2 := B2.lt; have hB := Below.step0 (two _ _) hbb; clear hbb)))
  go_ret
  exact ⟨rfl, hB.alloc hB.size _⟩

set_option maxRecDepth 100000 in
theorem lifted (os : Os) (started : os.Started) (H : Type) (enc : TypeId × Value → H) :
    ReturnsInHanded {} Try.checked os 6 .any (Rows.keysSealsSpec.pre6 enc Try.prog Try.f6 Rows.keysSealsRow.domain false) (Rows.keysSealsSpec.post enc Try.prog Try.f6 false true false false) := by
  refine returnsInHanded_of_change (C := Try.checked) own started (by kernel_rfl) Try.func6
    (ChangeSpec.witness6 (enc := enc) (C := Try.checked) false ⟨#[], #[.agg #[.int .i64 0, .int .i64 0, .int .i64 0, .int .i64 0, .int .i64 0], .agg #[.int .i64 0, .int .i64 0, .int .i64 0, .int .i64 0, .int .i64 0]], []⟩ 8 (by kernel_rfl) (by kernel_rfl) (by kernel_rfl) (by kernel_rfl)) ?_
  intro W base args ds gs before hval0 hW hcnd _
  have hval : ∀ (j : Nat) t v, Try.f6.params[j]? = some t → args[j]? = some v → Value.okWide Try.prog W .any base t v := hval0
  have hW' := hW
  obtain ⟨p, q, hA0, hV, rfl, hfz, hnd⟩ := hW
  have hA : DataW.TrodAll enc Try.prog W 0 (fun _ => true) true Try.f6.params.toList args.toList ds p := hA0
  rw [Try.params6] at hA hval
  obtain ⟨v0, vs0, d0, ds0, p0, q0, hargs, rfl, rfl, h0, r0⟩ := trodAll_cons hA
  obtain ⟨v1, vs1, d1, ds1, p1, q1, rfl, rfl, rfl, h1, r1⟩ := trodAll_cons r0
  obtain ⟨rfl, rfl, rfl⟩ := trodAll_nil r1
  obtain rfl : args = #[v0, v1] := by cases args; simp_all
  obtain ⟨rfl, rfl⟩ := trodVars_none hV
  obtain ⟨a0p, a0b, a0l, a0a, a0s, rfl, rfl, rfl, w0p, w0b, w0l, w0a, w0s⟩ := open_key (hval 0 23 v0 rfl rfl) h0
  obtain ⟨a1p, a1b, a1l, a1a, a1s, rfl, rfl, rfl, w1p, w1b, w1l, w1a, w1s⟩ := open_key (hval 1 23 v1 rfl rfl) h1
  clear hA0 hval0
  refine (walk a0p a0b a0l a0a a0s a1p a1b a1l a1a a1s ⟨bounds_i64 w0p, bounds_i64 w0b, bounds_i64 w0l, bounds_i64 w0a, bounds_i64 w0s⟩ ⟨bounds_i64 w1p, bounds_i64 w1b, bounds_i64 w1l, bounds_i64 w1a, bounds_i64 w1s⟩ W).mono fun e W' ⟨he, bel⟩ => ?_
  subst he
  exact ⟨_, rfl, _, _, _, [], [], [], hW', trodAll_mk1 (shut_bool Try.underlying4 _), (trodAll_cons_mk (shut_key w0p w0b w0l w0a w0s) (trodAll_cons_mk (shut_key w1p w1b w1l w1a w1s) trodAll_mk0)), rfl, bel.frame _, fun h => by cases h⟩

theorem over : Rows.keysSealsRow.holds Try.pinned (OpenSpec.ofChange Rows.keysSealsSpec) :=
  OpenClaim.holds_of_wide 6 Try.f6 rfl rfl rfl rfl rfl rfl rfl ⟨rfl, rfl, rfl, rfl, rfl⟩ rfl rfl rfl rfl rfl (by kernel_rfl) Try.func6 (by kernel_rfl)
    (of_decide_eq_true (by kernel_rfl)) (by unfold Func.isWrapper; first | (rw [if_pos (by decide +kernel)]; kernel_rfl) | (rw [if_neg (by decide +kernel)]; exact ⟨rfl, rfl⟩))
    (fun os started H enc _ => lifted os started H enc)

theorem proved : Rows.KeysSealsSaid :=
  over
#print axioms proved
end Go.Proofs.Ytpmmgpiamginaaa.keysSeals
