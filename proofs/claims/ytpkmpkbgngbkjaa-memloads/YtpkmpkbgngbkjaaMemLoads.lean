/- Chapter 8, P16 and P17: Check and Load answer what the document says, for whatever memory, key and number; nothing that was in memory is turned. -/
import Derived.Test.YtpkmpkbgngbkjaaRows
import Derived.Test.YtpkmpkbgngbkjaaKeyArg
import Derived.Test.YtpkmpkbgngbkjaaValsArg
import Derived.Test.YtpkmpkbgngbkjaaKeyPure
import Derived.Test.YtpkmpkbgngbkjaaCellPure
import Derived.Test.YtpkmpkbgngbkjaaMemPure
import Derived.Test.YtpkmpkbgngbkjaaMemChk
import Derived.Test.YtpkmpkbgngbkjaaMemUse
import Derived.Test.YtpkmpkbgngbkjaaMemRef
import Derived.Test.YtpkmpkbgngbkjaaMemLoaded
import Derived.WalkKit
import Derived.ProofKit
import Derived.OpenShut
namespace Go.Proofs.Ytpkmpkbgngbkjaa.memLoads
open Go.ChangeShapes Go.WideShapes Go.ChangeAt Go.RowKit
set_option linter.unusedVariables false
set_option linter.unusedSimpArgs false

theorem own : ownKnob Try.prog.godebug = none := by kernel_rfl
theorem laidOut : laidOutB Try.prog = true := by kernel_rfl


set_option maxHeartbeats 4000000 in
set_option maxRecDepth 1000000 in
theorem walk (s0 : Option Addr) (c0 : Nat) (a0 : List MV) (a1p a1b a1l a1a a1s : Int) (a2 : Int) (K1 : kb a1p a1b a1l a1a a1s) (b2 : -9223372036854775808 ≤ a2 ∧ a2 ≤ 9223372036854775807) (w : World) (n0 : mvsOk a0) (z0 : a0.length ≤ c0) (y0 : c0 ≤ maxLen) (A0 : ValsAt w s0 a0) :
    Calls Try.prog 3 #[.slice s0 a0.length c0, .agg #[.int .i64 a1p, .int .i64 a1b, .int .i64 a1l, .int .i64 a1a, .int .i64 a1s], .int .i64 a2] w fun e w' => e = .returned (.bool true) ∧ Below w.heap.size w w' := by
  obtain ⟨k, rfl, rfl, rfl, rfl, rfl⟩ : ∃ k : K5, k.p = a1p ∧ k.b = a1b ∧ k.l = a1l ∧ k.a = a1a ∧ k.s = a1s := ⟨⟨a1p, a1b, a1l, a1a, a1s⟩, rfl, rfl, rfl, rfl, rfl⟩
  obtain ⟨C, hmk⟩ := mk401
  have hz : a0.length ≤ maxLen := Nat.le_trans z0 y0
  have cL := fun w hA => mem_load s0 c0 a0 k a2 w hA n0 K1 b2
  have dL := fun w hA => ref_load s0 c0 a0 k a2 w hA hz K1 b2
  have cM := fun w hA => mem_check s0 c0 a0 w hA n0
  have cR := fun w hA => ref_memcheck s0 c0 a0 w hA
  have cB := fun s c w => mem_check_large s 401 c w (by omega)
  have HA : Hid (∀ w', Below w.heap.size w w' → ValsAt w' s0 a0) := fun w' hb => A0.below hb
  generalize memE a0 = E at *
  generalize loadE a0 k a2 = F at *
  generalize loadV a0 k a2 = V at *
  clear A0
  go_enter Try.func3, Try.ntmps3
  go_wp2_with (first | (go_at_call 9; refine (cL _ (HA.out _ ((Below.refl _ _).alloc (Nat.le_refl _) _))).mono ?_; rintro e w1 ⟨rfl, hbb⟩; have B1 := (Box.new _ _ _).below hbb; have q1 := B1.cell; have t1 := B1.lt; have hB1 := Below.step0 ((Below.refl _ _).alloc (Nat.le_refl _) _) hbb; clear hbb cL) | (go_at_call 10; refine (dL _ (HA.out _ (hB1.alloc hB1.size _))).mono ?_; rintro e w2 ⟨rfl, hbb⟩; have B2 := (Box.new _ _ _).below hbb; have q2 := B2.cell; have t2 := B2.lt; have hB2 := Below.step0 (hB1.alloc hB1.size _) hbb; clear hbb dL) | (go_at_call 11; first | (refine (cM _ (HA.out _ (hB2.alloc hB2.size _))).mono ?_; rintro e w3 ⟨rfl, hbb⟩; have hB3 := Below.step0 (hB2.alloc hB2.size _) hbb; clear hbb cM) | (refine (cB _ _ _).mono ?_; rintro e w5 ⟨rfl, rfl⟩; clear cB)) | (go_at_call 12; refine (cR _ (HA.out _ hB3)).mono ?_; rintro e w4 ⟨rfl, hbb⟩; have hB4 := Below.step0 hB3 hbb; clear hbb cR))
  go_ret
  exact ⟨rfl, hB4.alloc hB4.size _⟩

set_option maxRecDepth 100000 in
theorem lifted (os : Os) (started : os.Started) (H : Type) (enc : TypeId × Value → H) :
    ReturnsInHanded {} Try.checked os 3 .any (Rows.memLoadsSpec.pre6 enc Try.prog Try.f3 Rows.memLoadsRow.domain false) (Rows.memLoadsSpec.post enc Try.prog Try.f3 false true false false) := by
  refine returnsInHanded_of_change (C := Try.checked) own started (by kernel_rfl) Try.func3
    (ChangeSpec.witness6 (enc := enc) (C := Try.checked) false ⟨#[], #[.slice none 0 0, .agg #[.int .i64 0, .int .i64 0, .int .i64 0, .int .i64 0, .int .i64 0], .int .i64 0], []⟩ 8 (by kernel_rfl) (by kernel_rfl) (by kernel_rfl) (by kernel_rfl)) ?_
  intro W base args ds gs before hval0 hW hcnd _
  have hval : ∀ (j : Nat) t v, Try.f3.params[j]? = some t → args[j]? = some v → Value.okWide Try.prog W .any base t v := hval0
  have hW' := hW
  obtain ⟨p, q, hA0, hV, rfl, hfz, hnd⟩ := hW
  have hA : DataW.TrodAll enc Try.prog W 0 (fun _ => true) true Try.f3.params.toList args.toList ds p := hA0
  rw [Try.params3] at hA hval
  obtain ⟨v0, vs0, d0, ds0, p0, q0, hargs, rfl, rfl, h0, r0⟩ := trodAll_cons hA
  obtain ⟨v1, vs1, d1, ds1, p1, q1, rfl, rfl, rfl, h1, r1⟩ := trodAll_cons r0
  obtain ⟨v2, vs2, d2, ds2, p2, q2, rfl, rfl, rfl, h2, r2⟩ := trodAll_cons r1
  obtain ⟨rfl, rfl, rfl⟩ := trodAll_nil r2
  obtain rfl : args = #[v0, v1, v2] := by cases args; simp_all
  obtain ⟨rfl, rfl⟩ := trodVars_none hV
  obtain ⟨s0, len0, c0, rfl⟩ := okWide_slice Try.underlying22 (hval 0 22 v0 rfl rfl)
  have k0 := h0
  have lt0 : ∀ x ∈ p0, x.block < W.heap.size := by obtain ⟨m, hm⟩ := k0; exact DataW.trod_lt m _ _ _ hm
  obtain ⟨a0, rfl, z0, y0, n0, A0⟩ := open_vals k0
  obtain ⟨a1p, a1b, a1l, a1a, a1s, rfl, rfl, rfl, w1p, w1b, w1l, w1a, w1s⟩ := open_key (hval 1 24 v1 rfl rfl) h1
  obtain ⟨a2, rfl, rfl, rfl, w2⟩ := open_int Try.underlying3 (hval 2 3 v2 rfl rfl) h2
  clear hA0 hval0
  refine (walk s0 c0 a0 a1p a1b a1l a1a a1s a2 ⟨bounds_i64 w1p, bounds_i64 w1b, bounds_i64 w1l, bounds_i64 w1a, bounds_i64 w1s⟩ (bounds_i64 w2) W n0 z0 y0 A0).mono fun e W' ⟨he, bel⟩ => ?_
  subst he
  exact ⟨_, rfl, _, _, _, [], _, [], hW', trodAll_mk1 (shut_bool Try.underlying4 _), (trodAll_cons_mk (Below.trod laidOut (by kernel_rfl) (of_decide_eq_true (by kernel_rfl)) k0 bel lt0) (trodAll_cons_mk (shut_key w1p w1b w1l w1a w1s) (trodAll_cons_mk (shut_int Try.underlying3 w2) trodAll_mk0))), rfl, bel.frame _, fun h => by cases h⟩

theorem over : Rows.memLoadsRow.holds Try.pinned (OpenSpec.ofChange Rows.memLoadsSpec) :=
  OpenClaim.holds_of_wide 3 Try.f3 rfl rfl rfl rfl rfl rfl rfl ⟨rfl, rfl, rfl, rfl, rfl⟩ rfl rfl rfl rfl rfl (by kernel_rfl) Try.func3 (by kernel_rfl)
    (of_decide_eq_true (by kernel_rfl)) (by unfold Func.isWrapper; first | (rw [if_pos (by decide +kernel)]; kernel_rfl) | (rw [if_neg (by decide +kernel)]; exact ⟨rfl, rfl⟩))
    (fun os started H enc _ => lifted os started H enc)

theorem proved : Rows.MemLoadsSaid :=
  over
#print axioms proved
end Go.Proofs.Ytpkmpkbgngbkjaa.memLoads
