/- For whatever two keys and a number, the law KeysSealed returns true: of what is sealed nothing is made, but by who may open it; no condition. -/
import Derived.Test.YtpmmgpiamginaabRows
import Derived.Test.YtpmmgpiamginaabKeyArg
import Derived.Test.YtpmmgpiamginaabBits
import Derived.Test.YtpmmgpiamginaabWithin
import Derived.Test.YtpmmgpiamginaabKeyPure
import Derived.Test.YtpmmgpiamginaabKeys
import Derived.Test.YtpmmgpiamginaabKeyMore
import Derived.Test.YtpmmgpiamginaabKeyed
import Derived.Test.YtpmmgpiamginaabAllOf
import Derived.Test.YtpmmgpiamginaabNum
import Derived.WalkKit
import Derived.ProofKit
import Derived.OpenShut
namespace Go.Proofs.Ytpmmgpiamginaab.keysSealed
open Go.ChangeShapes Go.WideShapes Go.ChangeAt Go.RowKit
set_option linter.unusedVariables false

theorem own : ownKnob Try.prog.godebug = none := by kernel_rfl

theorem own_len {w : World} {base : Nat} {e : TypeId} {size : Nat} {v : Value} {n : Nat} {xs : List Value} (h : w.ownsRow base e size v n xs) : ∃ ad cap, v = .slice ad n cap := by
  rcases h.2 with ⟨rfl, rfl⟩ | ⟨g, cap, cur, rfl, _⟩
  · exact ⟨none, 0, rfl⟩
  · exact ⟨_, cap, rfl⟩
theorem gl_no {k : KK} (h : (k.e != 0) = true) : gl k = [] := by unfold gl; rw [if_neg (by simpa using h)]
theorem all_nil {p b l a s p' b' l' a' s' n : Int} (h : ¬ s = 0) : allK p b l a s p' b' l' a' s' n = [] := by
  have h1 : gl (moveK p b l a s n) = [] := by
    rcases move_cases p b l a s n with ⟨E, hm, hE⟩ | ⟨_, hs, _⟩
    · rw [hm]; exact gl_no hE
    · exact absurd hs h
  have h2 : gl (narrowK p b l a s n) = [] := by
    rcases narrow_cases p b l a s n with ⟨E, hm, hE⟩ | ⟨_, hs, _⟩
    · rw [hm]; exact gl_no hE
    · exact absurd hs h
  have h3 : gl (dropK p b l a s n) = [] := by
    rcases drop_cases p b l a s n with ⟨E, hm, hE⟩ | ⟨_, hs, _⟩
    · rw [hm]; exact gl_no hE
    · exact absurd hs h
  have h4 : gl (sealK p b l a s p' b' l' a' s') = [] := by
    rcases seal_cases p b l a s p' b' l' a' s' with ⟨E, hm, hE⟩ | ⟨_, _, hs, _⟩
    · rw [hm]; exact gl_no hE
    · exact absurd hs h
  unfold allK; rw [h1, h2, h3, h4]; rfl
theorem and64 : ∀ p : Nat, p < 128 → inB 64 (p : Int) = true → 0 < bits .and .i64 (p : Int) 64 := by decide +kernel
theorem and64i (p : Int) (h : 0 ≤ p ∧ p ≤ 127) (hi : inB 64 p = true) : 0 < bits .and .i64 p 64 := by
  obtain ⟨n, rfl⟩ := Int.eq_ofNat_of_zero_le h.1
  exact and64 n (by omega) hi

set_option maxHeartbeats 4000000 in
set_option maxRecDepth 1000000 in
theorem walk (a0p a0b a0l a0a a0s : Int) (a1p a1b a1l a1a a1s : Int) (a2 : Int) (K0 : kb a0p a0b a0l a0a a0s) (K1 : kb a1p a1b a1l a1a a1s) (b2 : -9223372036854775808 ≤ a2 ∧ a2 ≤ 9223372036854775807) (w : World) :
    Calls Try.prog 6 #[.agg #[.int .i64 a0p, .int .i64 a0b, .int .i64 a0l, .int .i64 a0a, .int .i64 a0s], .agg #[.int .i64 a1p, .int .i64 a1b, .int .i64 a1l, .int .i64 a1a, .int .i64 a1s], .int .i64 a2] w fun e w' => e = .returned (.bool true) ∧ Below w.heap.size w w' := by
  have hR0 : 0 ≤ a0s % 63 := Int.emod_nonneg _ (by decide)
  have hR1 : a0s % 63 < 63 := Int.emod_lt_of_pos _ (by decide)
  have K0s := K0.2.2.2.2
  have K1a := K1.2.2.2.1
  obtain ⟨R, hR⟩ : ∃ R, a0s % 63 = R := ⟨_, rfl⟩
  rw [hR] at hR0 hR1
  have KS : kb a0p a0b a0l a0a (R + 1) := ⟨K0.1, K0.2.1, K0.2.2.1, K0.2.2.2.1, by omega⟩
  have hnil : allK a0p a0b a0l a0a (R + 1) a1p a1b a1l a1a a1s a2 = [] := all_nil (by omega)
  rcases open_cases a0p a0b a0l a0a (R + 1) a1p a1b a1l a1a a1s with ⟨E, hm, hE⟩ | ⟨ho, ho', hs, rfl, h64, hc, hq, hm⟩
  · go_enter Try.func6, Try.ntmps6
    go_wp2_with (first | (go_at_call 10; refine (keyed_true _).mono ?_; rintro e w1 ⟨rfl, hbb⟩; first | (replace B2 := (B2.alloc _).below hbb; replace B1 := (B1.alloc _).below hbb; have B3 := (Box.new _ _ _).below hbb; clear q1 z1 f1 q2 z2; have q1 := B1.cell; have z1 := B1.lt; have f1 := B1.free; have q2 := B2.cell; have z2 := B2.lt; have q3 := B3.cell; have z3 := B3.lt; replace hB := Below.step0 (hB.alloc hB.size _) hbb; clear hbb) | (replace B2 := B2.below hbb; replace B1 := B1.below hbb; clear q1 z1 f1 q2 z2; have q1 := B1.cell; have z1 := B1.lt; have f1 := B1.free; have q2 := B2.cell; have z2 := B2.lt; replace hB := Below.step0 hB hbb; clear hbb) | (have B1 := ((Box.new _ _ _).alloc _).below hbb; have B2 := (Box.new1 _ _ _ _).below hbb; have q1 := B1.cell; have z1 := B1.lt; have f1 := B1.free; have q2 := B2.cell; have z2 := B2.lt; have hB := Below.step0 (two _ _) hbb; clear hbb)) | (go_at_call 15; refine (all_of _ _ _ _ _ _ _ _ _ _ _ _ KS K1).mono ?_; rintro e w1 ⟨v, rfl, hO, hbb⟩; rw [hnil] at hO; obtain ⟨ad, cap, hv⟩ := own_len hO; subst hv; clear hO; have B1y : Box _ _ #[.int .i64 a0p, .int .i64 a0b, .int .i64 a0l, .int .i64 a0a, .int .i64 (R + 1)] := (B1.set 4 _ (by simp)).below hbb; replace B2 := (B2.setOther (by omega)).below hbb; clear B1; have B1 := B1y; clear B1y; clear q1 q2 z1 z2 f1; have q1 := B1.cell; have z1 := B1.lt; have f1 := B1.free; have q2 := B2.cell; have z2 := B2.lt; replace hB := Below.step0 (hB.setCell (by simp) _) hbb; clear hbb) | (go_at_call 12; refine (ref_rest _ _ _ K0s (by omega)).mono ?_; rintro e w1 ⟨rfl, rfl⟩) | (go_at_call 16; refine (keys_open _ _ _ _ _ _ _ _ _ _ _ KS K1).mono ?_; rintro e w1 ⟨rfl, hbb⟩; first | (replace B2 := (B2.alloc _).below hbb; replace B1 := (B1.alloc _).below hbb; have B3 := (Box.new _ _ _).below hbb; clear q1 z1 f1 q2 z2; have q1 := B1.cell; have z1 := B1.lt; have f1 := B1.free; have q2 := B2.cell; have z2 := B2.lt; have q3 := B3.cell; have z3 := B3.lt; replace hB := Below.step0 (hB.alloc hB.size _) hbb; clear hbb) | (replace B2 := B2.below hbb; replace B1 := B1.below hbb; clear q1 z1 f1 q2 z2; have q1 := B1.cell; have z1 := B1.lt; have f1 := B1.free; have q2 := B2.cell; have z2 := B2.lt; replace hB := Below.step0 hB hbb; clear hbb) | (have B1 := ((Box.new _ _ _).alloc _).below hbb; have B2 := (Box.new1 _ _ _ _).below hbb; have q1 := B1.cell; have z1 := B1.lt; have f1 := B1.free; have q2 := B2.cell; have z2 := B2.lt; have hB := Below.step0 (two _ _) hbb; clear hbb)) | (go_at_call 13; refine (keys_covers _ _ _ _ _ _ _ K1 K1a).mono ?_; rintro e w1 ⟨rfl, hbb⟩; first | (replace B2 := (B2.alloc _).below hbb; replace B1 := (B1.alloc _).below hbb; have B3 := (Box.new _ _ _).below hbb; clear q1 z1 f1 q2 z2; have q1 := B1.cell; have z1 := B1.lt; have f1 := B1.free; have q2 := B2.cell; have z2 := B2.lt; have q3 := B3.cell; have z3 := B3.lt; replace hB := Below.step0 (hB.alloc hB.size _) hbb; clear hbb) | (replace B2 := B2.below hbb; replace B1 := B1.below hbb; clear q1 z1 f1 q2 z2; have q1 := B1.cell; have z1 := B1.lt; have f1 := B1.free; have q2 := B2.cell; have z2 := B2.lt; replace hB := Below.step0 hB hbb; clear hbb) | (have B1 := ((Box.new _ _ _).alloc _).below hbb; have B2 := (Box.new1 _ _ _ _).below hbb; have q1 := B1.cell; have z1 := B1.lt; have f1 := B1.free; have q2 := B2.cell; have z2 := B2.lt; have hB := Below.step0 (two _ _) hbb; clear hbb)))
    go_ret
    exact ⟨rfl, hB.alloc hB.size _⟩
  · have hq' : (a1a == R + 1) = true := by simp [hq]
    have hp : 0 < bits .and .i64 a1p 64 := and64i a1p ⟨ho'.1, ho'.2.1⟩ h64
    have hp' : decide (0 < bits .and .i64 a1p 64) = true := by simpa using hp
    clear ho ho' hs hq
    go_enter Try.func6, Try.ntmps6
    go_wp2_with (first | (go_at_call 10; refine (keyed_true _).mono ?_; rintro e w1 ⟨rfl, hbb⟩; first | (replace B2 := (B2.alloc _).below hbb; replace B1 := (B1.alloc _).below hbb; have B3 := (Box.new _ _ _).below hbb; clear q1 z1 f1 q2 z2; have q1 := B1.cell; have z1 := B1.lt; have f1 := B1.free; have q2 := B2.cell; have z2 := B2.lt; have q3 := B3.cell; have z3 := B3.lt; replace hB := Below.step0 (hB.alloc hB.size _) hbb; clear hbb) | (replace B2 := B2.below hbb; replace B1 := B1.below hbb; clear q1 z1 f1 q2 z2; have q1 := B1.cell; have z1 := B1.lt; have f1 := B1.free; have q2 := B2.cell; have z2 := B2.lt; replace hB := Below.step0 hB hbb; clear hbb) | (have B1 := ((Box.new _ _ _).alloc _).below hbb; have B2 := (Box.new1 _ _ _ _).below hbb; have q1 := B1.cell; have z1 := B1.lt; have f1 := B1.free; have q2 := B2.cell; have z2 := B2.lt; have hB := Below.step0 (two _ _) hbb; clear hbb)) | (go_at_call 15; refine (all_of _ _ _ _ _ _ _ _ _ _ _ _ KS K1).mono ?_; rintro e w1 ⟨v, rfl, hO, hbb⟩; rw [hnil] at hO; obtain ⟨ad, cap, hv⟩ := own_len hO; subst hv; clear hO; have B1y : Box _ _ #[.int .i64 a0p, .int .i64 a0b, .int .i64 a0l, .int .i64 a0a, .int .i64 (R + 1)] := (B1.set 4 _ (by simp)).below hbb; replace B2 := (B2.setOther (by omega)).below hbb; clear B1; have B1 := B1y; clear B1y; clear q1 q2 z1 z2 f1; have q1 := B1.cell; have z1 := B1.lt; have f1 := B1.free; have q2 := B2.cell; have z2 := B2.lt; replace hB := Below.step0 (hB.setCell (by simp) _) hbb; clear hbb) | (go_at_call 12; refine (ref_rest _ _ _ K0s (by omega)).mono ?_; rintro e w1 ⟨rfl, rfl⟩) | (go_at_call 16; refine (keys_open _ _ _ _ _ _ _ _ _ _ _ KS K1).mono ?_; rintro e w1 ⟨rfl, hbb⟩; first | (replace B2 := (B2.alloc _).below hbb; replace B1 := (B1.alloc _).below hbb; have B3 := (Box.new _ _ _).below hbb; clear q1 z1 f1 q2 z2; have q1 := B1.cell; have z1 := B1.lt; have f1 := B1.free; have q2 := B2.cell; have z2 := B2.lt; have q3 := B3.cell; have z3 := B3.lt; replace hB := Below.step0 (hB.alloc hB.size _) hbb; clear hbb) | (replace B2 := B2.below hbb; replace B1 := B1.below hbb; clear q1 z1 f1 q2 z2; have q1 := B1.cell; have z1 := B1.lt; have f1 := B1.free; have q2 := B2.cell; have z2 := B2.lt; replace hB := Below.step0 hB hbb; clear hbb) | (have B1 := ((Box.new _ _ _).alloc _).below hbb; have B2 := (Box.new1 _ _ _ _).below hbb; have q1 := B1.cell; have z1 := B1.lt; have f1 := B1.free; have q2 := B2.cell; have z2 := B2.lt; have hB := Below.step0 (two _ _) hbb; clear hbb)) | (go_at_call 13; refine (keys_covers _ _ _ _ _ _ _ K1 K1a).mono ?_; rintro e w1 ⟨rfl, hbb⟩; first | (replace B2 := (B2.alloc _).below hbb; replace B1 := (B1.alloc _).below hbb; have B3 := (Box.new _ _ _).below hbb; clear q1 z1 f1 q2 z2; have q1 := B1.cell; have z1 := B1.lt; have f1 := B1.free; have q2 := B2.cell; have z2 := B2.lt; have q3 := B3.cell; have z3 := B3.lt; replace hB := Below.step0 (hB.alloc hB.size _) hbb; clear hbb) | (replace B2 := B2.below hbb; replace B1 := B1.below hbb; clear q1 z1 f1 q2 z2; have q1 := B1.cell; have z1 := B1.lt; have f1 := B1.free; have q2 := B2.cell; have z2 := B2.lt; replace hB := Below.step0 hB hbb; clear hbb) | (have B1 := ((Box.new _ _ _).alloc _).below hbb; have B2 := (Box.new1 _ _ _ _).below hbb; have q1 := B1.cell; have z1 := B1.lt; have f1 := B1.free; have q2 := B2.cell; have z2 := B2.lt; have hB := Below.step0 (two _ _) hbb; clear hbb)))
    go_ret
    exact ⟨rfl, hB⟩

set_option maxRecDepth 100000 in
theorem lifted (os : Os) (started : os.Started) (H : Type) (enc : TypeId × Value → H) :
    ReturnsInHanded {} Try.checked os 6 .any (Rows.keysSealedSpec.pre6 enc Try.prog Try.f6 Rows.keysSealedRow.domain false) (Rows.keysSealedSpec.post enc Try.prog Try.f6 false true false false) := by
  refine returnsInHanded_of_change (C := Try.checked) own started (by kernel_rfl) Try.func6
    (ChangeSpec.witness6 (enc := enc) (C := Try.checked) false ⟨#[], #[.agg #[.int .i64 0, .int .i64 0, .int .i64 0, .int .i64 0, .int .i64 0], .agg #[.int .i64 0, .int .i64 0, .int .i64 0, .int .i64 0, .int .i64 0], .int .i64 0], []⟩ 8 (by kernel_rfl) (by kernel_rfl) (by kernel_rfl) (by kernel_rfl)) ?_
  intro W base args ds gs before hval0 hW hcnd _
  have hval : ∀ (j : Nat) t v, Try.f6.params[j]? = some t → args[j]? = some v → Value.okWide Try.prog W .any base t v := hval0
  have hW' := hW
  obtain ⟨p, q, hA0, hV, rfl, hfz, hnd⟩ := hW
  have hA : DataW.TrodAll enc Try.prog W 0 (fun _ => true) true Try.f6.params.toList args.toList ds p := hA0
  rw [Try.params6] at hA hval
  obtain ⟨v0, vs0, d0, ds0, p0, q0, hargs, rfl, rfl, h0, r0⟩ := trodAll_cons hA
  obtain ⟨v1, vs1, d1, ds1, p1, q1, rfl, rfl, rfl, h1, r1⟩ := trodAll_cons r0
  obtain ⟨v2, vs2, d2, ds2, p2, q2, rfl, rfl, rfl, h2, r2⟩ := trodAll_cons r1
  obtain ⟨rfl, rfl, rfl⟩ := trodAll_nil r2
  obtain rfl : args = #[v0, v1, v2] := by cases args; simp_all
  obtain ⟨rfl, rfl⟩ := trodVars_none hV
  obtain ⟨a0p, a0b, a0l, a0a, a0s, rfl, rfl, rfl, w0p, w0b, w0l, w0a, w0s⟩ := open_key (hval 0 23 v0 rfl rfl) h0
  obtain ⟨a1p, a1b, a1l, a1a, a1s, rfl, rfl, rfl, w1p, w1b, w1l, w1a, w1s⟩ := open_key (hval 1 23 v1 rfl rfl) h1
  obtain ⟨a2, rfl, rfl, rfl, w2⟩ := open_int Try.underlying3 (hval 2 3 v2 rfl rfl) h2
  clear hA0 hval0
  refine (walk a0p a0b a0l a0a a0s a1p a1b a1l a1a a1s a2 ⟨bounds_i64 w0p, bounds_i64 w0b, bounds_i64 w0l, bounds_i64 w0a, bounds_i64 w0s⟩ ⟨bounds_i64 w1p, bounds_i64 w1b, bounds_i64 w1l, bounds_i64 w1a, bounds_i64 w1s⟩ (bounds_i64 w2) W).mono fun e W' ⟨he, bel⟩ => ?_
  subst he
  exact ⟨_, rfl, _, _, _, [], [], [], hW', trodAll_mk1 (shut_bool Try.underlying4 _), (trodAll_cons_mk (shut_key w0p w0b w0l w0a w0s) (trodAll_cons_mk (shut_key w1p w1b w1l w1a w1s) (trodAll_cons_mk (shut_int Try.underlying3 w2) trodAll_mk0))), rfl, bel.frame _, fun h => by cases h⟩

theorem over : Rows.keysSealedRow.holds Try.pinned (OpenSpec.ofChange Rows.keysSealedSpec) :=
  OpenClaim.holds_of_wide 6 Try.f6 rfl rfl rfl rfl rfl rfl rfl ⟨rfl, rfl, rfl, rfl, rfl⟩ rfl rfl rfl rfl rfl (by kernel_rfl) Try.func6 (by kernel_rfl)
    (of_decide_eq_true (by kernel_rfl)) (by unfold Func.isWrapper; first | (rw [if_pos (by decide +kernel)]; kernel_rfl) | (rw [if_neg (by decide +kernel)]; exact ⟨rfl, rfl⟩))
    (fun os started H enc _ => lifted os started H enc)

theorem proved : Rows.KeysSealedSaid :=
  over
#print axioms proved
end Go.Proofs.Ytpmmgpiamginaab.keysSealed
