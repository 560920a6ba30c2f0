/- Chapter 8, P17: Store answers what the document says, for whatever memory, key, number and value; nothing that was in memory is turned. -/
import Derived.Test.YtpkmpkbgngbkjaaRows
import Derived.Test.YtpkmpkbgngbkjaaKeyArg
import Derived.Test.YtpkmpkbgngbkjaaValArg
import Derived.Test.YtpkmpkbgngbkjaaValsArg
import Derived.Test.YtpkmpkbgngbkjaaKeyPure
import Derived.Test.YtpkmpkbgngbkjaaCellPure
import Derived.Test.YtpkmpkbgngbkjaaMemPure
import Derived.Test.YtpkmpkbgngbkjaaMemChk
import Derived.Test.YtpkmpkbgngbkjaaMemUse
import Derived.Test.YtpkmpkbgngbkjaaEqVal
import Derived.Test.YtpkmpkbgngbkjaaMemRef
import Derived.Test.YtpkmpkbgngbkjaaMemRefS
import Derived.Test.YtpkmpkbgngbkjaaMemLoaded
import Derived.WalkKit
import Derived.ProofKit
import Derived.OpenShut
namespace Go.Proofs.Ytpkmpkbgngbkjaa.memStores
open Go.ChangeShapes Go.WideShapes Go.ChangeAt Go.RowKit
set_option linter.unusedVariables false
set_option linter.unusedSimpArgs false

theorem own : ownKnob Try.prog.godebug = none := by kernel_rfl
theorem laidOut : laidOutB Try.prog = true := by kernel_rfl

theorem store_len (vs : List MV) (k : K5) (off : Int) (v : MV) : (storeL vs k off v).length ≤ vs.length := by
  unfold storeL
  split
  · rw [List.length_set]; exact Nat.le_refl _
  · exact Nat.zero_le _
set_option maxHeartbeats 4000000 in
set_option maxRecDepth 1000000 in
theorem walk (s0 : Option Addr) (c0 : Nat) (a0 : List MV) (a1p a1b a1l a1a a1s : Int) (a2 : Int) (a3i : Bool) (a3n a3p a3b a3l a3a a3s : Int) (K1 : kb a1p a1b a1l a1a a1s) (b2 : -9223372036854775808 ≤ a2 ∧ a2 ≤ 9223372036854775807) (V3 : vb a3n a3p a3b a3l a3a a3s) (w : World) (n0 : mvsOk a0) (z0 : a0.length ≤ c0) (y0 : c0 ≤ maxLen) (A0 : ValsAt w s0 a0) :
    Calls Try.prog 4 #[.slice s0 a0.length c0, .agg #[.int .i64 a1p, .int .i64 a1b, .int .i64 a1l, .int .i64 a1a, .int .i64 a1s], .int .i64 a2, .agg #[.bool a3i, .int .i64 a3n, .int .i64 a3p, .int .i64 a3b, .int .i64 a3l, .int .i64 a3a, .int .i64 a3s]] w fun e w' => e = .returned (.bool true) ∧ Below w.heap.size w w' := by
  obtain ⟨k, rfl, rfl, rfl, rfl, rfl⟩ : ∃ k : K5, k.p = a1p ∧ k.b = a1b ∧ k.l = a1l ∧ k.a = a1a ∧ k.s = a1s := ⟨⟨a1p, a1b, a1l, a1a, a1s⟩, rfl, rfl, rfl, rfl, rfl⟩
  obtain ⟨v, rfl, rfl, rfl, rfl, rfl, rfl, rfl⟩ : ∃ v : MV, v.i = a3i ∧ v.n = a3n ∧ v.p = a3p ∧ v.b = a3b ∧ v.l = a3l ∧ v.a = a3a ∧ v.s = a3s := ⟨⟨a3i, a3n, a3p, a3b, a3l, a3a, a3s⟩, rfl, rfl, rfl, rfl, rfl, rfl, rfl⟩
  obtain ⟨C, hmk⟩ := mk401
  have hz : a0.length ≤ maxLen := Nat.le_trans z0 y0
  have cS := fun w hA => mem_store s0 c0 a0 k a2 v w hA n0 K1 b2 V3
  have rS := fun w hA => ref_store s0 c0 a0 k a2 v w hA hz z0 K1 b2 y0
  have cB := fun s c w => mem_check_large s 401 c w (by omega)
  have cE := fun a b c d w ha hb => ref_eqv a b c d (storeL a0 k a2 v) (storeL a0 k a2 v) w ha hb (Nat.le_trans (store_len a0 k a2 v) hz)
  rw [sameL_iff.2 (rfl : storeL a0 k a2 v = storeL a0 k a2 v)] at cE
  have HA : Hid (∀ w', Below w.heap.size w w' → ValsAt w' s0 a0) := fun w' hb => A0.below hb
  generalize storeE a0 k a2 v = E at *
  generalize storeL a0 k a2 v = L at *
  clear A0 hz
  go_enter Try.func4, Try.ntmps4
  go_wp2_with (first | (go_at_call 13; refine (cS _ (HA.out _ (two _ _))).mono ?_; rintro e w1 ⟨sa, da, rfl, hbb, A1, _⟩; have B1 := ((Box.new _ _ _).alloc _).below hbb; have B2 := (Box.new1 _ _ _ _).below hbb; have q1 := B1.cell; have q2 := B2.cell; have hB1 := Below.step0 (two _ _) hbb; clear hbb cS) | (go_at_call 14; refine (rS _ (HA.out _ hB1)).mono ?_; rintro e w2 ⟨sb, db, rfl, hbb, A2⟩; replace A1 := A1.below hbb; have hB2 := Below.step0 hB1 hbb; clear hbb rS) | (go_at_call 15; refine (cE _ _ _ _ _ A1 A2).mono ?_; rintro e w3 ⟨rfl, hbb⟩; have hB3 := Below.step0 hB2 hbb; clear hbb cE) | (go_at_call 11; refine (cB _ _ _).mono ?_; rintro e w5 ⟨rfl, rfl⟩; clear cB))
  go_ret
  exact ⟨rfl, hB3.alloc hB3.size _⟩

set_option maxRecDepth 100000 in
theorem lifted (os : Os) (started : os.Started) (H : Type) (enc : TypeId × Value → H) :
    ReturnsInHanded {} Try.checked os 4 .any (Rows.memStoresSpec.pre6 enc Try.prog Try.f4 Rows.memStoresRow.domain false) (Rows.memStoresSpec.post enc Try.prog Try.f4 false true false false) := by
  refine returnsInHanded_of_change (C := Try.checked) own started (by kernel_rfl) Try.func4
    (ChangeSpec.witness6 (enc := enc) (C := Try.checked) false ⟨#[], #[.slice none 0 0, .agg #[.int .i64 0, .int .i64 0, .int .i64 0, .int .i64 0, .int .i64 0], .int .i64 0, .agg #[.bool false, .int .i64 0, .int .i64 0, .int .i64 0, .int .i64 0, .int .i64 0, .int .i64 0]], []⟩ 8 (by kernel_rfl) (by kernel_rfl) (by kernel_rfl) (by kernel_rfl)) ?_
  intro W base args ds gs before hval0 hW hcnd _
  have hval : ∀ (j : Nat) t v, Try.f4.params[j]? = some t → args[j]? = some v → Value.okWide Try.prog W .any base t v := hval0
  have hW' := hW
  obtain ⟨p, q, hA0, hV, rfl, hfz, hnd⟩ := hW
  have hA : DataW.TrodAll enc Try.prog W 0 (fun _ => true) true Try.f4.params.toList args.toList ds p := hA0
  rw [Try.params4] at hA hval
  obtain ⟨v0, vs0, d0, ds0, p0, q0, hargs, rfl, rfl, h0, r0⟩ := trodAll_cons hA
  obtain ⟨v1, vs1, d1, ds1, p1, q1, rfl, rfl, rfl, h1, r1⟩ := trodAll_cons r0
  obtain ⟨v2, vs2, d2, ds2, p2, q2, rfl, rfl, rfl, h2, r2⟩ := trodAll_cons r1
  obtain ⟨v3, vs3, d3, ds3, p3, q3, rfl, rfl, rfl, h3, r3⟩ := trodAll_cons r2
  obtain ⟨rfl, rfl, rfl⟩ := trodAll_nil r3
  obtain rfl : args = #[v0, v1, v2, v3] := by cases args; simp_all
  obtain ⟨rfl, rfl⟩ := trodVars_none hV
  obtain ⟨s0, len0, c0, rfl⟩ := okWide_slice Try.underlying22 (hval 0 22 v0 rfl rfl)
  have k0 := h0
  have lt0 : ∀ x ∈ p0, x.block < W.heap.size := by obtain ⟨m, hm⟩ := k0; exact DataW.trod_lt m _ _ _ hm
  obtain ⟨a0, rfl, z0, y0, n0, A0⟩ := open_vals k0
  obtain ⟨a1p, a1b, a1l, a1a, a1s, rfl, rfl, rfl, w1p, w1b, w1l, w1a, w1s⟩ := open_key (hval 1 24 v1 rfl rfl) h1
  obtain ⟨a2, rfl, rfl, rfl, w2⟩ := open_int Try.underlying3 (hval 2 3 v2 rfl rfl) h2
  obtain ⟨a3i, a3n, a3p, a3b, a3l, a3a, a3s, rfl, rfl, rfl, w3n, w3p, w3b, w3l, w3a, w3s⟩ := open_val (hval 3 26 v3 rfl rfl) h3
  clear hA0 hval0
  refine (walk s0 c0 a0 a1p a1b a1l a1a a1s a2 a3i a3n a3p a3b a3l a3a a3s ⟨bounds_i64 w1p, bounds_i64 w1b, bounds_i64 w1l, bounds_i64 w1a, bounds_i64 w1s⟩ (bounds_i64 w2) ⟨bounds_i64 w3n, bounds_i64 w3p, bounds_i64 w3b, bounds_i64 w3l, bounds_i64 w3a, bounds_i64 w3s⟩ W n0 z0 y0 A0).mono fun e W' ⟨he, bel⟩ => ?_
  subst he
  exact ⟨_, rfl, _, _, _, [], _, [], hW', trodAll_mk1 (shut_bool Try.underlying4 _), (trodAll_cons_mk (Below.trod laidOut (by kernel_rfl) (of_decide_eq_true (by kernel_rfl)) k0 bel lt0) (trodAll_cons_mk (shut_key w1p w1b w1l w1a w1s) (trodAll_cons_mk (shut_int Try.underlying3 w2) (trodAll_cons_mk (shut_val w3n w3p w3b w3l w3a w3s) trodAll_mk0)))), rfl, bel.frame _, fun h => by cases h⟩

theorem over : Rows.memStoresRow.holds Try.pinned (OpenSpec.ofChange Rows.memStoresSpec) :=
  OpenClaim.holds_of_wide 4 Try.f4 rfl rfl rfl rfl rfl rfl rfl ⟨rfl, rfl, rfl, rfl, rfl⟩ rfl rfl rfl rfl rfl (by kernel_rfl) Try.func4 (by kernel_rfl)
    (of_decide_eq_true (by kernel_rfl)) (by unfold Func.isWrapper; first | (rw [if_pos (by decide +kernel)]; kernel_rfl) | (rw [if_neg (by decide +kernel)]; exact ⟨rfl, rfl⟩))
    (fun os started H enc _ => lifted os started H enc)

theorem proved : Rows.MemStoresSaid :=
  over
#print axioms proved
end Go.Proofs.Ytpkmpkbgngbkjaa.memStores
