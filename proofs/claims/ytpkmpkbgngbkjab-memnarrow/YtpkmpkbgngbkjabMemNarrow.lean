/- Chapter 8, P17: what is loaded by a key that is no more than another one, at the same place, is loaded by that one, too: for every memory, key and three numbers; nothing that was in memory is turned. -/
import Derived.Test.YtpkmpkbgngbkjabRows
import Derived.Test.YtpkmpkbgngbkjabKeyArg
import Derived.Test.YtpkmpkbgngbkjabValsArg
import Derived.Test.YtpkmpkbgngbkjabKeyPure
import Derived.Test.YtpkmpkbgngbkjabKeyChk
import Derived.Test.YtpkmpkbgngbkjabKeyCov
import Derived.Test.YtpkmpkbgngbkjabCellPure
import Derived.Test.YtpkmpkbgngbkjabMemPure
import Derived.Test.YtpkmpkbgngbkjabMemFacts2
import Derived.Test.YtpkmpkbgngbkjabMemChk
import Derived.Test.YtpkmpkbgngbkjabMemUse
import Derived.Test.YtpkmpkbgngbkjabMemLoaded
import Derived.Test.YtpkmpkbgngbkjabBoxSet
import Derived.WalkKit
import Derived.ProofKit
import Derived.OpenShut
namespace Go.Proofs.Ytpkmpkbgngbkjab.memNarrow
open Go.ChangeShapes Go.WideShapes Go.ChangeAt Go.RowKit
set_option linter.unusedVariables false
set_option linter.unusedSimpArgs false

theorem own : ownKnob Try.prog.godebug = none := by kernel_rfl
theorem laidOut : laidOutB Try.prog = true := by kernel_rfl

theorem box_set5 {w : World} {k : Nat} {c0 c1 c2 c3 c4 v0 v1 v2 v3 v4 : Value} (h : Box w k #[c0, c1, c2, c3, c4]) : Box (((((w.setCell ⟨k, 0, none⟩ v0).setCell ⟨k, 1, none⟩ v1).setCell ⟨k, 2, none⟩ v2).setCell ⟨k, 3, none⟩ v3).setCell ⟨k, 4, none⟩ v4) k #[v0, v1, v2, v3, v4] :=
  ((((h.set 0 v0 (by simp)).set 1 v1 (by simp)).set 2 v2 (by simp)).set 3 v3 (by simp)).set 4 v4 (by simp)
theorem box_other5 {w : World} {k k' : Nat} {c : Array Value} {v0 v1 v2 v3 v4 : Value} (h : Box w k c) (hk : k ≠ k') : Box (((((w.setCell ⟨k', 0, none⟩ v0).setCell ⟨k', 1, none⟩ v1).setCell ⟨k', 2, none⟩ v2).setCell ⟨k', 3, none⟩ v3).setCell ⟨k', 4, none⟩ v4) k c :=
  ((((h.setOther hk).setOther hk).setOther hk).setOther hk).setOther hk
theorem below5 {B : Nat} {w w2 : World} {k : Nat} {v0 v1 v2 v3 v4 : Value} (hb : Below B w w2) (hk : B ≤ k) : Below B w (((((w2.setCell ⟨k, 0, none⟩ v0).setCell ⟨k, 1, none⟩ v1).setCell ⟨k, 2, none⟩ v2).setCell ⟨k, 3, none⟩ v3).setCell ⟨k, 4, none⟩ v4) :=
  ((((hb.setCell hk _).setCell hk _).setCell hk _).setCell hk _).setCell hk _
set_option maxHeartbeats 4000000 in
set_option maxRecDepth 1000000 in
theorem walk (s0 : Option Addr) (c0 : Nat) (a0 : List MV) (a1p a1b a1l a1a a1s : Int) (a2 : Int) (a3 : Int) (a4 : Int) (K1 : kb a1p a1b a1l a1a a1s) (b2 : -9223372036854775808 ≤ a2 ∧ a2 ≤ 9223372036854775807) (b3 : -9223372036854775808 ≤ a3 ∧ a3 ≤ 9223372036854775807) (b4 : -9223372036854775808 ≤ a4 ∧ a4 ≤ 9223372036854775807) (w : World) (n0 : mvsOk a0) (z0 : a0.length ≤ c0) (y0 : c0 ≤ maxLen) (A0 : ValsAt w s0 a0) :
    Calls Try.prog 3 #[.slice s0 a0.length c0, .agg #[.int .i64 a1p, .int .i64 a1b, .int .i64 a1l, .int .i64 a1a, .int .i64 a1s], .int .i64 a2, .int .i64 a3, .int .i64 a4] w fun e w' => e = .returned (.bool true) ∧ Below w.heap.size w w' := by
  obtain ⟨k, rfl, rfl, rfl, rfl, rfl⟩ : ∃ k : K5, k.p = a1p ∧ k.b = a1b ∧ k.l = a1l ∧ k.a = a1a ∧ k.s = a1s := ⟨⟨a1p, a1b, a1l, a1a, a1s⟩, rfl, rfl, rfl, rfl, rfl⟩
  have cN := fun w => keys_narrow k.p k.b k.l k.a k.s a2 w K1
  have HA : Hid (∀ w', Below w.heap.size w w' → ValsAt w' s0 a0) := fun w' hb => A0.below hb
  rcases narrow_cases k a2 with he | ⟨hN, ho, hs, h1, h2, h3⟩
  · have gE : ((narrowK k.p k.b k.l k.a k.s a2).e != 0) = true := by simpa using he
    generalize narrowK k.p k.b k.l k.a k.s a2 = N at *
    clear he A0
    go_enter Try.func3, Try.ntmps3
    go_wp2_with (first | (go_at_call 5; refine (keep_loaded _).mono ?_; rintro e w1 ⟨rfl, hbb⟩; have B1 := (Box.new _ _ _).below hbb; have q1 := B1.cell; have t1 := B1.lt; have hB1 := Below.step0 ((Below.refl _ _).alloc (Nat.le_refl _) _) hbb; clear hbb) | (go_at_call 6; refine (cN _).mono ?_; rintro e w2 ⟨rfl, hbb⟩; replace B1 := B1.below hbb; replace q1 := B1.cell; replace t1 := B1.lt; have hB2 := Below.step0 hB1 hbb; clear hbb cN))
    go_ret
    exact ⟨rfl, hB2.alloc hB2.size _⟩
  · rw [hN] at cN
    dsimp only at cN
    have X1 : kb k.p k.a a2 k.a k.s := ⟨K1.1, K1.2.2.2.1, b2, K1.2.2.2⟩
    have X2 : k5b ⟨bits .and .i64 k.p a3, k.a, a2, k.a, k.s⟩ := ⟨and_b _ _, K1.2.2.2.1, b2, K1.2.2.2⟩
    have cD := fun w => keys_drop k.p k.a a2 k.a k.s a3 w X1
    rw [narrow_ok ho hs h1 h2 h3 a3] at cD
    dsimp only at cD
    have cX := fun w hA => mem_load s0 c0 a0 ⟨bits .and .i64 k.p a3, k.a, a2, k.a, k.s⟩ a4 w hA n0 X2 b4
    have cL := fun w hA => mem_load s0 c0 a0 k a4 w hA n0 K1 b4
    dsimp only at cX
    have ways : (loadE a0 ⟨bits .and .i64 k.p a3, k.a, a2, k.a, k.s⟩ a4 != 0) = true ∨ (loadE a0 ⟨bits .and .i64 k.p a3, k.a, a2, k.a, k.s⟩ a4 = 0 ∧ loadE a0 k a4 = 0 ∧ (loadV a0 ⟨bits .and .i64 k.p a3, k.a, a2, k.a, k.s⟩ a4 = loadV a0 k a4 ∨ ((loadV a0 k a4).i = true ∧ loadV a0 ⟨bits .and .i64 k.p a3, k.a, a2, k.a, k.s⟩ a4 = nil0))) := by
      by_cases h : loadE a0 ⟨bits .and .i64 k.p a3, k.a, a2, k.a, k.s⟩ a4 = 0
      · exact .inr ⟨h, narrow_loads ho hs h1 h2 h3 h⟩
      · exact .inl (by simpa using h)
    generalize loadE a0 ⟨bits .and .i64 k.p a3, k.a, a2, k.a, k.s⟩ a4 = E at *
    generalize loadV a0 ⟨bits .and .i64 k.p a3, k.a, a2, k.a, k.s⟩ a4 = U at *
    generalize loadE a0 k a4 = F at *
    generalize loadV a0 k a4 = V at *
    generalize bits .and .i64 k.p a3 = X at *
    clear hN ho hs h1 h2 h3 X1 X2 A0
    rcases ways with gE | ⟨rfl, rfl, hUV⟩
    · go_enter Try.func3, Try.ntmps3
      go_wp2_with (first | (go_at_call 5; refine (keep_loaded _).mono ?_; rintro e w1 ⟨rfl, hbb⟩; have B1 := (Box.new _ _ _).below hbb; have q1 := B1.cell; have t1 := B1.lt; have hB1 := Below.step0 ((Below.refl _ _).alloc (Nat.le_refl _) _) hbb; clear hbb) | (go_at_call 6; refine (cN _).mono ?_; rintro e w2 ⟨rfl, hbb⟩; replace B1 := B1.below hbb; replace q1 := B1.cell; replace t1 := B1.lt; have hB2 := Below.step0 hB1 hbb; clear hbb cN) | (go_at_call 7; refine (cD _).mono ?_; rintro e w3 ⟨rfl, hbb⟩; replace B1 := (B1.alloc _).below hbb; have B2 := (Box.new _ _ _).below hbb; replace q1 := B1.cell; have q2 := B2.cell; have f2 := B2.free; have z2 := hB2.size; have n2 : ¬ w.heap.size = w2.heap.size := (by omega); have n3 : ¬ w2.heap.size = w.heap.size := (by omega); have hB3 := Below.step0 (hB2.alloc hB2.size _) hbb; clear hbb cD t1) | (go_at_call 8; first | (refine (cX _ (HA.out _ (below5 hB3 z2))).mono ?_; rintro e w4 ⟨rfl, hbb⟩; have C1 := (box_other5 B1 n2).below hbb; have p1 := C1.cell; have t1 := C1.lt; have hB4 := Below.step0 (below5 hB3 z2) hbb; clear hbb cX q1 q2 f2 B1 B2 n2 n3 z2) | (refine (cL _ (HA.out _ (hB4.alloc hB4.size _))).mono ?_; rintro e w5 ⟨rfl, hbb⟩; have C2 := (Box.new _ _ _).below hbb; have p2 := C2.cell; have t2 := C2.lt; have hB5 := Below.step0 (hB4.alloc hB4.size _) hbb; clear hbb cL)))
      go_ret
      exact ⟨rfl, hB5.alloc hB5.size _⟩
    · rcases hUV with rfl | ⟨hVi, rfl⟩
      · go_enter Try.func3, Try.ntmps3
        go_wp2_with (first | (go_at_call 5; refine (keep_loaded _).mono ?_; rintro e w1 ⟨rfl, hbb⟩; have B1 := (Box.new _ _ _).below hbb; have q1 := B1.cell; have t1 := B1.lt; have hB1 := Below.step0 ((Below.refl _ _).alloc (Nat.le_refl _) _) hbb; clear hbb) | (go_at_call 6; refine (cN _).mono ?_; rintro e w2 ⟨rfl, hbb⟩; replace B1 := B1.below hbb; replace q1 := B1.cell; replace t1 := B1.lt; have hB2 := Below.step0 hB1 hbb; clear hbb cN) | (go_at_call 7; refine (cD _).mono ?_; rintro e w3 ⟨rfl, hbb⟩; replace B1 := (B1.alloc _).below hbb; have B2 := (Box.new _ _ _).below hbb; replace q1 := B1.cell; have q2 := B2.cell; have f2 := B2.free; have z2 := hB2.size; have n2 : ¬ w.heap.size = w2.heap.size := (by omega); have n3 : ¬ w2.heap.size = w.heap.size := (by omega); have hB3 := Below.step0 (hB2.alloc hB2.size _) hbb; clear hbb cD t1) | (go_at_call 8; first | (refine (cX _ (HA.out _ (below5 hB3 z2))).mono ?_; rintro e w4 ⟨rfl, hbb⟩; have C1 := (box_other5 B1 n2).below hbb; have p1 := C1.cell; have t1 := C1.lt; have hB4 := Below.step0 (below5 hB3 z2) hbb; clear hbb cX q1 q2 f2 B1 B2 n2 n3 z2) | (refine (cL _ (HA.out _ (hB4.alloc hB4.size _))).mono ?_; rintro e w5 ⟨rfl, hbb⟩; have C2 := (Box.new _ _ _).below hbb; have p2 := C2.cell; have t2 := C2.lt; have hB5 := Below.step0 (hB4.alloc hB4.size _) hbb; clear hbb cL)))
        go_ret
        exact ⟨rfl, hB5.alloc hB5.size _⟩
      · dsimp only [nil0] at cX
        rw [hVi] at cL
        go_enter Try.func3, Try.ntmps3
        go_wp2_with (first | (go_at_call 5; refine (keep_loaded _).mono ?_; rintro e w1 ⟨rfl, hbb⟩; have B1 := (Box.new _ _ _).below hbb; have q1 := B1.cell; have t1 := B1.lt; have hB1 := Below.step0 ((Below.refl _ _).alloc (Nat.le_refl _) _) hbb; clear hbb) | (go_at_call 6; refine (cN _).mono ?_; rintro e w2 ⟨rfl, hbb⟩; replace B1 := B1.below hbb; replace q1 := B1.cell; replace t1 := B1.lt; have hB2 := Below.step0 hB1 hbb; clear hbb cN) | (go_at_call 7; refine (cD _).mono ?_; rintro e w3 ⟨rfl, hbb⟩; replace B1 := (B1.alloc _).below hbb; have B2 := (Box.new _ _ _).below hbb; replace q1 := B1.cell; have q2 := B2.cell; have f2 := B2.free; have z2 := hB2.size; have n2 : ¬ w.heap.size = w2.heap.size := (by omega); have n3 : ¬ w2.heap.size = w.heap.size := (by omega); have hB3 := Below.step0 (hB2.alloc hB2.size _) hbb; clear hbb cD t1) | (go_at_call 8; first | (refine (cX _ (HA.out _ (below5 hB3 z2))).mono ?_; rintro e w4 ⟨rfl, hbb⟩; have C1 := (box_other5 B1 n2).below hbb; have p1 := C1.cell; have t1 := C1.lt; have hB4 := Below.step0 (below5 hB3 z2) hbb; clear hbb cX q1 q2 f2 B1 B2 n2 n3 z2) | (refine (cL _ (HA.out _ (hB4.alloc hB4.size _))).mono ?_; rintro e w5 ⟨rfl, hbb⟩; have C2 := (Box.new _ _ _).below hbb; have p2 := C2.cell; have t2 := C2.lt; have hB5 := Below.step0 (hB4.alloc hB4.size _) hbb; clear hbb cL)))
        go_ret
        exact ⟨rfl, hB5.alloc hB5.size _⟩

set_option maxRecDepth 100000 in
theorem lifted (os : Os) (started : os.Started) (H : Type) (enc : TypeId × Value → H) :
    ReturnsInHanded {} Try.checked os 3 .any (Rows.memNarrowSpec.pre6 enc Try.prog Try.f3 Rows.memNarrowRow.domain false) (Rows.memNarrowSpec.post enc Try.prog Try.f3 false true false false) := by
  refine returnsInHanded_of_change (C := Try.checked) own started (by kernel_rfl) Try.func3
    (ChangeSpec.witness6 (enc := enc) (C := Try.checked) false ⟨#[], #[.slice none 0 0, .agg #[.int .i64 0, .int .i64 0, .int .i64 0, .int .i64 0, .int .i64 0], .int .i64 0, .int .i64 0, .int .i64 0], []⟩ 8 (by kernel_rfl) (by kernel_rfl) (by kernel_rfl) (by kernel_rfl)) ?_
  intro W base args ds gs before hval0 hW hcnd _
  have hval : ∀ (j : Nat) t v, Try.f3.params[j]? = some t → args[j]? = some v → Value.okWide Try.prog W .any base t v := hval0
  have hW' := hW
  obtain ⟨p, q, hA0, hV, rfl, hfz, hnd⟩ := hW
  have hA : DataW.TrodAll enc Try.prog W 0 (fun _ => true) true Try.f3.params.toList args.toList ds p := hA0
  rw [Try.params3] at hA hval
  obtain ⟨v0, vs0, d0, ds0, p0, q0, hargs, rfl, rfl, h0, r0⟩ := trodAll_cons hA
  obtain ⟨v1, vs1, d1, ds1, p1, q1, rfl, rfl, rfl, h1, r1⟩ := trodAll_cons r0
  obtain ⟨v2, vs2, d2, ds2, p2, q2, rfl, rfl, rfl, h2, r2⟩ := trodAll_cons r1
  obtain ⟨v3, vs3, d3, ds3, p3, q3, rfl, rfl, rfl, h3, r3⟩ := trodAll_cons r2
  obtain ⟨v4, vs4, d4, ds4, p4, q4, rfl, rfl, rfl, h4, r4⟩ := trodAll_cons r3
  obtain ⟨rfl, rfl, rfl⟩ := trodAll_nil r4
  obtain rfl : args = #[v0, v1, v2, v3, v4] := by cases args; simp_all
  obtain ⟨rfl, rfl⟩ := trodVars_none hV
  obtain ⟨s0, len0, c0, rfl⟩ := okWide_slice Try.underlying22 (hval 0 22 v0 rfl rfl)
  have k0 := h0
  have lt0 : ∀ x ∈ p0, x.block < W.heap.size := by obtain ⟨m, hm⟩ := k0; exact DataW.trod_lt m _ _ _ hm
  obtain ⟨a0, rfl, z0, y0, n0, A0⟩ := open_vals k0
  obtain ⟨a1p, a1b, a1l, a1a, a1s, rfl, rfl, rfl, w1p, w1b, w1l, w1a, w1s⟩ := open_key (hval 1 24 v1 rfl rfl) h1
  obtain ⟨a2, rfl, rfl, rfl, w2⟩ := open_int Try.underlying3 (hval 2 3 v2 rfl rfl) h2
  obtain ⟨a3, rfl, rfl, rfl, w3⟩ := open_int Try.underlying3 (hval 3 3 v3 rfl rfl) h3
  obtain ⟨a4, rfl, rfl, rfl, w4⟩ := open_int Try.underlying3 (hval 4 3 v4 rfl rfl) h4
  clear hA0 hval0
  refine (walk s0 c0 a0 a1p a1b a1l a1a a1s a2 a3 a4 ⟨bounds_i64 w1p, bounds_i64 w1b, bounds_i64 w1l, bounds_i64 w1a, bounds_i64 w1s⟩ (bounds_i64 w2) (bounds_i64 w3) (bounds_i64 w4) W n0 z0 y0 A0).mono fun e W' ⟨he, bel⟩ => ?_
  subst he
  exact ⟨_, rfl, _, _, _, [], _, [], hW', trodAll_mk1 (shut_bool Try.underlying4 _), (trodAll_cons_mk (Below.trod laidOut (by kernel_rfl) (of_decide_eq_true (by kernel_rfl)) k0 bel lt0) (trodAll_cons_mk (shut_key w1p w1b w1l w1a w1s) (trodAll_cons_mk (shut_int Try.underlying3 w2) (trodAll_cons_mk (shut_int Try.underlying3 w3) (trodAll_cons_mk (shut_int Try.underlying3 w4) trodAll_mk0))))), rfl, bel.frame _, fun h => by cases h⟩

theorem over : Rows.memNarrowRow.holds Try.pinned (OpenSpec.ofChange Rows.memNarrowSpec) :=
  OpenClaim.holds_of_wide 3 Try.f3 rfl rfl rfl rfl rfl rfl rfl ⟨rfl, rfl, rfl, rfl, rfl⟩ rfl rfl rfl rfl rfl (by kernel_rfl) Try.func3 (by kernel_rfl)
    (of_decide_eq_true (by kernel_rfl)) (by unfold Func.isWrapper; first | (rw [if_pos (by decide +kernel)]; kernel_rfl) | (rw [if_neg (by decide +kernel)]; exact ⟨rfl, rfl⟩))
    (fun os started H enc _ => lifted os started H enc)

theorem proved : Rows.MemNarrowSaid :=
  over
#print axioms proved
end Go.Proofs.Ytpkmpkbgngbkjab.memNarrow
