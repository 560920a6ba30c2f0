/- Chapter 8, P17: it is no matter which of two that are stored in two cells comes first: for every memory, key, two numbers and two values; nothing that was in memory is turned. -/
import Derived.Test.YtpkmpkbgngbkjabRows
import Derived.Test.YtpkmpkbgngbkjabKeyArg
import Derived.Test.YtpkmpkbgngbkjabValArg
import Derived.Test.YtpkmpkbgngbkjabValsArg
import Derived.Test.YtpkmpkbgngbkjabKeyPure
import Derived.Test.YtpkmpkbgngbkjabCellPure
import Derived.Test.YtpkmpkbgngbkjabMemPure
import Derived.Test.YtpkmpkbgngbkjabMemFacts2
import Derived.Test.YtpkmpkbgngbkjabMemChk
import Derived.Test.YtpkmpkbgngbkjabMemUse
import Derived.Test.YtpkmpkbgngbkjabEqVal
import Derived.Test.YtpkmpkbgngbkjabMemLoaded
import Derived.WalkKit
import Derived.ProofKit
import Derived.OpenShut
namespace Go.Proofs.Ytpkmpkbgngbkjab.memApart
open Go.ChangeShapes Go.WideShapes Go.ChangeAt Go.RowKit
set_option linter.unusedVariables false
set_option linter.unusedSimpArgs false

theorem own : ownKnob Try.prog.godebug = none := by kernel_rfl
theorem laidOut : laidOutB Try.prog = true := by kernel_rfl


set_option maxHeartbeats 4000000 in
set_option maxRecDepth 1000000 in
theorem walk (s0 : Option Addr) (c0 : Nat) (a0 : List MV) (a1p a1b a1l a1a a1s : Int) (a2 : Int) (a3 : Int) (a4i : Bool) (a4n a4p a4b a4l a4a a4s : Int) (a5i : Bool) (a5n a5p a5b a5l a5a a5s : Int) (K1 : kb a1p a1b a1l a1a a1s) (b2 : -9223372036854775808 ≤ a2 ∧ a2 ≤ 9223372036854775807) (b3 : -9223372036854775808 ≤ a3 ∧ a3 ≤ 9223372036854775807) (V4 : vb a4n a4p a4b a4l a4a a4s) (V5 : vb a5n a5p a5b a5l a5a a5s) (w : World) (n0 : mvsOk a0) (z0 : a0.length ≤ c0) (y0 : c0 ≤ maxLen) (A0 : ValsAt w s0 a0) :
    Calls Try.prog 4 #[.slice s0 a0.length c0, .agg #[.int .i64 a1p, .int .i64 a1b, .int .i64 a1l, .int .i64 a1a, .int .i64 a1s], .int .i64 a2, .int .i64 a3, .agg #[.bool a4i, .int .i64 a4n, .int .i64 a4p, .int .i64 a4b, .int .i64 a4l, .int .i64 a4a, .int .i64 a4s], .agg #[.bool a5i, .int .i64 a5n, .int .i64 a5p, .int .i64 a5b, .int .i64 a5l, .int .i64 a5a, .int .i64 a5s]] w fun e w' => e = .returned (.bool true) ∧ Below w.heap.size w w' := by
  obtain ⟨k, rfl, rfl, rfl, rfl, rfl⟩ : ∃ k : K5, k.p = a1p ∧ k.b = a1b ∧ k.l = a1l ∧ k.a = a1a ∧ k.s = a1s := ⟨⟨a1p, a1b, a1l, a1a, a1s⟩, rfl, rfl, rfl, rfl, rfl⟩
  obtain ⟨v, rfl, rfl, rfl, rfl, rfl, rfl, rfl⟩ : ∃ v : MV, v.i = a4i ∧ v.n = a4n ∧ v.p = a4p ∧ v.b = a4b ∧ v.l = a4l ∧ v.a = a4a ∧ v.s = a4s := ⟨⟨a4i, a4n, a4p, a4b, a4l, a4a, a4s⟩, rfl, rfl, rfl, rfl, rfl, rfl, rfl⟩
  obtain ⟨u, rfl, rfl, rfl, rfl, rfl, rfl, rfl⟩ : ∃ u : MV, u.i = a5i ∧ u.n = a5n ∧ u.p = a5p ∧ u.b = a5b ∧ u.l = a5l ∧ u.a = a5a ∧ u.s = a5s := ⟨⟨a5i, a5n, a5p, a5b, a5l, a5a, a5s⟩, rfl, rfl, rfl, rfl, rfl, rfl, rfl⟩
  have cX := fun w hA => mem_store s0 c0 a0 k a2 v w hA n0 K1 b2 V4
  have cY := fun w hA => mem_store s0 c0 a0 k a3 u w hA n0 K1 b3 V5
  have HA : Hid (∀ w', Below w.heap.size w w' → ValsAt w' s0 a0) := fun w' hb => A0.below hb
  by_cases hx : storeE a0 k a2 v = 0
  · by_cases hy : storeE a0 k a3 u = 0
    · have cP := fun s c w hA => mem_store s c (storeL a0 k a2 v) k a3 u w hA (store_ok n0 V4) K1 b3 V5
      have cQ := fun s c w hA => mem_store s c (storeL a0 k a3 u) k a2 v w hA (store_ok n0 V5) K1 b2 V4
      have lP : (storeL (storeL a0 k a2 v) k a3 u).length ≤ maxLen := by
        have := (mem_small (store_yes hx).1).1
        rw [store_set (store_again hx hy), store_set hx, List.length_set, List.length_set]
        unfold maxLen; omega
      have cE := fun a b c d w ha hb => ref_eqv a b c d (storeL (storeL a0 k a2 v) k a3 u) (storeL (storeL a0 k a3 u) k a2 v) w ha hb lP
      obtain ⟨s1, s2⟩ := store_two hx hy
      rw [store_again hx hy] at cP
      rw [store_again hy hx] at cQ
      rw [hx] at cX
      rw [hy] at cY
      generalize sameL (storeL (storeL a0 k a2 v) k a3 u) (storeL (storeL a0 k a3 u) k a2 v) = R at *
      generalize storeL (storeL a0 k a2 v) k a3 u = LP at *
      generalize storeL (storeL a0 k a3 u) k a2 v = LQ at *
      generalize storeL a0 k a2 v = LX at *
      generalize storeL a0 k a3 u = LY at *
      clear hx hy A0 lP
      by_cases hab : a2 = a3
      · have hR := s2 hab
        subst hab
        by_cases hvu : v = u
        · rw [sm_yes.2 hvu] at hR
          subst hvu
          subst hR
          clear s1 s2
          go_enter Try.func4, Try.ntmps4
          go_wp2_with (first | (go_at_call 5; refine (keep_loaded _).mono ?_; rintro e w1 ⟨rfl, hbb⟩; have B1 := (((Box.new _ _ _).alloc _).alloc _).below hbb; have B2 := ((Box.new1 _ _ _ _).alloc _).below hbb; have B3 := (Box.new2 _ _ _ _ _).below hbb; have q1 := B1.cell; have q2 := B2.cell; have q3 := B3.cell; have hB1 := Below.step0 (three _ _ _) hbb; clear hbb) | (go_at_call 9; first | (refine (cX _ (HA.out _ hB1)).mono ?_; rintro e w2 ⟨sx, dx, rfl, hbb, Aw2, _⟩; replace B1 := B1.below hbb; replace B2 := B2.below hbb; replace B3 := B3.below hbb; replace q1 := B1.cell; replace q2 := B2.cell; replace q3 := B3.cell; have hB2 := Below.step0 hB1 hbb; clear hbb cX) | (refine (cY _ (HA.out _ hB2)).mono ?_; rintro e w3 ⟨sy, dy, rfl, hbb, Aw3, _⟩; replace B1 := B1.below hbb; replace B2 := B2.below hbb; replace B3 := B3.below hbb; replace q1 := B1.cell; replace q2 := B2.cell; replace q3 := B3.cell; have hB3 := Below.step0 hB2 hbb; replace Aw2 := Aw2.below hbb; clear hbb cY) | (refine (cP _ _ _ Aw2).mono ?_; rintro e w4 ⟨sp, dp, rfl, hbb, Aw4, _⟩; replace B1 := B1.below hbb; replace B2 := B2.below hbb; replace B3 := B3.below hbb; replace q1 := B1.cell; replace q2 := B2.cell; replace q3 := B3.cell; have hB4 := Below.step0 hB3 hbb; replace Aw3 := Aw3.below hbb; clear hbb cP) | (refine (cQ _ _ _ Aw3).mono ?_; rintro e w5 ⟨sq, dq, rfl, hbb, Aw5, _⟩; replace B1 := B1.below hbb; replace B2 := B2.below hbb; replace B3 := B3.below hbb; replace q1 := B1.cell; replace q2 := B2.cell; replace q3 := B3.cell; have hB5 := Below.step0 hB4 hbb; replace Aw4 := Aw4.below hbb; clear hbb cQ)) | (go_at_call 10; refine (cE _ _ _ _ _ Aw4 Aw5).mono ?_; rintro e w6 ⟨rfl, hbb⟩; replace B1 := B1.below hbb; replace B2 := B2.below hbb; replace B3 := B3.below hbb; replace q1 := B1.cell; replace q2 := B2.cell; replace q3 := B3.cell; have hB6 := Below.step0 hB5 hbb; clear hbb cE))
          go_ret
          exact ⟨rfl, hB6⟩
        · have hsm : sm v u = false := by
            cases h : sm v u
            · rfl
            · exact absurd (sm_yes.1 h) hvu
          rw [hsm] at hR
          subst hR
          have hd := mv_diff hvu
          clear s1 s2 hsm hvu V4 V5
          obtain ⟨pi, pn, pp, pb, pl, pa, ps⟩ := v
          obtain ⟨qi, qn, qp, qb, ql, qa, qs⟩ := u
          dsimp only at *
          rcases hd with h | ⟨rfl, h⟩ | ⟨rfl, rfl, h⟩ | ⟨rfl, rfl, rfl, h⟩ | ⟨rfl, rfl, rfl, rfl, h⟩ | ⟨rfl, rfl, rfl, rfl, rfl, h⟩ | ⟨rfl, rfl, rfl, rfl, rfl, rfl, h⟩
          all_goals
            go_enter Try.func4, Try.ntmps4
            go_wp2_with (first | (go_at_call 5; refine (keep_loaded _).mono ?_; rintro e w1 ⟨rfl, hbb⟩; have B1 := (((Box.new _ _ _).alloc _).alloc _).below hbb; have B2 := ((Box.new1 _ _ _ _).alloc _).below hbb; have B3 := (Box.new2 _ _ _ _ _).below hbb; have q1 := B1.cell; have q2 := B2.cell; have q3 := B3.cell; have hB1 := Below.step0 (three _ _ _) hbb; clear hbb) | (go_at_call 9; first | (refine (cX _ (HA.out _ hB1)).mono ?_; rintro e w2 ⟨sx, dx, rfl, hbb, Aw2, _⟩; replace B1 := B1.below hbb; replace B2 := B2.below hbb; replace B3 := B3.below hbb; replace q1 := B1.cell; replace q2 := B2.cell; replace q3 := B3.cell; have hB2 := Below.step0 hB1 hbb; clear hbb cX) | (refine (cY _ (HA.out _ hB2)).mono ?_; rintro e w3 ⟨sy, dy, rfl, hbb, Aw3, _⟩; replace B1 := B1.below hbb; replace B2 := B2.below hbb; replace B3 := B3.below hbb; replace q1 := B1.cell; replace q2 := B2.cell; replace q3 := B3.cell; have hB3 := Below.step0 hB2 hbb; replace Aw2 := Aw2.below hbb; clear hbb cY) | (refine (cP _ _ _ Aw2).mono ?_; rintro e w4 ⟨sp, dp, rfl, hbb, Aw4, _⟩; replace B1 := B1.below hbb; replace B2 := B2.below hbb; replace B3 := B3.below hbb; replace q1 := B1.cell; replace q2 := B2.cell; replace q3 := B3.cell; have hB4 := Below.step0 hB3 hbb; replace Aw3 := Aw3.below hbb; clear hbb cP) | (refine (cQ _ _ _ Aw3).mono ?_; rintro e w5 ⟨sq, dq, rfl, hbb, Aw5, _⟩; replace B1 := B1.below hbb; replace B2 := B2.below hbb; replace B3 := B3.below hbb; replace q1 := B1.cell; replace q2 := B2.cell; replace q3 := B3.cell; have hB5 := Below.step0 hB4 hbb; replace Aw4 := Aw4.below hbb; clear hbb cQ)) | (go_at_call 10; refine (cE _ _ _ _ _ Aw4 Aw5).mono ?_; rintro e w6 ⟨rfl, hbb⟩; replace B1 := B1.below hbb; replace B2 := B2.below hbb; replace B3 := B3.below hbb; replace q1 := B1.cell; replace q2 := B2.cell; replace q3 := B3.cell; have hB6 := Below.step0 hB5 hbb; clear hbb cE))
            go_ret
            exact ⟨rfl, hB6⟩
      · have hR := s1 hab
        have gab : (a2 != a3) = true := by simpa using hab
        subst hR
        clear s1 s2 hab
        go_enter Try.func4, Try.ntmps4
        go_wp2_with (first | (go_at_call 5; refine (keep_loaded _).mono ?_; rintro e w1 ⟨rfl, hbb⟩; have B1 := (((Box.new _ _ _).alloc _).alloc _).below hbb; have B2 := ((Box.new1 _ _ _ _).alloc _).below hbb; have B3 := (Box.new2 _ _ _ _ _).below hbb; have q1 := B1.cell; have q2 := B2.cell; have q3 := B3.cell; have hB1 := Below.step0 (three _ _ _) hbb; clear hbb) | (go_at_call 9; first | (refine (cX _ (HA.out _ hB1)).mono ?_; rintro e w2 ⟨sx, dx, rfl, hbb, Aw2, _⟩; replace B1 := B1.below hbb; replace B2 := B2.below hbb; replace B3 := B3.below hbb; replace q1 := B1.cell; replace q2 := B2.cell; replace q3 := B3.cell; have hB2 := Below.step0 hB1 hbb; clear hbb cX) | (refine (cY _ (HA.out _ hB2)).mono ?_; rintro e w3 ⟨sy, dy, rfl, hbb, Aw3, _⟩; replace B1 := B1.below hbb; replace B2 := B2.below hbb; replace B3 := B3.below hbb; replace q1 := B1.cell; replace q2 := B2.cell; replace q3 := B3.cell; have hB3 := Below.step0 hB2 hbb; replace Aw2 := Aw2.below hbb; clear hbb cY) | (refine (cP _ _ _ Aw2).mono ?_; rintro e w4 ⟨sp, dp, rfl, hbb, Aw4, _⟩; replace B1 := B1.below hbb; replace B2 := B2.below hbb; replace B3 := B3.below hbb; replace q1 := B1.cell; replace q2 := B2.cell; replace q3 := B3.cell; have hB4 := Below.step0 hB3 hbb; replace Aw3 := Aw3.below hbb; clear hbb cP) | (refine (cQ _ _ _ Aw3).mono ?_; rintro e w5 ⟨sq, dq, rfl, hbb, Aw5, _⟩; replace B1 := B1.below hbb; replace B2 := B2.below hbb; replace B3 := B3.below hbb; replace q1 := B1.cell; replace q2 := B2.cell; replace q3 := B3.cell; have hB5 := Below.step0 hB4 hbb; replace Aw4 := Aw4.below hbb; clear hbb cQ)) | (go_at_call 10; refine (cE _ _ _ _ _ Aw4 Aw5).mono ?_; rintro e w6 ⟨rfl, hbb⟩; replace B1 := B1.below hbb; replace B2 := B2.below hbb; replace B3 := B3.below hbb; replace q1 := B1.cell; replace q2 := B2.cell; replace q3 := B3.cell; have hB6 := Below.step0 hB5 hbb; clear hbb cE))
        go_ret
        exact ⟨rfl, hB6⟩
    · have gy : (storeE a0 k a3 u != 0) = true := by simpa using hy
      rw [hx] at cX
      generalize storeE a0 k a3 u = F at *
      clear hx hy A0
      go_enter Try.func4, Try.ntmps4
      go_wp2_with (first | (go_at_call 5; refine (keep_loaded _).mono ?_; rintro e w1 ⟨rfl, hbb⟩; have B1 := (((Box.new _ _ _).alloc _).alloc _).below hbb; have B2 := ((Box.new1 _ _ _ _).alloc _).below hbb; have B3 := (Box.new2 _ _ _ _ _).below hbb; have q1 := B1.cell; have q2 := B2.cell; have q3 := B3.cell; have hB1 := Below.step0 (three _ _ _) hbb; clear hbb) | (go_at_call 9; first | (refine (cX _ (HA.out _ hB1)).mono ?_; rintro e w2 ⟨sx, dx, rfl, hbb, Aw2, _⟩; replace B1 := B1.below hbb; replace B2 := B2.below hbb; replace B3 := B3.below hbb; replace q1 := B1.cell; replace q2 := B2.cell; replace q3 := B3.cell; have hB2 := Below.step0 hB1 hbb; clear hbb cX) | (refine (cY _ (HA.out _ hB2)).mono ?_; rintro e w3 ⟨sy, dy, rfl, hbb, Aw3, _⟩; replace B1 := B1.below hbb; replace B2 := B2.below hbb; replace B3 := B3.below hbb; replace q1 := B1.cell; replace q2 := B2.cell; replace q3 := B3.cell; have hB3 := Below.step0 hB2 hbb; replace Aw2 := Aw2.below hbb; clear hbb cY)))
      go_ret
      exact ⟨rfl, hB3⟩
  · have gx : (storeE a0 k a2 v != 0) = true := by simpa using hx
    generalize storeE a0 k a2 v = E at *
    generalize storeE a0 k a3 u = F at *
    clear hx A0
    go_enter Try.func4, Try.ntmps4
    go_wp2_with (first | (go_at_call 5; refine (keep_loaded _).mono ?_; rintro e w1 ⟨rfl, hbb⟩; have B1 := (((Box.new _ _ _).alloc _).alloc _).below hbb; have B2 := ((Box.new1 _ _ _ _).alloc _).below hbb; have B3 := (Box.new2 _ _ _ _ _).below hbb; have q1 := B1.cell; have q2 := B2.cell; have q3 := B3.cell; have hB1 := Below.step0 (three _ _ _) hbb; clear hbb) | (go_at_call 9; first | (refine (cX _ (HA.out _ hB1)).mono ?_; rintro e w2 ⟨sx, dx, rfl, hbb, Aw2, _⟩; replace B1 := B1.below hbb; replace B2 := B2.below hbb; replace B3 := B3.below hbb; replace q1 := B1.cell; replace q2 := B2.cell; replace q3 := B3.cell; have hB2 := Below.step0 hB1 hbb; clear hbb cX) | (refine (cY _ (HA.out _ hB2)).mono ?_; rintro e w3 ⟨sy, dy, rfl, hbb, Aw3, _⟩; replace B1 := B1.below hbb; replace B2 := B2.below hbb; replace B3 := B3.below hbb; replace q1 := B1.cell; replace q2 := B2.cell; replace q3 := B3.cell; have hB3 := Below.step0 hB2 hbb; replace Aw2 := Aw2.below hbb; clear hbb cY)))
    go_ret
    exact ⟨rfl, hB3⟩

set_option maxRecDepth 100000 in
theorem lifted (os : Os) (started : os.Started) (H : Type) (enc : TypeId × Value → H) :
    ReturnsInHanded {} Try.checked os 4 .any (Rows.memApartSpec.pre6 enc Try.prog Try.f4 Rows.memApartRow.domain false) (Rows.memApartSpec.post enc Try.prog Try.f4 false true false false) := by
  refine returnsInHanded_of_change (C := Try.checked) own started (by kernel_rfl) Try.func4
    (ChangeSpec.witness6 (enc := enc) (C := Try.checked) false ⟨#[], #[.slice none 0 0, .agg #[.int .i64 0, .int .i64 0, .int .i64 0, .int .i64 0, .int .i64 0], .int .i64 0, .int .i64 0, .agg #[.bool false, .int .i64 0, .int .i64 0, .int .i64 0, .int .i64 0, .int .i64 0, .int .i64 0], .agg #[.bool false, .int .i64 0, .int .i64 0, .int .i64 0, .int .i64 0, .int .i64 0, .int .i64 0]], []⟩ 8 (by kernel_rfl) (by kernel_rfl) (by kernel_rfl) (by kernel_rfl)) ?_
  intro W base args ds gs before hval0 hW hcnd _
  have hval : ∀ (j : Nat) t v, Try.f4.params[j]? = some t → args[j]? = some v → Value.okWide Try.prog W .any base t v := hval0
  have hW' := hW
  obtain ⟨p, q, hA0, hV, rfl, hfz, hnd⟩ := hW
  have hA : DataW.TrodAll enc Try.prog W 0 (fun _ => true) true Try.f4.params.toList args.toList ds p := hA0
  rw [Try.params4] at hA hval
  obtain ⟨v0, vs0, d0, ds0, p0, q0, hargs, rfl, rfl, h0, r0⟩ := trodAll_cons hA
  obtain ⟨v1, vs1, d1, ds1, p1, q1, rfl, rfl, rfl, h1, r1⟩ := trodAll_cons r0
  obtain ⟨v2, vs2, d2, ds2, p2, q2, rfl, rfl, rfl, h2, r2⟩ := trodAll_cons r1
  obtain ⟨v3, vs3, d3, ds3, p3, q3, rfl, rfl, rfl, h3, r3⟩ := trodAll_cons r2
  obtain ⟨v4, vs4, d4, ds4, p4, q4, rfl, rfl, rfl, h4, r4⟩ := trodAll_cons r3
  obtain ⟨v5, vs5, d5, ds5, p5, q5, rfl, rfl, rfl, h5, r5⟩ := trodAll_cons r4
  obtain ⟨rfl, rfl, rfl⟩ := trodAll_nil r5
  obtain rfl : args = #[v0, v1, v2, v3, v4, v5] := by cases args; simp_all
  obtain ⟨rfl, rfl⟩ := trodVars_none hV
  obtain ⟨s0, len0, c0, rfl⟩ := okWide_slice Try.underlying22 (hval 0 22 v0 rfl rfl)
  have k0 := h0
  have lt0 : ∀ x ∈ p0, x.block < W.heap.size := by obtain ⟨m, hm⟩ := k0; exact DataW.trod_lt m _ _ _ hm
  obtain ⟨a0, rfl, z0, y0, n0, A0⟩ := open_vals k0
  obtain ⟨a1p, a1b, a1l, a1a, a1s, rfl, rfl, rfl, w1p, w1b, w1l, w1a, w1s⟩ := open_key (hval 1 24 v1 rfl rfl) h1
  obtain ⟨a2, rfl, rfl, rfl, w2⟩ := open_int Try.underlying3 (hval 2 3 v2 rfl rfl) h2
  obtain ⟨a3, rfl, rfl, rfl, w3⟩ := open_int Try.underlying3 (hval 3 3 v3 rfl rfl) h3
  obtain ⟨a4i, a4n, a4p, a4b, a4l, a4a, a4s, rfl, rfl, rfl, w4n, w4p, w4b, w4l, w4a, w4s⟩ := open_val (hval 4 30 v4 rfl rfl) h4
  obtain ⟨a5i, a5n, a5p, a5b, a5l, a5a, a5s, rfl, rfl, rfl, w5n, w5p, w5b, w5l, w5a, w5s⟩ := open_val (hval 5 30 v5 rfl rfl) h5
  clear hA0 hval0
  refine (walk s0 c0 a0 a1p a1b a1l a1a a1s a2 a3 a4i a4n a4p a4b a4l a4a a4s a5i a5n a5p a5b a5l a5a a5s ⟨bounds_i64 w1p, bounds_i64 w1b, bounds_i64 w1l, bounds_i64 w1a, bounds_i64 w1s⟩ (bounds_i64 w2) (bounds_i64 w3) ⟨bounds_i64 w4n, bounds_i64 w4p, bounds_i64 w4b, bounds_i64 w4l, bounds_i64 w4a, bounds_i64 w4s⟩ ⟨bounds_i64 w5n, bounds_i64 w5p, bounds_i64 w5b, bounds_i64 w5l, bounds_i64 w5a, bounds_i64 w5s⟩ W n0 z0 y0 A0).mono fun e W' ⟨he, bel⟩ => ?_
  subst he
  exact ⟨_, rfl, _, _, _, [], _, [], hW', trodAll_mk1 (shut_bool Try.underlying4 _), (trodAll_cons_mk (Below.trod laidOut (by kernel_rfl) (of_decide_eq_true (by kernel_rfl)) k0 bel lt0) (trodAll_cons_mk (shut_key w1p w1b w1l w1a w1s) (trodAll_cons_mk (shut_int Try.underlying3 w2) (trodAll_cons_mk (shut_int Try.underlying3 w3) (trodAll_cons_mk (shut_val w4n w4p w4b w4l w4a w4s) (trodAll_cons_mk (shut_val w5n w5p w5b w5l w5a w5s) trodAll_mk0)))))), rfl, bel.frame _, fun h => by cases h⟩

theorem over : Rows.memApartRow.holds Try.pinned (OpenSpec.ofChange Rows.memApartSpec) :=
  OpenClaim.holds_of_wide 4 Try.f4 rfl rfl rfl rfl rfl rfl rfl ⟨rfl, rfl, rfl, rfl, rfl⟩ rfl rfl rfl rfl rfl (by kernel_rfl) Try.func4 (by kernel_rfl)
    (of_decide_eq_true (by kernel_rfl)) (by unfold Func.isWrapper; first | (rw [if_pos (by decide +kernel)]; kernel_rfl) | (rw [if_neg (by decide +kernel)]; exact ⟨rfl, rfl⟩))
    (fun os started H enc _ => lifted os started H enc)

theorem proved : Rows.MemApartSaid :=
  over
#print axioms proved
end Go.Proofs.Ytpkmpkbgngbkjab.memApart
