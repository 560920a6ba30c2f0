/- Chapter 8, P17: a key opens its own cells alone, and only as it allows, and only if it is not sealed: for every memory, key, number and value; nothing that was in memory is turned. -/
import Derived.Test.YtpkmpkbgngbkjaaRows
import Derived.Test.YtpkmpkbgngbkjaaKeyArg
import Derived.Test.YtpkmpkbgngbkjaaValArg
import Derived.Test.YtpkmpkbgngbkjaaValsArg
import Derived.Test.YtpkmpkbgngbkjaaKeyPure
import Derived.Test.YtpkmpkbgngbkjaaKeyChk
import Derived.Test.YtpkmpkbgngbkjaaKeyCov
import Derived.Test.YtpkmpkbgngbkjaaCellPure
import Derived.Test.YtpkmpkbgngbkjaaMemPure
import Derived.Test.YtpkmpkbgngbkjaaMemFacts
import Derived.Test.YtpkmpkbgngbkjaaMemChk
import Derived.Test.YtpkmpkbgngbkjaaMemUse
import Derived.Test.YtpkmpkbgngbkjaaMemLoaded
import Derived.WalkKit
import Derived.ProofKit
import Derived.OpenShut
namespace Go.Proofs.Ytpkmpkbgngbkjaa.memBounds
open Go.ChangeShapes Go.WideShapes Go.ChangeAt Go.RowKit
set_option linter.unusedVariables false
set_option linter.unusedSimpArgs false

theorem own : ownKnob Try.prog.godebug = none := by kernel_rfl
theorem laidOut : laidOutB Try.prog = true := by kernel_rfl


set_option maxHeartbeats 4000000 in
set_option maxRecDepth 1000000 in
theorem walk (s0 : Option Addr) (c0 : Nat) (a0 : List MV) (a1p a1b a1l a1a a1s : Int) (a2 : Int) (a3i : Bool) (a3n a3p a3b a3l a3a a3s : Int) (K1 : kb a1p a1b a1l a1a a1s) (b2 : -9223372036854775808 ≤ a2 ∧ a2 ≤ 9223372036854775807) (V3 : vb a3n a3p a3b a3l a3a a3s) (w : World) (n0 : mvsOk a0) (z0 : a0.length ≤ c0) (y0 : c0 ≤ maxLen) (A0 : ValsAt w s0 a0) :
    Calls Try.prog 8 #[.slice s0 a0.length c0, .agg #[.int .i64 a1p, .int .i64 a1b, .int .i64 a1l, .int .i64 a1a, .int .i64 a1s], .int .i64 a2, .agg #[.bool a3i, .int .i64 a3n, .int .i64 a3p, .int .i64 a3b, .int .i64 a3l, .int .i64 a3a, .int .i64 a3s]] w fun e w' => e = .returned (.bool true) ∧ Below w.heap.size w w' := by
  obtain ⟨k, rfl, rfl, rfl, rfl, rfl⟩ : ∃ k : K5, k.p = a1p ∧ k.b = a1b ∧ k.l = a1l ∧ k.a = a1a ∧ k.s = a1s := ⟨⟨a1p, a1b, a1l, a1a, a1s⟩, rfl, rfl, rfl, rfl, rfl⟩
  obtain ⟨v, rfl, rfl, rfl, rfl, rfl, rfl, rfl⟩ : ∃ v : MV, v.i = a3i ∧ v.n = a3n ∧ v.p = a3p ∧ v.b = a3b ∧ v.l = a3l ∧ v.a = a3a ∧ v.s = a3s := ⟨⟨a3i, a3n, a3p, a3b, a3l, a3a, a3s⟩, rfl, rfl, rfl, rfl, rfl, rfl, rfl⟩
  have hz : a0.length ≤ maxLen := Nat.le_trans z0 y0
  have lz : (a0.length : Int) ≤ 9223372036854775807 := by unfold maxLen at hz; omega
  have cL := fun w hA => mem_load s0 c0 a0 k a2 w hA n0 K1 b2
  have cS := fun w hA => mem_store s0 c0 a0 k a2 v w hA n0 K1 b2 V3
  have cM := fun w hA => mem_check s0 c0 a0 w hA n0
  have cK := fun w => keys_check k.p k.b k.l k.a k.s w K1
  have cC := fun x w hx => keys_covers k.p k.b k.l k.a k.s x w K1 hx
  have HA : Hid (∀ w', Below w.heap.size w w' → ValsAt w' s0 a0) := fun w' hb => A0.below hb
  have mE : (memE a0 != 0) = true ∨ memE a0 = 0 := by by_cases h : memE a0 = 0 <;> simp [h]
  have eK : chkE k.p k.b k.l k.a k.s = chk5 k := rfl
  rw [eK] at cK
  clear eK A0 z0 y0 n0 hz
  rcases good_cases a0 k a2 v with ⟨hk, hE, hF⟩ | ⟨-, hk, hs, hE, hF⟩ | ⟨-, hk, hs, h1, hE, hF⟩ | ⟨-, hk, hs, h1, h2, hE, hF⟩ | ⟨ho, hk, hs, h1, h2, hc, hE, hF⟩ | ⟨ho, hk, hs, h1, h2, hc, h3, hE, hF⟩ | ⟨ho, hk, hs, h1, h2, hc, h3⟩
  · rw [load_no hE] at cL
    dsimp only [nil0] at cL
    have gE : (loadE a0 k a2 != 0) = true := by simpa using hE
    have gE2 : (loadE a0 k a2 == 0) = false := by simpa using hE
    have gF : (storeE a0 k a2 v != 0) = true := by simpa using hF
    rw [hk] at cK
    clear hk hE hF cC
    generalize loadE a0 k a2 = E at *
    generalize storeE a0 k a2 v = F at *
    generalize memE a0 = M at *
    rcases mE with gM | rfl
    all_goals
      go_enter Try.func8, Try.ntmps8
      go_wp2_with (first | (go_at_call 17; refine (keep_loaded _).mono ?_; rintro e w1 ⟨rfl, hbb⟩; have B1 := ((Box.new _ _ _).alloc _).below hbb; have B2 := (Box.new1 _ _ _ _).below hbb; have q1 := B1.cell; have q2 := B2.cell; have t1 := B1.lt; have t2 := B2.lt; have hB1 := Below.step0 (two _ _) hbb; clear hbb) | (go_at_call 9; refine (cL _ (HA.out _ hB1)).mono ?_; rintro e w2 ⟨rfl, hbb⟩; replace B1 := B1.below hbb; replace B2 := B2.below hbb; replace q1 := B1.cell; replace q2 := B2.cell; replace t1 := B1.lt; replace t2 := B2.lt; have hB2 := Below.step0 hB1 hbb; clear hbb cL) | (go_at_call 13; refine (cS _ (HA.out _ (hB2.alloc hB2.size _))).mono ?_; rintro e w3 ⟨sa, sd, rfl, hbb, hA3, hd3⟩; have B3 := (Box.new _ _ _).below hbb; replace B1 := (B1.alloc _).below hbb; replace q1 := B1.cell; have q3 := B3.cell; have hB3 := Below.step0 (hB2.alloc hB2.size _) hbb; clear hbb cS q2 t1 t2 B2) | (go_at_call 18; refine (cK _).mono ?_; rintro e w4 ⟨rfl, hbb⟩; replace B1 := B1.below hbb; replace B3 := B3.below hbb; replace q1 := B1.cell; replace q3 := B3.cell; have hB4 := Below.step0 hB3 hbb; clear hbb cK) | (go_at_call 19; refine (cC' _).mono ?_; rintro e w5 ⟨rfl, hbb⟩; replace B1 := B1.below hbb; replace B3 := B3.below hbb; replace q1 := B1.cell; replace q3 := B3.cell; have hB5 := Below.step0 hB4 hbb; clear hbb cC') | (go_at_call 11; refine (cM _ (HA.out _ hB4)).mono ?_; rintro e w6 ⟨rfl, hbb⟩; replace B1 := B1.below hbb; replace B3 := B3.below hbb; replace q1 := B1.cell; replace q3 := B3.cell; have hB5 := Below.step0 hB4 hbb; clear hbb cM))
      go_ret
      exact ⟨rfl, hB5⟩
  · rw [load_no hE] at cL
    dsimp only [nil0] at cL
    have gE : (loadE a0 k a2 != 0) = true := by simpa using hE
    have gE2 : (loadE a0 k a2 == 0) = false := by simpa using hE
    have gF : (storeE a0 k a2 v != 0) = true := by simpa using hF
    have gs : (k.s == 0) = false := by simpa using hs
    rw [hk] at cK
    clear hk hE hF hs cC
    generalize loadE a0 k a2 = E at *
    generalize storeE a0 k a2 v = F at *
    generalize memE a0 = M at *
    rcases mE with gM | rfl
    all_goals
      go_enter Try.func8, Try.ntmps8
      go_wp2_with (first | (go_at_call 17; refine (keep_loaded _).mono ?_; rintro e w1 ⟨rfl, hbb⟩; have B1 := ((Box.new _ _ _).alloc _).below hbb; have B2 := (Box.new1 _ _ _ _).below hbb; have q1 := B1.cell; have q2 := B2.cell; have t1 := B1.lt; have t2 := B2.lt; have hB1 := Below.step0 (two _ _) hbb; clear hbb) | (go_at_call 9; refine (cL _ (HA.out _ hB1)).mono ?_; rintro e w2 ⟨rfl, hbb⟩; replace B1 := B1.below hbb; replace B2 := B2.below hbb; replace q1 := B1.cell; replace q2 := B2.cell; replace t1 := B1.lt; replace t2 := B2.lt; have hB2 := Below.step0 hB1 hbb; clear hbb cL) | (go_at_call 13; refine (cS _ (HA.out _ (hB2.alloc hB2.size _))).mono ?_; rintro e w3 ⟨sa, sd, rfl, hbb, hA3, hd3⟩; have B3 := (Box.new _ _ _).below hbb; replace B1 := (B1.alloc _).below hbb; replace q1 := B1.cell; have q3 := B3.cell; have hB3 := Below.step0 (hB2.alloc hB2.size _) hbb; clear hbb cS q2 t1 t2 B2) | (go_at_call 18; refine (cK _).mono ?_; rintro e w4 ⟨rfl, hbb⟩; replace B1 := B1.below hbb; replace B3 := B3.below hbb; replace q1 := B1.cell; replace q3 := B3.cell; have hB4 := Below.step0 hB3 hbb; clear hbb cK) | (go_at_call 19; refine (cC' _).mono ?_; rintro e w5 ⟨rfl, hbb⟩; replace B1 := B1.below hbb; replace B3 := B3.below hbb; replace q1 := B1.cell; replace q3 := B3.cell; have hB5 := Below.step0 hB4 hbb; clear hbb cC') | (go_at_call 11; refine (cM _ (HA.out _ hB4)).mono ?_; rintro e w6 ⟨rfl, hbb⟩; replace B1 := B1.below hbb; replace B3 := B3.below hbb; replace q1 := B1.cell; replace q3 := B3.cell; have hB5 := Below.step0 hB4 hbb; clear hbb cM))
      go_ret
      exact ⟨rfl, hB5⟩
  · rw [load_no hE] at cL
    dsimp only [nil0] at cL
    have gE : (loadE a0 k a2 != 0) = true := by simpa using hE
    have gE2 : (loadE a0 k a2 == 0) = false := by simpa using hE
    have gF : (storeE a0 k a2 v != 0) = true := by simpa using hF
    have gs : (k.s == 0) = true := by simpa using hs
    rw [hk] at cK
    clear hk hE hF cC hs
    generalize loadE a0 k a2 = E at *
    generalize storeE a0 k a2 v = F at *
    generalize memE a0 = M at *
    rcases mE with gM | rfl
    all_goals
      go_enter Try.func8, Try.ntmps8
      go_wp2_with (first | (go_at_call 17; refine (keep_loaded _).mono ?_; rintro e w1 ⟨rfl, hbb⟩; have B1 := ((Box.new _ _ _).alloc _).below hbb; have B2 := (Box.new1 _ _ _ _).below hbb; have q1 := B1.cell; have q2 := B2.cell; have t1 := B1.lt; have t2 := B2.lt; have hB1 := Below.step0 (two _ _) hbb; clear hbb) | (go_at_call 9; refine (cL _ (HA.out _ hB1)).mono ?_; rintro e w2 ⟨rfl, hbb⟩; replace B1 := B1.below hbb; replace B2 := B2.below hbb; replace q1 := B1.cell; replace q2 := B2.cell; replace t1 := B1.lt; replace t2 := B2.lt; have hB2 := Below.step0 hB1 hbb; clear hbb cL) | (go_at_call 13; refine (cS _ (HA.out _ (hB2.alloc hB2.size _))).mono ?_; rintro e w3 ⟨sa, sd, rfl, hbb, hA3, hd3⟩; have B3 := (Box.new _ _ _).below hbb; replace B1 := (B1.alloc _).below hbb; replace q1 := B1.cell; have q3 := B3.cell; have hB3 := Below.step0 (hB2.alloc hB2.size _) hbb; clear hbb cS q2 t1 t2 B2) | (go_at_call 18; refine (cK _).mono ?_; rintro e w4 ⟨rfl, hbb⟩; replace B1 := B1.below hbb; replace B3 := B3.below hbb; replace q1 := B1.cell; replace q3 := B3.cell; have hB4 := Below.step0 hB3 hbb; clear hbb cK) | (go_at_call 19; refine (cC' _).mono ?_; rintro e w5 ⟨rfl, hbb⟩; replace B1 := B1.below hbb; replace B3 := B3.below hbb; replace q1 := B1.cell; replace q3 := B3.cell; have hB5 := Below.step0 hB4 hbb; clear hbb cC') | (go_at_call 11; refine (cM _ (HA.out _ hB4)).mono ?_; rintro e w6 ⟨rfl, hbb⟩; replace B1 := B1.below hbb; replace B3 := B3.below hbb; replace q1 := B1.cell; replace q3 := B3.cell; have hB5 := Below.step0 hB4 hbb; clear hbb cM))
      go_ret
      exact ⟨rfl, hB5⟩
  · rw [load_no hE] at cL
    dsimp only [nil0] at cL
    have gE : (loadE a0 k a2 != 0) = true := by simpa using hE
    have gE2 : (loadE a0 k a2 == 0) = false := by simpa using hE
    have gF : (storeE a0 k a2 v != 0) = true := by simpa using hF
    have gs : (k.s == 0) = true := by simpa using hs
    rw [hk] at cK
    clear hk hE hF cC hs
    generalize loadE a0 k a2 = E at *
    generalize storeE a0 k a2 v = F at *
    generalize memE a0 = M at *
    rcases mE with gM | rfl
    all_goals
      go_enter Try.func8, Try.ntmps8
      go_wp2_with (first | (go_at_call 17; refine (keep_loaded _).mono ?_; rintro e w1 ⟨rfl, hbb⟩; have B1 := ((Box.new _ _ _).alloc _).below hbb; have B2 := (Box.new1 _ _ _ _).below hbb; have q1 := B1.cell; have q2 := B2.cell; have t1 := B1.lt; have t2 := B2.lt; have hB1 := Below.step0 (two _ _) hbb; clear hbb) | (go_at_call 9; refine (cL _ (HA.out _ hB1)).mono ?_; rintro e w2 ⟨rfl, hbb⟩; replace B1 := B1.below hbb; replace B2 := B2.below hbb; replace q1 := B1.cell; replace q2 := B2.cell; replace t1 := B1.lt; replace t2 := B2.lt; have hB2 := Below.step0 hB1 hbb; clear hbb cL) | (go_at_call 13; refine (cS _ (HA.out _ (hB2.alloc hB2.size _))).mono ?_; rintro e w3 ⟨sa, sd, rfl, hbb, hA3, hd3⟩; have B3 := (Box.new _ _ _).below hbb; replace B1 := (B1.alloc _).below hbb; replace q1 := B1.cell; have q3 := B3.cell; have hB3 := Below.step0 (hB2.alloc hB2.size _) hbb; clear hbb cS q2 t1 t2 B2) | (go_at_call 18; refine (cK _).mono ?_; rintro e w4 ⟨rfl, hbb⟩; replace B1 := B1.below hbb; replace B3 := B3.below hbb; replace q1 := B1.cell; replace q3 := B3.cell; have hB4 := Below.step0 hB3 hbb; clear hbb cK) | (go_at_call 19; refine (cC' _).mono ?_; rintro e w5 ⟨rfl, hbb⟩; replace B1 := B1.below hbb; replace B3 := B3.below hbb; replace q1 := B1.cell; replace q3 := B3.cell; have hB5 := Below.step0 hB4 hbb; clear hbb cC') | (go_at_call 11; refine (cM _ (HA.out _ hB4)).mono ?_; rintro e w6 ⟨rfl, hbb⟩; replace B1 := B1.below hbb; replace B3 := B3.below hbb; replace q1 := B1.cell; replace q3 := B3.cell; have hB5 := Below.step0 hB4 hbb; clear hbb cM))
      go_ret
      exact ⟨rfl, hB5⟩
  · rw [load_no hE] at cL
    dsimp only [nil0] at cL
    have gE : (loadE a0 k a2 != 0) = true := by simpa using hE
    have gE2 : (loadE a0 k a2 == 0) = false := by simpa using hE
    have gF : (storeE a0 k a2 v != 0) = true := by simpa using hF
    have gs : (k.s == 0) = true := by simpa using hs
    have hl := ok5_lit ho
    have ga : 0 ≤ k.a ∧ k.a ≤ 400 := by omega
    have cC' := fun w => cC (k.a + a2) w (by omega)
    rw [show covB k.b k.l (k.a + a2) = cov5 k (k.a + a2) from rfl, hc] at cC'
    rw [hk] at cK
    clear hk hE hF cC hs ho hc hl
    generalize loadE a0 k a2 = E at *
    generalize storeE a0 k a2 v = F at *
    generalize memE a0 = M at *
    rcases mE with gM | rfl
    all_goals
      go_enter Try.func8, Try.ntmps8
      go_wp2_with (first | (go_at_call 17; refine (keep_loaded _).mono ?_; rintro e w1 ⟨rfl, hbb⟩; have B1 := ((Box.new _ _ _).alloc _).below hbb; have B2 := (Box.new1 _ _ _ _).below hbb; have q1 := B1.cell; have q2 := B2.cell; have t1 := B1.lt; have t2 := B2.lt; have hB1 := Below.step0 (two _ _) hbb; clear hbb) | (go_at_call 9; refine (cL _ (HA.out _ hB1)).mono ?_; rintro e w2 ⟨rfl, hbb⟩; replace B1 := B1.below hbb; replace B2 := B2.below hbb; replace q1 := B1.cell; replace q2 := B2.cell; replace t1 := B1.lt; replace t2 := B2.lt; have hB2 := Below.step0 hB1 hbb; clear hbb cL) | (go_at_call 13; refine (cS _ (HA.out _ (hB2.alloc hB2.size _))).mono ?_; rintro e w3 ⟨sa, sd, rfl, hbb, hA3, hd3⟩; have B3 := (Box.new _ _ _).below hbb; replace B1 := (B1.alloc _).below hbb; replace q1 := B1.cell; have q3 := B3.cell; have hB3 := Below.step0 (hB2.alloc hB2.size _) hbb; clear hbb cS q2 t1 t2 B2) | (go_at_call 18; refine (cK _).mono ?_; rintro e w4 ⟨rfl, hbb⟩; replace B1 := B1.below hbb; replace B3 := B3.below hbb; replace q1 := B1.cell; replace q3 := B3.cell; have hB4 := Below.step0 hB3 hbb; clear hbb cK) | (go_at_call 19; refine (cC' _).mono ?_; rintro e w5 ⟨rfl, hbb⟩; replace B1 := B1.below hbb; replace B3 := B3.below hbb; replace q1 := B1.cell; replace q3 := B3.cell; have hB5 := Below.step0 hB4 hbb; clear hbb cC') | (go_at_call 11; refine (cM _ (HA.out _ hB5)).mono ?_; rintro e w6 ⟨rfl, hbb⟩; replace B1 := B1.below hbb; replace B3 := B3.below hbb; replace q1 := B1.cell; replace q3 := B3.cell; have hB6 := Below.step0 hB5 hbb; clear hbb cM))
      go_ret
      exact ⟨rfl, hB6⟩
  · rw [load_no hE] at cL
    dsimp only [nil0] at cL
    have gE : (loadE a0 k a2 != 0) = true := by simpa using hE
    have gE2 : (loadE a0 k a2 == 0) = false := by simpa using hE
    have gF : (storeE a0 k a2 v != 0) = true := by simpa using hF
    have gs : (k.s == 0) = true := by simpa using hs
    have hl := ok5_lit ho
    have ga : 0 ≤ k.a ∧ k.a ≤ 400 := by omega
    have cC' := fun w => cC (k.a + a2) w (by omega)
    rw [show covB k.b k.l (k.a + a2) = cov5 k (k.a + a2) from rfl, hc] at cC'
    rw [hk] at cK
    clear hk hE hF cC hs ho hc hl
    generalize loadE a0 k a2 = E at *
    generalize storeE a0 k a2 v = F at *
    generalize memE a0 = M at *
    rcases mE with gM | rfl
    all_goals
      go_enter Try.func8, Try.ntmps8
      go_wp2_with (first | (go_at_call 17; refine (keep_loaded _).mono ?_; rintro e w1 ⟨rfl, hbb⟩; have B1 := ((Box.new _ _ _).alloc _).below hbb; have B2 := (Box.new1 _ _ _ _).below hbb; have q1 := B1.cell; have q2 := B2.cell; have t1 := B1.lt; have t2 := B2.lt; have hB1 := Below.step0 (two _ _) hbb; clear hbb) | (go_at_call 9; refine (cL _ (HA.out _ hB1)).mono ?_; rintro e w2 ⟨rfl, hbb⟩; replace B1 := B1.below hbb; replace B2 := B2.below hbb; replace q1 := B1.cell; replace q2 := B2.cell; replace t1 := B1.lt; replace t2 := B2.lt; have hB2 := Below.step0 hB1 hbb; clear hbb cL) | (go_at_call 13; refine (cS _ (HA.out _ (hB2.alloc hB2.size _))).mono ?_; rintro e w3 ⟨sa, sd, rfl, hbb, hA3, hd3⟩; have B3 := (Box.new _ _ _).below hbb; replace B1 := (B1.alloc _).below hbb; replace q1 := B1.cell; have q3 := B3.cell; have hB3 := Below.step0 (hB2.alloc hB2.size _) hbb; clear hbb cS q2 t1 t2 B2) | (go_at_call 18; refine (cK _).mono ?_; rintro e w4 ⟨rfl, hbb⟩; replace B1 := B1.below hbb; replace B3 := B3.below hbb; replace q1 := B1.cell; replace q3 := B3.cell; have hB4 := Below.step0 hB3 hbb; clear hbb cK) | (go_at_call 19; refine (cC' _).mono ?_; rintro e w5 ⟨rfl, hbb⟩; replace B1 := B1.below hbb; replace B3 := B3.below hbb; replace q1 := B1.cell; replace q3 := B3.cell; have hB5 := Below.step0 hB4 hbb; clear hbb cC') | (go_at_call 11; refine (cM _ (HA.out _ hB5)).mono ?_; rintro e w6 ⟨rfl, hbb⟩; replace B1 := B1.below hbb; replace B3 := B3.below hbb; replace q1 := B1.cell; replace q3 := B3.cell; have hB6 := Below.step0 hB5 hbb; clear hbb cM))
      go_ret
      exact ⟨rfl, hB6⟩
  · have gs : (k.s == 0) = true := by simpa using hs
    have hl := ok5_lit ho
    have ga : 0 ≤ k.a ∧ k.a ≤ 400 := by omega
    have cC' := fun w => cC (k.a + a2) w (by omega)
    rw [show covB k.b k.l (k.a + a2) = cov5 k (k.a + a2) from rfl, hc] at cC'
    rw [hk] at cK
    obtain ⟨an1, an2⟩ := and_in (p := k.p) ⟨hl.1, hl.2.1⟩
    by_cases hm : memE a0 = 0
    · have eL : inB 1 k.p = true → loadE a0 k a2 = 0 := fun h => load_mk hm (plE_mk ho hs h hc h3)
      have eL' : loadE a0 k a2 = 0 → inB 1 k.p = true := fun h => (load_yes h).2.p
      have eS' : storeE a0 k a2 v = 0 → inB 2 k.p = true := fun h => (store_yes h).2.2.1.p
      have w1 : (loadE a0 k a2 = 0 ∧ 0 < bits .and .i64 k.p 1) ∨ ((loadE a0 k a2 != 0) = true ∧ (loadE a0 k a2 == 0) = false ∧ decide (0 < bits .and .i64 k.p 1) = false ∧ loadV a0 k a2 = nil0) := by
        cases h : inB 1 k.p
        · have hn : ¬ loadE a0 k a2 = 0 := fun h' => by rw [eL' h'] at h; cases h
          exact .inr ⟨by simpa using hn, by simpa using hn, an1.trans h, load_no hn⟩
        · exact .inl ⟨eL h, by rw [h] at an1; exact of_decide_eq_true an1⟩
      have w2 : (storeE a0 k a2 v = 0 ∧ 0 < bits .and .i64 k.p 2) ∨ (storeE a0 k a2 v != 0) = true := by
        by_cases h : storeE a0 k a2 v = 0
        · exact .inl ⟨h, by rw [eS' h] at an2; exact of_decide_eq_true an2⟩
        · exact .inr (by simpa using h)
      rw [hm] at cM
      generalize loadV a0 k a2 = V at *
      clear hk hs ho hc hl an1 an2 eL eL' eS' mE cC hm
      generalize loadE a0 k a2 = E at *
      generalize storeE a0 k a2 v = F at *
      rcases w1 with ⟨rfl, g1⟩ | ⟨gE, gE2, g1, rfl⟩
      · rcases w2 with ⟨rfl, g2⟩ | gF
        all_goals
          go_enter Try.func8, Try.ntmps8
          go_wp2_with (first | (go_at_call 17; refine (keep_loaded _).mono ?_; rintro e w1 ⟨rfl, hbb⟩; have B1 := ((Box.new _ _ _).alloc _).below hbb; have B2 := (Box.new1 _ _ _ _).below hbb; have q1 := B1.cell; have q2 := B2.cell; have t1 := B1.lt; have t2 := B2.lt; have hB1 := Below.step0 (two _ _) hbb; clear hbb) | (go_at_call 9; refine (cL _ (HA.out _ hB1)).mono ?_; rintro e w2 ⟨rfl, hbb⟩; replace B1 := B1.below hbb; replace B2 := B2.below hbb; replace q1 := B1.cell; replace q2 := B2.cell; replace t1 := B1.lt; replace t2 := B2.lt; have hB2 := Below.step0 hB1 hbb; clear hbb cL) | (go_at_call 13; refine (cS _ (HA.out _ (hB2.alloc hB2.size _))).mono ?_; rintro e w3 ⟨sa, sd, rfl, hbb, hA3, hd3⟩; have B3 := (Box.new _ _ _).below hbb; replace B1 := (B1.alloc _).below hbb; replace q1 := B1.cell; have q3 := B3.cell; have hB3 := Below.step0 (hB2.alloc hB2.size _) hbb; clear hbb cS q2 t1 t2 B2) | (go_at_call 18; refine (cK _).mono ?_; rintro e w4 ⟨rfl, hbb⟩; replace B1 := B1.below hbb; replace B3 := B3.below hbb; replace q1 := B1.cell; replace q3 := B3.cell; have hB4 := Below.step0 hB3 hbb; clear hbb cK) | (go_at_call 19; refine (cC' _).mono ?_; rintro e w5 ⟨rfl, hbb⟩; replace B1 := B1.below hbb; replace B3 := B3.below hbb; replace q1 := B1.cell; replace q3 := B3.cell; have hB5 := Below.step0 hB4 hbb; clear hbb cC') | (go_at_call 11; refine (cM _ (HA.out _ hB5)).mono ?_; rintro e w6 ⟨rfl, hbb⟩; replace B1 := B1.below hbb; replace B3 := B3.below hbb; replace q1 := B1.cell; replace q3 := B3.cell; have hB6 := Below.step0 hB5 hbb; clear hbb cM))
          go_ret
          exact ⟨rfl, hB6⟩
      · dsimp only [nil0] at cL
        rcases w2 with ⟨rfl, g2⟩ | gF
        all_goals
          go_enter Try.func8, Try.ntmps8
          go_wp2_with (first | (go_at_call 17; refine (keep_loaded _).mono ?_; rintro e w1 ⟨rfl, hbb⟩; have B1 := ((Box.new _ _ _).alloc _).below hbb; have B2 := (Box.new1 _ _ _ _).below hbb; have q1 := B1.cell; have q2 := B2.cell; have t1 := B1.lt; have t2 := B2.lt; have hB1 := Below.step0 (two _ _) hbb; clear hbb) | (go_at_call 9; refine (cL _ (HA.out _ hB1)).mono ?_; rintro e w2 ⟨rfl, hbb⟩; replace B1 := B1.below hbb; replace B2 := B2.below hbb; replace q1 := B1.cell; replace q2 := B2.cell; replace t1 := B1.lt; replace t2 := B2.lt; have hB2 := Below.step0 hB1 hbb; clear hbb cL) | (go_at_call 13; refine (cS _ (HA.out _ (hB2.alloc hB2.size _))).mono ?_; rintro e w3 ⟨sa, sd, rfl, hbb, hA3, hd3⟩; have B3 := (Box.new _ _ _).below hbb; replace B1 := (B1.alloc _).below hbb; replace q1 := B1.cell; have q3 := B3.cell; have hB3 := Below.step0 (hB2.alloc hB2.size _) hbb; clear hbb cS q2 t1 t2 B2) | (go_at_call 18; refine (cK _).mono ?_; rintro e w4 ⟨rfl, hbb⟩; replace B1 := B1.below hbb; replace B3 := B3.below hbb; replace q1 := B1.cell; replace q3 := B3.cell; have hB4 := Below.step0 hB3 hbb; clear hbb cK) | (go_at_call 19; refine (cC' _).mono ?_; rintro e w5 ⟨rfl, hbb⟩; replace B1 := B1.below hbb; replace B3 := B3.below hbb; replace q1 := B1.cell; replace q3 := B3.cell; have hB5 := Below.step0 hB4 hbb; clear hbb cC') | (go_at_call 11; refine (cM _ (HA.out _ hB5)).mono ?_; rintro e w6 ⟨rfl, hbb⟩; replace B1 := B1.below hbb; replace B3 := B3.below hbb; replace q1 := B1.cell; replace q3 := B3.cell; have hB6 := Below.step0 hB5 hbb; clear hbb cM))
          go_ret
          exact ⟨rfl, hB6⟩
    · have hE : ¬ loadE a0 k a2 = 0 := fun h => hm (load_yes h).1
      have hF : ¬ storeE a0 k a2 v = 0 := fun h => hm (store_yes h).1
      have gE : (loadE a0 k a2 != 0) = true := by simpa using hE
      have gE2 : (loadE a0 k a2 == 0) = false := by simpa using hE
      have gF : (storeE a0 k a2 v != 0) = true := by simpa using hF
      have gM : (memE a0 != 0) = true := by simpa using hm
      clear hk hs ho hc hl an1 an2 mE cC hm hE hF
      generalize loadE a0 k a2 = E at *
      generalize loadV a0 k a2 = V at *
      generalize storeE a0 k a2 v = F at *
      generalize memE a0 = M at *
      go_enter Try.func8, Try.ntmps8
      go_wp2_with (first | (go_at_call 17; refine (keep_loaded _).mono ?_; rintro e w1 ⟨rfl, hbb⟩; have B1 := ((Box.new _ _ _).alloc _).below hbb; have B2 := (Box.new1 _ _ _ _).below hbb; have q1 := B1.cell; have q2 := B2.cell; have t1 := B1.lt; have t2 := B2.lt; have hB1 := Below.step0 (two _ _) hbb; clear hbb) | (go_at_call 9; refine (cL _ (HA.out _ hB1)).mono ?_; rintro e w2 ⟨rfl, hbb⟩; replace B1 := B1.below hbb; replace B2 := B2.below hbb; replace q1 := B1.cell; replace q2 := B2.cell; replace t1 := B1.lt; replace t2 := B2.lt; have hB2 := Below.step0 hB1 hbb; clear hbb cL) | (go_at_call 13; refine (cS _ (HA.out _ (hB2.alloc hB2.size _))).mono ?_; rintro e w3 ⟨sa, sd, rfl, hbb, hA3, hd3⟩; have B3 := (Box.new _ _ _).below hbb; replace B1 := (B1.alloc _).below hbb; replace q1 := B1.cell; have q3 := B3.cell; have hB3 := Below.step0 (hB2.alloc hB2.size _) hbb; clear hbb cS q2 t1 t2 B2) | (go_at_call 18; refine (cK _).mono ?_; rintro e w4 ⟨rfl, hbb⟩; replace B1 := B1.below hbb; replace B3 := B3.below hbb; replace q1 := B1.cell; replace q3 := B3.cell; have hB4 := Below.step0 hB3 hbb; clear hbb cK) | (go_at_call 19; refine (cC' _).mono ?_; rintro e w5 ⟨rfl, hbb⟩; replace B1 := B1.below hbb; replace B3 := B3.below hbb; replace q1 := B1.cell; replace q3 := B3.cell; have hB5 := Below.step0 hB4 hbb; clear hbb cC') | (go_at_call 11; refine (cM _ (HA.out _ hB5)).mono ?_; rintro e w6 ⟨rfl, hbb⟩; replace B1 := B1.below hbb; replace B3 := B3.below hbb; replace q1 := B1.cell; replace q3 := B3.cell; have hB6 := Below.step0 hB5 hbb; clear hbb cM))
      go_ret
      exact ⟨rfl, hB6⟩

set_option maxRecDepth 100000 in
theorem lifted (os : Os) (started : os.Started) (H : Type) (enc : TypeId × Value → H) :
    ReturnsInHanded {} Try.checked os 8 .any (Rows.memBoundsSpec.pre6 enc Try.prog Try.f8 Rows.memBoundsRow.domain false) (Rows.memBoundsSpec.post enc Try.prog Try.f8 false true false false) := by
  refine returnsInHanded_of_change (C := Try.checked) own started (by kernel_rfl) Try.func8
    (ChangeSpec.witness6 (enc := enc) (C := Try.checked) false ⟨#[], #[.slice none 0 0, .agg #[.int .i64 0, .int .i64 0, .int .i64 0, .int .i64 0, .int .i64 0], .int .i64 0, .agg #[.bool false, .int .i64 0, .int .i64 0, .int .i64 0, .int .i64 0, .int .i64 0, .int .i64 0]], []⟩ 8 (by kernel_rfl) (by kernel_rfl) (by kernel_rfl) (by kernel_rfl)) ?_
  intro W base args ds gs before hval0 hW hcnd _
  have hval : ∀ (j : Nat) t v, Try.f8.params[j]? = some t → args[j]? = some v → Value.okWide Try.prog W .any base t v := hval0
  have hW' := hW
  obtain ⟨p, q, hA0, hV, rfl, hfz, hnd⟩ := hW
  have hA : DataW.TrodAll enc Try.prog W 0 (fun _ => true) true Try.f8.params.toList args.toList ds p := hA0
  rw [Try.params8] at hA hval
  obtain ⟨v0, vs0, d0, ds0, p0, q0, hargs, rfl, rfl, h0, r0⟩ := trodAll_cons hA
  obtain ⟨v1, vs1, d1, ds1, p1, q1, rfl, rfl, rfl, h1, r1⟩ := trodAll_cons r0
  obtain ⟨v2, vs2, d2, ds2, p2, q2, rfl, rfl, rfl, h2, r2⟩ := trodAll_cons r1
  obtain ⟨v3, vs3, d3, ds3, p3, q3, rfl, rfl, rfl, h3, r3⟩ := trodAll_cons r2
  obtain ⟨rfl, rfl, rfl⟩ := trodAll_nil r3
  obtain rfl : args = #[v0, v1, v2, v3] := by cases args; simp_all
  obtain ⟨rfl, rfl⟩ := trodVars_none hV
  obtain ⟨s0, len0, c0, rfl⟩ := okWide_slice Try.underlying22 (hval 0 22 v0 rfl rfl)
  have k0 := h0
  have lt0 : ∀ x ∈ p0, x.block < W.heap.size := by obtain ⟨m, hm⟩ := k0; exact DataW.trod_lt m _ _ _ hm
  obtain ⟨a0, rfl, z0, y0, n0, A0⟩ := open_vals k0
  obtain ⟨a1p, a1b, a1l, a1a, a1s, rfl, rfl, rfl, w1p, w1b, w1l, w1a, w1s⟩ := open_key (hval 1 24 v1 rfl rfl) h1
  obtain ⟨a2, rfl, rfl, rfl, w2⟩ := open_int Try.underlying3 (hval 2 3 v2 rfl rfl) h2
  obtain ⟨a3i, a3n, a3p, a3b, a3l, a3a, a3s, rfl, rfl, rfl, w3n, w3p, w3b, w3l, w3a, w3s⟩ := open_val (hval 3 26 v3 rfl rfl) h3
  clear hA0 hval0
  refine (walk s0 c0 a0 a1p a1b a1l a1a a1s a2 a3i a3n a3p a3b a3l a3a a3s ⟨bounds_i64 w1p, bounds_i64 w1b, bounds_i64 w1l, bounds_i64 w1a, bounds_i64 w1s⟩ (bounds_i64 w2) ⟨bounds_i64 w3n, bounds_i64 w3p, bounds_i64 w3b, bounds_i64 w3l, bounds_i64 w3a, bounds_i64 w3s⟩ W n0 z0 y0 A0).mono fun e W' ⟨he, bel⟩ => ?_
  subst he
  exact ⟨_, rfl, _, _, _, [], _, [], hW', trodAll_mk1 (shut_bool Try.underlying4 _), (trodAll_cons_mk (Below.trod laidOut (by kernel_rfl) (of_decide_eq_true (by kernel_rfl)) k0 bel lt0) (trodAll_cons_mk (shut_key w1p w1b w1l w1a w1s) (trodAll_cons_mk (shut_int Try.underlying3 w2) (trodAll_cons_mk (shut_val w3n w3p w3b w3l w3a w3s) trodAll_mk0)))), rfl, bel.frame _, fun h => by cases h⟩

theorem over : Rows.memBoundsRow.holds Try.pinned (OpenSpec.ofChange Rows.memBoundsSpec) :=
  OpenClaim.holds_of_wide 8 Try.f8 rfl rfl rfl rfl rfl rfl rfl ⟨rfl, rfl, rfl, rfl, rfl⟩ rfl rfl rfl rfl rfl (by kernel_rfl) Try.func8 (by kernel_rfl)
    (of_decide_eq_true (by kernel_rfl)) (by unfold Func.isWrapper; first | (rw [if_pos (by decide +kernel)]; kernel_rfl) | (rw [if_neg (by decide +kernel)]; exact ⟨rfl, rfl⟩))
    (fun os started H enc _ => lifted os started H enc)

theorem proved : Rows.MemBoundsSaid :=
  over
#print axioms proved
end Go.Proofs.Ytpkmpkbgngbkjaa.memBounds
