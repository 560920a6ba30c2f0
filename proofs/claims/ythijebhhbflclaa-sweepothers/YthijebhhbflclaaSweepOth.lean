/- package sweep: Sweep. -/
import Derived.Test.YthijebhhbflclaaRows
import Derived.Test.YthijebhhbflclaaBits
import Derived.Test.YthijebhhbflclaaKeyPure
import Derived.Test.YthijebhhbflclaaCellPure
import Derived.Test.YthijebhhbflclaaValsArg
import Derived.Test.YthijebhhbflclaaMemPure
import Derived.Test.YthijebhhbflclaaMachArg
import Derived.Test.YthijebhhbflclaaStepChk
import Derived.Test.YthijebhhbflclaaStepChk2
import Derived.Test.YthijebhhbflclaaMachMid
import Derived.Test.YthijebhhbflclaaSweepPure
import Derived.Test.YthijebhhbflclaaSweepStrike
import Derived.Test.YthijebhhbflclaaSweepGo
import Derived.Test.YthijebhhbflclaaRowMade
import Derived.Test.YthijebhhbflclaaRowApp
import Derived.Test.YthijebhhbflclaaMachSet
import Derived.WalkKit
import Derived.ProofKit
import Derived.OpenShut
import Derived.Deep.MidRow
import Derived.Deep.CutBlock
import Derived.Deep.RegionHeld3
namespace Go.Proofs.Ythijebhhbflclaa
open Go.ChangeShapes Go.WideShapes Go.ChangeAt Go.RowKit
set_option linter.unusedSimpArgs false
set_option linter.unusedVariables false
set_option maxRecDepth 100000

set_option maxHeartbeats 2000000 in
theorem oth_hits (k : K5) (b n : Int) (Bb Bn : Nat) (w : World) (hb : 0 ≤ b ∧ 0 ≤ n ∧ b + n ≤ 400) (hk : ok5 k) (cb : w.cell? ⟨Bb, 0, none⟩ = some (.int .i64 b)) (cn : w.cell? ⟨Bn, 0, none⟩ = some (.int .i64 n)) :
    Calls Try.prog 13 #[.agg #[.int .i64 k.p, .int .i64 k.b, .int .i64 k.l, .int .i64 k.a, .int .i64 k.s], .pointer (some ⟨Bn, 0, none⟩), .pointer (some ⟨Bb, 0, none⟩)] w fun e w' => e = .returned (.bool (strk b n k)) ∧ Below w.heap.size w w' := by
  have hk' := ok5_lit hk
  have l1 := cell_lt cb
  have l2 := cell_lt cn
  have n1 : ¬ Bb = w.heap.size := by simp only at l1; omega
  have n2 : ¬ Bn = w.heap.size := by simp only at l2; omega
  have n3 : ¬ w.heap.size = Bb := by omega
  have n4 : ¬ w.heap.size = Bn := by omega
  have s1 : IntKind.i64.wrap (b + n) = b + n := by rw [IntKind.wrap_i64]; omega
  have s2 : IntKind.i64.wrap (k.b + k.l) = k.b + k.l := by rw [IntKind.wrap_i64]; omega
  have hB : ∀ o, Below w.heap.size w (w.alloc o) := fun o => (Below.refl _ _).alloc (Nat.le_refl _) o
  have e : strk b n k = (decide (0 < k.l) && decide (0 < n) && decide (k.b < b + n) && decide (b < k.b + k.l)) := by
    unfold strk
    rw [Bool.eq_iff_iff]
    simp only [decide_eq_true_iff, Bool.and_eq_true]
    omega
  rw [e]
  clear e hk hk'
  by_cases h1 : 0 < k.l
  · by_cases h2 : 0 < n
    · by_cases h3 : k.b < b + n
      · by_cases h4 : b < k.b + k.l
        all_goals
          simp only [h1, h2, h3, h4, decide_true, decide_false, Bool.and_true, Bool.and_false, Bool.true_and]
          go_enter Try.func13, Try.ntmps13
          go_wp2
          go_ret
          exact ⟨rfl, hB _⟩
      · simp only [h1, h2, h3, decide_true, decide_false, Bool.and_true, Bool.and_false, Bool.true_and, Bool.false_and]
        go_enter Try.func13, Try.ntmps13
        go_wp2
        go_ret
        exact ⟨rfl, hB _⟩
    · simp only [h1, h2, decide_true, decide_false, Bool.and_true, Bool.and_false, Bool.true_and, Bool.false_and]
      go_enter Try.func13, Try.ntmps13
      go_wp2
      go_ret
      exact ⟨rfl, hB _⟩
  · simp only [h1, decide_true, decide_false, Bool.and_true, Bool.and_false, Bool.true_and, Bool.false_and]
    go_enter Try.func13, Try.ntmps13
    go_wp2
    go_ret
    exact ⟨rfl, hB _⟩
/-- What the closures look at, and what they turn: the count alone. -/
structure Oth (w : World) (Bb Bn Bh Bc : Nat) (b n : Int) (c : Nat) : Prop where
  cb : Box w Bb #[.int .i64 b]
  cn : Box w Bn #[.int .i64 n]
  ch : Box w Bh #[.func (.func 13) #[] #[.pointer (some ⟨Bn, 0, none⟩), .pointer (some ⟨Bb, 0, none⟩)]]
  cc : Box w Bc #[.int .i64 (c : Int)]
  lb : 0 ≤ b ∧ 0 ≤ n ∧ b + n ≤ 400
  d1 : Bb ≠ Bc
  d2 : Bn ≠ Bc
  d3 : Bh ≠ Bc
section
variable {w w' : World} {Bb Bn Bh Bc : Nat} {b n : Int} {c : Nat}
theorem Oth.below (h : Oth w Bb Bn Bh Bc b n c) (hb : Below w.heap.size w w') : Oth w' Bb Bn Bh Bc b n c := ⟨h.cb.below hb, h.cn.below hb, h.ch.below hb, h.cc.below hb, h.lb, h.d1, h.d2, h.d3⟩
theorem Oth.more (h : Oth w Bb Bn Bh Bc b n c) : Oth (w.setCell ⟨Bc, 0, none⟩ (.int .i64 ((c : Int) + 1))) Bb Bn Bh Bc b n (c + 1) := by
  have h1 := Box.setL' (L := [.int .i64 (c : Int)]) (v := .int .i64 ((c : Int) + 1)) (j := 0) h.cc (by show 0 < 1; omega)
  exact ⟨h.cb.aside' (Ne.symm h.d1) _, h.cn.aside' (Ne.symm h.d2) _, h.ch.aside' (Ne.symm h.d3) _, h1, h.lb, h.d1, h.d2, h.d3⟩
end
set_option maxHeartbeats 2000000 in
theorem oth_val (v : MV) (b n : Int) (Bb Bn Bh Bc c : Nat) (w : World) (hk : v.i = true → ok5 (vK v)) (hS : Oth w Bb Bn Bh Bc b n c) (hc : c + 1 ≤ 1000) :
    Calls Try.prog 14 #[.agg #[.bool v.i, .int .i64 v.n, .int .i64 v.p, .int .i64 v.b, .int .i64 v.l, .int .i64 v.a, .int .i64 v.s], .agg #[.bool (swV b n v).i, .int .i64 (swV b n v).n, .int .i64 (swV b n v).p, .int .i64 (swV b n v).b, .int .i64 (swV b n v).l, .int .i64 (swV b n v).a, .int .i64 (swV b n v).s], .pointer (some ⟨Bh, 0, none⟩), .pointer (some ⟨Bc, 0, none⟩)] w fun e w' => e = .returned (.bool true) ∧ Off Bc w w' ∧ Oth w' Bb Bn Bh Bc b n (c + cV b n v) := by
  have HS : Hid (Oth w Bb Bn Bh Bc b n c) := hS
  have l1 := hS.cb.lt
  have l2 := hS.cn.lt
  have l3 := hS.ch.lt
  have l4 := hS.cc.lt
  have m00 : ¬ Bb = w.heap.size := by omega
  have k00 : ¬ w.heap.size = Bb := by omega
  have m01 : ¬ Bb = w.heap.size + 1 := by omega
  have k01 : ¬ w.heap.size + 1 = Bb := by omega
  have m10 : ¬ Bn = w.heap.size := by omega
  have k10 : ¬ w.heap.size = Bn := by omega
  have m11 : ¬ Bn = w.heap.size + 1 := by omega
  have k11 : ¬ w.heap.size + 1 = Bn := by omega
  have m20 : ¬ Bh = w.heap.size := by omega
  have k20 : ¬ w.heap.size = Bh := by omega
  have m21 : ¬ Bh = w.heap.size + 1 := by omega
  have k21 : ¬ w.heap.size + 1 = Bh := by omega
  have m30 : ¬ Bc = w.heap.size := by omega
  have k30 : ¬ w.heap.size = Bc := by omega
  have m31 : ¬ Bc = w.heap.size + 1 := by omega
  have k31 : ¬ w.heap.size + 1 = Bc := by omega
  have hwr : IntKind.i64.wrap ((c : Int) + 1) = (c : Int) + 1 := by rw [IntKind.wrap_i64]; omega
  unfold cV swV
  cases hi : v.i
  · have hh : hitV b n v = false := by unfold hitV; rw [hi]; rfl
    simp only [hh, Bool.false_eq_true, if_false, b1, Nat.add_zero, hi]
    clear hh hS hk
    go_enter Try.func14, Try.ntmps14
    go_upto_region 1 with fail
    obtain ⟨w0, hw0⟩ : ∃ w0, w0 = (w.alloc (.cells #[.bool false, .int .i64 v.n, .int .i64 v.p, .int .i64 v.b, .int .i64 v.l, .int .i64 v.a, .int .i64 v.s] 25)).alloc (.cells #[.bool false, .int .i64 v.n, .int .i64 v.p, .int .i64 v.b, .int .i64 v.l, .int .i64 v.a, .int .i64 v.s] 25) := ⟨_, rfl⟩
    rw [← hw0]
    have bK : Box w0 w.heap.size #[.bool false, .int .i64 v.n, .int .i64 v.p, .int .i64 v.b, .int .i64 v.l, .int .i64 v.a, .int .i64 v.s] := by rw [hw0]; exact (Box.new _ _ _).alloc _
    have bU : Box w0 (w.heap.size + 1) #[.bool false, .int .i64 v.n, .int .i64 v.p, .int .i64 v.b, .int .i64 v.l, .int .i64 v.a, .int .i64 v.s] := by rw [hw0]; exact Box.new1 _ _ _ _
    have hO : Off Bc w w0 := by rw [hw0]; exact ((Off.refl _ _).alloc _).alloc _
    have hR : Oth w0 Bb Bn Bh Bc b n c := by rw [hw0]; exact HS.out.below (two _ _)
    have qK := bK.cell
    have qU := bU.cell
    have qH := hR.ch.cell
    clear hw0
    go_wp2
    go_ret
    exact ⟨rfl, hO, hR⟩
  · have cS := fun w (hR : Oth w Bb Bn Bh Bc b n c) => oth_hits (vK v) b n Bb Bn w hR.lb (hk hi) (by rw [hR.cb.cell]; rfl) (by rw [hR.cn.cell]; rfl)
    simp only [vK] at cS
    cases hs : strk b n (vK v)
    · have hh : hitV b n v = false := by unfold hitV; rw [hi, hs]; rfl
      simp only [vK] at hs
      rw [hs] at cS
      simp only [hh, Bool.false_eq_true, if_false, b1, Nat.add_zero, hi]
      clear hs hh hS hk
      go_enter Try.func14, Try.ntmps14
      go_upto_region 1 with fail
      obtain ⟨w0, hw0⟩ : ∃ w0, w0 = (w.alloc (.cells #[.bool true, .int .i64 v.n, .int .i64 v.p, .int .i64 v.b, .int .i64 v.l, .int .i64 v.a, .int .i64 v.s] 25)).alloc (.cells #[.bool true, .int .i64 v.n, .int .i64 v.p, .int .i64 v.b, .int .i64 v.l, .int .i64 v.a, .int .i64 v.s] 25) := ⟨_, rfl⟩
      rw [← hw0]
      have bK : Box w0 w.heap.size #[.bool true, .int .i64 v.n, .int .i64 v.p, .int .i64 v.b, .int .i64 v.l, .int .i64 v.a, .int .i64 v.s] := by rw [hw0]; exact (Box.new _ _ _).alloc _
      have bU : Box w0 (w.heap.size + 1) #[.bool true, .int .i64 v.n, .int .i64 v.p, .int .i64 v.b, .int .i64 v.l, .int .i64 v.a, .int .i64 v.s] := by rw [hw0]; exact Box.new1 _ _ _ _
      have hO : Off Bc w w0 := by rw [hw0]; exact ((Off.refl _ _).alloc _).alloc _
      have hR : Oth w0 Bb Bn Bh Bc b n c := by rw [hw0]; exact HS.out.below (two _ _)
      have qK := bK.cell
      have qU := bU.cell
      have qH := hR.ch.cell
      clear hw0
      go_wp2_with (go_at_call 13; refine (cS _ hR).mono ?_; rintro e w1 ⟨rfl, hbb⟩; replace bK := bK.below hbb; replace bU := bU.below hbb; replace hR := hR.below hbb; replace hO := hO.below hbb; replace qK := bK.cell; replace qU := bU.cell; have qC := hR.cc.cell; have fC := hR.cc.free; clear hbb cS)
      go_ret
      exact ⟨rfl, hO, hR⟩
    · have hh : hitV b n v = true := by unfold hitV; rw [hi, hs]; rfl
      simp only [vK] at hs
      rw [hs] at cS
      simp only [hh, if_true, b1, nil0]
      clear hs hh hS hk
      go_enter Try.func14, Try.ntmps14
      go_upto_region 1 with fail
      obtain ⟨w0, hw0⟩ : ∃ w0, w0 = (w.alloc (.cells #[.bool true, .int .i64 v.n, .int .i64 v.p, .int .i64 v.b, .int .i64 v.l, .int .i64 v.a, .int .i64 v.s] 25)).alloc (.cells #[.bool false, .int .i64 0, .int .i64 0, .int .i64 0, .int .i64 0, .int .i64 0, .int .i64 0] 25) := ⟨_, rfl⟩
      rw [← hw0]
      have bK : Box w0 w.heap.size #[.bool true, .int .i64 v.n, .int .i64 v.p, .int .i64 v.b, .int .i64 v.l, .int .i64 v.a, .int .i64 v.s] := by rw [hw0]; exact (Box.new _ _ _).alloc _
      have bU : Box w0 (w.heap.size + 1) #[.bool false, .int .i64 0, .int .i64 0, .int .i64 0, .int .i64 0, .int .i64 0, .int .i64 0] := by rw [hw0]; exact Box.new1 _ _ _ _
      have hO : Off Bc w w0 := by rw [hw0]; exact ((Off.refl _ _).alloc _).alloc _
      have hR : Oth w0 Bb Bn Bh Bc b n c := by rw [hw0]; exact HS.out.below (two _ _)
      have qK := bK.cell
      have qU := bU.cell
      have qH := hR.ch.cell
      clear hw0
      go_wp2_with (go_at_call 13; refine (cS _ hR).mono ?_; rintro e w1 ⟨rfl, hbb⟩; replace bK := bK.below hbb; replace bU := bU.below hbb; replace hR := hR.below hbb; replace hO := hO.below hbb; replace qK := bK.cell; replace qU := bU.cell; have qC := hR.cc.cell; have fC := hR.cc.free; clear hbb cS)
      go_ret
      exact ⟨rfl, hO.set 0 _, hR.more⟩
set_option maxHeartbeats 2000000 in
theorem oth_code (k : K5) (b n : Int) (Bb Bn Bh Bc c : Nat) (w : World) (hk : ok5 k) (hS : Oth w Bb Bn Bh Bc b n c) (hc : c + 1 ≤ 1000) :
    Calls Try.prog 16 #[.agg #[.int .i64 k.p, .int .i64 k.b, .int .i64 k.l, .int .i64 k.a, .int .i64 k.s], .agg #[.int .i64 (swK b n k).p, .int .i64 (swK b n k).b, .int .i64 (swK b n k).l, .int .i64 (swK b n k).a, .int .i64 (swK b n k).s], .pointer (some ⟨Bh, 0, none⟩), .pointer (some ⟨Bc, 0, none⟩)] w fun e w' => e = .returned (.bool true) ∧ Off Bc w w' ∧ Oth w' Bb Bn Bh Bc b n (c + cK b n k) := by
  have HS : Hid (Oth w Bb Bn Bh Bc b n c) := hS
  have l1 := hS.cb.lt
  have l2 := hS.cn.lt
  have l3 := hS.ch.lt
  have l4 := hS.cc.lt
  have m00 : ¬ Bb = w.heap.size := by omega
  have k00 : ¬ w.heap.size = Bb := by omega
  have m01 : ¬ Bb = w.heap.size + 1 := by omega
  have k01 : ¬ w.heap.size + 1 = Bb := by omega
  have m10 : ¬ Bn = w.heap.size := by omega
  have k10 : ¬ w.heap.size = Bn := by omega
  have m11 : ¬ Bn = w.heap.size + 1 := by omega
  have k11 : ¬ w.heap.size + 1 = Bn := by omega
  have m20 : ¬ Bh = w.heap.size := by omega
  have k20 : ¬ w.heap.size = Bh := by omega
  have m21 : ¬ Bh = w.heap.size + 1 := by omega
  have k21 : ¬ w.heap.size + 1 = Bh := by omega
  have m30 : ¬ Bc = w.heap.size := by omega
  have k30 : ¬ w.heap.size = Bc := by omega
  have m31 : ¬ Bc = w.heap.size + 1 := by omega
  have k31 : ¬ w.heap.size + 1 = Bc := by omega
  have hwr : IntKind.i64.wrap ((c : Int) + 1) = (c : Int) + 1 := by rw [IntKind.wrap_i64]; omega
  have cS := fun w (hR : Oth w Bb Bn Bh Bc b n c) => oth_hits k b n Bb Bn w hR.lb hk (by rw [hR.cb.cell]; rfl) (by rw [hR.cn.cell]; rfl)
  unfold cK swK
  cases hs : strk b n k
  · rw [hs] at cS
    simp only [Bool.false_eq_true, if_false, b1, Nat.add_zero]
    clear hs hS
    go_enter Try.func16, Try.ntmps16
    go_upto_region 1 with fail
    obtain ⟨w0, hw0⟩ : ∃ w0, w0 = (w.alloc (.cells #[.int .i64 k.p, .int .i64 k.b, .int .i64 k.l, .int .i64 k.a, .int .i64 k.s] 23)).alloc (.cells #[.int .i64 k.p, .int .i64 k.b, .int .i64 k.l, .int .i64 k.a, .int .i64 k.s] 23) := ⟨_, rfl⟩
    rw [← hw0]
    have bK : Box w0 w.heap.size #[.int .i64 k.p, .int .i64 k.b, .int .i64 k.l, .int .i64 k.a, .int .i64 k.s] := by rw [hw0]; exact (Box.new _ _ _).alloc _
    have bU : Box w0 (w.heap.size + 1) #[.int .i64 k.p, .int .i64 k.b, .int .i64 k.l, .int .i64 k.a, .int .i64 k.s] := by rw [hw0]; exact Box.new1 _ _ _ _
    have hO : Off Bc w w0 := by rw [hw0]; exact ((Off.refl _ _).alloc _).alloc _
    have hR : Oth w0 Bb Bn Bh Bc b n c := by rw [hw0]; exact HS.out.below (two _ _)
    have qK := bK.cell
    have qU := bU.cell
    have qH := hR.ch.cell
    clear hw0
    go_wp2_with (go_at_call 13; refine (cS _ hR).mono ?_; rintro e w1 ⟨rfl, hbb⟩; replace bK := bK.below hbb; replace bU := bU.below hbb; replace hR := hR.below hbb; replace hO := hO.below hbb; replace qK := bK.cell; replace qU := bU.cell; have qC := hR.cc.cell; have fC := hR.cc.free; clear hbb cS)
    go_ret
    exact ⟨rfl, hO, hR⟩
  · rw [hs] at cS
    simp only [if_true, b1, key0]
    clear hs hS
    go_enter Try.func16, Try.ntmps16
    go_upto_region 1 with fail
    obtain ⟨w0, hw0⟩ : ∃ w0, w0 = (w.alloc (.cells #[.int .i64 k.p, .int .i64 k.b, .int .i64 k.l, .int .i64 k.a, .int .i64 k.s] 23)).alloc (.cells #[.int .i64 0, .int .i64 0, .int .i64 0, .int .i64 0, .int .i64 0] 23) := ⟨_, rfl⟩
    rw [← hw0]
    have bK : Box w0 w.heap.size #[.int .i64 k.p, .int .i64 k.b, .int .i64 k.l, .int .i64 k.a, .int .i64 k.s] := by rw [hw0]; exact (Box.new _ _ _).alloc _
    have bU : Box w0 (w.heap.size + 1) #[.int .i64 0, .int .i64 0, .int .i64 0, .int .i64 0, .int .i64 0] := by rw [hw0]; exact Box.new1 _ _ _ _
    have hO : Off Bc w w0 := by rw [hw0]; exact ((Off.refl _ _).alloc _).alloc _
    have hR : Oth w0 Bb Bn Bh Bc b n c := by rw [hw0]; exact HS.out.below (two _ _)
    have qK := bK.cell
    have qU := bU.cell
    have qH := hR.ch.cell
    clear hw0
    go_wp2_with (go_at_call 13; refine (cS _ hR).mono ?_; rintro e w1 ⟨rfl, hbb⟩; replace bK := bK.below hbb; replace bU := bU.below hbb; replace hR := hR.below hbb; replace hO := hO.below hbb; replace qK := bK.cell; replace qU := bU.cell; have qC := hR.cc.cell; have fC := hR.cc.free; clear hbb cS)
    go_ret
    exact ⟨rfl, hO.set 0 _, hR.more⟩
end Go.Proofs.Ythijebhhbflclaa
