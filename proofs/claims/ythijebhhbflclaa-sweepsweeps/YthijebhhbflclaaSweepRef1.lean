/- Sweep. -/
import Derived.Test.YthijebhhbflclaaRows
import Derived.Test.YthijebhhbflclaaBits
import Derived.Test.YthijebhhbflclaaKeyPure
import Derived.Test.YthijebhhbflclaaCellPure
import Derived.Test.YthijebhhbflclaaValsArg
import Derived.Test.YthijebhhbflclaaMemPure
import Derived.Test.YthijebhhbflclaaMachArg
import Derived.Test.YthijebhhbflclaaStepChk
import Derived.Test.YthijebhhbflclaaStepChk2
import Derived.Test.YthijebhhbflclaaMachMid
import Derived.Test.YthijebhhbflclaaSweepPure
import Derived.Test.YthijebhhbflclaaSweepStrike
import Derived.Test.YthijebhhbflclaaSweepGo
import Derived.Test.YthijebhhbflclaaRowMade
import Derived.Test.YthijebhhbflclaaRowApp
import Derived.Test.YthijebhhbflclaaMachSet
import Derived.Test.YthijebhhbflclaaKeyCov
import Derived.WalkKit
import Derived.ProofKit
import Derived.OpenShut
import Derived.Deep.MidRow
import Derived.Deep.CutBlock
import Derived.Deep.RegionHeld3
namespace Go.Proofs.Ythijebhhbflclaa
open Go.ChangeShapes Go.WideShapes Go.ChangeAt Go.RowKit
set_option linter.unusedSimpArgs false
set_option linter.unusedVariables false
set_option maxRecDepth 100000

theorem Box.low' {w w' : World} {k : Nat} {c : Array Value} (h : Box w k c) (hb : Below w.heap.size w w') : Box w' k c := h.below hb
set_option maxHeartbeats 1000000 in
theorem ref_outsideS (n lo hi : Int) (w : World) : Calls Try.prog 20 #[.int .i64 n, .int .i64 lo, .int .i64 hi] w fun e w' => e = .returned (.bool (decide (n < lo) || decide (hi < n))) ∧ w' = w := by
  by_cases h1 : n < lo
  · simp only [h1, decide_true, Bool.true_or]
    go_enter Try.func20, Try.ntmps20
    go_wp2
    go_ret
    exact ⟨rfl, rfl⟩
  · by_cases h2 : hi < n
    all_goals
      simp only [h1, h2, decide_true, decide_false, Bool.false_or]
      go_enter Try.func20, Try.ntmps20
      go_wp2
      go_ret
      exact ⟨rfl, rfl⟩
theorem strk_iff {b n : Int} {k : K5} : strk b n k = true ↔ ∃ j, b ≤ j ∧ j < b + n ∧ covB k.b k.l j = true := by
  unfold strk covB
  simp only [decide_eq_true_iff]
  constructor
  · intro h
    exact ⟨max k.b b, by omega, by omega, by omega⟩
  · rintro ⟨j, h1, h2, h3⟩
    omega
set_option maxHeartbeats 2000000 in
theorem ref_struck (k : K5) (b n : Int) (w : World) (hb : 0 ≤ b ∧ 0 ≤ n ∧ b + n ≤ 400) (hk : ok5 k) :
    Calls Try.prog 22 #[.agg #[.int .i64 k.p, .int .i64 k.b, .int .i64 k.l, .int .i64 k.a, .int .i64 k.s], .int .i64 b, .int .i64 n] w fun e w' => e = .returned (.bool (strk b n k)) ∧ Below w.heap.size w w' := by
  have hk' := ok5_lit hk
  have hkb : kb k.p k.b k.l k.a k.s := by unfold kb; omega
  have s1 : IntKind.i64.wrap (b + n) = b + n := by rw [IntKind.wrap_i64]; omega
  have bK := Box.new w #[.int .i64 k.p, .int .i64 k.b, .int .i64 k.l, .int .i64 k.a, .int .i64 k.s] 23
  have hB0 : Below w.heap.size w (w.alloc (.cells #[.int .i64 k.p, .int .i64 k.b, .int .i64 k.l, .int .i64 k.a, .int .i64 k.s] 23)) := (Below.refl _ _).alloc (Nat.le_refl _) _
  obtain ⟨R, hR⟩ : ∃ R, strk b n k = R := ⟨_, rfl⟩
  have HR : Hid (strk b n k = R) := hR
  rw [hR]
  clear hR
  go_enter Try.func22, Try.ntmps22
  go_upto_region 2 with fail
  obtain ⟨w0, hw0⟩ : ∃ w0, w0 = w.alloc (.cells #[.int .i64 k.p, .int .i64 k.b, .int .i64 k.l, .int .i64 k.a, .int .i64 k.s] 23) := ⟨_, rfl⟩
  rw [← hw0] at bK hB0 ⊢
  clear hw0
  go_loopw [7] (fun i wr => ∃ j : Int, b ≤ j ∧ j ≤ b + n ∧ i = .int .i64 j ∧ Below w.heap.size w wr ∧ Below w0.heap.size w0 wr ∧ ∀ t, b ≤ t → t < j → covB k.b k.l t = false) (fun i _ => (b + n - intOf i).toNat)
  case atStart => exact ⟨b, Int.le_refl _, by omega, rfl, hB0, Below.refl _ _, fun t h1 h2 => by omega⟩
  case round =>
    obtain ⟨j, hj1, hj2, rfl, hB, hW, hno⟩ := hrel
    have bW := Box.low' bK hW
    by_cases hlt : j < b + n
    · have cC := fun w => ref_covers k.p k.b k.l k.a k.s j w hkb (by omega)
      have sj : IntKind.i64.wrap (j + 1) = j + 1 := by rw [IntKind.wrap_i64]; omega
      have qK := bW.cell
      cases hc : covB k.b k.l j
      · rw [hc] at cC
        have HN : Hid (∀ t, b ≤ t → t < j + 1 → covB k.b k.l t = false) := fun t h1 h2 => by
          by_cases e : t = j
          · rw [e]; exact hc
          · exact hno t h1 (by omega)
        clear hno hc
        go_wp2_with (go_at_call 35; refine (cC _).mono ?_; rintro e w1 ⟨rfl, hbb⟩; replace hB := hB.trans (hbb.mono hB.size); replace hW := hW.trans (hbb.mono hW.size); clear hbb)
        go_roundw
        case rel => exact ⟨j + 1, by omega, by omega, rfl, hB, hW, HN.out⟩
        case measure => simp [intOf]; omega
      · rw [hc] at cC
        have e : R = true := by rw [← HR.out]; exact strk_iff.2 ⟨j, hj1, hlt, hc⟩
        subst e
        clear hno hc
        go_wp2_with (go_at_call 35; refine (cC _).mono ?_; rintro e w1 ⟨rfl, hbb⟩; replace hB := hB.trans (hbb.mono hB.size); clear hbb)
        go_ret
        exact ⟨rfl, hB⟩
    · have e : R = false := by
        rw [← HR.out]
        cases h : strk b n k
        · rfl
        · obtain ⟨t, h1, h2, h3⟩ := strk_iff.1 h
          rw [hno t h1 (by omega)] at h3
          cases h3
      subst e
      clear hno
      go_wp2
      go_ret
      exact ⟨rfl, hB⟩
/-- What the closures look at, and what they turn: the count alone. -/
structure Rsw (w : World) (Bb Bn Bc Bv : Nat) (b n : Int) (c : Nat) : Prop where
  cb : Box w Bb #[.int .i64 b]
  cn : Box w Bn #[.int .i64 n]
  cc : Box w Bc #[.int .i64 (c : Int)]
  cv : Box w Bv #[.func (.func 21) #[] #[.pointer (some ⟨Bb, 0, none⟩), .pointer (some ⟨Bn, 0, none⟩), .pointer (some ⟨Bc, 0, none⟩)]]
  lb : 0 ≤ b ∧ 0 ≤ n ∧ b + n ≤ 400
  d1 : Bb ≠ Bc
  d2 : Bn ≠ Bc
  d3 : Bv ≠ Bc
section
variable {w w' : World} {Bb Bn Bc Bv : Nat} {b n : Int} {c : Nat}
theorem Rsw.below (h : Rsw w Bb Bn Bc Bv b n c) (hb : Below w.heap.size w w') : Rsw w' Bb Bn Bc Bv b n c := ⟨h.cb.below hb, h.cn.below hb, h.cc.below hb, h.cv.below hb, h.lb, h.d1, h.d2, h.d3⟩
theorem Rsw.more (h : Rsw w Bb Bn Bc Bv b n c) : Rsw (w.setCell ⟨Bc, 0, none⟩ (.int .i64 ((c : Int) + 1))) Bb Bn Bc Bv b n (c + 1) := by
  have h1 := Box.setL' (L := [.int .i64 (c : Int)]) (v := .int .i64 ((c : Int) + 1)) (j := 0) h.cc (by show 0 < 1; omega)
  exact ⟨h.cb.aside' (Ne.symm h.d1) _, h.cn.aside' (Ne.symm h.d2) _, h1, h.cv.aside' (Ne.symm h.d3) _, h.lb, h.d1, h.d2, h.d3⟩
theorem Rsw.aside (h : Rsw w Bb Bn Bc Bv b n c) {p : Addr} (u : Value) (h1 : p.block ≠ Bb) (h2 : p.block ≠ Bn) (h3 : p.block ≠ Bc) (h4 : p.block ≠ Bv) : Rsw (w.setCell p u) Bb Bn Bc Bv b n c := ⟨h.cb.aside' h1 u, h.cn.aside' h2 u, h.cc.aside' h3 u, h.cv.aside' h4 u, h.lb, h.d1, h.d2, h.d3⟩
end
set_option maxHeartbeats 2000000 in
theorem rsw_val (v : MV) (b n : Int) (Bb Bn Bc Bv c : Nat) (w : World) (hk : v.i = true → ok5 (vK v)) (hS : Rsw w Bb Bn Bc Bv b n c) (hc : c + 1 ≤ 1000) :
    Calls Try.prog 21 #[.agg #[.bool v.i, .int .i64 v.n, .int .i64 v.p, .int .i64 v.b, .int .i64 v.l, .int .i64 v.a, .int .i64 v.s], .pointer (some ⟨Bb, 0, none⟩), .pointer (some ⟨Bn, 0, none⟩), .pointer (some ⟨Bc, 0, none⟩)] w fun e w' => e = .returned (.agg #[.bool (swV b n v).i, .int .i64 (swV b n v).n, .int .i64 (swV b n v).p, .int .i64 (swV b n v).b, .int .i64 (swV b n v).l, .int .i64 (swV b n v).a, .int .i64 (swV b n v).s]) ∧ Off Bc w w' ∧ Rsw w' Bb Bn Bc Bv b n (c + cV b n v) := by
  have HS : Hid (Rsw w Bb Bn Bc Bv b n c) := hS
  have l1 := hS.cb.lt
  have l2 := hS.cn.lt
  have l3 := hS.cc.lt
  have l4 := hS.cv.lt
  have m00 : ¬ Bb = w.heap.size := by omega
  have k00 : ¬ w.heap.size = Bb := by omega
  have m01 : ¬ Bb = w.heap.size + 1 := by omega
  have k01 : ¬ w.heap.size + 1 = Bb := by omega
  have m10 : ¬ Bn = w.heap.size := by omega
  have k10 : ¬ w.heap.size = Bn := by omega
  have m11 : ¬ Bn = w.heap.size + 1 := by omega
  have k11 : ¬ w.heap.size + 1 = Bn := by omega
  have m20 : ¬ Bc = w.heap.size := by omega
  have k20 : ¬ w.heap.size = Bc := by omega
  have m21 : ¬ Bc = w.heap.size + 1 := by omega
  have k21 : ¬ w.heap.size + 1 = Bc := by omega
  have m30 : ¬ Bv = w.heap.size := by omega
  have k30 : ¬ w.heap.size = Bv := by omega
  have m31 : ¬ Bv = w.heap.size + 1 := by omega
  have k31 : ¬ w.heap.size + 1 = Bv := by omega
  have d1 : w.heap.size + 1 ≠ Bb := by omega
  have d2 : w.heap.size + 1 ≠ Bn := by omega
  have d3 : w.heap.size + 1 ≠ Bc := by omega
  have d4 : w.heap.size + 1 ≠ Bv := by omega
  have hwr : IntKind.i64.wrap ((c : Int) + 1) = (c : Int) + 1 := by rw [IntKind.wrap_i64]; omega
  unfold cV swV
  cases hi : v.i
  · have hh : hitV b n v = false := by unfold hitV; rw [hi]; rfl
    simp only [hh, Bool.false_eq_true, if_false, b1, Nat.add_zero, hi]
    clear hh hS hk
    go_enter Try.func21, Try.ntmps21
    go_upto_region 1 with fail
    obtain ⟨w0, hw0⟩ : ∃ w0, w0 = (w.alloc (.cells #[.bool false, .int .i64 v.n, .int .i64 v.p, .int .i64 v.b, .int .i64 v.l, .int .i64 v.a, .int .i64 v.s] 25)).alloc (.cells #[.bool false, .int .i64 0, .int .i64 0, .int .i64 0, .int .i64 0, .int .i64 0, .int .i64 0] 25) := ⟨_, rfl⟩
    rw [← hw0]
    have bK : Box w0 w.heap.size #[.bool false, .int .i64 v.n, .int .i64 v.p, .int .i64 v.b, .int .i64 v.l, .int .i64 v.a, .int .i64 v.s] := by rw [hw0]; exact (Box.new _ _ _).alloc _
    have bR : Box w0 (w.heap.size + 1) #[.bool false, .int .i64 0, .int .i64 0, .int .i64 0, .int .i64 0, .int .i64 0, .int .i64 0] := by rw [hw0]; exact Box.new1 _ _ _ _
    have hO : Off Bc w w0 := by rw [hw0]; exact ((Off.refl _ _).alloc _).alloc _
    have hR : Rsw w0 Bb Bn Bc Bv b n c := by rw [hw0]; exact HS.out.below (two _ _)
    have qK := bK.cell
    have qb := hR.cb.cell
    have qn := hR.cn.cell
    have qR := bR.cell
    have fR := bR.free
    clear hw0
    go_wp2
    exact bodyPost_ret (v := .agg #[.bool false, .int .i64 v.n, .int .i64 v.p, .int .i64 v.b, .int .i64 v.l, .int .i64 v.a, .int .i64 v.s]) (by simp [results, Try.results21, go_sem, qR]) rfl ⟨rfl, (((((((hO.setNew (p := ⟨w.heap.size + 1, _, none⟩) (Nat.le_succ _) _).setNew (p := ⟨w.heap.size + 1, _, none⟩) (Nat.le_succ _) _).setNew (p := ⟨w.heap.size + 1, _, none⟩) (Nat.le_succ _) _).setNew (p := ⟨w.heap.size + 1, _, none⟩) (Nat.le_succ _) _).setNew (p := ⟨w.heap.size + 1, _, none⟩) (Nat.le_succ _) _).setNew (p := ⟨w.heap.size + 1, _, none⟩) (Nat.le_succ _) _).setNew (p := ⟨w.heap.size + 1, _, none⟩) (Nat.le_succ _) _), (((((((hR.aside (p := ⟨w.heap.size + 1, _, none⟩) _ d1 d2 d3 d4).aside (p := ⟨w.heap.size + 1, _, none⟩) _ d1 d2 d3 d4).aside (p := ⟨w.heap.size + 1, _, none⟩) _ d1 d2 d3 d4).aside (p := ⟨w.heap.size + 1, _, none⟩) _ d1 d2 d3 d4).aside (p := ⟨w.heap.size + 1, _, none⟩) _ d1 d2 d3 d4).aside (p := ⟨w.heap.size + 1, _, none⟩) _ d1 d2 d3 d4).aside (p := ⟨w.heap.size + 1, _, none⟩) _ d1 d2 d3 d4)⟩
  · have cS := fun w => ref_struck (vK v) b n w hS.lb (hk hi)
    simp only [vK] at cS
    cases hs : strk b n (vK v)
    · have hh : hitV b n v = false := by unfold hitV; rw [hi, hs]; rfl
      simp only [vK] at hs
      rw [hs] at cS
      simp only [hh, Bool.false_eq_true, if_false, b1, Nat.add_zero, hi]
      clear hs hh hS hk
      go_enter Try.func21, Try.ntmps21
      go_upto_region 1 with fail
      obtain ⟨w0, hw0⟩ : ∃ w0, w0 = (w.alloc (.cells #[.bool true, .int .i64 v.n, .int .i64 v.p, .int .i64 v.b, .int .i64 v.l, .int .i64 v.a, .int .i64 v.s] 25)).alloc (.cells #[.bool false, .int .i64 0, .int .i64 0, .int .i64 0, .int .i64 0, .int .i64 0, .int .i64 0] 25) := ⟨_, rfl⟩
      rw [← hw0]
      have bK : Box w0 w.heap.size #[.bool true, .int .i64 v.n, .int .i64 v.p, .int .i64 v.b, .int .i64 v.l, .int .i64 v.a, .int .i64 v.s] := by rw [hw0]; exact (Box.new _ _ _).alloc _
      have bR : Box w0 (w.heap.size + 1) #[.bool false, .int .i64 0, .int .i64 0, .int .i64 0, .int .i64 0, .int .i64 0, .int .i64 0] := by rw [hw0]; exact Box.new1 _ _ _ _
      have hO : Off Bc w w0 := by rw [hw0]; exact ((Off.refl _ _).alloc _).alloc _
      have hR : Rsw w0 Bb Bn Bc Bv b n c := by rw [hw0]; exact HS.out.below (two _ _)
      have qK := bK.cell
      have qb := hR.cb.cell
      have qn := hR.cn.cell
      clear hw0
      go_wp2_with (go_at_call 22; refine (cS _).mono ?_; rintro e w1 ⟨rfl, hbb⟩; replace bK := bK.below hbb; replace bR := bR.below hbb; replace hR := hR.below hbb; replace hO := hO.below hbb; replace qK := bK.cell; have qR := bR.cell; have fR := bR.free; have qC := hR.cc.cell; have fC := hR.cc.free; clear hbb cS)
      exact bodyPost_ret (v := .agg #[.bool true, .int .i64 v.n, .int .i64 v.p, .int .i64 v.b, .int .i64 v.l, .int .i64 v.a, .int .i64 v.s]) (by simp [results, Try.results21, go_sem, qR]) rfl ⟨rfl, (((((((hO.setNew (p := ⟨w.heap.size + 1, _, none⟩) (Nat.le_succ _) _).setNew (p := ⟨w.heap.size + 1, _, none⟩) (Nat.le_succ _) _).setNew (p := ⟨w.heap.size + 1, _, none⟩) (Nat.le_succ _) _).setNew (p := ⟨w.heap.size + 1, _, none⟩) (Nat.le_succ _) _).setNew (p := ⟨w.heap.size + 1, _, none⟩) (Nat.le_succ _) _).setNew (p := ⟨w.heap.size + 1, _, none⟩) (Nat.le_succ _) _).setNew (p := ⟨w.heap.size + 1, _, none⟩) (Nat.le_succ _) _), (((((((hR.aside (p := ⟨w.heap.size + 1, _, none⟩) _ d1 d2 d3 d4).aside (p := ⟨w.heap.size + 1, _, none⟩) _ d1 d2 d3 d4).aside (p := ⟨w.heap.size + 1, _, none⟩) _ d1 d2 d3 d4).aside (p := ⟨w.heap.size + 1, _, none⟩) _ d1 d2 d3 d4).aside (p := ⟨w.heap.size + 1, _, none⟩) _ d1 d2 d3 d4).aside (p := ⟨w.heap.size + 1, _, none⟩) _ d1 d2 d3 d4).aside (p := ⟨w.heap.size + 1, _, none⟩) _ d1 d2 d3 d4)⟩
    · have hh : hitV b n v = true := by unfold hitV; rw [hi, hs]; rfl
      simp only [vK] at hs
      rw [hs] at cS
      simp only [hh, if_true, b1, nil0]
      clear hs hh hS hk
      go_enter Try.func21, Try.ntmps21
      go_upto_region 1 with fail
      obtain ⟨w0, hw0⟩ : ∃ w0, w0 = (w.alloc (.cells #[.bool true, .int .i64 v.n, .int .i64 v.p, .int .i64 v.b, .int .i64 v.l, .int .i64 v.a, .int .i64 v.s] 25)).alloc (.cells #[.bool false, .int .i64 0, .int .i64 0, .int .i64 0, .int .i64 0, .int .i64 0, .int .i64 0] 25) := ⟨_, rfl⟩
      rw [← hw0]
      have bK : Box w0 w.heap.size #[.bool true, .int .i64 v.n, .int .i64 v.p, .int .i64 v.b, .int .i64 v.l, .int .i64 v.a, .int .i64 v.s] := by rw [hw0]; exact (Box.new _ _ _).alloc _
      have bR : Box w0 (w.heap.size + 1) #[.bool false, .int .i64 0, .int .i64 0, .int .i64 0, .int .i64 0, .int .i64 0, .int .i64 0] := by rw [hw0]; exact Box.new1 _ _ _ _
      have hO : Off Bc w w0 := by rw [hw0]; exact ((Off.refl _ _).alloc _).alloc _
      have hR : Rsw w0 Bb Bn Bc Bv b n c := by rw [hw0]; exact HS.out.below (two _ _)
      have qK := bK.cell
      have qb := hR.cb.cell
      have qn := hR.cn.cell
      clear hw0
      go_wp2_with (go_at_call 22; refine (cS _).mono ?_; rintro e w1 ⟨rfl, hbb⟩; replace bK := bK.below hbb; replace bR := bR.below hbb; replace hR := hR.below hbb; replace hO := hO.below hbb; replace qK := bK.cell; have qR := bR.cell; have fR := bR.free; have qC := hR.cc.cell; have fC := hR.cc.free; clear hbb cS)
      exact bodyPost_ret (v := .agg #[.bool false, .int .i64 0, .int .i64 0, .int .i64 0, .int .i64 0, .int .i64 0, .int .i64 0]) (by simp [results, Try.results21, go_sem, qR]) rfl ⟨rfl, ((((((((hO.set 0 _).setNew (p := ⟨w.heap.size + 1, _, none⟩) (Nat.le_succ _) _).setNew (p := ⟨w.heap.size + 1, _, none⟩) (Nat.le_succ _) _).setNew (p := ⟨w.heap.size + 1, _, none⟩) (Nat.le_succ _) _).setNew (p := ⟨w.heap.size + 1, _, none⟩) (Nat.le_succ _) _).setNew (p := ⟨w.heap.size + 1, _, none⟩) (Nat.le_succ _) _).setNew (p := ⟨w.heap.size + 1, _, none⟩) (Nat.le_succ _) _).setNew (p := ⟨w.heap.size + 1, _, none⟩) (Nat.le_succ _) _), (((((((hR.more.aside (p := ⟨w.heap.size + 1, _, none⟩) _ d1 d2 d3 d4).aside (p := ⟨w.heap.size + 1, _, none⟩) _ d1 d2 d3 d4).aside (p := ⟨w.heap.size + 1, _, none⟩) _ d1 d2 d3 d4).aside (p := ⟨w.heap.size + 1, _, none⟩) _ d1 d2 d3 d4).aside (p := ⟨w.heap.size + 1, _, none⟩) _ d1 d2 d3 d4).aside (p := ⟨w.heap.size + 1, _, none⟩) _ d1 d2 d3 d4).aside (p := ⟨w.heap.size + 1, _, none⟩) _ d1 d2 d3 d4)⟩
theorem val_field2 (i : Bool) (n p b l a s : Int) (w : World) : (Instr.field 25 (.agg #[.bool i, .int .i64 n, .int .i64 p, .int .i64 b, .int .i64 l, .int .i64 a, .int .i64 s]) 2).run Try.prog w = .ok (.agg #[.int .i64 p, .int .i64 b, .int .i64 l, .int .i64 a, .int .i64 s]) w := by kernel_rfl
theorem swV_key (b n : Int) (k : K5) : vK (swV b n ⟨true, 0, k.p, k.b, k.l, k.a, k.s⟩) = swK b n k ∧ cV b n ⟨true, 0, k.p, k.b, k.l, k.a, k.s⟩ = cK b n k := by
  have h : hitV b n ⟨true, 0, k.p, k.b, k.l, k.a, k.s⟩ = strk b n k := rfl
  unfold swV cV swK cK
  rw [h]
  cases strk b n k <;> exact ⟨rfl, rfl⟩
set_option maxHeartbeats 2000000 in
theorem rsw_code (k : K5) (b n : Int) (Bb Bn Bc Bv c : Nat) (w : World) (hk : ok5 k) (hS : Rsw w Bb Bn Bc Bv b n c) (hc : c + 1 ≤ 1000) :
    Calls Try.prog 23 #[.agg #[.int .i64 k.p, .int .i64 k.b, .int .i64 k.l, .int .i64 k.a, .int .i64 k.s], .pointer (some ⟨Bv, 0, none⟩)] w fun e w' => e = .returned (.agg #[.int .i64 (swK b n k).p, .int .i64 (swK b n k).b, .int .i64 (swK b n k).l, .int .i64 (swK b n k).a, .int .i64 (swK b n k).s]) ∧ Off Bc w w' ∧ Rsw w' Bb Bn Bc Bv b n (c + cK b n k) := by
  have HS : Hid (Rsw w Bb Bn Bc Bv b n c) := hS
  have l1 := hS.cb.lt
  have l2 := hS.cn.lt
  have l3 := hS.cc.lt
  have l4 := hS.cv.lt
  have m00 : ¬ Bb = w.heap.size := by omega
  have k00 : ¬ w.heap.size = Bb := by omega
  have m01 : ¬ Bb = w.heap.size + 1 := by omega
  have k01 : ¬ w.heap.size + 1 = Bb := by omega
  have m10 : ¬ Bn = w.heap.size := by omega
  have k10 : ¬ w.heap.size = Bn := by omega
  have m11 : ¬ Bn = w.heap.size + 1 := by omega
  have k11 : ¬ w.heap.size + 1 = Bn := by omega
  have m20 : ¬ Bc = w.heap.size := by omega
  have k20 : ¬ w.heap.size = Bc := by omega
  have m21 : ¬ Bc = w.heap.size + 1 := by omega
  have k21 : ¬ w.heap.size + 1 = Bc := by omega
  have m30 : ¬ Bv = w.heap.size := by omega
  have k30 : ¬ w.heap.size = Bv := by omega
  have m31 : ¬ Bv = w.heap.size + 1 := by omega
  have k31 : ¬ w.heap.size + 1 = Bv := by omega
  have d1 : w.heap.size + 1 ≠ Bb := by omega
  have d2 : w.heap.size + 1 ≠ Bn := by omega
  have d3 : w.heap.size + 1 ≠ Bc := by omega
  have d4 : w.heap.size + 1 ≠ Bv := by omega
  have cS := fun w hR => rsw_val ⟨true, 0, k.p, k.b, k.l, k.a, k.s⟩ b n Bb Bn Bc Bv c w (fun _ => hk) hR hc
  rw [(swV_key b n k).2] at cS
  rw [← (swV_key b n k).1]
  simp only [vK]
  clear hS
  generalize swV b n ⟨true, 0, k.p, k.b, k.l, k.a, k.s⟩ = U at *
  have hfl := fun w => val_field2 U.i U.n U.p U.b U.l U.a U.s w
  go_enter Try.func23, Try.ntmps23
  go_upto_region 1 with fail
  obtain ⟨w0, hw0⟩ : ∃ w0, w0 = (w.alloc (.cells #[.int .i64 k.p, .int .i64 k.b, .int .i64 k.l, .int .i64 k.a, .int .i64 k.s] 23)).alloc (.cells #[.int .i64 0, .int .i64 0, .int .i64 0, .int .i64 0, .int .i64 0] 23) := ⟨_, rfl⟩
  rw [← hw0]
  have bK : Box w0 w.heap.size #[.int .i64 k.p, .int .i64 k.b, .int .i64 k.l, .int .i64 k.a, .int .i64 k.s] := by rw [hw0]; exact (Box.new _ _ _).alloc _
  have bR : Box w0 (w.heap.size + 1) #[.int .i64 0, .int .i64 0, .int .i64 0, .int .i64 0, .int .i64 0] := by rw [hw0]; exact Box.new1 _ _ _ _
  have hO : Off Bc w w0 := by rw [hw0]; exact ((Off.refl _ _).alloc _).alloc _
  have hR : Rsw w0 Bb Bn Bc Bv b n c := by rw [hw0]; exact HS.out.below (two _ _)
  have qK := bK.cell
  have qv := hR.cv.cell
  clear hw0
  go_wp2_with (go_at_call 21; refine (cS _ hR).mono ?_; rintro e w1 ⟨rfl, hOv, hRv⟩; replace bR := hOv.box bR d3; replace hO := hO.trans hOv; have qR := bR.cell; have fR := bR.free; clear hOv cS hR)
  exact bodyPost_ret (v := .agg #[.int .i64 U.p, .int .i64 U.b, .int .i64 U.l, .int .i64 U.a, .int .i64 U.s]) (by simp [results, Try.results23, Act.put, go_sem, qR]) rfl ⟨rfl, (((((hO.setNew (p := ⟨w.heap.size + 1, _, none⟩) (Nat.le_succ _) _).setNew (p := ⟨w.heap.size + 1, _, none⟩) (Nat.le_succ _) _).setNew (p := ⟨w.heap.size + 1, _, none⟩) (Nat.le_succ _) _).setNew (p := ⟨w.heap.size + 1, _, none⟩) (Nat.le_succ _) _).setNew (p := ⟨w.heap.size + 1, _, none⟩) (Nat.le_succ _) _), (((((hRv.aside (p := ⟨w.heap.size + 1, _, none⟩) _ d1 d2 d3 d4).aside (p := ⟨w.heap.size + 1, _, none⟩) _ d1 d2 d3 d4).aside (p := ⟨w.heap.size + 1, _, none⟩) _ d1 d2 d3 d4).aside (p := ⟨w.heap.size + 1, _, none⟩) _ d1 d2 d3 d4).aside (p := ⟨w.heap.size + 1, _, none⟩) _ d1 d2 d3 d4)⟩
end Go.Proofs.Ythijebhhbflclaa
