/- package sweep: one key, one value. -/
import Derived.Test.YthijebhhbflclaaRows
import Derived.Test.YthijebhhbflclaaBits
import Derived.Test.YthijebhhbflclaaKeyPure
import Derived.Test.YthijebhhbflclaaCellPure
import Derived.Test.YthijebhhbflclaaValsArg
import Derived.Test.YthijebhhbflclaaMemPure
import Derived.Test.YthijebhhbflclaaMachArg
import Derived.Test.YthijebhhbflclaaStepChk
import Derived.Test.YthijebhhbflclaaStepChk2
import Derived.Test.YthijebhhbflclaaMachMid
import Derived.Test.YthijebhhbflclaaSweepPure
import Derived.Test.YthijebhhbflclaaSweepStrike
import Derived.WalkKit
import Derived.ProofKit
import Derived.OpenShut
import Derived.Deep.MidRow
import Derived.Deep.CutBlock
namespace Go.Proofs.Ythijebhhbflclaa
open Go.ChangeShapes Go.WideShapes Go.ChangeAt Go.RowKit
set_option linter.unusedSimpArgs false
set_option linter.unusedVariables false
set_option maxRecDepth 100000

/-- The broom: its block alone is turned. -/
structure Brm (w : World) (S : Nat) (b n : Int) (c : Nat) : Prop where
  box : Box w S (brm b n (c : Int))
  lb : 0 ≤ b ∧ 0 ≤ n ∧ b + n ≤ 400
  lc : c ≤ 1000
theorem Brm.below {w w' : World} {S : Nat} {b n : Int} {c : Nat} (h : Brm w S b n c) (hb : Below w.heap.size w w') : Brm w' S b n c := ⟨h.box.below hb, h.lb, h.lc⟩
theorem Brm.more {w : World} {S : Nat} {b n : Int} {c : Nat} (h : Brm w S b n c) (hc : c + 1 ≤ 1000) : Brm (w.setCell ⟨S, 2, none⟩ (.int .i64 ((c : Int) + 1))) S b n (c + 1) := by
  have h1 := Box.setL' (L := [.int .i64 b, .int .i64 (b + n), .int .i64 (c : Int)]) (v := .int .i64 ((c : Int) + 1)) (j := 2) h.box (by show 2 < 3; omega)
  exact ⟨h1, h.lb, hc⟩
theorem Brm.aside {w : World} {S : Nat} {b n : Int} {c : Nat} (h : Brm w S b n c) {p : Addr} (hp : p.block ≠ S) (u : Value) : Brm (w.setCell p u) S b n c := ⟨h.box.aside' hp u, h.lb, h.lc⟩
theorem Brm.off {w w' : World} {S g : Nat} {b n : Int} {c : Nat} (h : Brm w S b n c) (k : Off g w w') (hg : S ≠ g) : Brm w' S b n c := ⟨k.box h.box hg, h.lb, h.lc⟩
theorem Brm.cells {w : World} {S : Nat} {b n : Int} {c : Nat} (h : Brm w S b n c) : (∀ o, w.cell? ⟨S, o, none⟩ = (#[.int .i64 b, .int .i64 (b + n), .int .i64 (c : Int)] : Array Value)[o]?) ∧ ∀ o, w.frozen? ⟨S, o, none⟩ = false := ⟨h.box.cell, h.box.free⟩
set_option maxHeartbeats 2000000 in
theorem sweep_key (S : Nat) (b n : Int) (c : Nat) (k : K5) (w : World) (hk : ok5 k) (hS : Brm w S b n c) (hc : c + cK b n k ≤ 1000) :
    Calls Try.prog 29 #[.pointer (some ⟨S, 0, none⟩), .agg #[.int .i64 k.p, .int .i64 k.b, .int .i64 k.l, .int .i64 k.a, .int .i64 k.s]] w fun e w' => e = .returned (.agg #[.int .i64 (swK b n k).p, .int .i64 (swK b n k).b, .int .i64 (swK b n k).l, .int .i64 (swK b n k).a, .int .i64 (swK b n k).s]) ∧ Off S w w' ∧ Brm w' S b n (c + cK b n k) := by
  have cS := fun w (hS : Brm w S b n c) => sweep_strikes S b n c k w hS.lb hk hS.box
  have hlt := hS.box.lt
  have n1 : ¬ S = w.heap.size := by omega
  have n2 : ¬ w.heap.size = S := by omega
  have n3 : ¬ S = w.heap.size + 1 := by omega
  have n4 : ¬ w.heap.size + 1 = S := by omega
  have HS : Hid (Brm w S b n c) := hS
  unfold cK at hc ⊢
  unfold swK
  cases hs : strk b n k
  · rw [hs] at cS
    simp only [hs, Bool.false_eq_true, if_false, b1, Nat.add_zero]
    clear hs hS hc
    go_enter Try.func29, Try.ntmps29
    go_upto_region 1 with fail
    obtain ⟨w0, hw0⟩ : ∃ w0, w0 = (w.alloc (.cells #[.int .i64 k.p, .int .i64 k.b, .int .i64 k.l, .int .i64 k.a, .int .i64 k.s] 23)).alloc (.cells #[.int .i64 0, .int .i64 0, .int .i64 0, .int .i64 0, .int .i64 0] 23) := ⟨_, rfl⟩
    rw [← hw0]
    have bK : Box w0 w.heap.size #[.int .i64 k.p, .int .i64 k.b, .int .i64 k.l, .int .i64 k.a, .int .i64 k.s] := by rw [hw0]; exact (Box.new _ _ _).alloc _
    have bR : Box w0 (w.heap.size + 1) #[.int .i64 0, .int .i64 0, .int .i64 0, .int .i64 0, .int .i64 0] := by rw [hw0]; exact Box.new1 _ _ _ _
    have hO : Off S w w0 := by rw [hw0]; exact ((Off.refl _ _).alloc _).alloc _
    have hR : Brm w0 S b n c := by rw [hw0]; exact HS.out.below (two _ _)
    have qK := bK.cell
    clear hw0
    go_wp2_with (go_at_call 41; refine (cS _ hR).mono ?_; rintro e w1 ⟨rfl, hbb⟩; replace bK := bK.below hbb; replace bR := bR.below hbb; replace hR := hR.below hbb; replace hO := hO.below hbb; replace qK := bK.cell; have qR := bR.cell; have fR := bR.free; have qS := hR.cells.1; have fS := hR.cells.2; have lS := hR.box.lt; clear hbb cS)
    exact bodyPost_ret (v := .agg #[.int .i64 k.p, .int .i64 k.b, .int .i64 k.l, .int .i64 k.a, .int .i64 k.s]) (by simp [results, Try.results29, go_sem, qR]) rfl ⟨rfl, (((((hO.setNew (p := ⟨w.heap.size + 1, _, none⟩) (Nat.le_succ _) _).setNew (p := ⟨w.heap.size + 1, _, none⟩) (Nat.le_succ _) _).setNew (p := ⟨w.heap.size + 1, _, none⟩) (Nat.le_succ _) _).setNew (p := ⟨w.heap.size + 1, _, none⟩) (Nat.le_succ _) _).setNew (p := ⟨w.heap.size + 1, _, none⟩) (Nat.le_succ _) _), (((((hR.aside (p := ⟨w.heap.size + 1, _, none⟩) n4 _).aside (p := ⟨w.heap.size + 1, _, none⟩) n4 _).aside (p := ⟨w.heap.size + 1, _, none⟩) n4 _).aside (p := ⟨w.heap.size + 1, _, none⟩) n4 _).aside (p := ⟨w.heap.size + 1, _, none⟩) n4 _)⟩
  · rw [hs] at cS
    simp only [hs, if_true, b1] at hc ⊢
    have hwr : IntKind.i64.wrap ((c : Int) + 1) = (c : Int) + 1 := by rw [IntKind.wrap_i64]; omega
    simp only [key0]
    clear hs hS
    go_enter Try.func29, Try.ntmps29
    go_upto_region 1 with fail
    obtain ⟨w0, hw0⟩ : ∃ w0, w0 = (w.alloc (.cells #[.int .i64 k.p, .int .i64 k.b, .int .i64 k.l, .int .i64 k.a, .int .i64 k.s] 23)).alloc (.cells #[.int .i64 0, .int .i64 0, .int .i64 0, .int .i64 0, .int .i64 0] 23) := ⟨_, rfl⟩
    rw [← hw0]
    have bK : Box w0 w.heap.size #[.int .i64 k.p, .int .i64 k.b, .int .i64 k.l, .int .i64 k.a, .int .i64 k.s] := by rw [hw0]; exact (Box.new _ _ _).alloc _
    have bR : Box w0 (w.heap.size + 1) #[.int .i64 0, .int .i64 0, .int .i64 0, .int .i64 0, .int .i64 0] := by rw [hw0]; exact Box.new1 _ _ _ _
    have hO : Off S w w0 := by rw [hw0]; exact ((Off.refl _ _).alloc _).alloc _
    have hR : Brm w0 S b n c := by rw [hw0]; exact HS.out.below (two _ _)
    have qK := bK.cell
    clear hw0
    go_wp2_with (go_at_call 41; refine (cS _ hR).mono ?_; rintro e w1 ⟨rfl, hbb⟩; replace bK := bK.below hbb; replace bR := bR.below hbb; replace hR := hR.below hbb; replace hO := hO.below hbb; replace qK := bK.cell; have qR := bR.cell; have fR := bR.free; have qS := hR.cells.1; have fS := hR.cells.2; have lS := hR.box.lt; clear hbb cS)
    exact bodyPost_ret (v := .agg #[.int .i64 0, .int .i64 0, .int .i64 0, .int .i64 0, .int .i64 0]) (by simp [results, Try.results29, go_sem, qR]) rfl ⟨rfl, ((((((hO.set 2 _).setNew (p := ⟨w.heap.size + 1, _, none⟩) (Nat.le_succ _) _).setNew (p := ⟨w.heap.size + 1, _, none⟩) (Nat.le_succ _) _).setNew (p := ⟨w.heap.size + 1, _, none⟩) (Nat.le_succ _) _).setNew (p := ⟨w.heap.size + 1, _, none⟩) (Nat.le_succ _) _).setNew (p := ⟨w.heap.size + 1, _, none⟩) (Nat.le_succ _) _), ((((((hR.more hc).aside (p := ⟨w.heap.size + 1, _, none⟩) n4 _).aside (p := ⟨w.heap.size + 1, _, none⟩) n4 _).aside (p := ⟨w.heap.size + 1, _, none⟩) n4 _).aside (p := ⟨w.heap.size + 1, _, none⟩) n4 _).aside (p := ⟨w.heap.size + 1, _, none⟩) n4 _)⟩
set_option maxHeartbeats 2000000 in
theorem sweep_value (S : Nat) (b n : Int) (c : Nat) (v : MV) (w : World) (hk : v.i = true → ok5 (vK v)) (hS : Brm w S b n c) (hc : c + cV b n v ≤ 1000) :
    Calls Try.prog 28 #[.pointer (some ⟨S, 0, none⟩), .agg #[.bool v.i, .int .i64 v.n, .int .i64 v.p, .int .i64 v.b, .int .i64 v.l, .int .i64 v.a, .int .i64 v.s]] w fun e w' => e = .returned (.agg #[.bool (swV b n v).i, .int .i64 (swV b n v).n, .int .i64 (swV b n v).p, .int .i64 (swV b n v).b, .int .i64 (swV b n v).l, .int .i64 (swV b n v).a, .int .i64 (swV b n v).s]) ∧ Off S w w' ∧ Brm w' S b n (c + cV b n v) := by
  have hlt := hS.box.lt
  have n1 : ¬ S = w.heap.size := by omega
  have n2 : ¬ w.heap.size = S := by omega
  have n3 : ¬ S = w.heap.size + 1 := by omega
  have n4 : ¬ w.heap.size + 1 = S := by omega
  have HS : Hid (Brm w S b n c) := hS
  unfold cV at hc ⊢
  unfold swV
  cases hi : v.i
  · have hh : hitV b n v = false := by unfold hitV; rw [hi]; rfl
    simp only [hh, Bool.false_eq_true, if_false, b1, Nat.add_zero, hi]
    clear hh hS hc hk
    go_enter Try.func28, Try.ntmps28
    go_upto_region 1 with fail
    obtain ⟨w0, hw0⟩ : ∃ w0, w0 = (w.alloc (.cells #[.bool false, .int .i64 v.n, .int .i64 v.p, .int .i64 v.b, .int .i64 v.l, .int .i64 v.a, .int .i64 v.s] 25)).alloc (.cells #[.bool false, .int .i64 0, .int .i64 0, .int .i64 0, .int .i64 0, .int .i64 0, .int .i64 0] 25) := ⟨_, rfl⟩
    rw [← hw0]
    have bK : Box w0 w.heap.size #[.bool false, .int .i64 v.n, .int .i64 v.p, .int .i64 v.b, .int .i64 v.l, .int .i64 v.a, .int .i64 v.s] := by rw [hw0]; exact (Box.new _ _ _).alloc _
    have bR : Box w0 (w.heap.size + 1) #[.bool false, .int .i64 0, .int .i64 0, .int .i64 0, .int .i64 0, .int .i64 0, .int .i64 0] := by rw [hw0]; exact Box.new1 _ _ _ _
    have hO : Off S w w0 := by rw [hw0]; exact ((Off.refl _ _).alloc _).alloc _
    have hR : Brm w0 S b n c := by rw [hw0]; exact HS.out.below (two _ _)
    have qK := bK.cell
    have qR := bR.cell
    have fR := bR.free
    have w1 := w0
    clear hw0
    go_wp2
    exact bodyPost_ret (v := .agg #[.bool false, .int .i64 v.n, .int .i64 v.p, .int .i64 v.b, .int .i64 v.l, .int .i64 v.a, .int .i64 v.s]) (by simp [results, Try.results28, go_sem, qR]) rfl ⟨rfl, (((((((hO.setNew (p := ⟨w.heap.size + 1, _, none⟩) (Nat.le_succ _) _).setNew (p := ⟨w.heap.size + 1, _, none⟩) (Nat.le_succ _) _).setNew (p := ⟨w.heap.size + 1, _, none⟩) (Nat.le_succ _) _).setNew (p := ⟨w.heap.size + 1, _, none⟩) (Nat.le_succ _) _).setNew (p := ⟨w.heap.size + 1, _, none⟩) (Nat.le_succ _) _).setNew (p := ⟨w.heap.size + 1, _, none⟩) (Nat.le_succ _) _).setNew (p := ⟨w.heap.size + 1, _, none⟩) (Nat.le_succ _) _), (((((((hR.aside (p := ⟨w.heap.size + 1, _, none⟩) n4 _).aside (p := ⟨w.heap.size + 1, _, none⟩) n4 _).aside (p := ⟨w.heap.size + 1, _, none⟩) n4 _).aside (p := ⟨w.heap.size + 1, _, none⟩) n4 _).aside (p := ⟨w.heap.size + 1, _, none⟩) n4 _).aside (p := ⟨w.heap.size + 1, _, none⟩) n4 _).aside (p := ⟨w.heap.size + 1, _, none⟩) n4 _)⟩
  · have cS := fun w (hS : Brm w S b n c) => sweep_strikes S b n c (vK v) w hS.lb (hk hi) hS.box
    cases hs : strk b n (vK v)
    · have hh : hitV b n v = false := by unfold hitV; rw [hi, hs]; rfl
      rw [hs] at cS
      simp only [vK] at cS
      simp only [hh, Bool.false_eq_true, if_false, b1, Nat.add_zero, hi]
      clear hs hh hS hc hk
      go_enter Try.func28, Try.ntmps28
      go_upto_region 1 with fail
      obtain ⟨w0, hw0⟩ : ∃ w0, w0 = (w.alloc (.cells #[.bool true, .int .i64 v.n, .int .i64 v.p, .int .i64 v.b, .int .i64 v.l, .int .i64 v.a, .int .i64 v.s] 25)).alloc (.cells #[.bool false, .int .i64 0, .int .i64 0, .int .i64 0, .int .i64 0, .int .i64 0, .int .i64 0] 25) := ⟨_, rfl⟩
      rw [← hw0]
      have bK : Box w0 w.heap.size #[.bool true, .int .i64 v.n, .int .i64 v.p, .int .i64 v.b, .int .i64 v.l, .int .i64 v.a, .int .i64 v.s] := by rw [hw0]; exact (Box.new _ _ _).alloc _
      have bR : Box w0 (w.heap.size + 1) #[.bool false, .int .i64 0, .int .i64 0, .int .i64 0, .int .i64 0, .int .i64 0, .int .i64 0] := by rw [hw0]; exact Box.new1 _ _ _ _
      have hO : Off S w w0 := by rw [hw0]; exact ((Off.refl _ _).alloc _).alloc _
      have hR : Brm w0 S b n c := by rw [hw0]; exact HS.out.below (two _ _)
      have qK := bK.cell
      clear hw0
      go_wp2_with (go_at_call 41; refine (cS _ hR).mono ?_; rintro e w1 ⟨rfl, hbb⟩; replace bK := bK.below hbb; replace bR := bR.below hbb; replace hR := hR.below hbb; replace hO := hO.below hbb; replace qK := bK.cell; have qR := bR.cell; have fR := bR.free; have qS := hR.cells.1; have fS := hR.cells.2; have lS := hR.box.lt; clear hbb cS)
      exact bodyPost_ret (v := .agg #[.bool true, .int .i64 v.n, .int .i64 v.p, .int .i64 v.b, .int .i64 v.l, .int .i64 v.a, .int .i64 v.s]) (by simp [results, Try.results28, go_sem, qR]) rfl ⟨rfl, (((((((hO.setNew (p := ⟨w.heap.size + 1, _, none⟩) (Nat.le_succ _) _).setNew (p := ⟨w.heap.size + 1, _, none⟩) (Nat.le_succ _) _).setNew (p := ⟨w.heap.size + 1, _, none⟩) (Nat.le_succ _) _).setNew (p := ⟨w.heap.size + 1, _, none⟩) (Nat.le_succ _) _).setNew (p := ⟨w.heap.size + 1, _, none⟩) (Nat.le_succ _) _).setNew (p := ⟨w.heap.size + 1, _, none⟩) (Nat.le_succ _) _).setNew (p := ⟨w.heap.size + 1, _, none⟩) (Nat.le_succ _) _), (((((((hR.aside (p := ⟨w.heap.size + 1, _, none⟩) n4 _).aside (p := ⟨w.heap.size + 1, _, none⟩) n4 _).aside (p := ⟨w.heap.size + 1, _, none⟩) n4 _).aside (p := ⟨w.heap.size + 1, _, none⟩) n4 _).aside (p := ⟨w.heap.size + 1, _, none⟩) n4 _).aside (p := ⟨w.heap.size + 1, _, none⟩) n4 _).aside (p := ⟨w.heap.size + 1, _, none⟩) n4 _)⟩
    · have hh : hitV b n v = true := by unfold hitV; rw [hi, hs]; rfl
      rw [hs] at cS
      simp only [vK] at cS
      simp only [hh, if_true, b1, nil0] at hc ⊢
      have hwr : IntKind.i64.wrap ((c : Int) + 1) = (c : Int) + 1 := by rw [IntKind.wrap_i64]; omega
      clear hs hh hS hk
      go_enter Try.func28, Try.ntmps28
      go_upto_region 1 with fail
      obtain ⟨w0, hw0⟩ : ∃ w0, w0 = (w.alloc (.cells #[.bool true, .int .i64 v.n, .int .i64 v.p, .int .i64 v.b, .int .i64 v.l, .int .i64 v.a, .int .i64 v.s] 25)).alloc (.cells #[.bool false, .int .i64 0, .int .i64 0, .int .i64 0, .int .i64 0, .int .i64 0, .int .i64 0] 25) := ⟨_, rfl⟩
      rw [← hw0]
      have bK : Box w0 w.heap.size #[.bool true, .int .i64 v.n, .int .i64 v.p, .int .i64 v.b, .int .i64 v.l, .int .i64 v.a, .int .i64 v.s] := by rw [hw0]; exact (Box.new _ _ _).alloc _
      have bR : Box w0 (w.heap.size + 1) #[.bool false, .int .i64 0, .int .i64 0, .int .i64 0, .int .i64 0, .int .i64 0, .int .i64 0] := by rw [hw0]; exact Box.new1 _ _ _ _
      have hO : Off S w w0 := by rw [hw0]; exact ((Off.refl _ _).alloc _).alloc _
      have hR : Brm w0 S b n c := by rw [hw0]; exact HS.out.below (two _ _)
      have qK := bK.cell
      clear hw0
      go_wp2_with (go_at_call 41; refine (cS _ hR).mono ?_; rintro e w1 ⟨rfl, hbb⟩; replace bK := bK.below hbb; replace bR := bR.below hbb; replace hR := hR.below hbb; replace hO := hO.below hbb; replace qK := bK.cell; have qR := bR.cell; have fR := bR.free; have qS := hR.cells.1; have fS := hR.cells.2; have lS := hR.box.lt; clear hbb cS)
      exact bodyPost_ret (v := .agg #[.bool false, .int .i64 0, .int .i64 0, .int .i64 0, .int .i64 0, .int .i64 0, .int .i64 0]) (by simp [results, Try.results28, go_sem, qR]) rfl ⟨rfl, ((((((((hO.set 2 _).setNew (p := ⟨w.heap.size + 1, _, none⟩) (Nat.le_succ _) _).setNew (p := ⟨w.heap.size + 1, _, none⟩) (Nat.le_succ _) _).setNew (p := ⟨w.heap.size + 1, _, none⟩) (Nat.le_succ _) _).setNew (p := ⟨w.heap.size + 1, _, none⟩) (Nat.le_succ _) _).setNew (p := ⟨w.heap.size + 1, _, none⟩) (Nat.le_succ _) _).setNew (p := ⟨w.heap.size + 1, _, none⟩) (Nat.le_succ _) _).setNew (p := ⟨w.heap.size + 1, _, none⟩) (Nat.le_succ _) _), ((((((((hR.more hc).aside (p := ⟨w.heap.size + 1, _, none⟩) n4 _).aside (p := ⟨w.heap.size + 1, _, none⟩) n4 _).aside (p := ⟨w.heap.size + 1, _, none⟩) n4 _).aside (p := ⟨w.heap.size + 1, _, none⟩) n4 _).aside (p := ⟨w.heap.size + 1, _, none⟩) n4 _).aside (p := ⟨w.heap.size + 1, _, none⟩) n4 _).aside (p := ⟨w.heap.size + 1, _, none⟩) n4 _)⟩
end Go.Proofs.Ythijebhhbflclaa
