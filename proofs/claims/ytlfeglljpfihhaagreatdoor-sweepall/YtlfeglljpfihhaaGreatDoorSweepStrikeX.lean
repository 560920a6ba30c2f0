/- package sweep: is a key struck. package sweep: one key, one value. Plain: a row that was made is filled, one by one. -/
import Derived.Test.YtlfeglljpfihhaaGreatDoorRows
import Derived.Test.YtlfeglljpfihhaaGreatDoorCardBaseX
import Derived.Test.YtlfeglljpfihhaaGreatDoorValArgX
import Derived.Test.YtlfeglljpfihhaaGreatDoorMemPureX
import Derived.Test.YtlfeglljpfihhaaGreatDoorStepChkX
import Derived.Test.YtlfeglljpfihhaaGreatDoorStepRowX
import Derived.Test.YtlfeglljpfihhaaGreatDoorSweepPureX
import Derived.WalkKit
import Derived.ProofKit
import Derived.OpenShut
import Derived.Deep.MidRow
import Derived.Deep.CutBlock
namespace Go.Proofs.YtlfeglljpfihhaaGreatDoor
section
open Go.ChangeShapes Go.WideShapes Go.ChangeAt Go.RowKit
set_option linter.unusedSimpArgs false
set_option linter.unusedVariables false
set_option maxRecDepth 100000

def brm (b n c : Int) : Array Value := #[.int .i64 b, .int .i64 (b + n), .int .i64 c]
set_option maxHeartbeats 2000000 in
theorem sweep_strikes (S : Nat) (b n c : Int) (k : K5) (w : World) (hb : 0 ≤ b ∧ 0 ≤ n ∧ b + n ≤ 400) (hk : ok5 k) (hS : Box w S (brm b n c)) :
    Calls Tryz.prog 67 #[.pointer (some ⟨S, 0, none⟩), .agg #[.int .i64 k.p, .int .i64 k.b, .int .i64 k.l, .int .i64 k.a, .int .i64 k.s]] w fun e w' => e = .returned (.bool (strk b n k)) ∧ Below w.heap.size w w' := by
  have hk' := ok5_lit hk
  have q : ∀ o, w.cell? ⟨S, o, none⟩ = (#[.int .i64 b, .int .i64 (b + n), .int .i64 c] : Array Value)[o]? := hS.cell
  have hlt := hS.lt
  have n1 : ¬ S = w.heap.size := by omega
  have n2 : ¬ w.heap.size = S := by omega
  have s0 : IntKind.i64.wrap (k.b + k.l) = k.b + k.l := by rw [IntKind.wrap_i64]; omega
  unfold strk
  go_enter Tryz.func67, Tryz.ntmps67
  go_wp2
  go_region
  all_goals go_wp2
  all_goals go_ret
  all_goals
    refine ⟨?_, ((Below.refl _ _).alloc (Nat.le_refl _) _).drew⟩
    show Ending.returned (.bool (decide _)) = _
    rw [Int.max_def, Int.min_def]
    congr 2
    apply decide_eq_decide.2
    constructor <;> intro h <;> (repeat (first | split at h | split)) <;> omega
end
section
open Go.ChangeShapes Go.WideShapes Go.ChangeAt Go.RowKit
set_option linter.unusedSimpArgs false
set_option linter.unusedVariables false
set_option maxRecDepth 100000

/-- The broom: its block alone is turned. -/
structure Brm (w : World) (S : Nat) (b n : Int) (c : Nat) : Prop where
  box : Box w S (brm b n (c : Int))
  lb : 0 ≤ b ∧ 0 ≤ n ∧ b + n ≤ 400
  lc : c ≤ 1000
theorem Brm.below {w w' : World} {S : Nat} {b n : Int} {c : Nat} (h : Brm w S b n c) (hb : Below w.heap.size w w') : Brm w' S b n c := ⟨h.box.below hb, h.lb, h.lc⟩
theorem Brm.more {w : World} {S : Nat} {b n : Int} {c : Nat} (h : Brm w S b n c) (hc : c + 1 ≤ 1000) : Brm (w.setCell ⟨S, 2, none⟩ (.int .i64 ((c : Int) + 1))) S b n (c + 1) := by
  have h1 := Box.setL' (L := [.int .i64 b, .int .i64 (b + n), .int .i64 (c : Int)]) (v := .int .i64 ((c : Int) + 1)) (j := 2) h.box (by show 2 < 3; omega)
  exact ⟨h1, h.lb, hc⟩
theorem Brm.aside {w : World} {S : Nat} {b n : Int} {c : Nat} (h : Brm w S b n c) {p : Addr} (hp : p.block ≠ S) (u : Value) : Brm (w.setCell p u) S b n c := ⟨h.box.aside' hp u, h.lb, h.lc⟩
theorem Brm.off {w w' : World} {S g : Nat} {b n : Int} {c : Nat} (h : Brm w S b n c) (k : Off g w w') (hg : S ≠ g) : Brm w' S b n c := ⟨k.box h.box hg, h.lb, h.lc⟩
theorem Brm.cells {w : World} {S : Nat} {b n : Int} {c : Nat} (h : Brm w S b n c) : (∀ o, w.cell? ⟨S, o, none⟩ = (#[.int .i64 b, .int .i64 (b + n), .int .i64 (c : Int)] : Array Value)[o]?) ∧ ∀ o, w.frozen? ⟨S, o, none⟩ = false := ⟨h.box.cell, h.box.free⟩
set_option maxHeartbeats 2000000 in
theorem sweep_key (S : Nat) (b n : Int) (c : Nat) (k : K5) (w : World) (hk : ok5 k) (hS : Brm w S b n c) (hc : c + cK b n k ≤ 1000) :
    Calls Tryz.prog 37 #[.pointer (some ⟨S, 0, none⟩), .agg #[.int .i64 k.p, .int .i64 k.b, .int .i64 k.l, .int .i64 k.a, .int .i64 k.s]] w fun e w' => e = .returned (.agg #[.int .i64 (swK b n k).p, .int .i64 (swK b n k).b, .int .i64 (swK b n k).l, .int .i64 (swK b n k).a, .int .i64 (swK b n k).s]) ∧ Off S w w' ∧ Brm w' S b n (c + cK b n k) := by
  have cS := fun w (hS : Brm w S b n c) => sweep_strikes S b n c k w hS.lb hk hS.box
  have hlt := hS.box.lt
  have n1 : ¬ S = w.heap.size := by omega
  have n2 : ¬ w.heap.size = S := by omega
  have n3 : ¬ S = w.heap.size + 1 := by omega
  have n4 : ¬ w.heap.size + 1 = S := by omega
  have HS : Hid (Brm w S b n c) := hS
  unfold cK at hc ⊢
  unfold swK
  cases hs : strk b n k
  · rw [hs] at cS
    simp only [hs, Bool.false_eq_true, if_false, b1, Nat.add_zero]
    clear hs hS hc
    go_enter Tryz.func37, Tryz.ntmps37
    go_upto_region 1 with fail
    obtain ⟨w0, hw0⟩ : ∃ w0, w0 = (w.alloc (.cells #[.int .i64 k.p, .int .i64 k.b, .int .i64 k.l, .int .i64 k.a, .int .i64 k.s] 23)).alloc (.cells #[.int .i64 0, .int .i64 0, .int .i64 0, .int .i64 0, .int .i64 0] 23) := ⟨_, rfl⟩
    rw [← hw0]
    have bK : Box w0 w.heap.size #[.int .i64 k.p, .int .i64 k.b, .int .i64 k.l, .int .i64 k.a, .int .i64 k.s] := by rw [hw0]; exact (Box.new _ _ _).alloc _
    have bR : Box w0 (w.heap.size + 1) #[.int .i64 0, .int .i64 0, .int .i64 0, .int .i64 0, .int .i64 0] := by rw [hw0]; exact Box.new1 _ _ _ _
    have hO : Off S w w0 := by rw [hw0]; exact ((Off.refl _ _).alloc _).alloc _
    have hR : Brm w0 S b n c := by rw [hw0]; exact HS.out.below (two _ _)
    have qK := bK.cell
    clear hw0
    go_wp2_with (go_at_call 67; refine (cS _ hR).mono ?_; rintro e w1 ⟨rfl, hbb⟩; replace bK := bK.below hbb; replace bR := bR.below hbb; replace hR := hR.below hbb; replace hO := hO.below hbb; replace qK := bK.cell; have qR := bR.cell; have fR := bR.free; have qS := hR.cells.1; have fS := hR.cells.2; have lS := hR.box.lt; clear hbb cS)
    exact bodyPost_ret (v := .agg #[.int .i64 k.p, .int .i64 k.b, .int .i64 k.l, .int .i64 k.a, .int .i64 k.s]) (by simp [results, Tryz.results37, go_sem, qR]) rfl ⟨rfl, (((((hO.setNew (p := ⟨w.heap.size + 1, _, none⟩) (Nat.le_succ _) _).setNew (p := ⟨w.heap.size + 1, _, none⟩) (Nat.le_succ _) _).setNew (p := ⟨w.heap.size + 1, _, none⟩) (Nat.le_succ _) _).setNew (p := ⟨w.heap.size + 1, _, none⟩) (Nat.le_succ _) _).setNew (p := ⟨w.heap.size + 1, _, none⟩) (Nat.le_succ _) _), (((((hR.aside (p := ⟨w.heap.size + 1, _, none⟩) n4 _).aside (p := ⟨w.heap.size + 1, _, none⟩) n4 _).aside (p := ⟨w.heap.size + 1, _, none⟩) n4 _).aside (p := ⟨w.heap.size + 1, _, none⟩) n4 _).aside (p := ⟨w.heap.size + 1, _, none⟩) n4 _)⟩
  · rw [hs] at cS
    simp only [hs, if_true, b1] at hc ⊢
    have hwr : IntKind.i64.wrap ((c : Int) + 1) = (c : Int) + 1 := by rw [IntKind.wrap_i64]; omega
    simp only [key0]
    clear hs hS
    go_enter Tryz.func37, Tryz.ntmps37
    go_upto_region 1 with fail
    obtain ⟨w0, hw0⟩ : ∃ w0, w0 = (w.alloc (.cells #[.int .i64 k.p, .int .i64 k.b, .int .i64 k.l, .int .i64 k.a, .int .i64 k.s] 23)).alloc (.cells #[.int .i64 0, .int .i64 0, .int .i64 0, .int .i64 0, .int .i64 0] 23) := ⟨_, rfl⟩
    rw [← hw0]
    have bK : Box w0 w.heap.size #[.int .i64 k.p, .int .i64 k.b, .int .i64 k.l, .int .i64 k.a, .int .i64 k.s] := by rw [hw0]; exact (Box.new _ _ _).alloc _
    have bR : Box w0 (w.heap.size + 1) #[.int .i64 0, .int .i64 0, .int .i64 0, .int .i64 0, .int .i64 0] := by rw [hw0]; exact Box.new1 _ _ _ _
    have hO : Off S w w0 := by rw [hw0]; exact ((Off.refl _ _).alloc _).alloc _
    have hR : Brm w0 S b n c := by rw [hw0]; exact HS.out.below (two _ _)
    have qK := bK.cell
    clear hw0
    go_wp2_with (go_at_call 67; refine (cS _ hR).mono ?_; rintro e w1 ⟨rfl, hbb⟩; replace bK := bK.below hbb; replace bR := bR.below hbb; replace hR := hR.below hbb; replace hO := hO.below hbb; replace qK := bK.cell; have qR := bR.cell; have fR := bR.free; have qS := hR.cells.1; have fS := hR.cells.2; have lS := hR.box.lt; clear hbb cS)
    exact bodyPost_ret (v := .agg #[.int .i64 0, .int .i64 0, .int .i64 0, .int .i64 0, .int .i64 0]) (by simp [results, Tryz.results37, go_sem, qR]) rfl ⟨rfl, ((((((hO.set 2 _).setNew (p := ⟨w.heap.size + 1, _, none⟩) (Nat.le_succ _) _).setNew (p := ⟨w.heap.size + 1, _, none⟩) (Nat.le_succ _) _).setNew (p := ⟨w.heap.size + 1, _, none⟩) (Nat.le_succ _) _).setNew (p := ⟨w.heap.size + 1, _, none⟩) (Nat.le_succ _) _).setNew (p := ⟨w.heap.size + 1, _, none⟩) (Nat.le_succ _) _), ((((((hR.more hc).aside (p := ⟨w.heap.size + 1, _, none⟩) n4 _).aside (p := ⟨w.heap.size + 1, _, none⟩) n4 _).aside (p := ⟨w.heap.size + 1, _, none⟩) n4 _).aside (p := ⟨w.heap.size + 1, _, none⟩) n4 _).aside (p := ⟨w.heap.size + 1, _, none⟩) n4 _)⟩
set_option maxHeartbeats 2000000 in
theorem sweep_value (S : Nat) (b n : Int) (c : Nat) (v : MV) (w : World) (hk : v.i = true → ok5 (vK v)) (hS : Brm w S b n c) (hc : c + cV b n v ≤ 1000) :
    Calls Tryz.prog 36 #[.pointer (some ⟨S, 0, none⟩), .agg #[.bool v.i, .int .i64 v.n, .int .i64 v.p, .int .i64 v.b, .int .i64 v.l, .int .i64 v.a, .int .i64 v.s]] w fun e w' => e = .returned (.agg #[.bool (swV b n v).i, .int .i64 (swV b n v).n, .int .i64 (swV b n v).p, .int .i64 (swV b n v).b, .int .i64 (swV b n v).l, .int .i64 (swV b n v).a, .int .i64 (swV b n v).s]) ∧ Off S w w' ∧ Brm w' S b n (c + cV b n v) := by
  have hlt := hS.box.lt
  have n1 : ¬ S = w.heap.size := by omega
  have n2 : ¬ w.heap.size = S := by omega
  have n3 : ¬ S = w.heap.size + 1 := by omega
  have n4 : ¬ w.heap.size + 1 = S := by omega
  have HS : Hid (Brm w S b n c) := hS
  unfold cV at hc ⊢
  unfold swV
  cases hi : v.i
  · have hh : hitV b n v = false := by unfold hitV; rw [hi]; rfl
    simp only [hh, Bool.false_eq_true, if_false, b1, Nat.add_zero, hi]
    clear hh hS hc hk
    go_enter Tryz.func36, Tryz.ntmps36
    go_upto_region 1 with fail
    obtain ⟨w0, hw0⟩ : ∃ w0, w0 = (w.alloc (.cells #[.bool false, .int .i64 v.n, .int .i64 v.p, .int .i64 v.b, .int .i64 v.l, .int .i64 v.a, .int .i64 v.s] 25)).alloc (.cells #[.bool false, .int .i64 0, .int .i64 0, .int .i64 0, .int .i64 0, .int .i64 0, .int .i64 0] 25) := ⟨_, rfl⟩
    rw [← hw0]
    have bK : Box w0 w.heap.size #[.bool false, .int .i64 v.n, .int .i64 v.p, .int .i64 v.b, .int .i64 v.l, .int .i64 v.a, .int .i64 v.s] := by rw [hw0]; exact (Box.new _ _ _).alloc _
    have bR : Box w0 (w.heap.size + 1) #[.bool false, .int .i64 0, .int .i64 0, .int .i64 0, .int .i64 0, .int .i64 0, .int .i64 0] := by rw [hw0]; exact Box.new1 _ _ _ _
    have hO : Off S w w0 := by rw [hw0]; exact ((Off.refl _ _).alloc _).alloc _
    have hR : Brm w0 S b n c := by rw [hw0]; exact HS.out.below (two _ _)
    have qK := bK.cell
    have qR := bR.cell
    have fR := bR.free
    have w1 := w0
    clear hw0
    go_wp2
    exact bodyPost_ret (v := .agg #[.bool false, .int .i64 v.n, .int .i64 v.p, .int .i64 v.b, .int .i64 v.l, .int .i64 v.a, .int .i64 v.s]) (by simp [results, Tryz.results36, go_sem, qR]) rfl ⟨rfl, (((((((hO.setNew (p := ⟨w.heap.size + 1, _, none⟩) (Nat.le_succ _) _).setNew (p := ⟨w.heap.size + 1, _, none⟩) (Nat.le_succ _) _).setNew (p := ⟨w.heap.size + 1, _, none⟩) (Nat.le_succ _) _).setNew (p := ⟨w.heap.size + 1, _, none⟩) (Nat.le_succ _) _).setNew (p := ⟨w.heap.size + 1, _, none⟩) (Nat.le_succ _) _).setNew (p := ⟨w.heap.size + 1, _, none⟩) (Nat.le_succ _) _).setNew (p := ⟨w.heap.size + 1, _, none⟩) (Nat.le_succ _) _), (((((((hR.aside (p := ⟨w.heap.size + 1, _, none⟩) n4 _).aside (p := ⟨w.heap.size + 1, _, none⟩) n4 _).aside (p := ⟨w.heap.size + 1, _, none⟩) n4 _).aside (p := ⟨w.heap.size + 1, _, none⟩) n4 _).aside (p := ⟨w.heap.size + 1, _, none⟩) n4 _).aside (p := ⟨w.heap.size + 1, _, none⟩) n4 _).aside (p := ⟨w.heap.size + 1, _, none⟩) n4 _)⟩
  · have cS := fun w (hS : Brm w S b n c) => sweep_strikes S b n c (vK v) w hS.lb (hk hi) hS.box
    cases hs : strk b n (vK v)
    · have hh : hitV b n v = false := by unfold hitV; rw [hi, hs]; rfl
      rw [hs] at cS
      simp only [vK] at cS
      simp only [hh, Bool.false_eq_true, if_false, b1, Nat.add_zero, hi]
      clear hs hh hS hc hk
      go_enter Tryz.func36, Tryz.ntmps36
      go_upto_region 1 with fail
      obtain ⟨w0, hw0⟩ : ∃ w0, w0 = (w.alloc (.cells #[.bool true, .int .i64 v.n, .int .i64 v.p, .int .i64 v.b, .int .i64 v.l, .int .i64 v.a, .int .i64 v.s] 25)).alloc (.cells #[.bool false, .int .i64 0, .int .i64 0, .int .i64 0, .int .i64 0, .int .i64 0, .int .i64 0] 25) := ⟨_, rfl⟩
      rw [← hw0]
      have bK : Box w0 w.heap.size #[.bool true, .int .i64 v.n, .int .i64 v.p, .int .i64 v.b, .int .i64 v.l, .int .i64 v.a, .int .i64 v.s] := by rw [hw0]; exact (Box.new _ _ _).alloc _
      have bR : Box w0 (w.heap.size + 1) #[.bool false, .int .i64 0, .int .i64 0, .int .i64 0, .int .i64 0, .int .i64 0, .int .i64 0] := by rw [hw0]; exact Box.new1 _ _ _ _
      have hO : Off S w w0 := by rw [hw0]; exact ((Off.refl _ _).alloc _).alloc _
      have hR : Brm w0 S b n c := by rw [hw0]; exact HS.out.below (two _ _)
      have qK := bK.cell
      clear hw0
      go_wp2_with (go_at_call 67; refine (cS _ hR).mono ?_; rintro e w1 ⟨rfl, hbb⟩; replace bK := bK.below hbb; replace bR := bR.below hbb; replace hR := hR.below hbb; replace hO := hO.below hbb; replace qK := bK.cell; have qR := bR.cell; have fR := bR.free; have qS := hR.cells.1; have fS := hR.cells.2; have lS := hR.box.lt; clear hbb cS)
      exact bodyPost_ret (v := .agg #[.bool true, .int .i64 v.n, .int .i64 v.p, .int .i64 v.b, .int .i64 v.l, .int .i64 v.a, .int .i64 v.s]) (by simp [results, Tryz.results36, go_sem, qR]) rfl ⟨rfl, (((((((hO.setNew (p := ⟨w.heap.size + 1, _, none⟩) (Nat.le_succ _) _).setNew (p := ⟨w.heap.size + 1, _, none⟩) (Nat.le_succ _) _).setNew (p := ⟨w.heap.size + 1, _, none⟩) (Nat.le_succ _) _).setNew (p := ⟨w.heap.size + 1, _, none⟩) (Nat.le_succ _) _).setNew (p := ⟨w.heap.size + 1, _, none⟩) (Nat.le_succ _) _).setNew (p := ⟨w.heap.size + 1, _, none⟩) (Nat.le_succ _) _).setNew (p := ⟨w.heap.size + 1, _, none⟩) (Nat.le_succ _) _), (((((((hR.aside (p := ⟨w.heap.size + 1, _, none⟩) n4 _).aside (p := ⟨w.heap.size + 1, _, none⟩) n4 _).aside (p := ⟨w.heap.size + 1, _, none⟩) n4 _).aside (p := ⟨w.heap.size + 1, _, none⟩) n4 _).aside (p := ⟨w.heap.size + 1, _, none⟩) n4 _).aside (p := ⟨w.heap.size + 1, _, none⟩) n4 _).aside (p := ⟨w.heap.size + 1, _, none⟩) n4 _)⟩
    · have hh : hitV b n v = true := by unfold hitV; rw [hi, hs]; rfl
      rw [hs] at cS
      simp only [vK] at cS
      simp only [hh, if_true, b1, nil0] at hc ⊢
      have hwr : IntKind.i64.wrap ((c : Int) + 1) = (c : Int) + 1 := by rw [IntKind.wrap_i64]; omega
      clear hs hh hS hk
      go_enter Tryz.func36, Tryz.ntmps36
      go_upto_region 1 with fail
      obtain ⟨w0, hw0⟩ : ∃ w0, w0 = (w.alloc (.cells #[.bool true, .int .i64 v.n, .int .i64 v.p, .int .i64 v.b, .int .i64 v.l, .int .i64 v.a, .int .i64 v.s] 25)).alloc (.cells #[.bool false, .int .i64 0, .int .i64 0, .int .i64 0, .int .i64 0, .int .i64 0, .int .i64 0] 25) := ⟨_, rfl⟩
      rw [← hw0]
      have bK : Box w0 w.heap.size #[.bool true, .int .i64 v.n, .int .i64 v.p, .int .i64 v.b, .int .i64 v.l, .int .i64 v.a, .int .i64 v.s] := by rw [hw0]; exact (Box.new _ _ _).alloc _
      have bR : Box w0 (w.heap.size + 1) #[.bool false, .int .i64 0, .int .i64 0, .int .i64 0, .int .i64 0, .int .i64 0, .int .i64 0] := by rw [hw0]; exact Box.new1 _ _ _ _
      have hO : Off S w w0 := by rw [hw0]; exact ((Off.refl _ _).alloc _).alloc _
      have hR : Brm w0 S b n c := by rw [hw0]; exact HS.out.below (two _ _)
      have qK := bK.cell
      clear hw0
      go_wp2_with (go_at_call 67; refine (cS _ hR).mono ?_; rintro e w1 ⟨rfl, hbb⟩; replace bK := bK.below hbb; replace bR := bR.below hbb; replace hR := hR.below hbb; replace hO := hO.below hbb; replace qK := bK.cell; have qR := bR.cell; have fR := bR.free; have qS := hR.cells.1; have fS := hR.cells.2; have lS := hR.box.lt; clear hbb cS)
      exact bodyPost_ret (v := .agg #[.bool false, .int .i64 0, .int .i64 0, .int .i64 0, .int .i64 0, .int .i64 0, .int .i64 0]) (by simp [results, Tryz.results36, go_sem, qR]) rfl ⟨rfl, ((((((((hO.set 2 _).setNew (p := ⟨w.heap.size + 1, _, none⟩) (Nat.le_succ _) _).setNew (p := ⟨w.heap.size + 1, _, none⟩) (Nat.le_succ _) _).setNew (p := ⟨w.heap.size + 1, _, none⟩) (Nat.le_succ _) _).setNew (p := ⟨w.heap.size + 1, _, none⟩) (Nat.le_succ _) _).setNew (p := ⟨w.heap.size + 1, _, none⟩) (Nat.le_succ _) _).setNew (p := ⟨w.heap.size + 1, _, none⟩) (Nat.le_succ _) _).setNew (p := ⟨w.heap.size + 1, _, none⟩) (Nat.le_succ _) _), ((((((((hR.more hc).aside (p := ⟨w.heap.size + 1, _, none⟩) n4 _).aside (p := ⟨w.heap.size + 1, _, none⟩) n4 _).aside (p := ⟨w.heap.size + 1, _, none⟩) n4 _).aside (p := ⟨w.heap.size + 1, _, none⟩) n4 _).aside (p := ⟨w.heap.size + 1, _, none⟩) n4 _).aside (p := ⟨w.heap.size + 1, _, none⟩) n4 _).aside (p := ⟨w.heap.size + 1, _, none⟩) n4 _)⟩
end
section
open Go.ChangeShapes Go.WideShapes Go.ChangeAt Go.RowKit
set_option linter.unusedVariables false

/-- Some cells of a block are set. -/
theorem box_part {g : Nat} : ∀ (cs : List Value) (o : Nat) (w : World) (D : Array Value), Box w g D → o + cs.length ≤ D.size →
    ∃ D', Box (w.setCells g o cs) g D' ∧ D'.size = D.size ∧ (∀ j, j < cs.length → D'[o + j]? = cs[j]?) ∧ ∀ j, (j < o ∨ o + cs.length ≤ j) → D'[j]? = D[j]?
  | [], o, w, D, h, _ => ⟨D, h, rfl, fun j hj => absurd hj (Nat.not_lt_zero _), fun _ _ => rfl⟩
  | v :: r, o, w, D, h, ho => by
    rw [List.length_cons] at ho
    obtain ⟨L⟩ := D
    have hL : o + (r.length + 1) ≤ L.length := ho
    have h1 := Box.setL' (v := v) (j := o) h (by omega)
    obtain ⟨D', h2, h3, h4, h5⟩ := box_part r (o + 1) _ _ h1 (by rw [List.size_toArray, List.length_set]; omega)
    refine ⟨D', h2, by rw [h3, List.size_toArray, List.length_set]; rfl, fun j hj => ?_, fun j hj => ?_⟩
    · cases j with
      | zero =>
        rw [Nat.add_zero, h5 o (by omega), List.getElem?_toArray, List.getElem?_set_self (by omega)]
        rfl
      | succ j =>
        have := h4 j (by rw [List.length_cons] at hj; omega)
        rw [show o + (j + 1) = o + 1 + j by omega, this]
        rfl
    · rw [List.length_cons] at hj
      rw [h5 j (by omega), List.getElem?_toArray, List.getElem?_set_ne (by omega)]
      exact (List.getElem?_toArray (xs := L)).symm
section
variable {P : Program} {ops : Array Oper} {rest : List Oper} {o : Oper} {a : Act} {w : World} {Q : Exit → Act → World → Prop}
theorem pl_store_part (hg : o.guard = none) (ty : TypeId) (y z : Operand) (ho : o.op = .store ty y z) (g off : Nat) (cs : List Value) (hy : a.eval y = .pointer (some ⟨g, off, none⟩)) (hz : a.eval z = .agg cs.toArray) (D : Array Value) (hb : Box w g D) (hd : off + cs.length ≤ D.size)
    (hi : (P.info? ty).map (·.size) = some cs.length) (h1 : ∀ u ∈ cs, u.oneCell' = true)
    (h : ∀ W D', Off g w W → Box W g D' → D'.size = D.size → (∀ j, j < cs.length → D'[off + j]? = cs[j]?) → (∀ j, (j < off ∨ off + cs.length ≤ j) → D'[j]? = D[j]?) → wpList P ops Q rest (a.put o.dst undef) W) : wpList P ops Q (o :: rest) a w := by
  have ht : w.there g off cs.toArray.size := fun j hj => by
    rw [List.size_toArray] at hj
    rw [hb.cell]
    exact ⟨by rw [Array.getElem?_eq_getElem (by omega)]; rfl, hb.free _⟩
  obtain ⟨D', h2, h3, h4, h5⟩ := box_part cs off w D hb hd
  exact wpList_plain hg fun _ hK => wp_store_mid ty y z ho g off cs.toArray hy hz ht (by rw [List.size_toArray]; exact hi) (all_oneCell_toArray h1) (hK _ _ (h _ D' (Off.cells g cs off w (Off.refl g w) (.inl rfl)) h2 h3 h4 h5))
end
/-- A block that was not there is turned besides. -/
theorem Off.new {S g : Nat} {a b c : World} (h : Off S a b) (k : Off g b c) (hg : a.heap.size ≤ g) : Off S a c :=
  ⟨k.os.trans h.os, k.tape.trans h.tape, k.output.trans h.output, Nat.le_trans h.size k.size, fun i hi hn => (k.block i (Nat.lt_of_lt_of_le hi h.size) (by omega)).trans (h.block i hi hn)⟩
/-- What lies at the front of a row. -/
def Pre (D : Array Value) (cs : List Value) : Prop := ∀ (j : Nat) u, cs[j]? = some u → D[j]? = some u
theorem pre_nil (D : Array Value) : Pre D [] := fun j u h => by simp at h
theorem pre_snoc {D D' : Array Value} {xs cs : List Value} {off : Nat} (hx : xs.length = off) (h : Pre D xs) (h4 : ∀ j, j < cs.length → D'[off + j]? = cs[j]?) (h5 : ∀ j, (j < off ∨ off + cs.length ≤ j) → D'[j]? = D[j]?) : Pre D' (xs ++ cs) := fun j u hj => by
  rcases Nat.lt_or_ge j off with hlt | hge
  · rw [List.getElem?_append_left (by omega)] at hj
    rw [h5 j (.inl hlt)]
    exact h j u hj
  · rw [List.getElem?_append_right (by omega), hx] at hj
    have hjc : j - off < cs.length := (List.getElem?_eq_some_iff.1 hj).1
    have := h4 (j - off) hjc
    rw [show off + (j - off) = j by omega] at this
    rw [this]
    exact hj
theorem pre_row {w : World} {g : Nat} {D : Array Value} {cs : List Value} (hb : Box w g D) (h : Pre D cs) : RowAt w (some ⟨g, 0, none⟩) cs :=
  .inr ⟨g, 0, rfl, hb.lt, fun j u hj => by rw [Nat.zero_add, hb.cell]; exact h j u hj⟩
theorem take_snoc {α β : Type} {f : α → β} {xs : List α} {k : Nat} {x : α} (h : xs[k]? = some x) : (xs.take (k + 1)).map f = (xs.take k).map f ++ [f x] := by
  obtain ⟨hk, e⟩ := List.getElem?_eq_some_iff.1 h
  rw [List.take_add_one, h, List.map_append]
  rfl
end
end Go.Proofs.YtlfeglljpfihhaaGreatDoor
