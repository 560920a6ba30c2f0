/- package step: call. -/
import Derived.Test.YtlfeglljpfihhaaGreatDoorRows
import Derived.Test.YtlfeglljpfihhaaGreatDoorCardBaseX
import Derived.Test.YtlfeglljpfihhaaGreatDoorCellChkX
import Derived.Test.YtlfeglljpfihhaaGreatDoorValArgX
import Derived.Test.YtlfeglljpfihhaaGreatDoorMemPureX
import Derived.Test.YtlfeglljpfihhaaGreatDoorStepRowX
import Derived.Test.YtlfeglljpfihhaaGreatDoorStepOffX
import Derived.Test.YtlfeglljpfihhaaGreatDoorStepOwnedX
import Derived.Test.YtlfeglljpfihhaaGreatDoorStepMidX
import Derived.Test.YtlfeglljpfihhaaGreatDoorStepMid2X
import Derived.WalkKit
import Derived.ProofKit
import Derived.OpenShut
import Derived.WalkLawsBesides
import Derived.Deep.RegionLawGrows
namespace Go.Proofs.YtlfeglljpfihhaaGreatDoor
open Go.ChangeShapes Go.WideShapes Go.ChangeAt Go.RowKit
set_option linter.unusedSimpArgs false
set_option linter.unusedVariables false
set_option maxRecDepth 100000

def callE (a b : K5) (len : Nat) : Int := if a.s = 0 ∨ ¬ a.s = b.s then 11 else if inB 4 a.p = false ∨ inB 4 b.p = true then 12 else if 16 ≤ len then 9 else 0
def open5 (a : K5) : K5 := ⟨a.p, a.b, a.l, a.a, 0⟩
def callM (x : MC) (n b : K5) (v : MV) : MC := ⟨x.r.set 7 (kV (open5 b)), x.k, x.m, x.s ++ [⟨n, v⟩], x.o⟩
theorem RowAt.set {w : World} {a : Option Addr} {cs : List Value} (h : RowAt w a cs) {p : Addr} (hp : ∀ y ∈ a, y.block ≠ p.block) (u : Value) : RowAt (w.setCell p u) a cs := by
  rcases h with h | ⟨B, off, rfl, hB, hc⟩
  · exact .inl h
  · refine .inr ⟨B, off, rfl, by simpa [World.setCell] using hB, fun j u' hj => ?_⟩
    rw [World.cell?_setCell_other _ _ _ _ (fun e => hp ⟨B, off, none⟩ rfl (by rw [e]))]
    exact hc j u' hj
theorem Box.aside {w : World} {k : Nat} {c : Array Value} (h : Box w k c) {p : Addr} (hp : p.block ≠ k) (u : Value) : Box (w.setCell p u) k c :=
  ⟨by simpa [World.setCell] using h.1, fun o => by rw [World.cell?_setCell_other _ _ _ _ (fun e => hp (by rw [e]))]; exact h.2.1 o, fun o => by rw [World.frozen?_setCell]; exact h.2.2 o⟩
theorem call_end {w w1 : World} {S bb : Nat} {x : MC} {q : MA} {i : ID} {n a b : K5} {v : MV} {sa : Option Addr} {sc : Nat} (h1 : St w1 S bb x q i n) (hO : Off S w w1) (hm : McAt w x q) (hr : RowAt w1 sa ((x.s ++ [(⟨n, v⟩ : FR)]).flatMap frC)) (hfar : ∀ y ∈ sa, w.heap.size + 3 ≤ y.block) (hS : S < w.heap.size) (hlb : bb < w.heap.size) :
    Off S w ((((((((((((((((w1.setCell ⟨S, 62, none⟩ (.slice sa (x.s.length + 1) sc)).setCell ⟨w.heap.size, 4, none⟩ (.int .i64 0)).setCell ⟨w.heap.size + 1, 4, none⟩ (.int .i64 0)).setCell ⟨S, 68, none⟩ (.int .i64 a.p)).setCell ⟨S, 69, none⟩ (.int .i64 a.b)).setCell ⟨S, 70, none⟩ (.int .i64 a.l)).setCell ⟨S, 71, none⟩ (.int .i64 a.a)).setCell ⟨S, 72, none⟩ (.int .i64 0)).setCell ⟨S, 49, none⟩ (.bool true)).setCell ⟨S, 50, none⟩ (.int .i64 0)).setCell ⟨S, 51, none⟩ (.int .i64 b.p)).setCell ⟨S, 52, none⟩ (.int .i64 b.b)).setCell ⟨S, 53, none⟩ (.int .i64 b.l)).setCell ⟨S, 54, none⟩ (.int .i64 b.a)).setCell ⟨S, 55, none⟩ (.int .i64 0))) ∧
    ∃ q', St ((((((((((((((((w1.setCell ⟨S, 62, none⟩ (.slice sa (x.s.length + 1) sc)).setCell ⟨w.heap.size, 4, none⟩ (.int .i64 0)).setCell ⟨w.heap.size + 1, 4, none⟩ (.int .i64 0)).setCell ⟨S, 68, none⟩ (.int .i64 a.p)).setCell ⟨S, 69, none⟩ (.int .i64 a.b)).setCell ⟨S, 70, none⟩ (.int .i64 a.l)).setCell ⟨S, 71, none⟩ (.int .i64 a.a)).setCell ⟨S, 72, none⟩ (.int .i64 0)).setCell ⟨S, 49, none⟩ (.bool true)).setCell ⟨S, 50, none⟩ (.int .i64 0)).setCell ⟨S, 51, none⟩ (.int .i64 b.p)).setCell ⟨S, 52, none⟩ (.int .i64 b.b)).setCell ⟨S, 53, none⟩ (.int .i64 b.l)).setCell ⟨S, 54, none⟩ (.int .i64 b.a)).setCell ⟨S, 55, none⟩ (.int .i64 0))) S bb (callM x n b v) q' i (open5 a) := by
  have hf1 : Far S bb sa := fun y hy => by have := hfar y hy; omega
  obtain ⟨s2, o2⟩ := h1.setS (x.s ++ [⟨n, v⟩]) sa sc hr hf1
  rw [show (x.s ++ [(⟨n, v⟩ : FR)]).length = x.s.length + 1 by simp] at s2 o2
  generalize hW2 : w1.setCell ⟨S, 62, none⟩ (.slice sa (x.s.length + 1) sc) = W2 at *
  have O2 : Off S w W2 := hO.trans o2
  have r2 : RowAt W2 sa ((x.s ++ [(⟨n, v⟩ : FR)]).flatMap frC) := s2.at_.s
  have O3 : Off S w (W2.setCell ⟨w.heap.size, 4, none⟩ (.int .i64 0)) := O2.setNew (p := ⟨w.heap.size, 4, none⟩) (Nat.le_refl _) _
  have r3 := r2.set (p := ⟨w.heap.size, 4, none⟩) (fun y hy => by have := hfar y hy; show y.block ≠ w.heap.size; omega) (.int .i64 0)
  have b3 := s2.box.aside (p := ⟨w.heap.size, 4, none⟩) (by show w.heap.size ≠ S; omega) (.int .i64 0)
  generalize hW3 : W2.setCell ⟨w.heap.size, 4, none⟩ (.int .i64 0) = W3 at *
  have O4 : Off S w (W3.setCell ⟨w.heap.size + 1, 4, none⟩ (.int .i64 0)) := O3.setNew (p := ⟨w.heap.size + 1, 4, none⟩) (by show w.heap.size ≤ w.heap.size + 1; omega) _
  have r4 := r3.set (p := ⟨w.heap.size + 1, 4, none⟩) (fun y hy => by have := hfar y hy; show y.block ≠ w.heap.size + 1; omega) (.int .i64 0)
  have b4 := b3.aside (p := ⟨w.heap.size + 1, 4, none⟩) (by show w.heap.size + 1 ≠ S; omega) (.int .i64 0)
  generalize hW4 : W3.setCell ⟨w.heap.size + 1, 4, none⟩ (.int .i64 0) = W4 at *
  have mo := O4.mc hm h1.far
  have s4 : St W4 S bb { x with s := x.s ++ [⟨n, v⟩] } { q with s := sa, cs := sc } i n := ⟨b4, ⟨mo.m, r4, mo.o, mo.c⟩, ⟨h1.far.m, hf1, h1.far.o⟩, h1.r8, Nat.lt_of_lt_of_le hlb O4.size⟩
  obtain ⟨s5, o5⟩ := s4.setN (open5 a)
  obtain ⟨s6, o6⟩ := s5.put (k := 7) (by omega) (kV (open5 b))
  exact ⟨(O4.trans o5).trans o6, _, s6⟩
section
variable {w : World} {S bb : Nat} {x : MC} {q : MA} {i : ID} {n : K5} {k : Nat} {v : MV}
set_option maxHeartbeats 1000000 in
theorem step_call_no (h : St w S bb x q i n) (a b : K5) (he : ¬ callE a b x.s.length = 0) :
    Calls Tryz.prog 92 #[.pointer (some ⟨S, 0, none⟩), .agg #[.int .i64 a.p, .int .i64 a.b, .int .i64 a.l, .int .i64 a.a, .int .i64 a.s], .agg #[.int .i64 b.p, .int .i64 b.b, .int .i64 b.l, .int .i64 b.a, .int .i64 b.s]] w fun r w' => r = thrown (.e (callE a b x.s.length)) ∧ Below w.heap.size w w' := by
  have hls := h.cells.ls
  have hlt := h.box.lt
  have n1 : ¬ S = w.heap.size := by omega
  have n2 : ¬ S = w.heap.size + 1 := by omega
  have n3 : ¬ w.heap.size = S := by omega
  have n4 : ¬ w.heap.size + 1 = S := by omega
  unfold callE at he ⊢
  clear h
  by_cases h1 : a.s = 0 ∨ ¬ a.s = b.s
  · rw [if_pos h1]
    by_cases h2 : a.s = 0
    · have g : (a.s == 0) = true := by simpa using h2
      clear he h1 h2
      go_enter Tryz.func92, Tryz.ntmps92
      go_wp2_with (go_at_call 73; refine (step_refuse_yes' _ (by first | rfl | simp) _ _).mono ?_; unfold thrown; rintro e w1 ⟨rfl, rfl⟩)
      exact ⟨rfl, rfl, two _ _⟩
    · have g : (a.s == 0) = false := by simpa using h2
      have g2 : (a.s != b.s) = true := by rcases h1 with h1 | h1; exact absurd h1 h2; simpa using h1
      clear he h1 h2
      go_enter Tryz.func92, Tryz.ntmps92
      go_wp2_with (go_at_call 73; refine (step_refuse_yes' _ (by first | rfl | simp) _ _).mono ?_; unfold thrown; rintro e w1 ⟨rfl, rfl⟩)
      exact ⟨rfl, rfl, two _ _⟩
  · rw [if_neg h1] at he ⊢
    have g : (a.s == 0) = false := by simp only [beq_eq_false_iff_ne]; exact fun e => h1 (.inl e)
    have g2 : (a.s != b.s) = false := by
      by_cases e : a.s = b.s
      · simp [e]
      · exact absurd (.inr e) h1
    have cA := fun w => perm_within 4 a.p w
    have cB := fun w => perm_within 4 b.p w
    by_cases h2 : inB 4 a.p = false ∨ inB 4 b.p = true
    · rw [if_pos h2]
      cases hA : inB 4 a.p
      · rw [hA] at cA
        clear he h1 h2
        go_enter Tryz.func92, Tryz.ntmps92
        go_wp2_with (first | (go_at_call 35; refine (cA _).mono ?_; rintro e w1 ⟨rfl, rfl⟩) | (go_at_call 73; first | (refine (step_refuse_no' _ (by rfl) _ _).mono ?_; rintro e w1 ⟨rfl, rfl⟩) | (refine (step_refuse_yes' _ (by first | rfl | simp) _ _).mono ?_; unfold thrown; rintro e w1 ⟨rfl, rfl⟩)))
        exact ⟨rfl, rfl, two _ _⟩
      · have hB : inB 4 b.p = true := by rcases h2 with h2 | h2; rw [hA] at h2; cases h2; exact h2
        rw [hA] at cA
        rw [hB] at cB
        clear he h1 h2
        go_enter Tryz.func92, Tryz.ntmps92
        go_wp2_with (first | (go_at_call 35; first | (refine (cA _).mono ?_; rintro e w1 ⟨rfl, rfl⟩; clear cA) | (refine (cB _).mono ?_; rintro e w1 ⟨rfl, rfl⟩)) | (go_at_call 73; first | (refine (step_refuse_no' _ (by rfl) _ _).mono ?_; rintro e w1 ⟨rfl, rfl⟩) | (refine (step_refuse_yes' _ (by first | rfl | simp) _ _).mono ?_; unfold thrown; rintro e w1 ⟨rfl, rfl⟩)))
        exact ⟨rfl, rfl, two _ _⟩
    · rw [if_neg h2] at he ⊢
      have hA : inB 4 a.p = true := by cases e : inB 4 a.p; exact absurd (.inl e) h2; rfl
      have hB : inB 4 b.p = false := by cases e : inB 4 b.p; rfl; exact absurd (.inr e) h2
      rw [hA] at cA
      rw [hB] at cB
      by_cases h3 : 16 ≤ x.s.length
      · rw [if_pos h3]
        have g3 : (16 : Int) ≤ (x.s.length : Int) := by omega
        clear he h1 h2
        go_enter Tryz.func92, Tryz.ntmps92
        go_wp2_with (first | (go_at_call 35; first | (refine (cA _).mono ?_; rintro e w1 ⟨rfl, rfl⟩; clear cA) | (refine (cB _).mono ?_; rintro e w1 ⟨rfl, rfl⟩)) | (go_at_call 73; first | (refine (step_refuse_no' _ (by rfl) _ _).mono ?_; rintro e w1 ⟨rfl, rfl⟩) | (refine (step_refuse_yes' _ (by first | rfl | simp) _ _).mono ?_; unfold thrown; rintro e w1 ⟨rfl, rfl⟩)))
        exact ⟨rfl, rfl, two _ _⟩
      · rw [if_neg h3] at he
        exact absurd rfl he
set_option maxHeartbeats 4000000 in
theorem step_call_yes (h : St w S bb x q i n) (a b : K5) (he : callE a b x.s.length = 0) (hv : x.r[7]? = some v) (hf : q.cs = x.s.length) :
    Calls Tryz.prog 92 #[.pointer (some ⟨S, 0, none⟩), .agg #[.int .i64 a.p, .int .i64 a.b, .int .i64 a.l, .int .i64 a.a, .int .i64 a.s], .agg #[.int .i64 b.p, .int .i64 b.b, .int .i64 b.l, .int .i64 b.a, .int .i64 b.s]] w fun r w' => r = .returned (.tuple #[]) ∧ Off S w w' ∧ ∃ q', St w' S bb (callM x n b v) q' i (open5 a) := by
  obtain ⟨i0, hi, hz0, hz1, hz2⟩ := info_frames
  have hls := h.cells.ls
  rw [hf] at hls
  obtain ⟨c0, c1, c2, c3, c4, c5, c6⟩ := h.reg hv
  obtain ⟨-, -, -, -, -, -, -, -, -, -, -, -, m0, m1, m2, m3, m4⟩ := h.cells
  simp only [Nat.reduceMul, Nat.reduceAdd] at c0 c1 c2 c3 c4 c5 c6
  have hlt := h.box.lt
  have n1 : ¬ S = w.heap.size := by omega
  have n2 : ¬ S = w.heap.size + 1 := by omega
  have n3 : ¬ w.heap.size = S := by omega
  have n4 : ¬ w.heap.size + 1 = S := by omega
  have n5 : ¬ S = w.heap.size + 1 + 1 := by omega
  have n6 : ¬ w.heap.size + 1 + 1 = S := by omega
  have n7 : ¬ S = w.heap.size + 2 := by omega
  have n8 : ¬ w.heap.size + 2 = S := by omega
  have l1 : S < w.heap.size + 1 := by omega
  have l2 : S < w.heap.size + 1 + 1 := by omega
  unfold callE at he
  by_cases h1 : a.s = 0 ∨ ¬ a.s = b.s
  · rw [if_pos h1] at he; cases he
  rw [if_neg h1] at he
  by_cases h2 : inB 4 a.p = false ∨ inB 4 b.p = true
  · rw [if_pos h2] at he; cases he
  rw [if_neg h2] at he
  by_cases h3 : 16 ≤ x.s.length
  · rw [if_pos h3] at he; cases he
  have g : (a.s == 0) = false := by simp only [beq_eq_false_iff_ne]; exact fun e => h1 (.inl e)
  have g2 : (a.s != b.s) = false := by
    by_cases e : a.s = b.s
    · simp [e]
    · exact absurd (.inr e) h1
  have cA := fun w => perm_within 4 a.p w
  have cB := fun w => perm_within 4 b.p w
  have hA : inB 4 a.p = true := by cases e : inB 4 a.p; exact absurd (.inl e) h2; rfl
  have hB : inB 4 b.p = false := by cases e : inB 4 b.p; rfl; exact absurd (.inr e) h2
  rw [hA] at cA
  rw [hB] at cB
  have g3 : ¬ (16 : Int) ≤ (x.s.length : Int) := by omega
  have HH : Hid (St w S bb x q i n) := h
  have hnone : q.s = none → x.s.length = 0 ∧ x.s.length = 0 := fun e => by
    rcases h.at_.s with h0 | ⟨B, off, e2, _⟩
    · have : x.s = [] := by cases hx : x.s with | nil => rfl | cons a b => rw [hx] at h0; cases h0
      rw [this]; exact ⟨rfl, rfl⟩
    · rw [e] at e2; cases e2
  have holds : ∀ W, Below w.heap.size w W → ∀ b, q.s = some b → ∀ j u, (x.s.flatMap frC)[j]? = some u → W.cell? (b.add j) = some u := fun W hW b eb j u hj => by
    rcases h.at_.s with h0 | ⟨B, off, e2, hB, hc⟩
    · rw [h0] at hj; simp at hj
    · rw [eb] at e2
      injection e2 with e2
      subst e2
      rw [addr_add, hW.cell (p := ⟨B, off + j, none⟩) hB]
      exact hc j u hj
  have HX : Hid ((q.s = none → x.s.length = 0 ∧ x.s.length = 0) ∧ ∀ W, Below w.heap.size w W → ∀ b, q.s = some b → ∀ j u, (x.s.flatMap frC)[j]? = some u → W.cell? (b.add j) = some u) := ⟨hnone, holds⟩
  have HN : Hid ((x.s.flatMap frC).length = x.s.length * 12) := flat_len frC_len _
  have HV : Hid (x.r[7]? = some v) := hv
  have HM : Hid (McAt w x q) := h.at_
  have HLT : Hid (S < w.heap.size) := hlt
  have HLB : Hid (bb < w.heap.size) := h.lb
  clear hnone holds h he h1 h2 h3 hv
  go_enter Tryz.func92, Tryz.ntmps92
  go_wp2_with (first | (go_at_call 35; first | (refine (cA _).mono ?_; rintro e w1 ⟨rfl, rfl⟩; clear cA) | (refine (cB _).mono ?_; rintro e w1 ⟨rfl, rfl⟩)) | (go_at_call 73; refine (step_refuse_no' _ (by first | rfl | (simp; omega)) _ _).mono ?_; rintro e w1 ⟨rfl, rfl⟩))
  go_region_law (refine step_append_grows rfl (.tmp 40) (.tmp 52) 28 rfl 76 i0 _ 12 96 Tryz.underlying28 hi hz0 hz1 hz2 rfl (by decide) q.s x.s.length x.s.length (x.s.flatMap frC) rfl HX.out.1 HN.out (HX.out.2 _ (by first | exact three _ _ _ | exact (three _ _ _).drew)) ⟨w.heap.size + 1 + 1, 0, none⟩ 1 1 (frC ⟨n, v⟩) rfl rfl (fun j u hj => by rw [addr_add, Nat.zero_add]; have e := (Box.new2 w (.cells #[.int .i64 a.p, .int .i64 a.b, .int .i64 a.l, .int .i64 a.a, .int .i64 a.s] 23) (.cells #[.int .i64 b.p, .int .i64 b.b, .int .i64 b.l, .int .i64 b.a, .int .i64 b.s] 23) (frC ⟨n, v⟩).toArray 76).cell j; rw [List.getElem?_toArray, hj] at e; exact e) (fr_one [⟨n, v⟩]) (by omega) (by unfold maxLen; omega) (by omega) ?_; intro V w1 hown hgrow; obtain ⟨sa, sc, hV, hcap, hrow, hfar⟩ := own_row hown; rw [hV]; have hb := Below.grown (Below.refl _ _) hgrow (Nat.le_refl _) (fun k e => by cases e); have hb3 : Below w.heap.size w w1 := Below.step0 (by first | exact three _ _ _ | exact (three _ _ _).drew) hb; have bA : Box w1 w.heap.size #[.int .i64 a.p, .int .i64 a.b, .int .i64 a.l, .int .i64 a.a, .int .i64 a.s] := ((((Box.new w #[.int .i64 a.p, .int .i64 a.b, .int .i64 a.l, .int .i64 a.a, .int .i64 a.s] 23).alloc (.cells #[.int .i64 b.p, .int .i64 b.b, .int .i64 b.l, .int .i64 b.a, .int .i64 b.s] 23)).alloc (.cells (frC ⟨n, v⟩).toArray 76))).drew.below hb; have bB : Box w1 (w.heap.size + 1) #[.int .i64 b.p, .int .i64 b.b, .int .i64 b.l, .int .i64 b.a, .int .i64 b.s] := ((Box.new1 w (.cells #[.int .i64 a.p, .int .i64 a.b, .int .i64 a.l, .int .i64 a.a, .int .i64 a.s] 23) #[.int .i64 b.p, .int .i64 b.b, .int .i64 b.l, .int .i64 b.a, .int .i64 b.s] 23).alloc (.cells (frC ⟨n, v⟩).toArray 76)).drew.below hb; have hst := HH.out.below hb3; have hfar2 : ∀ y ∈ sa, w.heap.size + 3 ≤ y.block := (fun y hy => by have := hfar y hy; simp at this; omega); have hrow2 : RowAt w1 sa ((x.s ++ [(⟨n, v⟩ : FR)]).flatMap frC) := (by rw [List.flatMap_append]; exact hrow); have HF : Hid (St w1 S bb x q i n ∧ Off S w w1 ∧ RowAt w1 sa ((x.s ++ [(⟨n, v⟩ : FR)]).flatMap frC) ∧ (∀ y ∈ sa, w.heap.size + 3 ≤ y.block)) := ⟨hst, (Off.refl _ _).below hb3, hrow2, hfar2⟩; have d62 := hst.cells.ls; have fz := hst.box.free; have qA := bA.cell; have fA := bA.free; have qB := bB.cell; have fB := bB.free; have e68 := hst.cells.n0; have e69 := hst.cells.n1; have e70 := hst.cells.n2; have e71 := hst.cells.n3; have e72 := hst.cells.n4; obtain ⟨e0, e1, e2, e3, e4, e5, e6⟩ := hst.reg HV.out; simp only [Nat.reduceMul, Nat.reduceAdd] at e0 e1 e2 e3 e4 e5 e6; clear hst hrow hrow2 hfar hfar2 hown hgrow hb hb3 HX HN hV hls bA bB m0 m1 m2 m3 m4 c0 c1 c2 c3 c4 c5 c6 HH hlt)
  all_goals
    go_wp2
    go_region
    go_wp2
    go_end0
    obtain ⟨s1, s2, s3, s4⟩ := HF.out
    obtain ⟨p1, q', p2⟩ := call_end (a := a) (b := b) (sc := sc) s1 s2 HM.out s3 s4 HLT.out HLB.out
    exact ⟨rfl, p1.drew, q', p2.drew⟩
end
end Go.Proofs.YtlfeglljpfihhaaGreatDoor
