/- package sweep: Sweep. -/
import Derived.Test.YthijebhhbflclaaRows
import Derived.Test.YthijebhhbflclaaBits
import Derived.Test.YthijebhhbflclaaKeyPure
import Derived.Test.YthijebhhbflclaaCellPure
import Derived.Test.YthijebhhbflclaaValsArg
import Derived.Test.YthijebhhbflclaaMemPure
import Derived.Test.YthijebhhbflclaaMachArg
import Derived.Test.YthijebhhbflclaaStepChk
import Derived.Test.YthijebhhbflclaaStepChk2
import Derived.Test.YthijebhhbflclaaMachMid
import Derived.Test.YthijebhhbflclaaSweepPure
import Derived.Test.YthijebhhbflclaaSweepStrike
import Derived.Test.YthijebhhbflclaaSweepGo
import Derived.Test.YthijebhhbflclaaRowMade
import Derived.Test.YthijebhhbflclaaRowApp
import Derived.Test.YthijebhhbflclaaMachSet
import Derived.Test.YthijebhhbflclaaSweepMach
import Derived.Test.YthijebhhbflclaaSweepTop
import Derived.WalkKit
import Derived.ProofKit
import Derived.OpenShut
import Derived.Deep.MidRow
import Derived.Deep.CutBlock
import Derived.Deep.RegionHeld3
namespace Go.Proofs.Ythijebhhbflclaa
open Go.ChangeShapes Go.WideShapes Go.ChangeAt Go.RowKit
set_option linter.unusedSimpArgs false
set_option linter.unusedVariables false
set_option maxRecDepth 100000

theorem swA_r8 {b n : Int} {x : MC} (h8 : x.r.length = 8) : (swA b n x).r.length = 8 := by
  rcases sw_cases b n x with ⟨_, e, _⟩ | ⟨_, e, _⟩
  · rw [e]
    show (x.r.map (swV b n)).length = 8
    rw [List.length_map]
    exact h8
  · rw [e]; rfl
set_option maxHeartbeats 2000000 in
theorem sweep_has (x : MC) (q : MA) (b n : Int) (w : World) (hA : McAt w x q) (hO : McB x) (hb : -9223372036854775808 ≤ b ∧ b ≤ 9223372036854775807) (hn : -9223372036854775808 ≤ n ∧ n ≤ 9223372036854775807) :
    Calls Try.prog 10 #[.agg (mcC x q).toArray, .int .i64 b, .int .i64 n] w fun e w' => e = .returned (.tuple #[.bool (decide (0 < swN b n x)), .int .i64 (swE b n x)]) ∧ Below w.heap.size w w' := by
  have cS := fun w hA => sweep_top x q b n w hA hO hb hn
  have hi : (Try.prog.info? 31).map (·.size) = some (mcC x q).length := by rw [mc_length hO.r8]; exact info_mach
  have HA : Hid (∀ w', Below w.heap.size w w' → McAt w' x q) := fun w' hb => hA.below hb
  have bM := Box.new w (mcC x q).toArray 31
  have hB : Below w.heap.size w (w.alloc (.cells (mcC x q).toArray 31)) := (Below.refl _ _).alloc (Nat.le_refl _) _
  have y8 := swA_r8 (b := b) (n := n) hO.r8
  clear hA
  generalize swA b n x = Y at *
  generalize swN b n x = c at *
  generalize swE b n x = E at *
  have iY : ∀ q', (Try.prog.info? 31).map (·.size) = some (mcC Y q').length := fun q' => mach_info y8
  have zY : ∀ q', z64.toArray.size = (mcC Y q').length := fun q' => by rw [mc_length y8]; rfl
  have hgt : decide (c > 0) = decide (0 < c) := rfl
  go_enter Try.func10, Try.ntmps10
  go_wp2_with (first | ((with_reducible refine at_load ?_); refine pl_load_box (by rfl) 31 (.tmp 3) rfl w.heap.size (by rfl) (mcC x q) bM _ Try.underlying31 rfl hi ?_) | (go_at_call 8; refine (cS _ (HA.out _ hB)).mono ?_; rintro e w1 ⟨q1, rfl, hbb, -, -⟩; replace hB := Below.step0 hB hbb; clear hbb cS) | ((with_reducible refine at_alloc ?_); refine wpList_alloc1 rfl 31 rfl _ (alloc_mach _) ?_) | ((with_reducible refine at_store ?_); refine pl_store_box rfl 31 (.tmp 8) (.tmp 16) rfl w1.heap.size (mcC Y q1) (by rfl) (by rfl) z64.toArray (Box.new _ _ _) (zY q1) (iY q1) (mc_one _ _) ?_; intro bT; have hB2 : Below w.heap.size w ((w1.alloc (.cells z64.toArray 31)).setCells w1.heap.size 0 (mcC Y q1)) := below_cells _ _ _ _ (hB.alloc hB.size _) hB.size))
  exact bodyPost_ret (v := .tuple #[.bool (decide (0 < c)), .int .i64 E]) (by simp [results, Try.results10, Act.put, go_sem]) rfl ⟨rfl, hB2⟩
def x39s : MC := ⟨[nil0, nil0, nil0, nil0, nil0, nil0, nil0, nil0], key0, [⟨true, 0, 0, 3, 2, 0, 0⟩], [], []⟩
theorem x39s_b : McB x39s := by
  refine ⟨rfl, fun v hv => ?_, ?_, fun v hv => ?_, fun f hf => ?_, fun f hf => ?_⟩
  · simp only [x39s, List.mem_cons, List.not_mem_nil, or_false, or_self] at hv
    subst hv
    unfold mvOk vb kb nil0
    decide
  · unfold x39s k5b kb key0; decide
  · simp only [x39s, List.mem_cons, List.not_mem_nil, or_false] at hv
    subst hv
    unfold mvOk vb kb
    decide
  · simp [x39s] at hf
  · simp [x39s] at hf
theorem zeroM_b : McB zeroM := by
  refine ⟨rfl, fun v hv => ?_, ?_, fun v hv => ?_, fun f hf => ?_, fun f hf => ?_⟩
  · simp only [zeroM, List.mem_cons, List.not_mem_nil, or_false, or_self] at hv
    subst hv
    unfold mvOk vb kb nil0
    decide
  · unfold zeroM k5b kb; decide
  · simp [zeroM] at hv
  · simp [zeroM] at hf
  · simp [zeroM] at hf
theorem sweep39 (g : Nat) (W : World) (hg : g < W.heap.size) (hc : At7 W g 0 ⟨true, 0, 0, 3, 2, 0, 0⟩) :
    Calls Try.prog 8 #[.agg #[.bool false, .int .i64 0, .int .i64 0, .int .i64 0, .int .i64 0, .int .i64 0, .int .i64 0, .bool false, .int .i64 0, .int .i64 0, .int .i64 0, .int .i64 0, .int .i64 0, .int .i64 0, .bool false, .int .i64 0, .int .i64 0, .int .i64 0, .int .i64 0, .int .i64 0, .int .i64 0, .bool false, .int .i64 0, .int .i64 0, .int .i64 0, .int .i64 0, .int .i64 0, .int .i64 0, .bool false, .int .i64 0, .int .i64 0, .int .i64 0, .int .i64 0, .int .i64 0, .int .i64 0, .bool false, .int .i64 0, .int .i64 0, .int .i64 0, .int .i64 0, .int .i64 0, .int .i64 0, .bool false, .int .i64 0, .int .i64 0, .int .i64 0, .int .i64 0, .int .i64 0, .int .i64 0, .bool false, .int .i64 0, .int .i64 0, .int .i64 0, .int .i64 0, .int .i64 0, .int .i64 0, .int .i64 0, .int .i64 0, .int .i64 0, .int .i64 0, .int .i64 0, .slice (some ⟨g, 0, none⟩) 1 1, .slice none 0 0, .slice none 0 0], .int .i64 4, .int .i64 1] W fun e w' => ∃ (Y : MC) (q' : MA) (B off : Nat), e = .returned (.tuple #[.agg (mcC Y q').toArray, .int .i64 1, .int .i64 0]) ∧ Below W.heap.size W w' ∧ Y.r.length = 8 ∧ Y.m.length = 1 ∧ q'.m = some ⟨B, off, none⟩ ∧ B < w'.heap.size ∧ At7 w' B off nil0 := by
  have hA : McAt W x39s ⟨some ⟨g, 0, none⟩, 1, none, 0, none, 0⟩ := ⟨.inr ⟨g, 0, rfl, hg, flat_of [⟨true, 0, 0, 3, 2, 0, 0⟩] fun k v hk j u hj => by
    cases k with
    | succ k => simp at hk
    | zero =>
      simp only [List.getElem?_cons_zero, Option.some.injEq] at hk
      subst hk
      obtain ⟨c0, c1, c2, c3, c4, c5, c6⟩ := hc
      rcases j with _ | _ | _ | _ | _ | _ | _ | j
      all_goals first | (cases hj; assumption) | (simp [mvC] at hj)⟩, .inl rfl, .inl rfl, Nat.le_refl _⟩
  have h := sweep_top x39s ⟨some ⟨g, 0, none⟩, 1, none, 0, none, 0⟩ 4 1 W hA x39s_b (by decide) (by decide)
  refine h.mono ?_
  rintro e w' ⟨q', rfl, hB, hM, _⟩
  have e1 : swN 4 1 x39s = 1 := by decide +kernel
  have e2 : swE 4 1 x39s = 0 := by decide +kernel
  have e0 : swA 4 1 x39s = swM 4 1 x39s := by
    rcases sw_cases 4 1 x39s with ⟨_, h, _⟩ | ⟨h, _⟩
    · exact h
    · exact absurd e2 h
  rw [e0] at hM ⊢
  rw [e1, e2]
  obtain ⟨B, off, hq, hl, h7⟩ := hM.m.at (k := 0) (v := nil0) rfl
  exact ⟨_, q', B, off, rfl, hB, rfl, rfl, hq, hl, h7⟩
theorem sweep40 (W : World) :
    Calls Try.prog 8 #[.agg #[.bool false, .int .i64 0, .int .i64 0, .int .i64 0, .int .i64 0, .int .i64 0, .int .i64 0, .bool false, .int .i64 0, .int .i64 0, .int .i64 0, .int .i64 0, .int .i64 0, .int .i64 0, .bool false, .int .i64 0, .int .i64 0, .int .i64 0, .int .i64 0, .int .i64 0, .int .i64 0, .bool false, .int .i64 0, .int .i64 0, .int .i64 0, .int .i64 0, .int .i64 0, .int .i64 0, .bool false, .int .i64 0, .int .i64 0, .int .i64 0, .int .i64 0, .int .i64 0, .int .i64 0, .bool false, .int .i64 0, .int .i64 0, .int .i64 0, .int .i64 0, .int .i64 0, .int .i64 0, .bool false, .int .i64 0, .int .i64 0, .int .i64 0, .int .i64 0, .int .i64 0, .int .i64 0, .bool false, .int .i64 0, .int .i64 0, .int .i64 0, .int .i64 0, .int .i64 0, .int .i64 0, .int .i64 0, .int .i64 0, .int .i64 0, .int .i64 0, .int .i64 0, .slice none 0 0, .slice none 0 0, .slice none 0 0], .int .i64 (-1), .int .i64 0] W fun e w' => ∃ q', e = .returned (.tuple #[.agg (mcC zeroM q').toArray, .int .i64 0, .int .i64 1]) ∧ Below W.heap.size W w' := by
  have h := sweep_top zeroM zeroA (-1) 0 W ⟨.inl rfl, .inl rfl, .inl rfl, Nat.le_refl _⟩ zeroM_b (by decide) (by decide)
  refine h.mono ?_
  rintro e w' ⟨q', rfl, hB, hM, _⟩
  have e1 : swN (-1) 0 zeroM = 0 := by decide +kernel
  have e2 : swE (-1) 0 zeroM = 1 := by decide +kernel
  have e0 : swA (-1) 0 zeroM = zeroM := by
    rcases sw_cases (-1) 0 zeroM with ⟨h, _⟩ | ⟨_, h, _⟩
    · rw [e2] at h; cases h
    · exact h
  rw [e0, e1, e2]
  exact ⟨q', rfl, hB⟩
set_option maxHeartbeats 4000000 in
theorem keep_swept (w : World) : Calls Try.prog 12 #[] w fun e w' => e = .returned (.bool true) ∧ Below w.heap.size w w' := by
  go_enter Try.func12, Try.ntmps12
  go_upto_region 2 with (first | (go_at_call 8; refine (sweep39 w.heap.size _ (by simp) ⟨by simp, by simp, by simp, by simp, by simp, by simp, by simp⟩).mono ?_; rintro e w1 ⟨Y, q1, B, off, rfl, hbb, y8, ym, hq, hBl, h7⟩; have hB := Below.step0 ((Below.refl _ _).alloc (Nat.le_refl _) _) hbb; clear hbb; have iY : (Try.prog.info? 31).map (·.size) = some (mcC Y q1).length := mach_info y8; have zY : z64.toArray.size = (mcC Y q1).length := by rw [mc_length y8]; rfl) | ((with_reducible refine at_alloc ?_); refine wpList_alloc1 rfl 31 rfl _ (alloc_mach _) ?_) | ((with_reducible refine at_store ?_); refine pl_store_box rfl 31 (.tmp 1) (.tmp 13) rfl w1.heap.size (mcC Y q1) (by rfl) (by rfl) z64.toArray (Box.new _ _ _) zY iY (mc_one _ _) ?_; intro bT))
  have hbw : Below w1.heap.size w1 ((w1.alloc (.cells z64.toArray 31)).setCells w1.heap.size 0 (mcC Y q1)) := below_cells _ _ _ _ ((Below.refl _ _).alloc (Nat.le_refl _) _) (Nat.le_refl _)
  replace hB := Below.step0 hB hbw
  have hA7 : ValsAt ((w1.alloc (.cells z64.toArray 31)).setCells w1.heap.size 0 (mcC Y q1)) (some ⟨B, off, none⟩) [nil0] := ValsAt.below (w := w1) (.inr ⟨B, off, rfl, hBl, flat_of [nil0] fun k v hk j u hj => by
    cases k with
    | succ k => simp at hk
    | zero =>
      simp only [List.getElem?_cons_zero, Option.some.injEq] at hk
      subst hk
      obtain ⟨c0, c1, c2, c3, c4, c5, c6⟩ := h7
      rcases j with _ | _ | _ | _ | _ | _ | _ | j
      all_goals first | (cases hj; assumption) | (simp [mvC] at hj)⟩) hbw
  clear hbw h7
  generalize (w1.alloc (.cells z64.toArray 31)).setCells w1.heap.size 0 (mcC Y q1) = w2 at *
  have z2 := bT.lt
  go_upto_region 3 with (first | (go_at_call 8; refine (sweep40 _).mono ?_; rintro e w3 ⟨q2, rfl, hbb⟩; replace hB := Below.step0 hB hbb; replace bT := bT.below hbb; replace hA7 := hA7.below hbb; clear hbb) | ((with_reducible refine at_alloc ?_); refine wpList_alloc1 rfl 31 rfl _ (alloc_mach _) ?_) | ((with_reducible refine at_store ?_); refine pl_store_box rfl 31 (.tmp 4) (.tmp 19) rfl w3.heap.size (mcC zeroM q2) (by rfl) (by rfl) z64.toArray (Box.new _ _ _) rfl (mach_info rfl) (mc_one _ _) ?_; intro bU))
  have hbw : Below w3.heap.size w3 ((w3.alloc (.cells z64.toArray 31)).setCells w3.heap.size 0 (mcC zeroM q2)) := below_cells _ _ _ _ ((Below.refl _ _).alloc (Nat.le_refl _) _) (Nat.le_refl _)
  replace hB := Below.step0 hB hbw
  replace bT := bT.below hbw
  replace hA7 := hA7.below hbw
  clear hbw bU
  generalize (w3.alloc (.cells z64.toArray 31)).setCells w3.heap.size 0 (mcC zeroM q2) = w4 at *
  have lm := (mc_tail bT y8).lm
  rw [hq, ym] at lm
  obtain ⟨B', off', hq', _, c0, c1, c2, c3, c4, c5, c6⟩ := hA7.at (k := 0) (v := nil0) rfl
  cases hq'
  rw [Nat.zero_mul, Nat.add_zero] at c0 c1 c2 c3 c4 c5 c6
  simp only [nil0] at c0 c1 c2 c3 c4 c5 c6
  clear hA7 bT
  go_wp2
  go_ret
  exact ⟨rfl, hB⟩
end Go.Proofs.Ythijebhhbflclaa
