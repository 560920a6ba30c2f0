/- package keys: Move, Seal and Open answer what chapter 3 says of them, and turn nothing that was in memory. -/
import Derived.Test.YtlfeglljpfihhaaGreatDoorRows
import Derived.Test.YtlfeglljpfihhaaGreatDoorCardBaseX
import Derived.Test.YtlfeglljpfihhaaGreatDoorCellChkX
import Derived.Test.YtlfeglljpfihhaaGreatDoorKeyChkX
import Derived.Test.YtlfeglljpfihhaaGreatDoorKeyCovX
import Derived.WalkKit
import Derived.ProofKit
import Derived.OpenShut
namespace Go.Proofs.YtlfeglljpfihhaaGreatDoor
open Go.ChangeShapes Go.WideShapes Go.ChangeAt Go.RowKit

theorem keys_move (p b l a s n : Int) (w : World) (hb : kb p b l a s) :
    Calls Tryz.prog 110 #[.agg #[.int .i64 p, .int .i64 b, .int .i64 l, .int .i64 a, .int .i64 s], .int .i64 n] w
      fun e w' => e = .returned (.tuple #[.agg #[.int .i64 (moveK p b l a s n).p, .int .i64 (moveK p b l a s n).b, .int .i64 (moveK p b l a s n).l, .int .i64 (moveK p b l a s n).a, .int .i64 (moveK p b l a s n).s], .int .i64 (moveK p b l a s n).e]) ∧ Below w.heap.size w w' := by
  by_cases hu : unsE p b l a s = 0
  · have ho : 0 ≤ a ∧ a ≤ 400 := ⟨(ok_of_uns hu).1.2.2.2.2.2.1, (ok_of_uns hu).1.2.2.2.2.2.2.1⟩
    by_cases hn : 0 ≤ a + n ∧ a + n ≤ 400
    · have hm : moveK p b l a s n = ⟨p, b, l, a + n, s, 0⟩ := by unfold moveK; rw [if_pos hu, if_pos hn]
      have hw : btw n (-a) (400 - a) = true := by unfold btw; rw [decide_eq_true_eq]; omega
      rw [hm]
      clear hm
      go_enter Tryz.func110, Tryz.ntmps110
      go_wp2_with (first | (go_at_call 112; refine (keys_uns _ _ _ _ _ _ hb).mono ?_; rintro e w' ⟨rfl, hbb⟩; have q1 := (((Box.new _ _ _).alloc _).below hbb).cell; have q2 := ((Box.new1 _ _ _ _).below hbb).cell; have f1 := (((Box.new _ _ _).alloc _).below hbb).free; have f2 := ((Box.new1 _ _ _ _).below hbb).free; have hB := Below.step0 (two _ _) hbb; clear hbb) | (go_at_call 71; refine (keys_between _ _ _ _).mono ?_; rintro e w' ⟨rfl, rfl⟩))
      refine bodyPost_ret (v := .tuple #[.agg #[.int .i64 p, .int .i64 b, .int .i64 l, .int .i64 (a + n), .int .i64 s], .int .i64 0]) (by simp [results, Tryz.results110, go_sem, q2]) rfl ⟨rfl, ?_⟩
      exact (((((hB.setCell (by simp <;> omega) _).setCell (by simp <;> omega) _).setCell (by simp <;> omega) _).setCell (by simp <;> omega) _).setCell (by simp <;> omega) _).setCell (by simp <;> omega) _
    · have hm : moveK p b l a s n = errK 13 := by unfold moveK; rw [if_pos hu, if_neg hn]
      have hw : btw n (-a) (400 - a) = false := by unfold btw; rw [decide_eq_false_iff_not]; omega
      rw [hm]
      clear hm hn
      go_enter Tryz.func110, Tryz.ntmps110
      go_wp2_with (first | (go_at_call 112; refine (keys_uns _ _ _ _ _ _ hb).mono ?_; rintro e w' ⟨rfl, hbb⟩; have q1 := (((Box.new _ _ _).alloc _).below hbb).cell; have q2 := ((Box.new1 _ _ _ _).below hbb).cell; have f1 := (((Box.new _ _ _).alloc _).below hbb).free; have f2 := ((Box.new1 _ _ _ _).below hbb).free; have hB := Below.step0 (two _ _) hbb; clear hbb) | (go_at_call 71; refine (keys_between _ _ _ _).mono ?_; rintro e w' ⟨rfl, rfl⟩))
      refine bodyPost_ret (v := .tuple #[.agg #[.int .i64 0, .int .i64 0, .int .i64 0, .int .i64 0, .int .i64 0], .int .i64 13]) (by simp [results, Tryz.results110, go_sem, q2]) rfl ⟨rfl, ?_⟩
      exact ((((hB.setCell (by simp <;> omega) _).setCell (by simp <;> omega) _).setCell (by simp <;> omega) _).setCell (by simp <;> omega) _).setCell (by simp <;> omega) _
  · have hm : moveK p b l a s n = errK (unsE p b l a s) := by unfold moveK; rw [if_neg hu]
    have hu' : (unsE p b l a s != 0) = true := by simpa using hu
    rw [hm]
    clear hm hu
    go_enter Tryz.func110, Tryz.ntmps110
    go_wp2_with (first | (go_at_call 112; refine (keys_uns _ _ _ _ _ _ hb).mono ?_; rintro e w' ⟨rfl, hbb⟩; have q1 := (((Box.new _ _ _).alloc _).below hbb).cell; have q2 := ((Box.new1 _ _ _ _).below hbb).cell; have f1 := (((Box.new _ _ _).alloc _).below hbb).free; have f2 := ((Box.new1 _ _ _ _).below hbb).free; have hB := Below.step0 (two _ _) hbb; clear hbb) | (go_at_call 71; refine (keys_between _ _ _ _).mono ?_; rintro e w' ⟨rfl, rfl⟩))
    refine bodyPost_ret (v := .tuple #[.agg #[.int .i64 0, .int .i64 0, .int .i64 0, .int .i64 0, .int .i64 0], .int .i64 (unsE p b l a s)]) (by simp [results, Tryz.results110, go_sem, q2]) rfl ⟨rfl, ?_⟩
    exact ((((hB.setCell (by simp <;> omega) _).setCell (by simp <;> omega) _).setCell (by simp <;> omega) _).setCell (by simp <;> omega) _).setCell (by simp <;> omega) _
theorem keys_both (p b l a s p' b' l' a' s' : Int) (w : World) (hb : kb p b l a s) (hb' : kb p' b' l' a' s') :
    Calls Tryz.prog 113 #[.agg #[.int .i64 p, .int .i64 b, .int .i64 l, .int .i64 a, .int .i64 s], .agg #[.int .i64 p', .int .i64 b', .int .i64 l', .int .i64 a', .int .i64 s']] w fun e w' => e = .returned (.int .i64 (bothE p b l a s p' b' l' a' s')) ∧ Below w.heap.size w w' := by
  unfold bothE
  by_cases h1 : ok p b l a s
  · have hk := chk_yes h1
    by_cases h2 : ok p' b' l' a' s'
    · have hk' := chk_yes h2
      rw [if_pos ⟨h1, h2⟩]
      clear h1 h2
      go_enter Tryz.func113, Tryz.ntmps113
      go_wp2_with (go_at_call 42; refine (keys_check _ _ _ _ _ _ (by first | exact hb | exact hb')).mono ?_; rintro e w' ⟨rfl, hbb⟩; first | (replace hB := Below.step0 hB hbb; clear hbb) | (have q2 := ((Box.new1 _ _ _ _).below hbb).cell; have hB := Below.step0 (two _ _) hbb; clear hbb))
      go_ret
      exact ⟨rfl, hB⟩
    · have hk' := chk_no h2
      rw [if_neg (fun h => h2 h.2)]
      clear h1 h2
      go_enter Tryz.func113, Tryz.ntmps113
      go_wp2_with (go_at_call 42; refine (keys_check _ _ _ _ _ _ (by first | exact hb | exact hb')).mono ?_; rintro e w' ⟨rfl, hbb⟩; first | (replace hB := Below.step0 hB hbb; clear hbb) | (have q2 := ((Box.new1 _ _ _ _).below hbb).cell; have hB := Below.step0 (two _ _) hbb; clear hbb))
      go_ret
      exact ⟨rfl, hB⟩
  · have hk := chk_no h1
    rw [if_neg (fun h => h1 h.1)]
    clear h1
    go_enter Tryz.func113, Tryz.ntmps113
    go_wp2_with (go_at_call 42; (refine (keys_check p b l a s _ hb).mono ?_; rintro e w' ⟨rfl, hbb⟩; have q2 := ((Box.new1 _ _ _ _).below hbb).cell; have hB := Below.step0 (two _ _) hbb; clear hbb))
    go_ret
    exact ⟨rfl, hB⟩
theorem keys_may (p b l a s q : Int) (w : World) (hb : kb p b l a s) :
    Calls Tryz.prog 114 #[.agg #[.int .i64 p, .int .i64 b, .int .i64 l, .int .i64 a, .int .i64 s], .int .i64 q] w fun e w' => e = .returned (.int .i64 (mayE p b l a s q)) ∧ Below w.heap.size w w' := by
  have ha := hb.2.2.2.1
  have cs : ((s == 0) = false ∧ mayE p b l a s q = 11) ∨ ((s == 0) = true ∧ inB q p = false ∧ mayE p b l a s q = 12) ∨ ((s == 0) = true ∧ inB q p = true ∧ covB b l a = false ∧ mayE p b l a s q = 13) ∨ ((s == 0) = true ∧ inB q p = true ∧ covB b l a = true ∧ mayE p b l a s q = 0) := by
    unfold mayE
    by_cases h : s = 0 <;> cases h2 : inB q p <;> cases h3 : covB b l a <;> simp [h]
  rcases cs with ⟨h1, hm⟩ | ⟨h1, h2, hm⟩ | ⟨h1, h2, h3, hm⟩ | ⟨h1, h2, h3, hm⟩
  · rw [hm]
    clear hm
    go_enter Tryz.func114, Tryz.ntmps114
    go_wp2_with (go_at_call 35; refine (perm_within _ _ _).mono ?_; rintro e w' ⟨rfl, rfl⟩)
    go_ret
    exact ⟨rfl, (Below.refl _ _).alloc (Nat.le_refl _) _⟩
  · rw [hm]
    clear hm
    go_enter Tryz.func114, Tryz.ntmps114
    go_wp2_with (go_at_call 35; refine (perm_within _ _ _).mono ?_; rintro e w' ⟨rfl, rfl⟩)
    go_ret
    exact ⟨rfl, (Below.refl _ _).alloc (Nat.le_refl _) _⟩
  all_goals
    rw [hm]
    clear hm
    go_enter Tryz.func114, Tryz.ntmps114
    go_wp2_with (first | (go_at_call 35; refine (perm_within _ _ _).mono ?_; rintro e w' ⟨rfl, rfl⟩) | (go_at_call 66; refine (keys_covers _ _ _ _ _ _ _ hb ha).mono ?_; rintro e w' ⟨rfl, hbb⟩))
    go_ret
    exact ⟨rfl, Below.step0 ((Below.refl _ _).alloc (Nat.le_refl _) _) hbb⟩
theorem keys_seal (p b l a s p' b' l' a' s' : Int) (w : World) (hb : kb p b l a s) (hb' : kb p' b' l' a' s') :
    Calls Tryz.prog 89 #[.agg #[.int .i64 p, .int .i64 b, .int .i64 l, .int .i64 a, .int .i64 s], .agg #[.int .i64 p', .int .i64 b', .int .i64 l', .int .i64 a', .int .i64 s']] w
      fun e w' => e = .returned (.tuple #[.agg #[.int .i64 (sealK p b l a s p' b' l' a' s').p, .int .i64 (sealK p b l a s p' b' l' a' s').b, .int .i64 (sealK p b l a s p' b' l' a' s').l, .int .i64 (sealK p b l a s p' b' l' a' s').a, .int .i64 (sealK p b l a s p' b' l' a' s').s], .int .i64 (sealK p b l a s p' b' l' a' s').e]) ∧ Below w.heap.size w w' := by
  by_cases ho : ok p b l a s ∧ ok p' b' l' a' s'
  · have hk : bothE p b l a s p' b' l' a' s' = 0 := by unfold bothE; rw [if_pos ho]
    by_cases hs : s = 0
    · by_cases hy : mayE p' b' l' a' s' 32 = 0
      · by_cases hn : 1 ≤ a' ∧ a' ≤ 63
        · have hs' : (s == 0) = true := by simpa using hs
          have hw : btw a' 1 63 = true := by unfold btw; rw [decide_eq_true_eq]; exact hn
          have hm : sealK p b l a s p' b' l' a' s' = ⟨p, b, l, a, a', 0⟩ := by unfold sealK; rw [if_pos ho, if_pos hs, if_pos hy, if_pos hn]
          rw [hm]
          clear hm hs hn ho
          go_enter Tryz.func89, Tryz.ntmps89
          go_wp2_with (first | (go_at_call 113; refine (keys_both _ _ _ _ _ _ _ _ _ _ _ hb hb').mono ?_; rintro e w' ⟨rfl, hbb⟩; have B1 := (((Box.new _ _ _).alloc _).alloc _).below hbb; have B2 := ((Box.new1 _ _ _ _).alloc _).below hbb; have B3 := (Box.new2 _ _ _ _ _).below hbb; have q1 := B1.cell; have q2 := B2.cell; have q3 := B3.cell; have f1 := B1.free; have f3 := B3.free; have hB := Below.step0 (three _ _ _) hbb; clear hbb) | (go_at_call 114; refine (keys_may _ _ _ _ _ _ _ hb').mono ?_; rintro e w2 ⟨rfl, hbb⟩; replace B1 := B1.below hbb; replace B2 := B2.below hbb; replace B3 := B3.below hbb; clear q1 q2 q3 f1 f3; have q1 := B1.cell; have q2 := B2.cell; have q3 := B3.cell; have f1 := B1.free; have f3 := B3.free; replace hB := Below.step0 hB hbb; clear hbb) | (go_at_call 71; refine (keys_between _ _ _ _).mono ?_; rintro e w' ⟨rfl, rfl⟩))
          refine bodyPost_ret (v := .tuple #[.agg #[.int .i64 p, .int .i64 b, .int .i64 l, .int .i64 a, .int .i64 a'], .int .i64 0]) (by simp [results, Tryz.results89, go_sem, q3]) rfl ⟨rfl, ?_⟩
          exact (((((hB.setCell (by simp <;> omega) _).setCell (by simp <;> omega) _).setCell (by simp <;> omega) _).setCell (by simp <;> omega) _).setCell (by simp <;> omega) _).setCell (by simp <;> omega) _
        · have hs' : (s == 0) = true := by simpa using hs
          have hw : btw a' 1 63 = false := by unfold btw; rw [decide_eq_false_iff_not]; exact hn
          have hm : sealK p b l a s p' b' l' a' s' = errK 13 := by unfold sealK; rw [if_pos ho, if_pos hs, if_pos hy, if_neg hn]
          rw [hm]
          clear hm hs hn ho
          go_enter Tryz.func89, Tryz.ntmps89
          go_wp2_with (first | (go_at_call 113; refine (keys_both _ _ _ _ _ _ _ _ _ _ _ hb hb').mono ?_; rintro e w' ⟨rfl, hbb⟩; have B1 := (((Box.new _ _ _).alloc _).alloc _).below hbb; have B2 := ((Box.new1 _ _ _ _).alloc _).below hbb; have B3 := (Box.new2 _ _ _ _ _).below hbb; have q1 := B1.cell; have q2 := B2.cell; have q3 := B3.cell; have f1 := B1.free; have f3 := B3.free; have hB := Below.step0 (three _ _ _) hbb; clear hbb) | (go_at_call 114; refine (keys_may _ _ _ _ _ _ _ hb').mono ?_; rintro e w2 ⟨rfl, hbb⟩; replace B1 := B1.below hbb; replace B2 := B2.below hbb; replace B3 := B3.below hbb; clear q1 q2 q3 f1 f3; have q1 := B1.cell; have q2 := B2.cell; have q3 := B3.cell; have f1 := B1.free; have f3 := B3.free; replace hB := Below.step0 hB hbb; clear hbb) | (go_at_call 71; refine (keys_between _ _ _ _).mono ?_; rintro e w' ⟨rfl, rfl⟩))
          refine bodyPost_ret (v := .tuple #[.agg #[.int .i64 0, .int .i64 0, .int .i64 0, .int .i64 0, .int .i64 0], .int .i64 13]) (by simp [results, Tryz.results89, go_sem, q3]) rfl ⟨rfl, ?_⟩
          exact ((((hB.setCell (by simp <;> omega) _).setCell (by simp <;> omega) _).setCell (by simp <;> omega) _).setCell (by simp <;> omega) _).setCell (by simp <;> omega) _
      · have hs' : (s == 0) = true := by simpa using hs
        have hw : (mayE p' b' l' a' s' 32 != 0) = true := by simpa using hy
        have hm : sealK p b l a s p' b' l' a' s' = errK (mayE p' b' l' a' s' 32) := by unfold sealK; rw [if_pos ho, if_pos hs, if_neg hy]
        rw [hm]
        clear hm hs hy ho
        go_enter Tryz.func89, Tryz.ntmps89
        go_wp2_with (first | (go_at_call 113; refine (keys_both _ _ _ _ _ _ _ _ _ _ _ hb hb').mono ?_; rintro e w' ⟨rfl, hbb⟩; have B1 := (((Box.new _ _ _).alloc _).alloc _).below hbb; have B2 := ((Box.new1 _ _ _ _).alloc _).below hbb; have B3 := (Box.new2 _ _ _ _ _).below hbb; have q1 := B1.cell; have q2 := B2.cell; have q3 := B3.cell; have f1 := B1.free; have f3 := B3.free; have hB := Below.step0 (three _ _ _) hbb; clear hbb) | (go_at_call 114; refine (keys_may _ _ _ _ _ _ _ hb').mono ?_; rintro e w2 ⟨rfl, hbb⟩; replace B1 := B1.below hbb; replace B2 := B2.below hbb; replace B3 := B3.below hbb; clear q1 q2 q3 f1 f3; have q1 := B1.cell; have q2 := B2.cell; have q3 := B3.cell; have f1 := B1.free; have f3 := B3.free; replace hB := Below.step0 hB hbb; clear hbb) | (go_at_call 71; refine (keys_between _ _ _ _).mono ?_; rintro e w' ⟨rfl, rfl⟩))
        refine bodyPost_ret (v := .tuple #[.agg #[.int .i64 0, .int .i64 0, .int .i64 0, .int .i64 0, .int .i64 0], .int .i64 (mayE p' b' l' a' s' 32)]) (by simp [results, Tryz.results89, go_sem, q3]) rfl ⟨rfl, ?_⟩
        exact ((((hB.setCell (by simp <;> omega) _).setCell (by simp <;> omega) _).setCell (by simp <;> omega) _).setCell (by simp <;> omega) _).setCell (by simp <;> omega) _
    · have hs' : (s != 0) = true := by simpa using hs
      have hm : sealK p b l a s p' b' l' a' s' = errK 11 := by unfold sealK; rw [if_pos ho, if_neg hs]
      rw [hm]
      clear hm hs ho
      go_enter Tryz.func89, Tryz.ntmps89
      go_wp2_with (first | (go_at_call 113; refine (keys_both _ _ _ _ _ _ _ _ _ _ _ hb hb').mono ?_; rintro e w' ⟨rfl, hbb⟩; have B1 := (((Box.new _ _ _).alloc _).alloc _).below hbb; have B2 := ((Box.new1 _ _ _ _).alloc _).below hbb; have B3 := (Box.new2 _ _ _ _ _).below hbb; have q1 := B1.cell; have q2 := B2.cell; have q3 := B3.cell; have f1 := B1.free; have f3 := B3.free; have hB := Below.step0 (three _ _ _) hbb; clear hbb) | (go_at_call 114; refine (keys_may _ _ _ _ _ _ _ hb').mono ?_; rintro e w2 ⟨rfl, hbb⟩; replace B1 := B1.below hbb; replace B2 := B2.below hbb; replace B3 := B3.below hbb; clear q1 q2 q3 f1 f3; have q1 := B1.cell; have q2 := B2.cell; have q3 := B3.cell; have f1 := B1.free; have f3 := B3.free; replace hB := Below.step0 hB hbb; clear hbb) | (go_at_call 71; refine (keys_between _ _ _ _).mono ?_; rintro e w' ⟨rfl, rfl⟩))
      refine bodyPost_ret (v := .tuple #[.agg #[.int .i64 0, .int .i64 0, .int .i64 0, .int .i64 0, .int .i64 0], .int .i64 11]) (by simp [results, Tryz.results89, go_sem, q3]) rfl ⟨rfl, ?_⟩
      exact ((((hB.setCell (by simp <;> omega) _).setCell (by simp <;> omega) _).setCell (by simp <;> omega) _).setCell (by simp <;> omega) _).setCell (by simp <;> omega) _
  · have hk : (bothE p b l a s p' b' l' a' s' != 0) = true := by unfold bothE; rw [if_neg ho]; rfl
    have he : bothE p b l a s p' b' l' a' s' = 1 := by unfold bothE; rw [if_neg ho]
    have hm : sealK p b l a s p' b' l' a' s' = errK 1 := by unfold sealK; rw [if_neg ho]
    rw [hm]
    clear hm hk ho
    go_enter Tryz.func89, Tryz.ntmps89
    go_wp2_with (first | (go_at_call 113; refine (keys_both _ _ _ _ _ _ _ _ _ _ _ hb hb').mono ?_; rintro e w' ⟨rfl, hbb⟩; have B1 := (((Box.new _ _ _).alloc _).alloc _).below hbb; have B2 := ((Box.new1 _ _ _ _).alloc _).below hbb; have B3 := (Box.new2 _ _ _ _ _).below hbb; have q1 := B1.cell; have q2 := B2.cell; have q3 := B3.cell; have f1 := B1.free; have f3 := B3.free; have hB := Below.step0 (three _ _ _) hbb; clear hbb) | (go_at_call 114; refine (keys_may _ _ _ _ _ _ _ hb').mono ?_; rintro e w2 ⟨rfl, hbb⟩; replace B1 := B1.below hbb; replace B2 := B2.below hbb; replace B3 := B3.below hbb; clear q1 q2 q3 f1 f3; have q1 := B1.cell; have q2 := B2.cell; have q3 := B3.cell; have f1 := B1.free; have f3 := B3.free; replace hB := Below.step0 hB hbb; clear hbb) | (go_at_call 71; refine (keys_between _ _ _ _).mono ?_; rintro e w' ⟨rfl, rfl⟩))
    refine bodyPost_ret (v := .tuple #[.agg #[.int .i64 0, .int .i64 0, .int .i64 0, .int .i64 0, .int .i64 0], .int .i64 1]) (by simp [results, Tryz.results89, go_sem, q3]) rfl ⟨rfl, ?_⟩
    exact ((((hB.setCell (by simp <;> omega) _).setCell (by simp <;> omega) _).setCell (by simp <;> omega) _).setCell (by simp <;> omega) _).setCell (by simp <;> omega) _
theorem keys_open (p b l a s p' b' l' a' s' : Int) (w : World) (hb : kb p b l a s) (hb' : kb p' b' l' a' s') :
    Calls Tryz.prog 90 #[.agg #[.int .i64 p, .int .i64 b, .int .i64 l, .int .i64 a, .int .i64 s], .agg #[.int .i64 p', .int .i64 b', .int .i64 l', .int .i64 a', .int .i64 s']] w
      fun e w' => e = .returned (.tuple #[.agg #[.int .i64 (openK p b l a s p' b' l' a' s').p, .int .i64 (openK p b l a s p' b' l' a' s').b, .int .i64 (openK p b l a s p' b' l' a' s').l, .int .i64 (openK p b l a s p' b' l' a' s').a, .int .i64 (openK p b l a s p' b' l' a' s').s], .int .i64 (openK p b l a s p' b' l' a' s').e]) ∧ Below w.heap.size w w' := by
  by_cases ho : ok p b l a s ∧ ok p' b' l' a' s'
  · have hk : bothE p b l a s p' b' l' a' s' = 0 := by unfold bothE; rw [if_pos ho]
    by_cases hs : s = 0
    · have hs' : (s == 0) = true := by simpa using hs
      have hm : openK p b l a s p' b' l' a' s' = errK 11 := by unfold openK; rw [if_pos ho, if_pos hs]
      rw [hm]
      clear hm hs ho
      go_enter Tryz.func90, Tryz.ntmps90
      go_wp2_with (first | (go_at_call 113; refine (keys_both _ _ _ _ _ _ _ _ _ _ _ hb hb').mono ?_; rintro e w' ⟨rfl, hbb⟩; have B1 := (((Box.new _ _ _).alloc _).alloc _).below hbb; have B2 := ((Box.new1 _ _ _ _).alloc _).below hbb; have B3 := (Box.new2 _ _ _ _ _).below hbb; have q1 := B1.cell; have q2 := B2.cell; have q3 := B3.cell; have f1 := B1.free; have f3 := B3.free; have hB := Below.step0 (three _ _ _) hbb; clear hbb) | (go_at_call 114; refine (keys_may _ _ _ _ _ _ _ hb').mono ?_; rintro e w2 ⟨rfl, hbb⟩; replace B1 := B1.below hbb; replace B2 := B2.below hbb; replace B3 := B3.below hbb; clear q1 q2 q3 f1 f3; have q1 := B1.cell; have q2 := B2.cell; have q3 := B3.cell; have f1 := B1.free; have f3 := B3.free; replace hB := Below.step0 hB hbb; clear hbb) | (go_at_call 71; refine (keys_between _ _ _ _).mono ?_; rintro e w' ⟨rfl, rfl⟩))
      refine bodyPost_ret (v := .tuple #[.agg #[.int .i64 0, .int .i64 0, .int .i64 0, .int .i64 0, .int .i64 0], .int .i64 11]) (by simp [results, Tryz.results90, go_sem, q3]) rfl ⟨rfl, ?_⟩
      exact ((((hB.setCell (by simp <;> omega) _).setCell (by simp <;> omega) _).setCell (by simp <;> omega) _).setCell (by simp <;> omega) _).setCell (by simp <;> omega) _
    · have hs' : (s == 0) = false := by simpa using hs
      by_cases hy : mayE p' b' l' a' s' 64 = 0
      · by_cases hn : s = a'
        · have hw : (s != a') = false := by simpa using hn
          have hm : openK p b l a s p' b' l' a' s' = ⟨p, b, l, a, 0, 0⟩ := by unfold openK; rw [if_pos ho, if_neg hs, if_pos hy, if_pos hn]
          rw [hm]
          clear hm hs hn ho
          go_enter Tryz.func90, Tryz.ntmps90
          go_wp2_with (first | (go_at_call 113; refine (keys_both _ _ _ _ _ _ _ _ _ _ _ hb hb').mono ?_; rintro e w' ⟨rfl, hbb⟩; have B1 := (((Box.new _ _ _).alloc _).alloc _).below hbb; have B2 := ((Box.new1 _ _ _ _).alloc _).below hbb; have B3 := (Box.new2 _ _ _ _ _).below hbb; have q1 := B1.cell; have q2 := B2.cell; have q3 := B3.cell; have f1 := B1.free; have f3 := B3.free; have hB := Below.step0 (three _ _ _) hbb; clear hbb) | (go_at_call 114; refine (keys_may _ _ _ _ _ _ _ hb').mono ?_; rintro e w2 ⟨rfl, hbb⟩; replace B1 := B1.below hbb; replace B2 := B2.below hbb; replace B3 := B3.below hbb; clear q1 q2 q3 f1 f3; have q1 := B1.cell; have q2 := B2.cell; have q3 := B3.cell; have f1 := B1.free; have f3 := B3.free; replace hB := Below.step0 hB hbb; clear hbb) | (go_at_call 71; refine (keys_between _ _ _ _).mono ?_; rintro e w' ⟨rfl, rfl⟩))
          refine bodyPost_ret (v := .tuple #[.agg #[.int .i64 p, .int .i64 b, .int .i64 l, .int .i64 a, .int .i64 0], .int .i64 0]) (by simp [results, Tryz.results90, go_sem, q3]) rfl ⟨rfl, ?_⟩
          exact (((((hB.setCell (by simp <;> omega) _).setCell (by simp <;> omega) _).setCell (by simp <;> omega) _).setCell (by simp <;> omega) _).setCell (by simp <;> omega) _).setCell (by simp <;> omega) _
        · have hw : (s != a') = true := by simpa using hn
          have hm : openK p b l a s p' b' l' a' s' = errK 11 := by unfold openK; rw [if_pos ho, if_neg hs, if_pos hy, if_neg hn]
          rw [hm]
          clear hm hs hn ho
          go_enter Tryz.func90, Tryz.ntmps90
          go_wp2_with (first | (go_at_call 113; refine (keys_both _ _ _ _ _ _ _ _ _ _ _ hb hb').mono ?_; rintro e w' ⟨rfl, hbb⟩; have B1 := (((Box.new _ _ _).alloc _).alloc _).below hbb; have B2 := ((Box.new1 _ _ _ _).alloc _).below hbb; have B3 := (Box.new2 _ _ _ _ _).below hbb; have q1 := B1.cell; have q2 := B2.cell; have q3 := B3.cell; have f1 := B1.free; have f3 := B3.free; have hB := Below.step0 (three _ _ _) hbb; clear hbb) | (go_at_call 114; refine (keys_may _ _ _ _ _ _ _ hb').mono ?_; rintro e w2 ⟨rfl, hbb⟩; replace B1 := B1.below hbb; replace B2 := B2.below hbb; replace B3 := B3.below hbb; clear q1 q2 q3 f1 f3; have q1 := B1.cell; have q2 := B2.cell; have q3 := B3.cell; have f1 := B1.free; have f3 := B3.free; replace hB := Below.step0 hB hbb; clear hbb) | (go_at_call 71; refine (keys_between _ _ _ _).mono ?_; rintro e w' ⟨rfl, rfl⟩))
          refine bodyPost_ret (v := .tuple #[.agg #[.int .i64 0, .int .i64 0, .int .i64 0, .int .i64 0, .int .i64 0], .int .i64 11]) (by simp [results, Tryz.results90, go_sem, q3]) rfl ⟨rfl, ?_⟩
          exact ((((hB.setCell (by simp <;> omega) _).setCell (by simp <;> omega) _).setCell (by simp <;> omega) _).setCell (by simp <;> omega) _).setCell (by simp <;> omega) _
      · have hw : (mayE p' b' l' a' s' 64 != 0) = true := by simpa using hy
        have hm : openK p b l a s p' b' l' a' s' = errK (mayE p' b' l' a' s' 64) := by unfold openK; rw [if_pos ho, if_neg hs, if_neg hy]
        rw [hm]
        clear hm hs hy ho
        go_enter Tryz.func90, Tryz.ntmps90
        go_wp2_with (first | (go_at_call 113; refine (keys_both _ _ _ _ _ _ _ _ _ _ _ hb hb').mono ?_; rintro e w' ⟨rfl, hbb⟩; have B1 := (((Box.new _ _ _).alloc _).alloc _).below hbb; have B2 := ((Box.new1 _ _ _ _).alloc _).below hbb; have B3 := (Box.new2 _ _ _ _ _).below hbb; have q1 := B1.cell; have q2 := B2.cell; have q3 := B3.cell; have f1 := B1.free; have f3 := B3.free; have hB := Below.step0 (three _ _ _) hbb; clear hbb) | (go_at_call 114; refine (keys_may _ _ _ _ _ _ _ hb').mono ?_; rintro e w2 ⟨rfl, hbb⟩; replace B1 := B1.below hbb; replace B2 := B2.below hbb; replace B3 := B3.below hbb; clear q1 q2 q3 f1 f3; have q1 := B1.cell; have q2 := B2.cell; have q3 := B3.cell; have f1 := B1.free; have f3 := B3.free; replace hB := Below.step0 hB hbb; clear hbb) | (go_at_call 71; refine (keys_between _ _ _ _).mono ?_; rintro e w' ⟨rfl, rfl⟩))
        refine bodyPost_ret (v := .tuple #[.agg #[.int .i64 0, .int .i64 0, .int .i64 0, .int .i64 0, .int .i64 0], .int .i64 (mayE p' b' l' a' s' 64)]) (by simp [results, Tryz.results90, go_sem, q3]) rfl ⟨rfl, ?_⟩
        exact ((((hB.setCell (by simp <;> omega) _).setCell (by simp <;> omega) _).setCell (by simp <;> omega) _).setCell (by simp <;> omega) _).setCell (by simp <;> omega) _
  · have hk : (bothE p b l a s p' b' l' a' s' != 0) = true := by unfold bothE; rw [if_neg ho]; rfl
    have he : bothE p b l a s p' b' l' a' s' = 1 := by unfold bothE; rw [if_neg ho]
    have hm : openK p b l a s p' b' l' a' s' = errK 1 := by unfold openK; rw [if_neg ho]
    rw [hm]
    clear hm hk ho
    go_enter Tryz.func90, Tryz.ntmps90
    go_wp2_with (first | (go_at_call 113; refine (keys_both _ _ _ _ _ _ _ _ _ _ _ hb hb').mono ?_; rintro e w' ⟨rfl, hbb⟩; have B1 := (((Box.new _ _ _).alloc _).alloc _).below hbb; have B2 := ((Box.new1 _ _ _ _).alloc _).below hbb; have B3 := (Box.new2 _ _ _ _ _).below hbb; have q1 := B1.cell; have q2 := B2.cell; have q3 := B3.cell; have f1 := B1.free; have f3 := B3.free; have hB := Below.step0 (three _ _ _) hbb; clear hbb) | (go_at_call 114; refine (keys_may _ _ _ _ _ _ _ hb').mono ?_; rintro e w2 ⟨rfl, hbb⟩; replace B1 := B1.below hbb; replace B2 := B2.below hbb; replace B3 := B3.below hbb; clear q1 q2 q3 f1 f3; have q1 := B1.cell; have q2 := B2.cell; have q3 := B3.cell; have f1 := B1.free; have f3 := B3.free; replace hB := Below.step0 hB hbb; clear hbb) | (go_at_call 71; refine (keys_between _ _ _ _).mono ?_; rintro e w' ⟨rfl, rfl⟩))
    refine bodyPost_ret (v := .tuple #[.agg #[.int .i64 0, .int .i64 0, .int .i64 0, .int .i64 0, .int .i64 0], .int .i64 1]) (by simp [results, Tryz.results90, go_sem, q3]) rfl ⟨rfl, ?_⟩
    exact ((((hB.setCell (by simp <;> omega) _).setCell (by simp <;> omega) _).setCell (by simp <;> omega) _).setCell (by simp <;> omega) _).setCell (by simp <;> omega) _
end Go.Proofs.YtlfeglljpfihhaaGreatDoor
