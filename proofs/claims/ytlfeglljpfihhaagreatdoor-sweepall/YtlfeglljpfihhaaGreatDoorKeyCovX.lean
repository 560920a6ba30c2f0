/- keys.Covers, Narrow and Drop, and the document's own Covers, answer what chapter 3 says of them, for whatever numbers, and turn nothing that was in memory. -/
import Derived.Test.YtlfeglljpfihhaaGreatDoorRows
import Derived.Test.YtlfeglljpfihhaaGreatDoorCardBaseX
import Derived.Test.YtlfeglljpfihhaaGreatDoorKeyChkX
import Derived.WalkKit
import Derived.ProofKit
import Derived.OpenShut
namespace Go.Proofs.YtlfeglljpfihhaaGreatDoor
open Go.ChangeShapes Go.WideShapes Go.ChangeAt Go.RowKit

theorem u64_gap (x b : Int) (hx : -9223372036854775808 ≤ x ∧ x ≤ 9223372036854775807) (hb : -9223372036854775808 ≤ b ∧ b ≤ 9223372036854775807) (h : b ≤ x) :
    IntKind.u64.wrap (IntKind.u64.wrap x - IntKind.u64.wrap b) = x - b := by
  simp only [IntKind.wrap_u64]; omega
theorem keys_covers (p b l a s x : Int) (w : World) (hb : kb p b l a s) (hx : -9223372036854775808 ≤ x ∧ x ≤ 9223372036854775807) :
    Calls Tryz.prog 66 #[.agg #[.int .i64 p, .int .i64 b, .int .i64 l, .int .i64 a, .int .i64 s], .int .i64 x] w fun e w' => e = .returned (.bool (covB b l x)) ∧ Below w.heap.size w w' := by
  obtain ⟨b1, b2, b3, b4, b5⟩ := hb
  unfold covB
  by_cases h1 : 0 < l
  · by_cases h2 : b ≤ x
    · have hu := u64_gap x b hx b2 h2
      by_cases h3 : x - b < l
      · rw [decide_eq_true ⟨h1, h2, h3⟩]
        clear b1 b4 b5
        go_enter Tryz.func66, Tryz.ntmps66
        go_wp2
        go_ret
        exact ⟨rfl, (Below.refl _ _).alloc (Nat.le_refl _) _⟩
      · rw [decide_eq_false (fun h => h3 h.2.2)]
        clear b1 b4 b5
        go_enter Tryz.func66, Tryz.ntmps66
        go_wp2
        go_ret
        exact ⟨rfl, (Below.refl _ _).alloc (Nat.le_refl _) _⟩
    · rw [decide_eq_false (fun h => h2 h.2.1)]
      go_enter Tryz.func66, Tryz.ntmps66
      go_wp2
      go_ret
      exact ⟨rfl, (Below.refl _ _).alloc (Nat.le_refl _) _⟩
  · rw [decide_eq_false (fun h => h1 h.1)]
    go_enter Tryz.func66, Tryz.ntmps66
    go_wp2
    go_ret
    exact ⟨rfl, (Below.refl _ _).alloc (Nat.le_refl _) _⟩

theorem keys_uns (p b l a s : Int) (w : World) (hb : kb p b l a s) :
    Calls Tryz.prog 112 #[.agg #[.int .i64 p, .int .i64 b, .int .i64 l, .int .i64 a, .int .i64 s]] w fun e w' => e = .returned (.int .i64 (unsE p b l a s)) ∧ Below w.heap.size w w' := by
  unfold unsE
  by_cases ho : ok p b l a s
  · have hk := chk_yes ho
    rw [if_pos ho]
    by_cases hs : s = 0
    · rw [if_pos hs]
      have hs' : (s == 0) = true := by simpa using hs
      clear hs ho
      go_enter Tryz.func112, Tryz.ntmps112
      go_wp2_with (go_at_call 42; refine (keys_check _ _ _ _ _ _ hb).mono ?_; rintro e w' ⟨rfl, hbb⟩; obtain ⟨hc, hf⟩ := bcell hbb)
      go_ret
      exact ⟨rfl, ((Below.refl _ _).alloc (Nat.le_refl _) _).trans (hbb.mono (by simp))⟩
    · rw [if_neg hs]
      have hs' : (s == 0) = false := by simpa using hs
      clear hs ho
      go_enter Tryz.func112, Tryz.ntmps112
      go_wp2_with (go_at_call 42; refine (keys_check _ _ _ _ _ _ hb).mono ?_; rintro e w' ⟨rfl, hbb⟩; obtain ⟨hc, hf⟩ := bcell hbb)
      go_ret
      exact ⟨rfl, ((Below.refl _ _).alloc (Nat.le_refl _) _).trans (hbb.mono (by simp))⟩
  · have hk := chk_no ho
    rw [if_neg ho]
    clear ho
    go_enter Tryz.func112, Tryz.ntmps112
    go_wp2_with (go_at_call 42; refine (keys_check _ _ _ _ _ _ hb).mono ?_; rintro e w' ⟨rfl, hbb⟩; obtain ⟨hc, hf⟩ := bcell hbb)
    go_ret
    exact ⟨rfl, ((Below.refl _ _).alloc (Nat.le_refl _) _).trans (hbb.mono (by simp))⟩
theorem ok_of_uns {p b l a s : Int} (hu : unsE p b l a s = 0) : ok p b l a s ∧ s = 0 := by
  unfold unsE at hu
  by_cases h : ok p b l a s
  · rw [if_pos h] at hu
    by_cases hs : s = 0
    · exact ⟨h, hs⟩
    · rw [if_neg hs] at hu; omega
  · rw [if_neg h] at hu; omega
theorem keys_narrow (p b l a s n : Int) (w : World) (hb : kb p b l a s) :
    Calls Tryz.prog 111 #[.agg #[.int .i64 p, .int .i64 b, .int .i64 l, .int .i64 a, .int .i64 s], .int .i64 n] w
      fun e w' => e = .returned (.tuple #[.agg #[.int .i64 (narrowK p b l a s n).p, .int .i64 (narrowK p b l a s n).b, .int .i64 (narrowK p b l a s n).l, .int .i64 (narrowK p b l a s n).a, .int .i64 (narrowK p b l a s n).s], .int .i64 (narrowK p b l a s n).e]) ∧ Below w.heap.size w w' := by
  by_cases hu : unsE p b l a s = 0
  · have ho : 0 ≤ l ∧ 0 ≤ b ∧ b + l ≤ 400 ∧ 0 ≤ a ∧ a ≤ 400 := by have := ok_lit (ok_of_uns hu).1; omega
    by_cases hn : b ≤ a ∧ 0 ≤ n ∧ a + n ≤ b + l
    · have hm : narrowK p b l a s n = ⟨p, a, n, a, s, 0⟩ := by unfold narrowK; rw [if_pos hu, if_pos hn]
      have hw : btw n 0 (b + l - a) = true := by unfold btw; rw [decide_eq_true_eq]; omega
      rw [hm]
      clear hm
      obtain ⟨hn1, hn2⟩ := hn
      go_enter Tryz.func111, Tryz.ntmps111
      go_wp2_with (first | (go_at_call 112; refine (keys_uns _ _ _ _ _ _ hb).mono ?_; rintro e w' ⟨rfl, hbb⟩; have q1 := (((Box.new _ _ _).alloc _).below hbb).cell; have q2 := ((Box.new1 _ _ _ _).below hbb).cell; have f1 := (((Box.new _ _ _).alloc _).below hbb).free; have f2 := ((Box.new1 _ _ _ _).below hbb).free; have hB := Below.step0 (two _ _) hbb; clear hbb) | (go_at_call 71; refine (keys_between _ _ _ _).mono ?_; rintro e w' ⟨rfl, rfl⟩))
      refine bodyPost_ret (v := .tuple #[.agg #[.int .i64 p, .int .i64 a, .int .i64 n, .int .i64 a, .int .i64 s], .int .i64 0]) (by simp [results, Tryz.results111, go_sem, q2]) rfl ⟨rfl, ?_⟩
      exact ((((((hB.setCell (by simp <;> omega) _).setCell (by simp <;> omega) _).setCell (by simp <;> omega) _).setCell (by simp <;> omega) _).setCell (by simp <;> omega) _).setCell (by simp <;> omega) _).setCell (by simp <;> omega) _
    · have hm : narrowK p b l a s n = errK 13 := by unfold narrowK; rw [if_pos hu, if_neg hn]
      rw [hm]
      by_cases hl : a < b
      · clear hm hn
        go_enter Tryz.func111, Tryz.ntmps111
        go_wp2_with (first | (go_at_call 112; refine (keys_uns _ _ _ _ _ _ hb).mono ?_; rintro e w' ⟨rfl, hbb⟩; have q1 := (((Box.new _ _ _).alloc _).below hbb).cell; have q2 := ((Box.new1 _ _ _ _).below hbb).cell; have f1 := (((Box.new _ _ _).alloc _).below hbb).free; have f2 := ((Box.new1 _ _ _ _).below hbb).free; have hB := Below.step0 (two _ _) hbb; clear hbb) | (go_at_call 71; refine (keys_between _ _ _ _).mono ?_; rintro e w' ⟨rfl, rfl⟩))
        refine bodyPost_ret (v := .tuple #[.agg #[.int .i64 0, .int .i64 0, .int .i64 0, .int .i64 0, .int .i64 0], .int .i64 13]) (by simp [results, Tryz.results111, go_sem, q2]) rfl ⟨rfl, ?_⟩
        exact ((((hB.setCell (by simp <;> omega) _).setCell (by simp <;> omega) _).setCell (by simp <;> omega) _).setCell (by simp <;> omega) _).setCell (by simp <;> omega) _
      · have hw : btw n 0 (b + l - a) = false := by unfold btw; rw [decide_eq_false_iff_not]; omega
        clear hm hn
        go_enter Tryz.func111, Tryz.ntmps111
        go_wp2_with (first | (go_at_call 112; refine (keys_uns _ _ _ _ _ _ hb).mono ?_; rintro e w' ⟨rfl, hbb⟩; have q1 := (((Box.new _ _ _).alloc _).below hbb).cell; have q2 := ((Box.new1 _ _ _ _).below hbb).cell; have f1 := (((Box.new _ _ _).alloc _).below hbb).free; have f2 := ((Box.new1 _ _ _ _).below hbb).free; have hB := Below.step0 (two _ _) hbb; clear hbb) | (go_at_call 71; refine (keys_between _ _ _ _).mono ?_; rintro e w' ⟨rfl, rfl⟩))
        refine bodyPost_ret (v := .tuple #[.agg #[.int .i64 0, .int .i64 0, .int .i64 0, .int .i64 0, .int .i64 0], .int .i64 13]) (by simp [results, Tryz.results111, go_sem, q2]) rfl ⟨rfl, ?_⟩
        exact ((((hB.setCell (by simp <;> omega) _).setCell (by simp <;> omega) _).setCell (by simp <;> omega) _).setCell (by simp <;> omega) _).setCell (by simp <;> omega) _
  · have hm : narrowK p b l a s n = errK (unsE p b l a s) := by unfold narrowK; rw [if_neg hu]
    have hu' : (unsE p b l a s != 0) = true := by simpa using hu
    rw [hm]
    clear hm hu
    go_enter Tryz.func111, Tryz.ntmps111
    go_wp2_with (first | (go_at_call 112; refine (keys_uns _ _ _ _ _ _ hb).mono ?_; rintro e w' ⟨rfl, hbb⟩; have q1 := (((Box.new _ _ _).alloc _).below hbb).cell; have q2 := ((Box.new1 _ _ _ _).below hbb).cell; have f1 := (((Box.new _ _ _).alloc _).below hbb).free; have f2 := ((Box.new1 _ _ _ _).below hbb).free; have hB := Below.step0 (two _ _) hbb; clear hbb) | (go_at_call 71; refine (keys_between _ _ _ _).mono ?_; rintro e w' ⟨rfl, rfl⟩))
    refine bodyPost_ret (v := .tuple #[.agg #[.int .i64 0, .int .i64 0, .int .i64 0, .int .i64 0, .int .i64 0], .int .i64 (unsE p b l a s)]) (by simp [results, Tryz.results111, go_sem, q2]) rfl ⟨rfl, ?_⟩
    exact ((((hB.setCell (by simp <;> omega) _).setCell (by simp <;> omega) _).setCell (by simp <;> omega) _).setCell (by simp <;> omega) _).setCell (by simp <;> omega) _
theorem keys_drop (p b l a s n : Int) (w : World) (hb : kb p b l a s) :
    Calls Tryz.prog 88 #[.agg #[.int .i64 p, .int .i64 b, .int .i64 l, .int .i64 a, .int .i64 s], .int .i64 n] w
      fun e w' => e = .returned (.tuple #[.agg #[.int .i64 (dropK p b l a s n).p, .int .i64 (dropK p b l a s n).b, .int .i64 (dropK p b l a s n).l, .int .i64 (dropK p b l a s n).a, .int .i64 (dropK p b l a s n).s], .int .i64 (dropK p b l a s n).e]) ∧ Below w.heap.size w w' := by
  by_cases hu : unsE p b l a s = 0
  · have hm : dropK p b l a s n = ⟨bits .and .i64 p n, b, l, a, s, 0⟩ := by unfold dropK; rw [if_pos hu]
    rw [hm]
    clear hm
    go_enter Tryz.func88, Tryz.ntmps88
    go_wp2_with (first | (go_at_call 112; refine (keys_uns _ _ _ _ _ _ hb).mono ?_; rintro e w' ⟨rfl, hbb⟩; have q1 := (((Box.new _ _ _).alloc _).below hbb).cell; have q2 := ((Box.new1 _ _ _ _).below hbb).cell; have f1 := (((Box.new _ _ _).alloc _).below hbb).free; have f2 := ((Box.new1 _ _ _ _).below hbb).free; have hB := Below.step0 (two _ _) hbb; clear hbb) | (go_at_call 71; refine (keys_between _ _ _ _).mono ?_; rintro e w' ⟨rfl, rfl⟩))
    refine bodyPost_ret (v := .tuple #[.agg #[.int .i64 (bits .and .i64 p n), .int .i64 b, .int .i64 l, .int .i64 a, .int .i64 s], .int .i64 0]) (by simp [results, Tryz.results88, go_sem, q2]) rfl ⟨rfl, ?_⟩
    exact (((((hB.setCell (by simp <;> omega) _).setCell (by simp <;> omega) _).setCell (by simp <;> omega) _).setCell (by simp <;> omega) _).setCell (by simp <;> omega) _).setCell (by simp <;> omega) _
  · have hm : dropK p b l a s n = errK (unsE p b l a s) := by unfold dropK; rw [if_neg hu]
    have hu' : (unsE p b l a s != 0) = true := by simpa using hu
    rw [hm]
    clear hm hu
    go_enter Tryz.func88, Tryz.ntmps88
    go_wp2_with (first | (go_at_call 112; refine (keys_uns _ _ _ _ _ _ hb).mono ?_; rintro e w' ⟨rfl, hbb⟩; have q1 := (((Box.new _ _ _).alloc _).below hbb).cell; have q2 := ((Box.new1 _ _ _ _).below hbb).cell; have f1 := (((Box.new _ _ _).alloc _).below hbb).free; have f2 := ((Box.new1 _ _ _ _).below hbb).free; have hB := Below.step0 (two _ _) hbb; clear hbb) | (go_at_call 71; refine (keys_between _ _ _ _).mono ?_; rintro e w' ⟨rfl, rfl⟩))
    refine bodyPost_ret (v := .tuple #[.agg #[.int .i64 0, .int .i64 0, .int .i64 0, .int .i64 0, .int .i64 0], .int .i64 (unsE p b l a s)]) (by simp [results, Tryz.results88, go_sem, q2]) rfl ⟨rfl, ?_⟩
    exact ((((hB.setCell (by simp <;> omega) _).setCell (by simp <;> omega) _).setCell (by simp <;> omega) _).setCell (by simp <;> omega) _).setCell (by simp <;> omega) _
end Go.Proofs.YtlfeglljpfihhaaGreatDoor
