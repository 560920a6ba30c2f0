/- The calls of package keys answer what chapter 3 says of them, for whatever numbers, and turn nothing that was in memory. -/
import Derived.Test.YtpmmgpiamginaacRows
import Derived.Test.YtpmmgpiamginaacBits
import Derived.Test.YtpmmgpiamginaacWithin
import Derived.Test.YtpmmgpiamginaacKeyPure
import Derived.WalkKit
import Derived.ProofKit
import Derived.OpenShut
namespace Go.Proofs.Ytpmmgpiamginaac
open Go.ChangeShapes Go.WideShapes Go.ChangeAt Go.RowKit

theorem keys_between (n lo hi : Int) (w : World) :
    Calls Try.prog 17 #[.int .i64 n, .int .i64 lo, .int .i64 hi] w fun e w' => e = .returned (.bool (btw n lo hi)) ∧ w' = w := by
  unfold btw
  by_cases h1 : lo ≤ n
  · by_cases h2 : n ≤ hi
    · rw [decide_eq_true (And.intro h1 h2)]
      go_enter Try.func17, Try.ntmps17
      go_wp2
      go_ret
      exact ⟨rfl, rfl⟩
    · rw [decide_eq_false (fun h => h2 h.2)]
      go_enter Try.func17, Try.ntmps17
      go_wp2
      go_ret
      exact ⟨rfl, rfl⟩
  · rw [decide_eq_false (fun h => h1 h.1)]
    go_enter Try.func17, Try.ntmps17
    go_wp2
    go_ret
    exact ⟨rfl, rfl⟩

theorem keys_check (p b l a s : Int) (w : World) (hb : kb p b l a s) :
    Calls Try.prog 8 #[.agg #[.int .i64 p, .int .i64 b, .int .i64 l, .int .i64 a, .int .i64 s]] w fun e w' => e = .returned (.int .i64 (chkE p b l a s)) ∧ Below w.heap.size w w' := by
  obtain ⟨b1, b2, b3, b4, b5⟩ := hb
  have cs : btw p 0 127 = false ∨ (btw p 0 127 = true ∧ l < 0) ∨ (btw p 0 127 = true ∧ ¬ l < 0 ∧ btw b 0 (400 - l) = false) ∨ (btw p 0 127 = true ∧ ¬ l < 0 ∧ btw b 0 (400 - l) = true ∧ btw a 0 400 = false) ∨
    (btw p 0 127 = true ∧ ¬ l < 0 ∧ btw b 0 (400 - l) = true ∧ btw a 0 400 = true ∧ btw s 0 63 = false) ∨ (btw p 0 127 = true ∧ ¬ l < 0 ∧ btw b 0 (400 - l) = true ∧ btw a 0 400 = true ∧ btw s 0 63 = true) := by
    by_cases h : l < 0 <;> cases btw p 0 127 <;> cases btw b 0 (400 - l) <;> cases btw a 0 400 <;> cases btw s 0 63 <;> simp [h]
  have yes : btw p 0 127 = true ∧ ¬ l < 0 ∧ btw b 0 (400 - l) = true ∧ btw a 0 400 = true ∧ btw s 0 63 = true → chkE p b l a s = 0 := by
    intro ⟨h1, h2, h3, h4, h5⟩
    simp only [btw, decide_eq_true_eq] at h1 h3 h4 h5
    exact chk_yes (by unfold ok; omega)
  have no : ¬ (btw p 0 127 = true ∧ ¬ l < 0 ∧ btw b 0 (400 - l) = true ∧ btw a 0 400 = true ∧ btw s 0 63 = true) → chkE p b l a s = 1 := by
    intro h
    simp only [btw, decide_eq_true_eq] at h
    exact chk_no (by unfold ok; omega)
  rcases cs with h1 | ⟨h1, h2⟩ | ⟨h1, h2, h3⟩ | ⟨h1, h2, h3, h4⟩ | ⟨h1, h2, h3, h4, h5⟩ | ⟨h1, h2, h3, h4, h5⟩
  · rw [no (by simp [h1])]
    clear yes no b1 b2 b3 b4 b5
    go_enter Try.func8, Try.ntmps8
    go_wp2_with (go_at_call 17; refine (keys_between _ _ _ _).mono ?_; rintro e w' ⟨rfl, rfl⟩)
    go_ret
    exact ⟨rfl, (Below.refl _ _).alloc (Nat.le_refl _) _⟩
  · rw [no (by simp [h2])]
    clear yes no b1 b2 b4 b5
    go_enter Try.func8, Try.ntmps8
    go_wp2_with (go_at_call 17; refine (keys_between _ _ _ _).mono ?_; rintro e w' ⟨rfl, rfl⟩)
    go_ret
    exact ⟨rfl, (Below.refl _ _).alloc (Nat.le_refl _) _⟩
  · rw [no (by simp [h3])]
    clear yes no b1 b2 b4 b5
    go_enter Try.func8, Try.ntmps8
    go_wp2_with (go_at_call 17; refine (keys_between _ _ _ _).mono ?_; rintro e w' ⟨rfl, rfl⟩)
    go_ret
    exact ⟨rfl, (Below.refl _ _).alloc (Nat.le_refl _) _⟩
  · rw [no (by simp [h4])]
    clear yes no b1 b2 b4 b5
    go_enter Try.func8, Try.ntmps8
    go_wp2_with (go_at_call 17; refine (keys_between _ _ _ _).mono ?_; rintro e w' ⟨rfl, rfl⟩)
    go_ret
    exact ⟨rfl, (Below.refl _ _).alloc (Nat.le_refl _) _⟩
  · rw [no (by simp [h5])]
    clear yes no b1 b2 b4 b5
    go_enter Try.func8, Try.ntmps8
    go_wp2_with (go_at_call 17; refine (keys_between _ _ _ _).mono ?_; rintro e w' ⟨rfl, rfl⟩)
    go_ret
    exact ⟨rfl, (Below.refl _ _).alloc (Nat.le_refl _) _⟩
  · rw [yes ⟨h1, h2, h3, h4, h5⟩]
    clear yes no b1 b2 b4 b5
    go_enter Try.func8, Try.ntmps8
    go_wp2_with (go_at_call 17; refine (keys_between _ _ _ _).mono ?_; rintro e w' ⟨rfl, rfl⟩)
    go_ret
    exact ⟨rfl, (Below.refl _ _).alloc (Nat.le_refl _) _⟩

theorem u64_gap (x b : Int) (hx : -9223372036854775808 ≤ x ∧ x ≤ 9223372036854775807) (hb : -9223372036854775808 ≤ b ∧ b ≤ 9223372036854775807) (h : b ≤ x) :
    IntKind.u64.wrap (IntKind.u64.wrap x - IntKind.u64.wrap b) = x - b := by
  simp only [IntKind.wrap_u64]; omega
theorem keys_covers (p b l a s x : Int) (w : World) (hb : kb p b l a s) (hx : -9223372036854775808 ≤ x ∧ x ≤ 9223372036854775807) :
    Calls Try.prog 21 #[.agg #[.int .i64 p, .int .i64 b, .int .i64 l, .int .i64 a, .int .i64 s], .int .i64 x] w fun e w' => e = .returned (.bool (covB b l x)) ∧ Below w.heap.size w w' := by
  obtain ⟨b1, b2, b3, b4, b5⟩ := hb
  unfold covB
  by_cases h1 : 0 < l
  · by_cases h2 : b ≤ x
    · have hu := u64_gap x b hx b2 h2
      by_cases h3 : x - b < l
      · rw [decide_eq_true ⟨h1, h2, h3⟩]
        clear b1 b4 b5
        go_enter Try.func21, Try.ntmps21
        go_wp2
        go_ret
        exact ⟨rfl, (Below.refl _ _).alloc (Nat.le_refl _) _⟩
      · rw [decide_eq_false (fun h => h3 h.2.2)]
        clear b1 b4 b5
        go_enter Try.func21, Try.ntmps21
        go_wp2
        go_ret
        exact ⟨rfl, (Below.refl _ _).alloc (Nat.le_refl _) _⟩
    · rw [decide_eq_false (fun h => h2 h.2.1)]
      go_enter Try.func21, Try.ntmps21
      go_wp2
      go_ret
      exact ⟨rfl, (Below.refl _ _).alloc (Nat.le_refl _) _⟩
  · rw [decide_eq_false (fun h => h1 h.1)]
    go_enter Try.func21, Try.ntmps21
    go_wp2
    go_ret
    exact ⟨rfl, (Below.refl _ _).alloc (Nat.le_refl _) _⟩

theorem keys_cw (p b l a s p' b' l' a' s' : Int) (w : World) (hb : kb p b l a s) (hb' : kb p' b' l' a' s') :
    Calls Try.prog 20 #[.agg #[.int .i64 p, .int .i64 b, .int .i64 l, .int .i64 a, .int .i64 s], .agg #[.int .i64 p', .int .i64 b', .int .i64 l', .int .i64 a', .int .i64 s']] w
      fun e w' => e = .returned (.bool (cwB b l b' l')) ∧ Below w.heap.size w w' := by
  obtain ⟨-, b2, b3, -, -⟩ := hb
  have hk := hb'
  obtain ⟨-, c2, c3, -, -⟩ := hb'
  have cs : (l ≤ 0 ∧ cwB b l b' l' = true) ∨ (0 < l ∧ covB b' l' b = false ∧ cwB b l b' l' = false) ∨ (0 < l ∧ covB b' l' b = true ∧ (b' ≤ b ∧ 0 < l' ∧ b - b' < l') ∧ l ≤ l' - (b - b') ∧ cwB b l b' l' = true) ∨
      (0 < l ∧ covB b' l' b = true ∧ (b' ≤ b ∧ 0 < l' ∧ b - b' < l') ∧ decide (l ≤ l' - (b - b')) = false ∧ cwB b l b' l' = false) := by
    simp only [cwB, covB, decide_eq_true_eq, decide_eq_false_iff_not]; omega
  rcases cs with ⟨h1, hc⟩ | ⟨h1, h2, hc⟩ | ⟨h1, h2, ⟨h3, h4, h5⟩, h6, hc⟩ | ⟨h1, h2, ⟨h3, h4, h5⟩, h6, hc⟩
  · rw [hc]
    clear hc
    go_enter Try.func20, Try.ntmps20
    go_wp2
    go_ret
    exact ⟨rfl, ((Below.refl _ _).alloc (Nat.le_refl _) _).alloc (by simp) _⟩
  all_goals
    rw [hc]
    clear hc
    go_enter Try.func20, Try.ntmps20
    go_wp2_with (go_at_call 21; refine (keys_covers _ _ _ _ _ _ _ hk b2).mono ?_; rintro e w' ⟨rfl, hb⟩; obtain ⟨hc, hf⟩ := bcell hb)
    go_ret
    exact ⟨rfl, (((Below.refl _ _).alloc (Nat.le_refl _) _).alloc (by simp) _).trans (hb.mono (by simp; omega))⟩
theorem keys_under (p b l a s p' b' l' a' s' : Int) (w : World) (hb : kb p b l a s) (hb' : kb p' b' l' a' s') :
    Calls Try.prog 15 #[.agg #[.int .i64 p, .int .i64 b, .int .i64 l, .int .i64 a, .int .i64 s], .agg #[.int .i64 p', .int .i64 b', .int .i64 l', .int .i64 a', .int .i64 s']] w
      fun e w' => e = .returned (.bool (undB p b l s p' b' l' s')) ∧ Below w.heap.size w w' := by
  have cs : (cwB b l b' l' = false) ∨ (cwB b l b' l' = true ∧ inB p p' = false) ∨ (cwB b l b' l' = true ∧ inB p p' = true ∧ (s' == 0) = true) ∨ (cwB b l b' l' = true ∧ inB p p' = true ∧ (s' == 0) = false) := by
    cases cwB b l b' l' <;> cases inB p p' <;> cases (s' == 0) <;> simp
  unfold undB
  rcases cs with h1 | ⟨h1, h2⟩ | ⟨h1, h2, h3⟩ | ⟨h1, h2, h3⟩
  · rw [h1]
    simp only [Bool.false_and]
    go_enter Try.func15, Try.ntmps15
    go_wp2_with (first | (go_at_call 20; refine (keys_cw _ _ _ _ _ _ _ _ _ _ _ hb hb').mono ?_; rintro e w' ⟨rfl, hbb⟩; obtain ⟨hc, hf⟩ := bcell hbb) | (go_at_call 7; refine (perm_within _ _ _).mono ?_; rintro e w' ⟨rfl, rfl⟩))
    go_ret
    exact ⟨rfl, (((Below.refl _ _).alloc (Nat.le_refl _) _).alloc (by simp) _).trans (hbb.mono (by simp; omega))⟩
  · rw [h1, h2]
    simp only [Bool.false_and, Bool.and_false]
    go_enter Try.func15, Try.ntmps15
    go_wp2_with (first | (go_at_call 20; refine (keys_cw _ _ _ _ _ _ _ _ _ _ _ hb hb').mono ?_; rintro e w' ⟨rfl, hbb⟩; obtain ⟨hc, hf⟩ := bcell hbb) | (go_at_call 7; refine (perm_within _ _ _).mono ?_; rintro e w' ⟨rfl, rfl⟩))
    go_ret
    exact ⟨rfl, (((Below.refl _ _).alloc (Nat.le_refl _) _).alloc (by simp) _).trans (hbb.mono (by simp; omega))⟩
  · rw [h1, h2, h3]
    simp only [Bool.true_and, Bool.true_or]
    go_enter Try.func15, Try.ntmps15
    go_wp2_with (first | (go_at_call 20; refine (keys_cw _ _ _ _ _ _ _ _ _ _ _ hb hb').mono ?_; rintro e w' ⟨rfl, hbb⟩; obtain ⟨hc, hf⟩ := bcell hbb) | (go_at_call 7; refine (perm_within _ _ _).mono ?_; rintro e w' ⟨rfl, rfl⟩))
    go_ret
    exact ⟨rfl, (((Below.refl _ _).alloc (Nat.le_refl _) _).alloc (by simp) _).trans (hbb.mono (by simp; omega))⟩
  · rw [h1, h2, h3]
    simp only [Bool.true_and, Bool.false_or]
    go_enter Try.func15, Try.ntmps15
    go_wp2_with (first | (go_at_call 20; refine (keys_cw _ _ _ _ _ _ _ _ _ _ _ hb hb').mono ?_; rintro e w' ⟨rfl, hbb⟩; obtain ⟨hc, hf⟩ := bcell hbb) | (go_at_call 7; refine (perm_within _ _ _).mono ?_; rintro e w' ⟨rfl, rfl⟩))
    go_ret
    exact ⟨rfl, (((Below.refl _ _).alloc (Nat.le_refl _) _).alloc (by simp) _).trans (hbb.mono (by simp; omega))⟩

theorem ok_lit {p b l a s : Int} (h : ok p b l a s) : 0 ≤ p ∧ p ≤ 127 ∧ 0 ≤ l ∧ 0 ≤ b ∧ b + l ≤ 400 ∧ 0 ≤ a ∧ a ≤ 400 ∧ 0 ≤ s ∧ s ≤ 63 := h
theorem keys_uns (p b l a s : Int) (w : World) (hb : kb p b l a s) :
    Calls Try.prog 16 #[.agg #[.int .i64 p, .int .i64 b, .int .i64 l, .int .i64 a, .int .i64 s]] w fun e w' => e = .returned (.int .i64 (unsE p b l a s)) ∧ Below w.heap.size w w' := by
  unfold unsE
  by_cases ho : ok p b l a s
  · have hk := chk_yes ho
    rw [if_pos ho]
    by_cases hs : s = 0
    · rw [if_pos hs]
      have hs' : (s == 0) = true := by simpa using hs
      clear hs ho
      go_enter Try.func16, Try.ntmps16
      go_wp2_with (go_at_call 8; refine (keys_check _ _ _ _ _ _ hb).mono ?_; rintro e w' ⟨rfl, hbb⟩; obtain ⟨hc, hf⟩ := bcell hbb)
      go_ret
      exact ⟨rfl, ((Below.refl _ _).alloc (Nat.le_refl _) _).trans (hbb.mono (by simp))⟩
    · rw [if_neg hs]
      have hs' : (s == 0) = false := by simpa using hs
      clear hs ho
      go_enter Try.func16, Try.ntmps16
      go_wp2_with (go_at_call 8; refine (keys_check _ _ _ _ _ _ hb).mono ?_; rintro e w' ⟨rfl, hbb⟩; obtain ⟨hc, hf⟩ := bcell hbb)
      go_ret
      exact ⟨rfl, ((Below.refl _ _).alloc (Nat.le_refl _) _).trans (hbb.mono (by simp))⟩
  · have hk := chk_no ho
    rw [if_neg ho]
    clear ho
    go_enter Try.func16, Try.ntmps16
    go_wp2_with (go_at_call 8; refine (keys_check _ _ _ _ _ _ hb).mono ?_; rintro e w' ⟨rfl, hbb⟩; obtain ⟨hc, hf⟩ := bcell hbb)
    go_ret
    exact ⟨rfl, ((Below.refl _ _).alloc (Nat.le_refl _) _).trans (hbb.mono (by simp))⟩
theorem ok_of_uns {p b l a s : Int} (hu : unsE p b l a s = 0) : ok p b l a s ∧ s = 0 := by
  unfold unsE at hu
  by_cases h : ok p b l a s
  · rw [if_pos h] at hu
    by_cases hs : s = 0
    · exact ⟨h, hs⟩
    · rw [if_neg hs] at hu; omega
  · rw [if_neg h] at hu; omega
theorem keys_move (p b l a s n : Int) (w : World) (hb : kb p b l a s) :
    Calls Try.prog 10 #[.agg #[.int .i64 p, .int .i64 b, .int .i64 l, .int .i64 a, .int .i64 s], .int .i64 n] w
      fun e w' => e = .returned (.tuple #[.agg #[.int .i64 (moveK p b l a s n).p, .int .i64 (moveK p b l a s n).b, .int .i64 (moveK p b l a s n).l, .int .i64 (moveK p b l a s n).a, .int .i64 (moveK p b l a s n).s], .int .i64 (moveK p b l a s n).e]) ∧ Below w.heap.size w w' := by
  by_cases hu : unsE p b l a s = 0
  · have ho : 0 ≤ a ∧ a ≤ 400 := ⟨(ok_of_uns hu).1.2.2.2.2.2.1, (ok_of_uns hu).1.2.2.2.2.2.2.1⟩
    by_cases hn : 0 ≤ a + n ∧ a + n ≤ 400
    · have hm : moveK p b l a s n = ⟨p, b, l, a + n, s, 0⟩ := by unfold moveK; rw [if_pos hu, if_pos hn]
      have hw : btw n (-a) (400 - a) = true := by unfold btw; rw [decide_eq_true_eq]; omega
      rw [hm]
      clear hm
      go_enter Try.func10, Try.ntmps10
      go_wp2_with (first | (go_at_call 16; refine (keys_uns _ _ _ _ _ _ hb).mono ?_; rintro e w' ⟨rfl, hbb⟩; have q1 := (((Box.new _ _ _).alloc _).below hbb).cell; have q2 := ((Box.new1 _ _ _ _).below hbb).cell; have f1 := (((Box.new _ _ _).alloc _).below hbb).free; have f2 := ((Box.new1 _ _ _ _).below hbb).free; have hB := Below.step0 (two _ _) hbb; clear hbb) | (go_at_call 17; refine (keys_between _ _ _ _).mono ?_; rintro e w' ⟨rfl, rfl⟩))
      refine bodyPost_ret (v := .tuple #[.agg #[.int .i64 p, .int .i64 b, .int .i64 l, .int .i64 (a + n), .int .i64 s], .int .i64 0]) (by simp [results, Try.results10, go_sem, q2]) rfl ⟨rfl, ?_⟩
      exact (((((hB.setCell (by simp <;> omega) _).setCell (by simp <;> omega) _).setCell (by simp <;> omega) _).setCell (by simp <;> omega) _).setCell (by simp <;> omega) _).setCell (by simp <;> omega) _
    · have hm : moveK p b l a s n = errK 13 := by unfold moveK; rw [if_pos hu, if_neg hn]
      have hw : btw n (-a) (400 - a) = false := by unfold btw; rw [decide_eq_false_iff_not]; omega
      rw [hm]
      clear hm hn
      go_enter Try.func10, Try.ntmps10
      go_wp2_with (first | (go_at_call 16; refine (keys_uns _ _ _ _ _ _ hb).mono ?_; rintro e w' ⟨rfl, hbb⟩; have q1 := (((Box.new _ _ _).alloc _).below hbb).cell; have q2 := ((Box.new1 _ _ _ _).below hbb).cell; have f1 := (((Box.new _ _ _).alloc _).below hbb).free; have f2 := ((Box.new1 _ _ _ _).below hbb).free; have hB := Below.step0 (two _ _) hbb; clear hbb) | (go_at_call 17; refine (keys_between _ _ _ _).mono ?_; rintro e w' ⟨rfl, rfl⟩))
      refine bodyPost_ret (v := .tuple #[.agg #[.int .i64 0, .int .i64 0, .int .i64 0, .int .i64 0, .int .i64 0], .int .i64 13]) (by simp [results, Try.results10, go_sem, q2]) rfl ⟨rfl, ?_⟩
      exact ((((hB.setCell (by simp <;> omega) _).setCell (by simp <;> omega) _).setCell (by simp <;> omega) _).setCell (by simp <;> omega) _).setCell (by simp <;> omega) _
  · have hm : moveK p b l a s n = errK (unsE p b l a s) := by unfold moveK; rw [if_neg hu]
    have hu' : (unsE p b l a s != 0) = true := by simpa using hu
    rw [hm]
    clear hm hu
    go_enter Try.func10, Try.ntmps10
    go_wp2_with (first | (go_at_call 16; refine (keys_uns _ _ _ _ _ _ hb).mono ?_; rintro e w' ⟨rfl, hbb⟩; have q1 := (((Box.new _ _ _).alloc _).below hbb).cell; have q2 := ((Box.new1 _ _ _ _).below hbb).cell; have f1 := (((Box.new _ _ _).alloc _).below hbb).free; have f2 := ((Box.new1 _ _ _ _).below hbb).free; have hB := Below.step0 (two _ _) hbb; clear hbb) | (go_at_call 17; refine (keys_between _ _ _ _).mono ?_; rintro e w' ⟨rfl, rfl⟩))
    refine bodyPost_ret (v := .tuple #[.agg #[.int .i64 0, .int .i64 0, .int .i64 0, .int .i64 0, .int .i64 0], .int .i64 (unsE p b l a s)]) (by simp [results, Try.results10, go_sem, q2]) rfl ⟨rfl, ?_⟩
    exact ((((hB.setCell (by simp <;> omega) _).setCell (by simp <;> omega) _).setCell (by simp <;> omega) _).setCell (by simp <;> omega) _).setCell (by simp <;> omega) _
theorem keys_narrow (p b l a s n : Int) (w : World) (hb : kb p b l a s) :
    Calls Try.prog 11 #[.agg #[.int .i64 p, .int .i64 b, .int .i64 l, .int .i64 a, .int .i64 s], .int .i64 n] w
      fun e w' => e = .returned (.tuple #[.agg #[.int .i64 (narrowK p b l a s n).p, .int .i64 (narrowK p b l a s n).b, .int .i64 (narrowK p b l a s n).l, .int .i64 (narrowK p b l a s n).a, .int .i64 (narrowK p b l a s n).s], .int .i64 (narrowK p b l a s n).e]) ∧ Below w.heap.size w w' := by
  by_cases hu : unsE p b l a s = 0
  · have ho : 0 ≤ l ∧ 0 ≤ b ∧ b + l ≤ 400 ∧ 0 ≤ a ∧ a ≤ 400 := by have := ok_lit (ok_of_uns hu).1; omega
    by_cases hn : b ≤ a ∧ 0 ≤ n ∧ a + n ≤ b + l
    · have hm : narrowK p b l a s n = ⟨p, a, n, a, s, 0⟩ := by unfold narrowK; rw [if_pos hu, if_pos hn]
      have hw : btw n 0 (b + l - a) = true := by unfold btw; rw [decide_eq_true_eq]; omega
      rw [hm]
      clear hm
      obtain ⟨hn1, hn2⟩ := hn
      go_enter Try.func11, Try.ntmps11
      go_wp2_with (first | (go_at_call 16; refine (keys_uns _ _ _ _ _ _ hb).mono ?_; rintro e w' ⟨rfl, hbb⟩; have q1 := (((Box.new _ _ _).alloc _).below hbb).cell; have q2 := ((Box.new1 _ _ _ _).below hbb).cell; have f1 := (((Box.new _ _ _).alloc _).below hbb).free; have f2 := ((Box.new1 _ _ _ _).below hbb).free; have hB := Below.step0 (two _ _) hbb; clear hbb) | (go_at_call 17; refine (keys_between _ _ _ _).mono ?_; rintro e w' ⟨rfl, rfl⟩))
      refine bodyPost_ret (v := .tuple #[.agg #[.int .i64 p, .int .i64 a, .int .i64 n, .int .i64 a, .int .i64 s], .int .i64 0]) (by simp [results, Try.results11, go_sem, q2]) rfl ⟨rfl, ?_⟩
      exact ((((((hB.setCell (by simp <;> omega) _).setCell (by simp <;> omega) _).setCell (by simp <;> omega) _).setCell (by simp <;> omega) _).setCell (by simp <;> omega) _).setCell (by simp <;> omega) _).setCell (by simp <;> omega) _
    · have hm : narrowK p b l a s n = errK 13 := by unfold narrowK; rw [if_pos hu, if_neg hn]
      rw [hm]
      by_cases hl : a < b
      · clear hm hn
        go_enter Try.func11, Try.ntmps11
        go_wp2_with (first | (go_at_call 16; refine (keys_uns _ _ _ _ _ _ hb).mono ?_; rintro e w' ⟨rfl, hbb⟩; have q1 := (((Box.new _ _ _).alloc _).below hbb).cell; have q2 := ((Box.new1 _ _ _ _).below hbb).cell; have f1 := (((Box.new _ _ _).alloc _).below hbb).free; have f2 := ((Box.new1 _ _ _ _).below hbb).free; have hB := Below.step0 (two _ _) hbb; clear hbb) | (go_at_call 17; refine (keys_between _ _ _ _).mono ?_; rintro e w' ⟨rfl, rfl⟩))
        refine bodyPost_ret (v := .tuple #[.agg #[.int .i64 0, .int .i64 0, .int .i64 0, .int .i64 0, .int .i64 0], .int .i64 13]) (by simp [results, Try.results11, go_sem, q2]) rfl ⟨rfl, ?_⟩
        exact ((((hB.setCell (by simp <;> omega) _).setCell (by simp <;> omega) _).setCell (by simp <;> omega) _).setCell (by simp <;> omega) _).setCell (by simp <;> omega) _
      · have hw : btw n 0 (b + l - a) = false := by unfold btw; rw [decide_eq_false_iff_not]; omega
        clear hm hn
        go_enter Try.func11, Try.ntmps11
        go_wp2_with (first | (go_at_call 16; refine (keys_uns _ _ _ _ _ _ hb).mono ?_; rintro e w' ⟨rfl, hbb⟩; have q1 := (((Box.new _ _ _).alloc _).below hbb).cell; have q2 := ((Box.new1 _ _ _ _).below hbb).cell; have f1 := (((Box.new _ _ _).alloc _).below hbb).free; have f2 := ((Box.new1 _ _ _ _).below hbb).free; have hB := Below.step0 (two _ _) hbb; clear hbb) | (go_at_call 17; refine (keys_between _ _ _ _).mono ?_; rintro e w' ⟨rfl, rfl⟩))
        refine bodyPost_ret (v := .tuple #[.agg #[.int .i64 0, .int .i64 0, .int .i64 0, .int .i64 0, .int .i64 0], .int .i64 13]) (by simp [results, Try.results11, go_sem, q2]) rfl ⟨rfl, ?_⟩
        exact ((((hB.setCell (by simp <;> omega) _).setCell (by simp <;> omega) _).setCell (by simp <;> omega) _).setCell (by simp <;> omega) _).setCell (by simp <;> omega) _
  · have hm : narrowK p b l a s n = errK (unsE p b l a s) := by unfold narrowK; rw [if_neg hu]
    have hu' : (unsE p b l a s != 0) = true := by simpa using hu
    rw [hm]
    clear hm hu
    go_enter Try.func11, Try.ntmps11
    go_wp2_with (first | (go_at_call 16; refine (keys_uns _ _ _ _ _ _ hb).mono ?_; rintro e w' ⟨rfl, hbb⟩; have q1 := (((Box.new _ _ _).alloc _).below hbb).cell; have q2 := ((Box.new1 _ _ _ _).below hbb).cell; have f1 := (((Box.new _ _ _).alloc _).below hbb).free; have f2 := ((Box.new1 _ _ _ _).below hbb).free; have hB := Below.step0 (two _ _) hbb; clear hbb) | (go_at_call 17; refine (keys_between _ _ _ _).mono ?_; rintro e w' ⟨rfl, rfl⟩))
    refine bodyPost_ret (v := .tuple #[.agg #[.int .i64 0, .int .i64 0, .int .i64 0, .int .i64 0, .int .i64 0], .int .i64 (unsE p b l a s)]) (by simp [results, Try.results11, go_sem, q2]) rfl ⟨rfl, ?_⟩
    exact ((((hB.setCell (by simp <;> omega) _).setCell (by simp <;> omega) _).setCell (by simp <;> omega) _).setCell (by simp <;> omega) _).setCell (by simp <;> omega) _
theorem keys_drop (p b l a s n : Int) (w : World) (hb : kb p b l a s) :
    Calls Try.prog 6 #[.agg #[.int .i64 p, .int .i64 b, .int .i64 l, .int .i64 a, .int .i64 s], .int .i64 n] w
      fun e w' => e = .returned (.tuple #[.agg #[.int .i64 (dropK p b l a s n).p, .int .i64 (dropK p b l a s n).b, .int .i64 (dropK p b l a s n).l, .int .i64 (dropK p b l a s n).a, .int .i64 (dropK p b l a s n).s], .int .i64 (dropK p b l a s n).e]) ∧ Below w.heap.size w w' := by
  by_cases hu : unsE p b l a s = 0
  · have hm : dropK p b l a s n = ⟨bits .and .i64 p n, b, l, a, s, 0⟩ := by unfold dropK; rw [if_pos hu]
    rw [hm]
    clear hm
    go_enter Try.func6, Try.ntmps6
    go_wp2_with (first | (go_at_call 16; refine (keys_uns _ _ _ _ _ _ hb).mono ?_; rintro e w' ⟨rfl, hbb⟩; have q1 := (((Box.new _ _ _).alloc _).below hbb).cell; have q2 := ((Box.new1 _ _ _ _).below hbb).cell; have f1 := (((Box.new _ _ _).alloc _).below hbb).free; have f2 := ((Box.new1 _ _ _ _).below hbb).free; have hB := Below.step0 (two _ _) hbb; clear hbb) | (go_at_call 17; refine (keys_between _ _ _ _).mono ?_; rintro e w' ⟨rfl, rfl⟩))
    refine bodyPost_ret (v := .tuple #[.agg #[.int .i64 (bits .and .i64 p n), .int .i64 b, .int .i64 l, .int .i64 a, .int .i64 s], .int .i64 0]) (by simp [results, Try.results6, go_sem, q2]) rfl ⟨rfl, ?_⟩
    exact (((((hB.setCell (by simp <;> omega) _).setCell (by simp <;> omega) _).setCell (by simp <;> omega) _).setCell (by simp <;> omega) _).setCell (by simp <;> omega) _).setCell (by simp <;> omega) _
  · have hm : dropK p b l a s n = errK (unsE p b l a s) := by unfold dropK; rw [if_neg hu]
    have hu' : (unsE p b l a s != 0) = true := by simpa using hu
    rw [hm]
    clear hm hu
    go_enter Try.func6, Try.ntmps6
    go_wp2_with (first | (go_at_call 16; refine (keys_uns _ _ _ _ _ _ hb).mono ?_; rintro e w' ⟨rfl, hbb⟩; have q1 := (((Box.new _ _ _).alloc _).below hbb).cell; have q2 := ((Box.new1 _ _ _ _).below hbb).cell; have f1 := (((Box.new _ _ _).alloc _).below hbb).free; have f2 := ((Box.new1 _ _ _ _).below hbb).free; have hB := Below.step0 (two _ _) hbb; clear hbb) | (go_at_call 17; refine (keys_between _ _ _ _).mono ?_; rintro e w' ⟨rfl, rfl⟩))
    refine bodyPost_ret (v := .tuple #[.agg #[.int .i64 0, .int .i64 0, .int .i64 0, .int .i64 0, .int .i64 0], .int .i64 (unsE p b l a s)]) (by simp [results, Try.results6, go_sem, q2]) rfl ⟨rfl, ?_⟩
    exact ((((hB.setCell (by simp <;> omega) _).setCell (by simp <;> omega) _).setCell (by simp <;> omega) _).setCell (by simp <;> omega) _).setCell (by simp <;> omega) _
theorem keys_both (p b l a s p' b' l' a' s' : Int) (w : World) (hb : kb p b l a s) (hb' : kb p' b' l' a' s') :
    Calls Try.prog 18 #[.agg #[.int .i64 p, .int .i64 b, .int .i64 l, .int .i64 a, .int .i64 s], .agg #[.int .i64 p', .int .i64 b', .int .i64 l', .int .i64 a', .int .i64 s']] w fun e w' => e = .returned (.int .i64 (bothE p b l a s p' b' l' a' s')) ∧ Below w.heap.size w w' := by
  unfold bothE
  by_cases h1 : ok p b l a s
  · have hk := chk_yes h1
    by_cases h2 : ok p' b' l' a' s'
    · have hk' := chk_yes h2
      rw [if_pos ⟨h1, h2⟩]
      clear h1 h2
      go_enter Try.func18, Try.ntmps18
      go_wp2_with (go_at_call 8; refine (keys_check _ _ _ _ _ _ (by first | exact hb | exact hb')).mono ?_; rintro e w' ⟨rfl, hbb⟩; first | (replace hB := Below.step0 hB hbb; clear hbb) | (have q2 := ((Box.new1 _ _ _ _).below hbb).cell; have hB := Below.step0 (two _ _) hbb; clear hbb))
      go_ret
      exact ⟨rfl, hB⟩
    · have hk' := chk_no h2
      rw [if_neg (fun h => h2 h.2)]
      clear h1 h2
      go_enter Try.func18, Try.ntmps18
      go_wp2_with (go_at_call 8; refine (keys_check _ _ _ _ _ _ (by first | exact hb | exact hb')).mono ?_; rintro e w' ⟨rfl, hbb⟩; first | (replace hB := Below.step0 hB hbb; clear hbb) | (have q2 := ((Box.new1 _ _ _ _).below hbb).cell; have hB := Below.step0 (two _ _) hbb; clear hbb))
      go_ret
      exact ⟨rfl, hB⟩
  · have hk := chk_no h1
    rw [if_neg (fun h => h1 h.1)]
    clear h1
    go_enter Try.func18, Try.ntmps18
    go_wp2_with (go_at_call 8; (refine (keys_check p b l a s _ hb).mono ?_; rintro e w' ⟨rfl, hbb⟩; have q2 := ((Box.new1 _ _ _ _).below hbb).cell; have hB := Below.step0 (two _ _) hbb; clear hbb))
    go_ret
    exact ⟨rfl, hB⟩
theorem keys_may (p b l a s q : Int) (w : World) (hb : kb p b l a s) :
    Calls Try.prog 19 #[.agg #[.int .i64 p, .int .i64 b, .int .i64 l, .int .i64 a, .int .i64 s], .int .i64 q] w fun e w' => e = .returned (.int .i64 (mayE p b l a s q)) ∧ Below w.heap.size w w' := by
  have ha := hb.2.2.2.1
  have cs : ((s == 0) = false ∧ mayE p b l a s q = 11) ∨ ((s == 0) = true ∧ inB q p = false ∧ mayE p b l a s q = 12) ∨ ((s == 0) = true ∧ inB q p = true ∧ covB b l a = false ∧ mayE p b l a s q = 13) ∨ ((s == 0) = true ∧ inB q p = true ∧ covB b l a = true ∧ mayE p b l a s q = 0) := by
    unfold mayE
    by_cases h : s = 0 <;> cases h2 : inB q p <;> cases h3 : covB b l a <;> simp [h]
  rcases cs with ⟨h1, hm⟩ | ⟨h1, h2, hm⟩ | ⟨h1, h2, h3, hm⟩ | ⟨h1, h2, h3, hm⟩
  · rw [hm]
    clear hm
    go_enter Try.func19, Try.ntmps19
    go_wp2_with (go_at_call 7; refine (perm_within _ _ _).mono ?_; rintro e w' ⟨rfl, rfl⟩)
    go_ret
    exact ⟨rfl, (Below.refl _ _).alloc (Nat.le_refl _) _⟩
  · rw [hm]
    clear hm
    go_enter Try.func19, Try.ntmps19
    go_wp2_with (go_at_call 7; refine (perm_within _ _ _).mono ?_; rintro e w' ⟨rfl, rfl⟩)
    go_ret
    exact ⟨rfl, (Below.refl _ _).alloc (Nat.le_refl _) _⟩
  all_goals
    rw [hm]
    clear hm
    go_enter Try.func19, Try.ntmps19
    go_wp2_with (first | (go_at_call 7; refine (perm_within _ _ _).mono ?_; rintro e w' ⟨rfl, rfl⟩) | (go_at_call 21; refine (keys_covers _ _ _ _ _ _ _ hb ha).mono ?_; rintro e w' ⟨rfl, hbb⟩))
    go_ret
    exact ⟨rfl, Below.step0 ((Below.refl _ _).alloc (Nat.le_refl _) _) hbb⟩
theorem keys_seal (p b l a s p' b' l' a' s' : Int) (w : World) (hb : kb p b l a s) (hb' : kb p' b' l' a' s') :
    Calls Try.prog 12 #[.agg #[.int .i64 p, .int .i64 b, .int .i64 l, .int .i64 a, .int .i64 s], .agg #[.int .i64 p', .int .i64 b', .int .i64 l', .int .i64 a', .int .i64 s']] w
      fun e w' => e = .returned (.tuple #[.agg #[.int .i64 (sealK p b l a s p' b' l' a' s').p, .int .i64 (sealK p b l a s p' b' l' a' s').b, .int .i64 (sealK p b l a s p' b' l' a' s').l, .int .i64 (sealK p b l a s p' b' l' a' s').a, .int .i64 (sealK p b l a s p' b' l' a' s').s], .int .i64 (sealK p b l a s p' b' l' a' s').e]) ∧ Below w.heap.size w w' := by
  by_cases ho : ok p b l a s ∧ ok p' b' l' a' s'
  · have hk : bothE p b l a s p' b' l' a' s' = 0 := by unfold bothE; rw [if_pos ho]
    by_cases hs : s = 0
    · by_cases hy : mayE p' b' l' a' s' 32 = 0
      · by_cases hn : 1 ≤ a' ∧ a' ≤ 63
        · have hs' : (s == 0) = true := by simpa using hs
          have hw : btw a' 1 63 = true := by unfold btw; rw [decide_eq_true_eq]; exact hn
          have hm : sealK p b l a s p' b' l' a' s' = ⟨p, b, l, a, a', 0⟩ := by unfold sealK; rw [if_pos ho, if_pos hs, if_pos hy, if_pos hn]
          rw [hm]
          clear hm hs hn ho
          go_enter Try.func12, Try.ntmps12
          go_wp2_with (first | (go_at_call 18; refine (keys_both _ _ _ _ _ _ _ _ _ _ _ hb hb').mono ?_; rintro e w' ⟨rfl, hbb⟩; have B1 := (((Box.new _ _ _).alloc _).alloc _).below hbb; have B2 := ((Box.new1 _ _ _ _).alloc _).below hbb; have B3 := (Box.new2 _ _ _ _ _).below hbb; have q1 := B1.cell; have q2 := B2.cell; have q3 := B3.cell; have f1 := B1.free; have f3 := B3.free; have hB := Below.step0 (three _ _ _) hbb; clear hbb) | (go_at_call 19; refine (keys_may _ _ _ _ _ _ _ hb').mono ?_; rintro e w2 ⟨rfl, hbb⟩; replace B1 := B1.below hbb; replace B2 := B2.below hbb; replace B3 := B3.below hbb; clear q1 q2 q3 f1 f3; have q1 := B1.cell; have q2 := B2.cell; have q3 := B3.cell; have f1 := B1.free; have f3 := B3.free; replace hB := Below.step0 hB hbb; clear hbb) | (go_at_call 17; refine (keys_between _ _ _ _).mono ?_; rintro e w' ⟨rfl, rfl⟩))
          refine bodyPost_ret (v := .tuple #[.agg #[.int .i64 p, .int .i64 b, .int .i64 l, .int .i64 a, .int .i64 a'], .int .i64 0]) (by simp [results, Try.results12, go_sem, q3]) rfl ⟨rfl, ?_⟩
          exact (((((hB.setCell (by simp <;> omega) _).setCell (by simp <;> omega) _).setCell (by simp <;> omega) _).setCell (by simp <;> omega) _).setCell (by simp <;> omega) _).setCell (by simp <;> omega) _
        · have hs' : (s == 0) = true := by simpa using hs
          have hw : btw a' 1 63 = false := by unfold btw; rw [decide_eq_false_iff_not]; exact hn
          have hm : sealK p b l a s p' b' l' a' s' = errK 13 := by unfold sealK; rw [if_pos ho, if_pos hs, if_pos hy, if_neg hn]
          rw [hm]
          clear hm hs hn ho
          go_enter Try.func12, Try.ntmps12
          go_wp2_with (first | (go_at_call 18; refine (keys_both _ _ _ _ _ _ _ _ _ _ _ hb hb').mono ?_; rintro e w' ⟨rfl, hbb⟩; have B1 := (((Box.new _ _ _).alloc _).alloc _).below hbb; have B2 := ((Box.new1 _ _ _ _).alloc _).below hbb; have B3 := (Box.new2 _ _ _ _ _).below hbb; have q1 := B1.cell; have q2 := B2.cell; have q3 := B3.cell; have f1 := B1.free; have f3 := B3.free; have hB := Below.step0 (three _ _ _) hbb; clear hbb) | (go_at_call 19; refine (keys_may _ _ _ _ _ _ _ hb').mono ?_; rintro e w2 ⟨rfl, hbb⟩; replace B1 := B1.below hbb; replace B2 := B2.below hbb; replace B3 := B3.below hbb; clear q1 q2 q3 f1 f3; have q1 := B1.cell; have q2 := B2.cell; have q3 := B3.cell; have f1 := B1.free; have f3 := B3.free; replace hB := Below.step0 hB hbb; clear hbb) | (go_at_call 17; refine (keys_between _ _ _ _).mono ?_; rintro e w' ⟨rfl, rfl⟩))
          refine bodyPost_ret (v := .tuple #[.agg #[.int .i64 0, .int .i64 0, .int .i64 0, .int .i64 0, .int .i64 0], .int .i64 13]) (by simp [results, Try.results12, go_sem, q3]) rfl ⟨rfl, ?_⟩
          exact ((((hB.setCell (by simp <;> omega) _).setCell (by simp <;> omega) _).setCell (by simp <;> omega) _).setCell (by simp <;> omega) _).setCell (by simp <;> omega) _
      · have hs' : (s == 0) = true := by simpa using hs
        have hw : (mayE p' b' l' a' s' 32 != 0) = true := by simpa using hy
        have hm : sealK p b l a s p' b' l' a' s' = errK (mayE p' b' l' a' s' 32) := by unfold sealK; rw [if_pos ho, if_pos hs, if_neg hy]
        rw [hm]
        clear hm hs hy ho
        go_enter Try.func12, Try.ntmps12
        go_wp2_with (first | (go_at_call 18; refine (keys_both _ _ _ _ _ _ _ _ _ _ _ hb hb').mono ?_; rintro e w' ⟨rfl, hbb⟩; have B1 := (((Box.new _ _ _).alloc _).alloc _).below hbb; have B2 := ((Box.new1 _ _ _ _).alloc _).below hbb; have B3 := (Box.new2 _ _ _ _ _).below hbb; have q1 := B1.cell; have q2 := B2.cell; have q3 := B3.cell; have f1 := B1.free; have f3 := B3.free; have hB := Below.step0 (three _ _ _) hbb; clear hbb) | (go_at_call 19; refine (keys_may _ _ _ _ _ _ _ hb').mono ?_; rintro e w2 ⟨rfl, hbb⟩; replace B1 := B1.below hbb; replace B2 := B2.below hbb; replace B3 := B3.below hbb; clear q1 q2 q3 f1 f3; have q1 := B1.cell; have q2 := B2.cell; have q3 := B3.cell; have f1 := B1.free; have f3 := B3.free; replace hB := Below.step0 hB hbb; clear hbb) | (go_at_call 17; refine (keys_between _ _ _ _).mono ?_; rintro e w' ⟨rfl, rfl⟩))
        refine bodyPost_ret (v := .tuple #[.agg #[.int .i64 0, .int .i64 0, .int .i64 0, .int .i64 0, .int .i64 0], .int .i64 (mayE p' b' l' a' s' 32)]) (by simp [results, Try.results12, go_sem, q3]) rfl ⟨rfl, ?_⟩
        exact ((((hB.setCell (by simp <;> omega) _).setCell (by simp <;> omega) _).setCell (by simp <;> omega) _).setCell (by simp <;> omega) _).setCell (by simp <;> omega) _
    · have hs' : (s != 0) = true := by simpa using hs
      have hm : sealK p b l a s p' b' l' a' s' = errK 11 := by unfold sealK; rw [if_pos ho, if_neg hs]
      rw [hm]
      clear hm hs ho
      go_enter Try.func12, Try.ntmps12
      go_wp2_with (first | (go_at_call 18; refine (keys_both _ _ _ _ _ _ _ _ _ _ _ hb hb').mono ?_; rintro e w' ⟨rfl, hbb⟩; have B1 := (((Box.new _ _ _).alloc _).alloc _).below hbb; have B2 := ((Box.new1 _ _ _ _).alloc _).below hbb; have B3 := (Box.new2 _ _ _ _ _).below hbb; have q1 := B1.cell; have q2 := B2.cell; have q3 := B3.cell; have f1 := B1.free; have f3 := B3.free; have hB := Below.step0 (three _ _ _) hbb; clear hbb) | (go_at_call 19; refine (keys_may _ _ _ _ _ _ _ hb').mono ?_; rintro e w2 ⟨rfl, hbb⟩; replace B1 := B1.below hbb; replace B2 := B2.below hbb; replace B3 := B3.below hbb; clear q1 q2 q3 f1 f3; have q1 := B1.cell; have q2 := B2.cell; have q3 := B3.cell; have f1 := B1.free; have f3 := B3.free; replace hB := Below.step0 hB hbb; clear hbb) | (go_at_call 17; refine (keys_between _ _ _ _).mono ?_; rintro e w' ⟨rfl, rfl⟩))
      refine bodyPost_ret (v := .tuple #[.agg #[.int .i64 0, .int .i64 0, .int .i64 0, .int .i64 0, .int .i64 0], .int .i64 11]) (by simp [results, Try.results12, go_sem, q3]) rfl ⟨rfl, ?_⟩
      exact ((((hB.setCell (by simp <;> omega) _).setCell (by simp <;> omega) _).setCell (by simp <;> omega) _).setCell (by simp <;> omega) _).setCell (by simp <;> omega) _
  · have hk : (bothE p b l a s p' b' l' a' s' != 0) = true := by unfold bothE; rw [if_neg ho]; rfl
    have he : bothE p b l a s p' b' l' a' s' = 1 := by unfold bothE; rw [if_neg ho]
    have hm : sealK p b l a s p' b' l' a' s' = errK 1 := by unfold sealK; rw [if_neg ho]
    rw [hm]
    clear hm hk ho
    go_enter Try.func12, Try.ntmps12
    go_wp2_with (first | (go_at_call 18; refine (keys_both _ _ _ _ _ _ _ _ _ _ _ hb hb').mono ?_; rintro e w' ⟨rfl, hbb⟩; have B1 := (((Box.new _ _ _).alloc _).alloc _).below hbb; have B2 := ((Box.new1 _ _ _ _).alloc _).below hbb; have B3 := (Box.new2 _ _ _ _ _).below hbb; have q1 := B1.cell; have q2 := B2.cell; have q3 := B3.cell; have f1 := B1.free; have f3 := B3.free; have hB := Below.step0 (three _ _ _) hbb; clear hbb) | (go_at_call 19; refine (keys_may _ _ _ _ _ _ _ hb').mono ?_; rintro e w2 ⟨rfl, hbb⟩; replace B1 := B1.below hbb; replace B2 := B2.below hbb; replace B3 := B3.below hbb; clear q1 q2 q3 f1 f3; have q1 := B1.cell; have q2 := B2.cell; have q3 := B3.cell; have f1 := B1.free; have f3 := B3.free; replace hB := Below.step0 hB hbb; clear hbb) | (go_at_call 17; refine (keys_between _ _ _ _).mono ?_; rintro e w' ⟨rfl, rfl⟩))
    refine bodyPost_ret (v := .tuple #[.agg #[.int .i64 0, .int .i64 0, .int .i64 0, .int .i64 0, .int .i64 0], .int .i64 1]) (by simp [results, Try.results12, go_sem, q3]) rfl ⟨rfl, ?_⟩
    exact ((((hB.setCell (by simp <;> omega) _).setCell (by simp <;> omega) _).setCell (by simp <;> omega) _).setCell (by simp <;> omega) _).setCell (by simp <;> omega) _
theorem keys_open (p b l a s p' b' l' a' s' : Int) (w : World) (hb : kb p b l a s) (hb' : kb p' b' l' a' s') :
    Calls Try.prog 14 #[.agg #[.int .i64 p, .int .i64 b, .int .i64 l, .int .i64 a, .int .i64 s], .agg #[.int .i64 p', .int .i64 b', .int .i64 l', .int .i64 a', .int .i64 s']] w
      fun e w' => e = .returned (.tuple #[.agg #[.int .i64 (openK p b l a s p' b' l' a' s').p, .int .i64 (openK p b l a s p' b' l' a' s').b, .int .i64 (openK p b l a s p' b' l' a' s').l, .int .i64 (openK p b l a s p' b' l' a' s').a, .int .i64 (openK p b l a s p' b' l' a' s').s], .int .i64 (openK p b l a s p' b' l' a' s').e]) ∧ Below w.heap.size w w' := by
  by_cases ho : ok p b l a s ∧ ok p' b' l' a' s'
  · have hk : bothE p b l a s p' b' l' a' s' = 0 := by unfold bothE; rw [if_pos ho]
    by_cases hs : s = 0
    · have hs' : (s == 0) = true := by simpa using hs
      have hm : openK p b l a s p' b' l' a' s' = errK 11 := by unfold openK; rw [if_pos ho, if_pos hs]
      rw [hm]
      clear hm hs ho
      go_enter Try.func14, Try.ntmps14
      go_wp2_with (first | (go_at_call 18; refine (keys_both _ _ _ _ _ _ _ _ _ _ _ hb hb').mono ?_; rintro e w' ⟨rfl, hbb⟩; have B1 := (((Box.new _ _ _).alloc _).alloc _).below hbb; have B2 := ((Box.new1 _ _ _ _).alloc _).below hbb; have B3 := (Box.new2 _ _ _ _ _).below hbb; have q1 := B1.cell; have q2 := B2.cell; have q3 := B3.cell; have f1 := B1.free; have f3 := B3.free; have hB := Below.step0 (three _ _ _) hbb; clear hbb) | (go_at_call 19; refine (keys_may _ _ _ _ _ _ _ hb').mono ?_; rintro e w2 ⟨rfl, hbb⟩; replace B1 := B1.below hbb; replace B2 := B2.below hbb; replace B3 := B3.below hbb; clear q1 q2 q3 f1 f3; have q1 := B1.cell; have q2 := B2.cell; have q3 := B3.cell; have f1 := B1.free; have f3 := B3.free; replace hB := Below.step0 hB hbb; clear hbb) | (go_at_call 17; refine (keys_between _ _ _ _).mono ?_; rintro e w' ⟨rfl, rfl⟩))
      refine bodyPost_ret (v := .tuple #[.agg #[.int .i64 0, .int .i64 0, .int .i64 0, .int .i64 0, .int .i64 0], .int .i64 11]) (by simp [results, Try.results14, go_sem, q3]) rfl ⟨rfl, ?_⟩
      exact ((((hB.setCell (by simp <;> omega) _).setCell (by simp <;> omega) _).setCell (by simp <;> omega) _).setCell (by simp <;> omega) _).setCell (by simp <;> omega) _
    · have hs' : (s == 0) = false := by simpa using hs
      by_cases hy : mayE p' b' l' a' s' 64 = 0
      · by_cases hn : s = a'
        · have hw : (s != a') = false := by simpa using hn
          have hm : openK p b l a s p' b' l' a' s' = ⟨p, b, l, a, 0, 0⟩ := by unfold openK; rw [if_pos ho, if_neg hs, if_pos hy, if_pos hn]
          rw [hm]
          clear hm hs hn ho
          go_enter Try.func14, Try.ntmps14
          go_wp2_with (first | (go_at_call 18; refine (keys_both _ _ _ _ _ _ _ _ _ _ _ hb hb').mono ?_; rintro e w' ⟨rfl, hbb⟩; have B1 := (((Box.new _ _ _).alloc _).alloc _).below hbb; have B2 := ((Box.new1 _ _ _ _).alloc _).below hbb; have B3 := (Box.new2 _ _ _ _ _).below hbb; have q1 := B1.cell; have q2 := B2.cell; have q3 := B3.cell; have f1 := B1.free; have f3 := B3.free; have hB := Below.step0 (three _ _ _) hbb; clear hbb) | (go_at_call 19; refine (keys_may _ _ _ _ _ _ _ hb').mono ?_; rintro e w2 ⟨rfl, hbb⟩; replace B1 := B1.below hbb; replace B2 := B2.below hbb; replace B3 := B3.below hbb; clear q1 q2 q3 f1 f3; have q1 := B1.cell; have q2 := B2.cell; have q3 := B3.cell; have f1 := B1.free; have f3 := B3.free; replace hB := Below.step0 hB hbb; clear hbb) | (go_at_call 17; refine (keys_between _ _ _ _).mono ?_; rintro e w' ⟨rfl, rfl⟩))
          refine bodyPost_ret (v := .tuple #[.agg #[.int .i64 p, .int .i64 b, .int .i64 l, .int .i64 a, .int .i64 0], .int .i64 0]) (by simp [results, Try.results14, go_sem, q3]) rfl ⟨rfl, ?_⟩
          exact (((((hB.setCell (by simp <;> omega) _).setCell (by simp <;> omega) _).setCell (by simp <;> omega) _).setCell (by simp <;> omega) _).setCell (by simp <;> omega) _).setCell (by simp <;> omega) _
        · have hw : (s != a') = true := by simpa using hn
          have hm : openK p b l a s p' b' l' a' s' = errK 11 := by unfold openK; rw [if_pos ho, if_neg hs, if_pos hy, if_neg hn]
          rw [hm]
          clear hm hs hn ho
          go_enter Try.func14, Try.ntmps14
          go_wp2_with (first | (go_at_call 18; refine (keys_both _ _ _ _ _ _ _ _ _ _ _ hb hb').mono ?_; rintro e w' ⟨rfl, hbb⟩; have B1 := (((Box.new _ _ _).alloc _).alloc _).below hbb; have B2 := ((Box.new1 _ _ _ _).alloc _).below hbb; have B3 := (Box.new2 _ _ _ _ _).below hbb; have q1 := B1.cell; have q2 := B2.cell; have q3 := B3.cell; have f1 := B1.free; have f3 := B3.free; have hB := Below.step0 (three _ _ _) hbb; clear hbb) | (go_at_call 19; refine (keys_may _ _ _ _ _ _ _ hb').mono ?_; rintro e w2 ⟨rfl, hbb⟩; replace B1 := B1.below hbb; replace B2 := B2.below hbb; replace B3 := B3.below hbb; clear q1 q2 q3 f1 f3; have q1 := B1.cell; have q2 := B2.cell; have q3 := B3.cell; have f1 := B1.free; have f3 := B3.free; replace hB := Below.step0 hB hbb; clear hbb) | (go_at_call 17; refine (keys_between _ _ _ _).mono ?_; rintro e w' ⟨rfl, rfl⟩))
          refine bodyPost_ret (v := .tuple #[.agg #[.int .i64 0, .int .i64 0, .int .i64 0, .int .i64 0, .int .i64 0], .int .i64 11]) (by simp [results, Try.results14, go_sem, q3]) rfl ⟨rfl, ?_⟩
          exact ((((hB.setCell (by simp <;> omega) _).setCell (by simp <;> omega) _).setCell (by simp <;> omega) _).setCell (by simp <;> omega) _).setCell (by simp <;> omega) _
      · have hw : (mayE p' b' l' a' s' 64 != 0) = true := by simpa using hy
        have hm : openK p b l a s p' b' l' a' s' = errK (mayE p' b' l' a' s' 64) := by unfold openK; rw [if_pos ho, if_neg hs, if_neg hy]
        rw [hm]
        clear hm hs hy ho
        go_enter Try.func14, Try.ntmps14
        go_wp2_with (first | (go_at_call 18; refine (keys_both _ _ _ _ _ _ _ _ _ _ _ hb hb').mono ?_; rintro e w' ⟨rfl, hbb⟩; have B1 := (((Box.new _ _ _).alloc _).alloc _).below hbb; have B2 := ((Box.new1 _ _ _ _).alloc _).below hbb; have B3 := (Box.new2 _ _ _ _ _).below hbb; have q1 := B1.cell; have q2 := B2.cell; have q3 := B3.cell; have f1 := B1.free; have f3 := B3.free; have hB := Below.step0 (three _ _ _) hbb; clear hbb) | (go_at_call 19; refine (keys_may _ _ _ _ _ _ _ hb').mono ?_; rintro e w2 ⟨rfl, hbb⟩; replace B1 := B1.below hbb; replace B2 := B2.below hbb; replace B3 := B3.below hbb; clear q1 q2 q3 f1 f3; have q1 := B1.cell; have q2 := B2.cell; have q3 := B3.cell; have f1 := B1.free; have f3 := B3.free; replace hB := Below.step0 hB hbb; clear hbb) | (go_at_call 17; refine (keys_between _ _ _ _).mono ?_; rintro e w' ⟨rfl, rfl⟩))
        refine bodyPost_ret (v := .tuple #[.agg #[.int .i64 0, .int .i64 0, .int .i64 0, .int .i64 0, .int .i64 0], .int .i64 (mayE p' b' l' a' s' 64)]) (by simp [results, Try.results14, go_sem, q3]) rfl ⟨rfl, ?_⟩
        exact ((((hB.setCell (by simp <;> omega) _).setCell (by simp <;> omega) _).setCell (by simp <;> omega) _).setCell (by simp <;> omega) _).setCell (by simp <;> omega) _
  · have hk : (bothE p b l a s p' b' l' a' s' != 0) = true := by unfold bothE; rw [if_neg ho]; rfl
    have he : bothE p b l a s p' b' l' a' s' = 1 := by unfold bothE; rw [if_neg ho]
    have hm : openK p b l a s p' b' l' a' s' = errK 1 := by unfold openK; rw [if_neg ho]
    rw [hm]
    clear hm hk ho
    go_enter Try.func14, Try.ntmps14
    go_wp2_with (first | (go_at_call 18; refine (keys_both _ _ _ _ _ _ _ _ _ _ _ hb hb').mono ?_; rintro e w' ⟨rfl, hbb⟩; have B1 := (((Box.new _ _ _).alloc _).alloc _).below hbb; have B2 := ((Box.new1 _ _ _ _).alloc _).below hbb; have B3 := (Box.new2 _ _ _ _ _).below hbb; have q1 := B1.cell; have q2 := B2.cell; have q3 := B3.cell; have f1 := B1.free; have f3 := B3.free; have hB := Below.step0 (three _ _ _) hbb; clear hbb) | (go_at_call 19; refine (keys_may _ _ _ _ _ _ _ hb').mono ?_; rintro e w2 ⟨rfl, hbb⟩; replace B1 := B1.below hbb; replace B2 := B2.below hbb; replace B3 := B3.below hbb; clear q1 q2 q3 f1 f3; have q1 := B1.cell; have q2 := B2.cell; have q3 := B3.cell; have f1 := B1.free; have f3 := B3.free; replace hB := Below.step0 hB hbb; clear hbb) | (go_at_call 17; refine (keys_between _ _ _ _).mono ?_; rintro e w' ⟨rfl, rfl⟩))
    refine bodyPost_ret (v := .tuple #[.agg #[.int .i64 0, .int .i64 0, .int .i64 0, .int .i64 0, .int .i64 0], .int .i64 1]) (by simp [results, Try.results14, go_sem, q3]) rfl ⟨rfl, ?_⟩
    exact ((((hB.setCell (by simp <;> omega) _).setCell (by simp <;> omega) _).setCell (by simp <;> omega) _).setCell (by simp <;> omega) _).setCell (by simp <;> omega) _
end Go.Proofs.Ytpmmgpiamginaac
