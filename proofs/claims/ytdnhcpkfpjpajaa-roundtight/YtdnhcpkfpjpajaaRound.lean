/- The calls of package round answer what chapter 4 says of them, for whatever numbers, and touch no memory. -/
import Derived.Test.YtdnhcpkfpjpajaaRows
import Derived.Test.YtdnhcpkfpjpajaaRoundPure
import Derived.WalkKit
import Derived.ProofKit
import Derived.OpenShut
import Derived.Deep.Draws
namespace Go.Proofs.Ytdnhcpkfpjpajaa
open Go.ChangeShapes Go.WideShapes Go.ChangeAt Go.RowKit

theorem round_down (n : Int) (e : Nat) (w : World) (h : e ≤ 20) (h0 : 0 ≤ n ∧ n ≤ 4000000) :
    Calls Try.prog 25 #[.int .i64 n, .int .i64 e] w fun r w' => r = .returned (.int .i64 (dn n e)) ∧ w' = w := by
  have h1 := dn_nonneg n e h0.1
  have h2 := dn_le n e
  unfold dn at h1 h2 ⊢
  go_enter Try.func25, Try.ntmps25
  go_wp2
  go_ret
  exact ⟨rfl, rfl⟩
theorem round_up (n : Int) (e : Nat) (w : World) (h : e ≤ 20) (h0 : 0 ≤ n ∧ n ≤ 1000000) :
    Calls Try.prog 26 #[.int .i64 n, .int .i64 e] w fun r w' => r = .returned (.int .i64 (upp n e)) ∧ w' = w := by
  have h1 := pw_pos e
  have h2 := pw_le e h
  unfold upp
  go_enter Try.func26, Try.ntmps26
  go_wp2_with (go_at_call 25; refine (round_down _ _ _ h (by omega)).mono ?_; rintro e w' ⟨rfl, rfl⟩)
  go_ret
  exact ⟨rfl, rfl⟩
theorem round_outward (b n : Int) (e : Nat) (w : World) (h : e ≤ 16) (h0 : isR b n = true) :
    Calls Try.prog 19 #[.int .i64 b, .int .i64 n, .int .i64 e] w fun r w' => r = .returned (.tuple #[.int .i64 (dn b e), .int .i64 (cel b n e)]) ∧ w' = w := by
  have h1 := cel_b b n e h h0
  rw [isR_iff] at h0
  unfold cel at h1 ⊢
  go_enter Try.func19, Try.ntmps19
  go_wp2_with (first | (go_at_call 25; refine (round_down _ _ _ (by omega) (by omega)).mono ?_; rintro e w' ⟨rfl, rfl⟩) | (go_at_call 26; refine (round_up _ _ _ (by omega) (by omega)).mono ?_; rintro e w' ⟨rfl, rfl⟩))
  go_ret2
  exact ⟨rfl, rfl⟩
theorem round_mults (b n : Int) (e : Nat) (w : World) (h : e ≤ 20) (h0 : 0 ≤ b ∧ b ≤ 1000000) (h1 : 0 ≤ n ∧ n ≤ 1000000) :
    Calls Try.prog 22 #[.int .i64 b, .int .i64 n, .int .i64 e] w fun r w' => r = .returned (.bool (mul2 b n e)) ∧ w' = w := by
  unfold mul2
  cases c : dn b e == b
  all_goals
    go_enter Try.func22, Try.ntmps22
    go_wp2_with (go_at_call 25; refine (round_down _ _ _ h (by omega)).mono ?_; rintro e w' ⟨rfl, rfl⟩)
    go_ret
    exact ⟨rfl, rfl⟩
theorem round_least (n : Int) (w : World) (h : n ≤ 65536) :
    Calls Try.prog 23 #[.int .i64 n] w fun r w' => r = .returned (.int .i64 (le n)) ∧ w' = w := by
  obtain ⟨s1, s2, s3⟩ := le_spec n h
  go_enter Try.func23, Try.ntmps23
  go_wp2
  go_loop [3] (fun i => ∃ k : Nat, k ≤ le n ∧ i = .int .i64 k) (fun i => 14 - (intOf i).toNat)
  case atStart => exact ⟨0, Nat.zero_le _, rfl⟩
  case round =>
    obtain ⟨k, hk, rfl⟩ := hrel
    have p1 := pw_pos k
    have p2 := pw_le k (by omega)
    by_cases hlt : k < le n
    · have s4 := s3 k hlt
      clear s1 s3
      go_wp2
      go_round
      case rel => exact ⟨k + 1, by omega, by go_num⟩
      case measure => simp [intOf]; omega
    · obtain rfl : k = le n := by omega
      clear s3
      go_wp2
      go_ret
      exact ⟨rfl, rfl⟩
theorem round_isRange (b n : Int) (w : World) (hb : -9223372036854775808 ≤ b ∧ b ≤ 9223372036854775807) (hn : -9223372036854775808 ≤ n ∧ n ≤ 9223372036854775807) :
    Calls Try.prog 18 #[.int .i64 b, .int .i64 n] w fun r w' => r = .returned (.bool (isR b n)) ∧ w' = w := by
  by_cases c : 0 ≤ b ∧ b < 65536 ∧ 0 ≤ n
  · obtain ⟨c1, c2, c3⟩ := c
    have e : isR b n = decide (n ≤ 65536 - b) := by unfold isR; simp only [c1, c2, c3, true_and]
    rw [e]
    clear e
    go_enter Try.func18, Try.ntmps18
    go_wp2
    go_ret
    exact ⟨rfl, rfl⟩
  · have e : isR b n = false := isR_no b n (by omega)
    rw [e]
    clear e
    by_cases c1 : 0 ≤ b
    · by_cases c2 : b < 65536
      · have c3 : ¬ 0 ≤ n := by omega
        clear c
        go_enter Try.func18, Try.ntmps18
        go_wp2
        go_ret
        exact ⟨rfl, rfl⟩
      · clear c
        go_enter Try.func18, Try.ntmps18
        go_wp2
        go_ret
        exact ⟨rfl, rfl⟩
    · clear c
      go_enter Try.func18, Try.ntmps18
      go_wp2
      go_ret
      exact ⟨rfl, rfl⟩
theorem round_fits (b n : Int) (w : World) (hb : -9223372036854775808 ≤ b ∧ b ≤ 9223372036854775807) (hn : -9223372036854775808 ≤ n ∧ n ≤ 9223372036854775807) :
    Calls Try.prog 11 #[.int .i64 b, .int .i64 n] w fun r w' => r = .returned (.bool (fitI b n)) ∧ w' = w := by
  unfold fitI
  cases c : isR b n
  · go_enter Try.func11, Try.ntmps11
    go_wp2_with (go_at_call 18; refine (round_isRange _ _ _ hb hn).mono ?_; simp only [c]; rintro e w' ⟨rfl, rfl⟩)
    go_ret
    exact ⟨rfl, rfl⟩
  · have d := (isR_iff b n).1 c
    have s := (le_spec n (by omega)).2.1
    go_enter Try.func11, Try.ntmps11
    go_wp2_with (first | (go_at_call 18; refine (round_isRange _ _ _ hb hn).mono ?_; simp only [c]; rintro e w' ⟨rfl, rfl⟩) | (go_at_call 23; refine (round_least _ _ (by omega)).mono ?_; rintro e w' ⟨rfl, rfl⟩) | (go_at_call 22; refine (round_mults _ _ _ _ (by omega) (by omega) (by omega)).mono ?_; rintro e w' ⟨rfl, rfl⟩))
    go_ret
    exact ⟨rfl, rfl⟩
theorem round_out (b n : Int) (w : World) (hb : -9223372036854775808 ≤ b ∧ b ≤ 9223372036854775807) (hn : -9223372036854775808 ≤ n ∧ n ≤ 9223372036854775807) :
    Calls Try.prog 9 #[.int .i64 b, .int .i64 n] w fun r w' => r = .returned (.tuple #[.int .i64 (outB b n), .int .i64 (outN b n), .int .i64 (outE b n)]) ∧ w' = w := by
  unfold outB outN outE
  cases c : isR b n
  · simp only [if_neg Bool.false_ne_true]
    go_enter Try.func9, Try.ntmps9
    go_wp2_with (go_at_call 18; refine (round_isRange _ _ _ hb hn).mono ?_; simp only [c]; rintro e w' ⟨rfl, rfl⟩)
    go_ret3
    exact ⟨rfl, rfl⟩
  · simp only [if_true]
    obtain ⟨s1, s2, s3⟩ := oE_spec b n c
    go_enter Try.func9, Try.ntmps9
    go_wp2_with (go_at_call 18; refine (round_isRange _ _ _ hb hn).mono ?_; simp only [c]; rintro e w' ⟨rfl, rfl⟩)
    go_loop [7, 8, 9] (fun i j l => ∃ k : Nat, k ≤ oE b n ∧ i = .int .i64 k ∧ j = .int .i64 (dn b k) ∧ l = .int .i64 (cel b n k)) (fun i _ _ => 14 - (intOf i).toNat)
    case atStart => exact ⟨0, Nat.zero_le _, rfl, by rw [dn_zero], by rw [cel_zero]⟩
    case round =>
      obtain ⟨k, hk, rfl, rfl, rfl⟩ := hrel
      have p1 := pw_pos k
      have p2 := pw_le k (by omega)
      by_cases hlt : k < oE b n
      · have s4 := s3 k hlt
        have f := fun w => round_outward b n (k + 1) w (by omega) c
        rw [show ((k + 1 : Nat) : Int) = (k : Int) + 1 by omega] at f
        clear s1 s3
        go_wp2_with (go_at_call 19; refine (f _).mono ?_; rintro e w' ⟨rfl, rfl⟩)
        go_round
        case rel => exact ⟨k + 1, by omega, by go_num, rfl, rfl⟩
        case measure => simp [intOf]; omega
      · obtain rfl : k = oE b n := by omega
        clear s3
        go_wp2
        go_ret3
        exact ⟨rfl, rfl⟩
theorem shI_b (b n : Int) : 0 ≤ shI b n ∧ shI b n < 14680064 := by
  unfold shI fitI
  cases c : isR b n
  · simp
  · have d := (isR_iff b n).1 c
    have s := (le_spec n (by omega)).2.1
    have t := (le_spec n (by omega)).1
    rw [Bool.true_and]
    split
    · have h1 := Int.ediv_le_self (b := 2 ^ le n) d.1
      have h2 := Int.ediv_nonneg d.1 (Int.le_of_lt (pw_pos (le n)))
      have h3 := Int.ediv_nonneg d.2.2.1 (Int.le_of_lt (pw_pos (le n)))
      have h4 : n / 2 ^ le n ≤ 15 := by
        have := Int.ediv_le_ediv (pw_pos (le n)) t
        rwa [Int.mul_ediv_cancel _ (pw_ne (le n))] at this
      omega
    · omega
theorem round_short (b n : Int) (w : World) (hb : -9223372036854775808 ≤ b ∧ b ≤ 9223372036854775807) (hn : -9223372036854775808 ≤ n ∧ n ≤ 9223372036854775807) :
    Calls Try.prog 13 #[.int .i64 b, .int .i64 n] w fun r w' => r = .returned (.tuple #[.int .i64 (shI b n), .int .i64 (shE b n)]) ∧ ∃ k, w' = w.drewN k := by
  have z := shI_b b n
  unfold shI shE fitI at *
  cases c : isR b n
  · simp only [Bool.false_and, if_neg Bool.false_ne_true]
    go_enter Try.func13, Try.ntmps13
    go_wp2_with (go_at_call 18; refine (round_isRange _ _ _ hb hn).mono ?_; simp only [c]; rintro e w' ⟨rfl, rfl⟩)
    go_ret2
    exact ⟨rfl, 0, rfl⟩
  · have d := (isR_iff b n).1 c
    have s := (le_spec n (by omega)).2.1
    cases m : mul2 b n (le n)
    · simp only [Bool.true_and, if_neg Bool.false_ne_true, if_true]
      go_enter Try.func13, Try.ntmps13
      go_wp2_with (first | (go_at_call 18; refine (round_isRange _ _ _ hb hn).mono ?_; simp only [c]; rintro e w' ⟨rfl, rfl⟩) | (go_at_call 23; refine (round_least _ _ (by omega)).mono ?_; rintro e w' ⟨rfl, rfl⟩) | (go_at_call 22; refine (round_mults _ _ _ _ (by omega) (by omega) (by omega)).mono ?_; simp only [m]; rintro e w' ⟨rfl, rfl⟩))
      go_ret2
      exact ⟨rfl, 0, rfl⟩
    · simp only [c, m, Bool.true_and, if_true] at z
      simp only [Bool.true_and, if_true]
      have h1 := Int.ediv_le_self (b := 2 ^ le n) d.1
      have h2 := Int.ediv_nonneg d.1 (Int.le_of_lt (pw_pos (le n)))
      have h3 := Int.ediv_nonneg d.2.2.1 (Int.le_of_lt (pw_pos (le n)))
      have h4 := Int.ediv_le_self (b := 2 ^ le n) d.2.2.1
      go_enter Try.func13, Try.ntmps13
      go_wp2_with (first | (go_at_call 18; refine (round_isRange _ _ _ hb hn).mono ?_; simp only [c]; rintro e w' ⟨rfl, rfl⟩) | (go_at_call 23; refine (round_least _ _ (by omega)).mono ?_; rintro e w' ⟨rfl, rfl⟩) | (go_at_call 22; refine (round_mults _ _ _ _ (by omega) (by omega) (by omega)).mono ?_; simp only [m]; rintro e w' ⟨rfl, rfl⟩))
      go_region
      all_goals go_wp2
      all_goals go_ret2
      all_goals exact ⟨rfl, 1, rfl⟩
theorem le_top : le 65536 = 13 := by decide
theorem lo_b (s : Int) (k : Nat) (hk : k ≤ 16) : 0 ≤ s / 16 % 65536 * 2 ^ k ∧ s / 16 % 65536 * 2 ^ k ≤ 4294967296 ∧ 0 ≤ s % 16 * 2 ^ k ∧ s % 16 * 2 ^ k ≤ 1048576 := by
  have p1 := pw_pos k
  have p2 : (2 : Int) ^ k ≤ 65536 := by have := pw_mono k 16 hk; rwa [show (2 : Int) ^ 16 = 65536 by decide] at this
  have a1 : 0 ≤ s / 16 % 65536 := by omega
  have a2 : s / 16 % 65536 ≤ 65536 := by omega
  have a3 : 0 ≤ s % 16 := by omega
  have a4 : s % 16 ≤ 16 := by omega
  have m1 := Int.mul_le_mul a2 p2 (Int.le_of_lt p1) (by decide)
  have m2 := Int.mul_le_mul a4 p2 (Int.le_of_lt p1) (by decide)
  exact ⟨Int.mul_nonneg a1 (Int.le_of_lt p1), m1, Int.mul_nonneg a3 (Int.le_of_lt p1), m2⟩
theorem isS_no (s : Int) (h : ¬ (0 ≤ s ∧ s < 14680064)) : isS s = false := by unfold isS; rw [decide_eq_false h, Bool.false_and]
theorem round_long (s : Int) (w : World) (hs : -9223372036854775808 ≤ s ∧ s ≤ 9223372036854775807) :
    Calls Try.prog 15 #[.int .i64 s] w fun r w' => r = .returned (.tuple #[.int .i64 (lgB s), .int .i64 (lgN s), .int .i64 (lgE s)]) ∧ ∃ k, w' = w.drewN k := by
  unfold lgB lgN lgE
  have t := le_top
  by_cases c : 0 ≤ s ∧ s < 14680064
  · obtain ⟨k, hk⟩ : ∃ k : Nat, s / 1048576 = (k : Int) := ⟨(s / 1048576).toNat, by omega⟩
    have k13 : k ≤ 13 := by omega
    have e0 : isS s = (shE (s / 16 % 65536 * 2 ^ k) (s % 16 * 2 ^ k) == 0 && shI (s / 16 % 65536 * 2 ^ k) (s % 16 * 2 ^ k) == s) := by
      unfold isS loB loN; rw [hk, Int.toNat_natCast, decide_eq_true c, Bool.true_and]
    have e1 : loB s = s / 16 % 65536 * 2 ^ k := by unfold loB; rw [hk, Int.toNat_natCast]
    have e2 : loN s = s % 16 * 2 ^ k := by unfold loN; rw [hk, Int.toNat_natCast]
    have q := lo_b s k (by omega)
    rw [e0, e1, e2]
    clear e0 e1 e2
    cases c1 : shE (s / 16 % 65536 * 2 ^ k) (s % 16 * 2 ^ k) == 0
    · simp only [Bool.false_and, if_neg Bool.false_ne_true]
      go_enter Try.func15, Try.ntmps15
      go_wp2_with (first | (go_at_call 23; refine (round_least _ _ (by omega)).mono ?_; rintro e w' ⟨rfl, rfl⟩) | (go_at_call 13; refine (round_short _ _ _ (by omega) (by omega)).mono ?_; rintro e w' ⟨rfl, x, rfl⟩))
      go_ret3
      exact ⟨rfl, _, rfl⟩
    · replace c1 := eq_of_beq c1
      cases c2 : shI (s / 16 % 65536 * 2 ^ k) (s % 16 * 2 ^ k) == s
      · simp only [Bool.true_and, if_neg Bool.false_ne_true]
        go_enter Try.func15, Try.ntmps15
        go_wp2_with (first | (go_at_call 23; refine (round_least _ _ (by omega)).mono ?_; rintro e w' ⟨rfl, rfl⟩) | (go_at_call 13; refine (round_short _ _ _ (by omega) (by omega)).mono ?_; rintro e w' ⟨rfl, x, rfl⟩))
        go_ret3
        exact ⟨rfl, _, rfl⟩
      · replace c2 := eq_of_beq c2
        simp only [Bool.true_and, if_true]
        go_enter Try.func15, Try.ntmps15
        go_wp2_with (first | (go_at_call 23; refine (round_least _ _ (by omega)).mono ?_; rintro e w' ⟨rfl, rfl⟩) | (go_at_call 13; refine (round_short _ _ _ (by omega) (by omega)).mono ?_; rintro e w' ⟨rfl, x, rfl⟩))
        go_ret3
        exact ⟨rfl, _, rfl⟩
  · rw [isS_no s c]
    simp only [if_neg Bool.false_ne_true]
    by_cases c1 : s / 1048576 < 0
    · clear c
      go_enter Try.func15, Try.ntmps15
      go_wp2
      go_ret3
      exact ⟨rfl, 0, rfl⟩
    · have c2 : 13 < s / 1048576 := by omega
      clear c
      go_enter Try.func15, Try.ntmps15
      go_wp2_with (go_at_call 23; refine (round_least _ _ (by omega)).mono ?_; rintro e w' ⟨rfl, rfl⟩)
      go_ret3
      exact ⟨rfl, 0, rfl⟩
end Go.Proofs.Ytdnhcpkfpjpajaa
