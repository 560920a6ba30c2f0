/- The document's reading of chapter 4 answers the same numbers, and touches no memory. -/
import Derived.Test.YtdnhcpkfpjpajaaRows
import Derived.Test.YtdnhcpkfpjpajaaRound
namespace Go.Proofs.Ytdnhcpkfpjpajaa
open Go.ChangeShapes Go.WideShapes Go.ChangeAt Go.RowKit

theorem ref_outside (n l h : Int) (w : World) :
    Calls Try.prog 24 #[.int .i64 n, .int .i64 l, .int .i64 h] w fun r w' => r = .returned (.bool (decide (n < l ∨ h < n))) ∧ w' = w := by
  by_cases c : n < l
  · have e : decide (n < l ∨ h < n) = true := decide_eq_true (Or.inl c)
    rw [e]
    clear e
    go_enter Try.func24, Try.ntmps24
    go_wp2
    go_ret
    exact ⟨rfl, rfl⟩
  · have e : decide (n < l ∨ h < n) = decide (h < n) := by simp only [c, false_or]
    rw [e]
    clear e
    go_enter Try.func24, Try.ntmps24
    go_wp2
    go_ret
    exact ⟨rfl, rfl⟩
theorem ref_isRange (b n : Int) (w : World) (hb : -9223372036854775808 ≤ b ∧ b ≤ 9223372036854775807) :
    Calls Try.prog 20 #[.int .i64 b, .int .i64 n] w fun r w' => r = .returned (.bool (isR b n)) ∧ w' = w := by
  cases c : decide (b < 0 ∨ 65535 < b)
  · have d := of_decide_eq_false c
    have e : isR b n = (!decide (n < 0) && !decide (65536 - b < n)) := by
      unfold isR; rw [Bool.eq_iff_iff, Bool.and_eq_true, Bool.not_eq_true', Bool.not_eq_true', decide_eq_true_iff, decide_eq_false_iff_not, decide_eq_false_iff_not]; omega
    rw [e]
    clear e
    go_enter Try.func20, Try.ntmps20
    go_wp2_with (go_at_call 24; refine (ref_outside _ _ _ _).mono ?_; (first | simp only [c] | skip); rintro e w' ⟨rfl, rfl⟩)
    go_ret
    exact ⟨rfl, rfl⟩
  · have d := of_decide_eq_true c
    have e : isR b n = false := isR_no b n (by omega)
    rw [e]
    clear e d
    go_enter Try.func20, Try.ntmps20
    go_wp2_with (go_at_call 24; refine (ref_outside _ _ _ _).mono ?_; simp only [c]; rintro e w' ⟨rfl, rfl⟩)
    go_ret
    exact ⟨rfl, rfl⟩
theorem ref_fitsBy (b n : Int) (e : Nat) (w : World) (h : e ≤ 20) (h0 : 0 ≤ b ∧ b ≤ 1000000) (h1 : 0 ≤ n ∧ n ≤ 1000000) :
    Calls Try.prog 21 #[.int .i64 b, .int .i64 n, .int .i64 e] w fun r w' => r = .returned (.bool (fb b n e)) ∧ w' = w := by
  have p1 := pw_pos e
  have p2 := pw_le e h
  have p3 := pw_ne e
  have p4 := pw_nb e
  unfold fb
  cases c1 : b % 2 ^ e == 0
  · simp only [Bool.false_and]
    go_enter Try.func21, Try.ntmps21
    go_wp2
    go_ret
    exact ⟨rfl, rfl⟩
  · replace c1 := eq_of_beq c1
    cases c2 : n % 2 ^ e == 0
    · simp only [Bool.true_and, Bool.false_and]
      go_enter Try.func21, Try.ntmps21
      go_wp2
      go_ret
      exact ⟨rfl, rfl⟩
    · replace c2 := eq_of_beq c2
      simp only [Bool.true_and]
      go_enter Try.func21, Try.ntmps21
      go_wp2
      go_ret
      exact ⟨rfl, rfl⟩
theorem ref_fits (b n : Int) (w : World) (hb : -9223372036854775808 ≤ b ∧ b ≤ 9223372036854775807) :
    Calls Try.prog 12 #[.int .i64 b, .int .i64 n] w fun r w' => r = .returned (.bool (fitI b n)) ∧ w' = w := by
  cases c : isR b n
  · have e : fitI b n = false := by unfold fitI; rw [c, Bool.false_and]
    rw [e]
    clear e
    go_enter Try.func12, Try.ntmps12
    go_wp2
    go_loop [6] (fun i => ∃ k : Nat, k ≤ 17 ∧ i = .int .i64 k) (fun i => 17 - (intOf i).toNat)
    case atStart => exact ⟨0, Nat.zero_le _, rfl⟩
    case round =>
      obtain ⟨k, hk, rfl⟩ := hrel
      by_cases hlt : k < 17
      · go_wp2_with (go_at_call 20; refine (ref_isRange _ _ _ hb).mono ?_; simp only [c]; rintro e w' ⟨rfl, rfl⟩)
        go_round
        case rel => exact ⟨k + 1, by omega, by go_num⟩
        case measure => simp [intOf]; omega
      · go_wp2
        go_ret
        exact ⟨rfl, rfl⟩
  · have d := (isR_iff b n).1 c
    have e : fitI b n = fb b n (le n) := by unfold fitI; rw [c, Bool.true_and, fb_at b n (by omega)]
    have s := (le_spec n (by omega)).2.1
    rw [e]
    clear e
    go_enter Try.func12, Try.ntmps12
    go_wp2
    go_loop [6] (fun i => ∃ k : Nat, k ≤ 17 ∧ i = .int .i64 k ∧ ∀ j, j < k → fb b n j = false) (fun i => 17 - (intOf i).toNat)
    case atStart => exact ⟨0, Nat.zero_le _, rfl, fun j hj => absurd hj (Nat.not_lt_zero _)⟩
    case round =>
      obtain ⟨k, hk, rfl, hall⟩ := hrel
      by_cases hlt : k < 17
      · cases m : fb b n k
        · go_wp2_with (first | (go_at_call 20; refine (ref_isRange _ _ _ hb).mono ?_; simp only [c]; rintro e w' ⟨rfl, rfl⟩) | (go_at_call 21; refine (ref_fitsBy _ _ _ _ (by omega) (by omega) (by omega)).mono ?_; simp only [m]; rintro e w' ⟨rfl, rfl⟩))
          go_round
          case rel =>
            refine ⟨k + 1, by omega, by go_num, fun j hj => ?_⟩
            by_cases x : j = k
            · subst x; exact m
            · exact hall j (by omega)
          case measure => simp [intOf]; omega
        · have y : fb b n (le n) = true := by rw [fb_at b n (by omega)]; exact (fb_le b n k (by omega) m).2
          clear hall
          go_wp2_with (first | (go_at_call 20; refine (ref_isRange _ _ _ hb).mono ?_; simp only [c]; rintro e w' ⟨rfl, rfl⟩) | (go_at_call 21; refine (ref_fitsBy _ _ _ _ (by omega) (by omega) (by omega)).mono ?_; simp only [m]; rintro e w' ⟨rfl, rfl⟩))
          go_ret
          exact ⟨by first | rfl | (rw [y]; rfl), rfl⟩
      · have y : fb b n (le n) = false := hall _ (by omega)
        clear hall
        go_wp2
        go_ret
        exact ⟨by first | rfl | (rw [y]; rfl), rfl⟩
theorem ref_short (b n : Int) (w : World) (hb : -9223372036854775808 ≤ b ∧ b ≤ 9223372036854775807) :
    Calls Try.prog 14 #[.int .i64 b, .int .i64 n] w fun r w' => r = .returned (.tuple #[.int .i64 (shI b n), .int .i64 (shE b n)]) ∧ ∃ k, w' = w.drewN k := by
  cases c : isR b n
  · have e1 : shI b n = 0 := by unfold shI fitI; simp [c]
    have e2 : shE b n = 1 := by unfold shE; simp [c]
    rw [e1, e2]
    clear e1 e2
    go_enter Try.func14, Try.ntmps14
    go_wp2_with (go_at_call 20; refine (ref_isRange _ _ _ hb).mono ?_; simp only [c]; rintro e w' ⟨rfl, rfl⟩)
    go_ret2
    exact ⟨rfl, 0, rfl⟩
  · have d := (isR_iff b n).1 c
    have s := (le_spec n (by omega)).2.1
    have z := shI_b b n
    go_enter Try.func14, Try.ntmps14
    go_wp2_with (go_at_call 20; refine (ref_isRange _ _ _ hb).mono ?_; simp only [c]; rintro e w' ⟨rfl, rfl⟩)
    go_loop [11] (fun i => ∃ k : Nat, k ≤ 17 ∧ i = .int .i64 k ∧ ∀ j, j < k → fb b n j = false) (fun i => 17 - (intOf i).toNat)
    case atStart => exact ⟨0, Nat.zero_le _, rfl, fun j hj => absurd hj (Nat.not_lt_zero _)⟩
    case round =>
      obtain ⟨k, hk, rfl, hall⟩ := hrel
      by_cases hlt : k < 17
      · cases m : fb b n k
        · go_wp2_with (go_at_call 21; refine (ref_fitsBy _ _ _ _ (by omega) (by omega) (by omega)).mono ?_; simp only [m]; rintro e w' ⟨rfl, rfl⟩)
          go_round
          case rel =>
            refine ⟨k + 1, by omega, by go_num, fun j hj => ?_⟩
            by_cases x : j = k
            · subst x; exact m
            · exact hall j (by omega)
          case measure => simp [intOf]; omega
        · obtain ⟨y1, y2⟩ := fb_le b n k (by omega) m
          have y3 : k = le n := by
            by_cases x : le n < k
            · have := hall _ x
              rw [fb_at b n (by omega), y2] at this
              cases this
            · omega
          have e1 : shI b n = k * 1048576 + b / 2 ^ k * 16 + n / 2 ^ k := by unfold shI fitI; rw [c, y3, y2]; rfl
          have e2 : shE b n = 0 := by unfold shE; rw [c, y2]; rfl
          have p1 := pw_pos k
          have p2 := pw_le k (by omega)
          have p3 := pw_ne k
          have p4 := pw_nb k
          have h1 := Int.ediv_le_self (b := 2 ^ k) d.1
          have h2 := Int.ediv_nonneg d.1 (Int.le_of_lt (pw_pos k))
          have h3 := Int.ediv_nonneg d.2.2.1 (Int.le_of_lt (pw_pos k))
          have h4 := Int.ediv_le_self (b := 2 ^ k) d.2.2.1
          rw [e1] at z
          clear hall y1 y2 y3 s
          go_wp2_with (go_at_call 21; refine (ref_fitsBy _ _ _ _ (by omega) (by omega) (by omega)).mono ?_; simp only [m]; rintro e w' ⟨rfl, rfl⟩)
          go_region
          all_goals go_wp2
          all_goals go_ret2
          all_goals exact ⟨by first | rfl | (rw [e1, e2]; rfl), 1, rfl⟩
      · have y : mul2 b n (le n) = false := by rw [← fb_at b n (by omega)]; exact hall _ (by omega)
        have e1 : shI b n = 0 := by unfold shI fitI; rw [c, y]; rfl
        have e2 : shE b n = 5 := by unfold shE; rw [c, y]; rfl
        clear hall y
        go_wp2
        go_ret2
        exact ⟨by first | rfl | (rw [e1, e2]; rfl), 0, rfl⟩
theorem fb_cel (b n : Int) (k : Nat) : fb (dn b k) (cel b n k) k = decide (cel b n k ≤ 15 * 2 ^ k) := by
  rw [Bool.eq_iff_iff, fb_iff, decide_eq_true_iff]
  exact ⟨fun h => h.2.2, fun h => ⟨dn_dvd _ _, cel_dvd _ _ _, h⟩⟩
theorem ref_out (b n : Int) (w : World) (hb : -9223372036854775808 ≤ b ∧ b ≤ 9223372036854775807) :
    Calls Try.prog 10 #[.int .i64 b, .int .i64 n] w fun r w' => r = .returned (.tuple #[.int .i64 (outB b n), .int .i64 (outN b n), .int .i64 (outE b n)]) ∧ ∃ k, w' = w.drewN k := by
  unfold outB outN outE
  cases c : isR b n
  · simp only [if_neg Bool.false_ne_true]
    go_enter Try.func10, Try.ntmps10
    go_wp2_with (go_at_call 20; refine (ref_isRange _ _ _ hb).mono ?_; simp only [c]; rintro e w' ⟨rfl, rfl⟩)
    go_ret3
    exact ⟨rfl, 0, rfl⟩
  · simp only [if_true]
    have d := (isR_iff b n).1 c
    obtain ⟨s1, s2, s3⟩ := oE_spec b n c
    go_enter Try.func10, Try.ntmps10
    go_wp2_with (go_at_call 20; refine (ref_isRange _ _ _ hb).mono ?_; simp only [c]; rintro e w' ⟨rfl, rfl⟩)
    go_loopw [7] (fun i wr => ∃ k x : Nat, k ≤ oE b n ∧ i = .int .i64 k ∧ wr = w'.drewN x) (fun i _ => 14 - (intOf i).toNat)
    case atStart => exact ⟨0, 0, Nat.zero_le _, rfl, rfl⟩
    case round =>
      obtain ⟨k, x, hk, rfl, rfl⟩ := hrel
      have p1 := pw_pos k
      have p2 := pw_le k (by omega)
      have p3 := pw_ne k
      have p4 := pw_nb k
      have q := cel_b b n k (by omega) c
      have r := fb_cel b n k
      have q1 : b / 2 ^ k * 2 ^ k = dn b k := rfl
      have q2 : (b + n + 2 ^ k - 1) / 2 ^ k * 2 ^ k - dn b k = cel b n k := rfl
      by_cases hlt : k < oE b n
      · have s4 := s3 k hlt
        have m : fb (dn b k) (cel b n k) k = false := by rw [r]; exact decide_eq_false (by omega)
        clear s1 s3 r
        go_wp2
        go_region
        all_goals go_wp2_with (go_at_call 21; refine (ref_fitsBy _ _ _ _ (by omega) (by omega) (by omega)).mono ?_; simp only [m]; rintro e w' ⟨rfl, rfl⟩)
        all_goals go_roundw
        case rel => exact ⟨k + 1, x + 1, by omega, by go_num, rfl⟩
        case measure => simp [intOf]; omega
      · obtain rfl : k = oE b n := by omega
        have m : fb (dn b (oE b n)) (cel b n (oE b n)) (oE b n) = true := by rw [r]; exact decide_eq_true s1
        clear s1 s3 r
        go_wp2
        go_region
        all_goals go_wp2_with (go_at_call 21; refine (ref_fitsBy _ _ _ _ (by omega) (by omega) (by omega)).mono ?_; simp only [m]; rintro e w' ⟨rfl, rfl⟩)
        all_goals go_ret3
        all_goals exact ⟨rfl, _, rfl⟩
theorem isS_long (s : Int) (k : Nat) (h0 : 0 ≤ s) (hk : s / 1048576 = (k : Int)) :
    isS s = (shE (s / 16 % 65536 * 2 ^ k) (s % 16 * 2 ^ k) == 0 && shI (s / 16 % 65536 * 2 ^ k) (s % 16 * 2 ^ k) == s) := by
  by_cases c : s < 14680064
  · unfold isS loB loN; rw [hk, Int.toNat_natCast, decide_eq_true ⟨h0, c⟩, Bool.true_and]
  · have b := shI_b (s / 16 % 65536 * 2 ^ k) (s % 16 * 2 ^ k)
    have e : (shI (s / 16 % 65536 * 2 ^ k) (s % 16 * 2 ^ k) == s) = false := beq_eq_false_iff_ne.2 (by omega)
    rw [isS_no s (by omega), e, Bool.and_false]
theorem ref_long (s : Int) (w : World) (hs : -9223372036854775808 ≤ s ∧ s ≤ 9223372036854775807) :
    Calls Try.prog 16 #[.int .i64 s] w fun r w' => r = .returned (.tuple #[.int .i64 (lgB s), .int .i64 (lgN s), .int .i64 (lgE s)]) ∧ ∃ k, w' = w.drewN k := by
  unfold lgB lgN lgE
  cases c : decide (s < 0 ∨ 17825791 < s)
  · have d := of_decide_eq_false c
    have d0 : 0 ≤ s := by omega
    obtain ⟨k, hk⟩ : ∃ k : Nat, s / 1048576 = (k : Int) := ⟨(s / 1048576).toNat, by omega⟩
    have k16 : k ≤ 16 := by omega
    have p1 := pw_pos k
    have p2 := pw_le k (by omega)
    have e0 := isS_long s k d0 hk
    have e1 : loB s = s / 16 % 65536 * 2 ^ k := by unfold loB; rw [hk, Int.toNat_natCast]
    have e2 : loN s = s % 16 * 2 ^ k := by unfold loN; rw [hk, Int.toNat_natCast]
    have e3 : s % 1048576 / 16 = s / 16 % 65536 := by omega
    have q := lo_b s k k16
    rw [e0, e1, e2]
    clear e0 e1 e2
    cases c1 : shE (s / 16 % 65536 * 2 ^ k) (s % 16 * 2 ^ k) == 0
    · simp only [Bool.false_and, if_neg Bool.false_ne_true]
      go_enter Try.func16, Try.ntmps16
      go_wp2_with (first | (go_at_call 24; refine (ref_outside _ _ _ _).mono ?_; simp only [c]; rintro e w' ⟨rfl, rfl⟩) | (go_at_call 14; refine (ref_short _ _ _ (by omega)).mono ?_; rintro e w' ⟨rfl, x, rfl⟩))
      go_ret3
      exact ⟨rfl, _, rfl⟩
    · replace c1 := eq_of_beq c1
      cases c2 : shI (s / 16 % 65536 * 2 ^ k) (s % 16 * 2 ^ k) == s
      · simp only [Bool.true_and, if_neg Bool.false_ne_true]
        go_enter Try.func16, Try.ntmps16
        go_wp2_with (first | (go_at_call 24; refine (ref_outside _ _ _ _).mono ?_; simp only [c]; rintro e w' ⟨rfl, rfl⟩) | (go_at_call 14; refine (ref_short _ _ _ (by omega)).mono ?_; rintro e w' ⟨rfl, x, rfl⟩))
        go_ret3
        exact ⟨rfl, _, rfl⟩
      · replace c2 := eq_of_beq c2
        simp only [Bool.true_and, if_true]
        go_enter Try.func16, Try.ntmps16
        go_wp2_with (first | (go_at_call 24; refine (ref_outside _ _ _ _).mono ?_; simp only [c]; rintro e w' ⟨rfl, rfl⟩) | (go_at_call 14; refine (ref_short _ _ _ (by omega)).mono ?_; rintro e w' ⟨rfl, x, rfl⟩))
        go_ret3
        exact ⟨rfl, _, rfl⟩
  · have d := of_decide_eq_true c
    rw [isS_no s (by omega)]
    simp only [if_neg Bool.false_ne_true]
    clear d
    go_enter Try.func16, Try.ntmps16
    go_wp2_with (go_at_call 24; refine (ref_outside _ _ _ _).mono ?_; simp only [c]; rintro e w' ⟨rfl, rfl⟩)
    go_ret3
    exact ⟨rfl, 0, rfl⟩
end Go.Proofs.Ytdnhcpkfpjpajaa
