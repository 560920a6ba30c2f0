/- Chapter 4 on plain numbers: multiples of powers of two below and above a number, the least exponent by which a range fits, the range that is told; no program is in it. -/
import Derived.Test.YtdnhcpkfpjpajaaRows
import Derived.WalkKit
namespace Go.Proofs.Ytdnhcpkfpjpajaa

theorem pw_pos (e : Nat) : 0 < (2 : Int) ^ e := Int.pow_pos (by decide)
theorem pw_ne (e : Nat) : ¬ (2 : Int) ^ e = 0 := Int.ne_of_gt (pw_pos e)
theorem pw_nb (e : Nat) : ((2 : Int) ^ e == 0) = false := beq_eq_false_iff_ne.2 (pw_ne e)
theorem pw_cast (e : Nat) : (2 : Int) ^ e = ((2 ^ e : Nat) : Int) := by push_cast; rfl
theorem pw_mono (e f : Nat) (h : e ≤ f) : (2 : Int) ^ e ≤ 2 ^ f := by
  rw [pw_cast, pw_cast]; exact Int.ofNat_le.2 (Nat.pow_le_pow_right (by decide) h)
theorem pw_le (e : Nat) (h : e ≤ 20) : (2 : Int) ^ e ≤ 1048576 := by
  have := pw_mono e 20 h
  rw [show (2 : Int) ^ 20 = 1048576 by decide] at this; exact this
theorem pw_dvd (e f : Nat) (h : e ≤ f) : (2 : Int) ^ e ∣ 2 ^ f :=
  ⟨2 ^ (f - e), by rw [← Int.pow_add, Nat.add_sub_cancel' h]⟩
theorem pw_succ (e : Nat) : (2 : Int) ^ (e + 1) = 2 * 2 ^ e := by rw [Int.pow_succ, Int.mul_comm]

/-- The greatest multiple of 2^e that is not above n. -/
def dn (n : Int) (e : Nat) : Int := n / 2 ^ e * 2 ^ e
/-- The least multiple of 2^e that is not below n. -/
def upp (n : Int) (e : Nat) : Int := dn (n + 2 ^ e - 1) e

theorem dn_eq (n : Int) (e : Nat) : dn n e = n - n % 2 ^ e := by
  unfold dn; have := Int.ediv_mul_add_emod n (2 ^ e); omega
theorem dn_le (n : Int) (e : Nat) : dn n e ≤ n := by
  rw [dn_eq]; have := Int.emod_nonneg n (pw_ne e); omega
theorem dn_gt (n : Int) (e : Nat) : n < dn n e + 2 ^ e := by
  rw [dn_eq]; have := Int.emod_lt_of_pos n (pw_pos e); omega
theorem dn_dvd (n : Int) (e : Nat) : 2 ^ e ∣ dn n e := ⟨n / 2 ^ e, Int.mul_comm _ _⟩
theorem dn_max (n m : Int) (e : Nat) (h : 2 ^ e ∣ m) (k : m ≤ n) : m ≤ dn n e := by
  unfold dn
  have h1 : m / 2 ^ e ≤ n / 2 ^ e := Int.ediv_le_ediv (pw_pos e) k
  have h2 := Int.mul_le_mul_of_nonneg_right h1 (Int.le_of_lt (pw_pos e))
  rwa [Int.ediv_mul_cancel h] at h2
theorem dn_self (n : Int) (e : Nat) (h : 2 ^ e ∣ n) : dn n e = n := Int.ediv_mul_cancel h
theorem dn_self_iff (n : Int) (e : Nat) : dn n e = n ↔ (2 : Int) ^ e ∣ n := ⟨fun h => h ▸ dn_dvd n e, dn_self n e⟩
theorem dn_nonneg (n : Int) (e : Nat) (h : 0 ≤ n) : 0 ≤ dn n e := dn_max n 0 e (Int.dvd_zero _) h
theorem upp_ge (n : Int) (e : Nat) : n ≤ upp n e := by
  unfold upp; have := dn_gt (n + 2 ^ e - 1) e; omega
theorem upp_lt (n : Int) (e : Nat) : upp n e < n + 2 ^ e := by
  unfold upp; have := dn_le (n + 2 ^ e - 1) e; omega
theorem upp_dvd (n : Int) (e : Nat) : 2 ^ e ∣ upp n e := dn_dvd _ _
theorem upp_min (n m : Int) (e : Nat) (h : 2 ^ e ∣ m) (k : n ≤ m) : upp n e ≤ m := by
  have h1 := upp_lt n e
  have h2 := upp_dvd n e
  obtain ⟨x, hx⟩ := h
  obtain ⟨y, hy⟩ := h2
  rw [hx] at k ⊢
  rw [hy] at h1 ⊢
  have p := pw_pos e
  refine Int.mul_le_mul_of_nonneg_left ?_ (Int.le_of_lt p)
  have h3 : 2 ^ e * y < 2 ^ e * (x + 1) := by rw [Int.mul_add, Int.mul_one]; omega
  have h4 := Int.lt_of_mul_lt_mul_left h3 (Int.le_of_lt p)
  omega
theorem upp_self (n : Int) (e : Nat) (h : 2 ^ e ∣ n) : upp n e = n :=
  Int.le_antisymm (upp_min n n e h (Int.le_refl _)) (upp_ge n e)

/-- The first e from e on, and k steps on at most, for which f holds. -/
def lst (f : Nat → Bool) : Nat → Nat → Nat
  | 0, e => e
  | k + 1, e => if f e = true then e else lst f k (e + 1)
theorem lst_spec (f : Nat → Bool) : ∀ k e, f (e + k) = true →
    f (lst f k e) = true ∧ lst f k e ≤ e + k ∧ ∀ j, e ≤ j → j < lst f k e → f j = false
  | 0, e, h => ⟨h, Nat.le_refl _, fun j h1 h2 => absurd h2 (Nat.not_lt.2 h1)⟩
  | k + 1, e, h => by
    unfold lst
    by_cases c : f e = true
    · rw [if_pos c]; exact ⟨c, by omega, fun j h1 h2 => absurd h2 (Nat.not_lt.2 h1)⟩
    · rw [if_neg c]
      obtain ⟨h1, h2, h3⟩ := lst_spec f k (e + 1) (by rw [Nat.add_right_comm]; exact h)
      refine ⟨h1, by omega, fun j h4 h5 => ?_⟩
      by_cases d : j = e
      · subst d; simpa using c
      · exact h3 j (by omega) h5

/-- The least exponent by which n cells are not too many. -/
def le (n : Int) : Nat := lst (fun e => decide (n ≤ 15 * 2 ^ e)) 13 0
theorem le_spec (n : Int) (h : n ≤ 65536) : n ≤ 15 * 2 ^ le n ∧ le n ≤ 13 ∧ ∀ j, j < le n → 15 * 2 ^ j < n := by
  obtain ⟨h1, h2, h3⟩ := lst_spec (fun e => decide (n ≤ 15 * 2 ^ e)) 13 0 (by
    rw [decide_eq_true_iff]; rw [show (2 : Int) ^ (0 + 13) = 8192 by decide]; omega)
  refine ⟨of_decide_eq_true h1, by unfold le; omega, fun j hj => ?_⟩
  have := of_decide_eq_false (h3 j (Nat.zero_le _) hj)
  omega

/-- Is it a range? -/
def isR (b n : Int) : Bool := decide (0 ≤ b ∧ b < 65536 ∧ 0 ≤ n ∧ n ≤ 65536 - b)
theorem isR_iff (b n : Int) : isR b n = true ↔ 0 ≤ b ∧ b < 65536 ∧ 0 ≤ n ∧ n ≤ 65536 - b := by unfold isR; exact decide_eq_true_iff
theorem isR_no (b n : Int) (h : ¬ (0 ≤ b ∧ b < 65536 ∧ 0 ≤ n ∧ n ≤ 65536 - b)) : isR b n = false := decide_eq_false h

/-- Are both multiples of 2^e? -/
def mul2 (b n : Int) (e : Nat) : Bool := dn b e == b && dn n e == n
theorem mul2_iff (b n : Int) (e : Nat) : mul2 b n e = true ↔ (2 : Int) ^ e ∣ b ∧ (2 : Int) ^ e ∣ n := by
  unfold mul2; rw [Bool.and_eq_true, beq_iff_eq, beq_iff_eq, dn_self_iff, dn_self_iff]

/-- Does it fit by e? -/
def fb (b n : Int) (e : Nat) : Bool := b % 2 ^ e == 0 && (n % 2 ^ e == 0 && decide (n ≤ 15 * 2 ^ e))
theorem fb_iff (b n : Int) (e : Nat) : fb b n e = true ↔ (2 : Int) ^ e ∣ b ∧ (2 : Int) ^ e ∣ n ∧ n ≤ 15 * 2 ^ e := by
  unfold fb
  rw [Bool.and_eq_true, Bool.and_eq_true, beq_iff_eq, beq_iff_eq, decide_eq_true_iff, ← Int.dvd_iff_emod_eq_zero, ← Int.dvd_iff_emod_eq_zero]
theorem le_min (n : Int) (e : Nat) (h : n ≤ 65536) (k : n ≤ 15 * 2 ^ e) : le n ≤ e := by
  refine Nat.not_lt.1 fun c => ?_
  have := (le_spec n h).2.2 e c
  omega
theorem fb_le (b n : Int) (e : Nat) (h : n ≤ 65536) (k : fb b n e = true) : le n ≤ e ∧ mul2 b n (le n) = true := by
  obtain ⟨h1, h2, h3⟩ := (fb_iff b n e).1 k
  have h4 := le_min n e h h3
  exact ⟨h4, (mul2_iff _ _ _).2 ⟨Int.dvd_trans (pw_dvd _ _ h4) h1, Int.dvd_trans (pw_dvd _ _ h4) h2⟩⟩
theorem fb_at (b n : Int) (h : n ≤ 65536) : fb b n (le n) = mul2 b n (le n) := by
  rw [Bool.eq_iff_iff, fb_iff, mul2_iff]
  exact ⟨fun x => ⟨x.1, x.2.1⟩, fun x => ⟨x.1, x.2, (le_spec n h).1⟩⟩

/-- Is there an exponent by which a range fits? -/
def fitI (b n : Int) : Bool := isR b n && mul2 b n (le n)

/-- How many cells it has when both ends have given way to multiples of 2^e. -/
def cel (b n : Int) (e : Nat) : Int := upp (b + n) e - dn b e
/-- The least exponent by which what is told fits. -/
def oE (b n : Int) : Nat := lst (fun e => decide (cel b n e ≤ 15 * 2 ^ e)) 13 0

theorem up_top (x : Int) (e : Nat) (he : e ≤ 16) (h : x ≤ 65536) : upp x e ≤ 65536 := by
  refine upp_min x 65536 e ?_ h
  have := pw_dvd e 16 he
  rwa [show (2 : Int) ^ 16 = 65536 by decide] at this
theorem oE_spec (b n : Int) (h : isR b n = true) : cel b n (oE b n) ≤ 15 * 2 ^ oE b n ∧ oE b n ≤ 13 ∧ ∀ j, j < oE b n → 15 * 2 ^ j < cel b n j := by
  rw [isR_iff] at h
  obtain ⟨h1, h2, h3⟩ := lst_spec (fun e => decide (cel b n e ≤ 15 * 2 ^ e)) 13 0 (by
    rw [decide_eq_true_iff]; rw [show (2 : Int) ^ (0 + 13) = 8192 by decide]
    unfold cel
    have := up_top (b + n) (0 + 13) (by decide) (by omega)
    have := dn_nonneg b (0 + 13) (by omega)
    omega)
  refine ⟨of_decide_eq_true h1, by unfold oE; omega, fun j hj => ?_⟩
  have := of_decide_eq_false (h3 j (Nat.zero_le _) hj)
  omega
theorem oE_min (b n : Int) (e : Nat) (h : isR b n = true) (k : cel b n e ≤ 15 * 2 ^ e) : oE b n ≤ e := by
  refine Nat.not_lt.1 fun c => ?_
  have := (oE_spec b n h).2.2 e c
  omega
theorem cel_b (b n : Int) (e : Nat) (he : e ≤ 16) (h : isR b n = true) : 0 ≤ dn b e ∧ dn b e ≤ b ∧ n ≤ cel b n e ∧ cel b n e + dn b e ≤ 65536 ∧ cel b n e < n + 2 * 2 ^ e := by
  rw [isR_iff] at h
  have h1 := up_top (b + n) e he (by omega)
  have h2 := dn_nonneg b e (by omega)
  have h3 := dn_le b e
  have h4 := dn_gt b e
  have h5 := upp_ge (b + n) e
  have h6 := upp_lt (b + n) e
  unfold cel
  omega
theorem cel_dvd (b n : Int) (e : Nat) : 2 ^ e ∣ cel b n e := Int.dvd_sub (upp_dvd _ _) (dn_dvd _ _)
theorem cel_self (b n : Int) (e : Nat) (h1 : 2 ^ e ∣ b) (h2 : 2 ^ e ∣ n) : cel b n e = n := by
  unfold cel; rw [dn_self b e h1, upp_self _ e (Int.dvd_add h1 h2)]; omega
theorem cel_zero (b n : Int) : cel b n 0 = n := cel_self b n 0 (by simp) (by simp)
theorem dn_zero (b : Int) : dn b 0 = b := dn_self b 0 (by simp)

/-- What Out answers: the base, the cells, the error. -/
def outB (b n : Int) : Int := if isR b n = true then dn b (oE b n) else 0
def outN (b n : Int) : Int := if isR b n = true then cel b n (oE b n) else 0
def outE (b n : Int) : Int := if isR b n = true then 0 else 1
/-- What Short answers: the number, the error. -/
def shI (b n : Int) : Int := if fitI b n = true then le n * 1048576 + b / 2 ^ le n * 16 + n / 2 ^ le n else 0
def shE (b n : Int) : Int := if isR b n = true then (if mul2 b n (le n) = true then 0 else 5) else 1
/-- The base and the cells that a number tells, and whether it is that range's. -/
def loB (s : Int) : Int := s / 16 % 65536 * 2 ^ (s / 1048576).toNat
def loN (s : Int) : Int := s % 16 * 2 ^ (s / 1048576).toNat
def isS (s : Int) : Bool := decide (0 ≤ s ∧ s < 14680064) && (shE (loB s) (loN s) == 0 && shI (loB s) (loN s) == s)
/-- What Long answers: the base, the cells, the error. -/
def lgB (s : Int) : Int := if isS s = true then loB s else 0
def lgN (s : Int) : Int := if isS s = true then loN s else 0
def lgE (s : Int) : Int := if isS s = true then 0 else 5
end Go.Proofs.Ytdnhcpkfpjpajaa
