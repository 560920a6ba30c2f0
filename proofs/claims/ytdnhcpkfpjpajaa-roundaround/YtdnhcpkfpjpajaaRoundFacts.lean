/- What follows of chapter 4's words on plain numbers: what is told is around, tight, monotone, and read as it was told; no program is in it. -/
import Derived.Test.YtdnhcpkfpjpajaaRoundPure
import Derived.Test.YtdnhcpkfpjpajaaRound
namespace Go.Proofs.Ytdnhcpkfpjpajaa

theorem isR_rest (a b : Int) : isR (a % 65536) (b % (65537 - a % 65536)) = true := by
  have h1 : 0 ≤ a % 65536 := by omega
  have h2 : a % 65536 < 65536 := by omega
  have h3 := Int.emod_nonneg b (show ¬ 65537 - a % 65536 = 0 by omega)
  have h4 := Int.emod_lt_of_pos b (show 0 < 65537 - a % 65536 by omega)
  exact (isR_iff _ _).2 ⟨h1, h2, h3, by omega⟩
theorem out_is (b n : Int) (h : isR b n = true) : outB b n = dn b (oE b n) ∧ outN b n = cel b n (oE b n) ∧ outE b n = 0 := by
  unfold outB outN outE; simp only [h, if_true, and_self]
theorem fit_by (b n : Int) (e : Nat) (h : isR b n = true) (h1 : (2 : Int) ^ e ∣ b) (h2 : (2 : Int) ^ e ∣ n) (h3 : n ≤ 15 * 2 ^ e) : fitI b n = true := by
  have d := (isR_iff b n).1 h
  unfold fitI
  rw [h, Bool.true_and]
  exact (fb_le b n e (by omega) ((fb_iff b n e).2 ⟨h1, h2, h3⟩)).2
theorem out_at (b n : Int) (e : Nat) (h : isR b n = true) (h1 : (2 : Int) ^ e ∣ b) (h2 : (2 : Int) ^ e ∣ n) (h3 : n ≤ 15 * 2 ^ e) : outB b n = b ∧ outN b n = n := by
  have c := cel_self b n e h1 h2
  have m := oE_min b n e h (by rw [c]; exact h3)
  have d1 := Int.dvd_trans (pw_dvd _ _ m) h1
  have d2 := Int.dvd_trans (pw_dvd _ _ m) h2
  obtain ⟨o1, o2, _⟩ := out_is b n h
  rw [o1, o2]
  exact ⟨dn_self _ _ d1, cel_self _ _ _ d1 d2⟩
theorem around (b n : Int) (h : isR b n = true) : outE b n = 0 ∧ outB b n ≤ b ∧ b + n ≤ outB b n + outN b n ∧ 0 ≤ outB b n ∧ outB b n + outN b n ≤ 65536 ∧ 0 ≤ outN b n ∧
    isR (outB b n) (outN b n) = true ∧ fitI (outB b n) (outN b n) = true ∧ (n ≤ 15 → outB b n = b ∧ outN b n = n) ∧
    outB (outB b n) (outN b n) = outB b n ∧ outN (outB b n) (outN b n) = outN b n ∧ outE (outB b n) (outN b n) = 0 ∧
    fitI b n = (outB b n == b && outN b n == n) := by
  have d := (isR_iff b n).1 h
  obtain ⟨o1, o2, o3⟩ := out_is b n h
  obtain ⟨s1, s2, s3⟩ := oE_spec b n h
  have c := cel_b b n (oE b n) (by omega) h
  have g : upp (b + n) (oE b n) = cel b n (oE b n) + dn b (oE b n) := by unfold cel; omega
  have u := upp_ge (b + n) (oE b n)
  have r : isR (outB b n) (outN b n) = true := (isR_iff _ _).2 (by rw [o1, o2]; omega)
  have v1 : (2 : Int) ^ oE b n ∣ outB b n := o1 ▸ dn_dvd _ _
  have v2 : (2 : Int) ^ oE b n ∣ outN b n := o2 ▸ cel_dvd _ _ _
  have v3 : outN b n ≤ 15 * 2 ^ oE b n := o2 ▸ s1
  obtain ⟨t1, t2⟩ := out_at _ _ _ r v1 v2 v3
  refine ⟨o3, by omega, by omega, by omega, by omega, by omega, r, fit_by _ _ _ r v1 v2 v3, fun k => ?_, t1, t2, (out_is _ _ r).2.2, ?_⟩
  · exact out_at b n 0 h (by simp) (by simp) (by simpa using k)
  · rw [Bool.eq_iff_iff, Bool.and_eq_true, beq_iff_eq, beq_iff_eq]
    constructor
    · intro f
      unfold fitI at f
      rw [h, Bool.true_and] at f
      obtain ⟨f1, f2⟩ := (mul2_iff _ _ _).1 f
      exact out_at b n (le n) h f1 f2 (le_spec n (by omega)).1
    · rintro ⟨e1, e2⟩
      rw [e1] at v1
      rw [e2] at v2 v3
      exact fit_by b n _ h v1 v2 v3
theorem tight (b n : Int) (h : isR b n = true) : outE b n = 0 ∧ 4 * (outN b n - n) ≤ outN b n ∧ 0 ≤ outN b n ∧ outN b n ≤ 65536 ∧ n ≤ outN b n := by
  obtain ⟨o1, o2, o3⟩ := out_is b n h
  obtain ⟨s1, s2, s3⟩ := oE_spec b n h
  have d := (isR_iff b n).1 h
  have c := cel_b b n (oE b n) (by omega) h
  refine ⟨o3, ?_, by omega, by omega, by omega⟩
  rw [o2]
  cases z : oE b n with
  | zero => rw [cel_zero]; omega
  | succ j =>
    rw [z] at c s1
    have m := s3 j (by omega)
    have cj := cel_b b n j (by omega) h
    rw [pw_succ] at c
    have v := cel_dvd b n j
    obtain ⟨y, hy⟩ := v
    have p := pw_pos j
    have y16 : 16 ≤ y := by
      have h3 : 2 ^ j * 15 < 2 ^ j * y := by rw [← hy]; omega
      have := Int.lt_of_mul_lt_mul_left h3 (Int.le_of_lt p)
      omega
    have y2 : 2 ^ j * 16 ≤ 2 ^ j * y := Int.mul_le_mul_of_nonneg_left y16 (Int.le_of_lt p)
    have up : cel b n j ≤ cel b n (j + 1) := by
      have a1 : dn b (j + 1) ≤ dn b j := dn_max b _ j (Int.dvd_trans (pw_dvd _ _ (Nat.le_succ j)) (dn_dvd b (j + 1))) (dn_le _ _)
      have a2 : upp (b + n) j ≤ upp (b + n) (j + 1) := upp_min _ _ j (Int.dvd_trans (pw_dvd _ _ (Nat.le_succ j)) (upp_dvd _ (j + 1))) (upp_ge _ _)
      unfold cel; omega
    omega
theorem rises (b n c m : Int) (h : isR b n = true) (k : isR c m = true) (h1 : b ≤ c) (h2 : c + m ≤ b + n) :
    outE b n = 0 ∧ outE c m = 0 ∧ outB b n ≤ outB c m ∧ outB c m + outN c m ≤ outB b n + outN b n := by
  obtain ⟨o1, o2, o3⟩ := out_is b n h
  obtain ⟨q1, q2, q3⟩ := out_is c m k
  obtain ⟨s1, s2, s3⟩ := oE_spec b n h
  generalize oE b n = E at o1 o2 s1 s2
  have g1 : dn b E ≤ dn c E := dn_max c _ E (dn_dvd _ _) (by have := dn_le b E; omega)
  have g2 : upp (c + m) E ≤ upp (b + n) E := upp_min _ _ E (upp_dvd _ _) (by have := upp_ge (b + n) E; omega)
  have l : oE c m ≤ E := oE_min c m E k (by unfold cel at s1 ⊢; omega)
  generalize oE c m = F at q1 q2 l
  have a1 : dn c E ≤ dn c F := dn_max c _ F (Int.dvd_trans (pw_dvd _ _ l) (dn_dvd c E)) (dn_le _ _)
  have a2 : upp (c + m) F ≤ upp (c + m) E := upp_min _ _ F (Int.dvd_trans (pw_dvd _ _ l) (upp_dvd _ E)) (upp_ge _ _)
  rw [o1, o2, q1, q2]
  unfold cel
  exact ⟨o3, q3, by omega, by omega⟩
theorem back (b n : Int) (h : isR b n = true) (f : fitI b n = true) : shE b n = 0 ∧ lgB (shI b n) = b ∧ lgN (shI b n) = n ∧ lgE (shI b n) = 0 := by
  have d := (isR_iff b n).1 h
  have m : mul2 b n (le n) = true := by unfold fitI at f; rwa [h, Bool.true_and] at f
  have e1 : shE b n = 0 := by unfold shE; rw [h, m]; rfl
  have e2 : shI b n = le n * 1048576 + b / 2 ^ le n * 16 + n / 2 ^ le n := by unfold shI; rw [f]; rfl
  obtain ⟨t1, t2, _⟩ := le_spec n (by omega)
  obtain ⟨v1, v2⟩ := (mul2_iff _ _ _).1 m
  have h1 := Int.ediv_le_self (b := 2 ^ le n) d.1
  have h2 := Int.ediv_nonneg d.1 (Int.le_of_lt (pw_pos (le n)))
  have h3 := Int.ediv_nonneg d.2.2.1 (Int.le_of_lt (pw_pos (le n)))
  have h4 : n / 2 ^ le n ≤ 15 := by
    have := Int.ediv_le_ediv (pw_pos (le n)) t1
    rwa [Int.mul_ediv_cancel _ (pw_ne (le n))] at this
  have w1 := Int.ediv_mul_cancel v1
  have w2 := Int.ediv_mul_cancel v2
  have x1 : shI b n / 1048576 = (le n : Int) := by rw [e2]; omega
  have x2 : shI b n / 16 % 65536 = b / 2 ^ le n := by rw [e2]; omega
  have x3 : shI b n % 16 = n / 2 ^ le n := by rw [e2]; omega
  have y1 : loB (shI b n) = b := by unfold loB; rw [x1, x2, Int.toNat_natCast, w1]
  have y2 : loN (shI b n) = n := by unfold loN; rw [x1, x3, Int.toNat_natCast, w2]
  have z := shI_b b n
  have i : isS (shI b n) = true := by
    unfold isS
    rw [y1, y2, e1, decide_eq_true z]
    simp
  unfold lgB lgN lgE
  rw [i, y1, y2]
  exact ⟨e1, rfl, rfl, rfl⟩
theorem short_fit (b n : Int) (h : isR b n = true) : (shE b n == 0) = fitI b n := by
  unfold shE fitI; rw [h]; cases mul2 b n (le n) <;> rfl
theorem lg_b (s : Int) (h : isS s = true) : lgB s = loB s ∧ lgN s = loN s ∧ lgE s = 0 ∧ shE (loB s) (loN s) = 0 ∧ shI (loB s) (loN s) = s := by
  have e := h
  unfold isS at e
  rw [Bool.and_eq_true, Bool.and_eq_true, beq_iff_eq, beq_iff_eq] at e
  unfold lgB lgN lgE
  simp only [h, if_true]
  exact ⟨trivial, trivial, trivial, e.2.1, e.2.2⟩
theorem lg_no (s : Int) (h : isS s = false) : lgB s = 0 ∧ lgN s = 0 ∧ lgE s = 5 := by
  unfold lgB lgN lgE; simp [h]
theorem lo_small (s : Int) (h : isS s = true) : (0 ≤ loB s ∧ loB s ≤ 4294967296) ∧ 0 ≤ loN s ∧ loN s ≤ 1048576 := by
  unfold isS at h
  rw [Bool.and_eq_true] at h
  have d := of_decide_eq_true h.1
  have := lo_b s (s / 1048576).toNat (by omega)
  unfold loB loN
  omega
end Go.Proofs.Ytdnhcpkfpjpajaa
