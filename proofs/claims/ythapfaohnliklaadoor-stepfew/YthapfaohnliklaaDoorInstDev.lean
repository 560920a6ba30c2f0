/- package inst: Check, Pack and Read, in one def each: what chapter 6 says of them; they turn nothing that was in memory. -/
import Derived.Test.YthapfaohnliklaaDoorRows
import Derived.Test.YthapfaohnliklaaDoorBits
import Derived.Test.YthapfaohnliklaaDoorKeyPure
import Derived.Test.YthapfaohnliklaaDoorInstShape
import Derived.WalkKit
import Derived.ProofKit
namespace Go.Proofs.YthapfaohnliklaaDoor
open Go.ChangeShapes Go.WideShapes Go.ChangeAt Go.RowKit
set_option linter.unusedSimpArgs false

def kLo (k : Int) : Int := if k = 2 then -2048 else 0
def kHi (k : Int) : Int := if k = 1 then 7 else if k = 2 then 2047 else if k = 3 then 127 else if k = 4 then 5 else if k = 5 then 255 else 0
def kMay (k n : Int) : Bool := decide (kLo k ≤ n ∧ n ≤ kHi k)
theorem inst_ends (k : Int) (w : World) :
    Calls Tryd.prog 86 #[.int .i64 k] w fun e w' => e = .returned (.tuple #[.int .i64 (kLo k), .int .i64 (kHi k)]) ∧ w' = w := by
  by_cases h1 : k = 1
  · subst h1
    go_enter Tryd.func86, Tryd.ntmps86
    go_wp2
    go_ret2
    exact ⟨rfl, rfl⟩
  by_cases h2 : k = 2
  · subst h2
    go_enter Tryd.func86, Tryd.ntmps86
    go_wp2
    go_ret2
    exact ⟨rfl, rfl⟩
  by_cases h3 : k = 3
  · subst h3
    go_enter Tryd.func86, Tryd.ntmps86
    go_wp2
    go_ret2
    exact ⟨rfl, rfl⟩
  by_cases h4 : k = 4
  · subst h4
    go_enter Tryd.func86, Tryd.ntmps86
    go_wp2
    go_ret2
    exact ⟨rfl, rfl⟩
  by_cases h5 : k = 5
  · subst h5
    go_enter Tryd.func86, Tryd.ntmps86
    go_wp2
    go_ret2
    exact ⟨rfl, rfl⟩
  · have e1 : kLo k = 0 := by simp [kLo, h2]
    have e2 : kHi k = 0 := by simp [kHi, h1, h2, h3, h4, h5]
    rw [e1, e2]
    clear e1 e2
    have g1 : (k == 1) = false := by simpa using h1
    have g2 : (k == 2) = false := by simpa using h2
    have g3 : (k == 3) = false := by simpa using h3
    have g4 : (k == 4) = false := by simpa using h4
    have g5 : (k == 5) = false := by simpa using h5
    go_enter Tryd.func86, Tryd.ntmps86
    go_wp2
    go_ret2
    exact ⟨rfl, rfl⟩
theorem inst_may (k n : Int) (w : World) :
    Calls Tryd.prog 71 #[.int .i64 k, .int .i64 n] w fun e w' => e = .returned (.bool (kMay k n)) ∧ w' = w := by
  unfold kMay
  by_cases h1 : kLo k ≤ n
  · by_cases h2 : n ≤ kHi k
    · rw [decide_eq_true (And.intro h1 h2)]
      go_enter Tryd.func71, Tryd.ntmps71
      go_wp2_with (go_at_call 86; refine (inst_ends _ _).mono ?_; rintro e w' ⟨rfl, rfl⟩)
      go_ret
      exact ⟨rfl, rfl⟩
    · rw [decide_eq_false (fun h => h2 h.2)]
      go_enter Tryd.func71, Tryd.ntmps71
      go_wp2_with (go_at_call 86; refine (inst_ends _ _).mono ?_; rintro e w' ⟨rfl, rfl⟩)
      go_ret
      exact ⟨by simp [h2], rfl⟩
  · rw [decide_eq_false (fun h => h1 h.1)]
    go_enter Tryd.func71, Tryd.ntmps71
    go_wp2_with (go_at_call 86; refine (inst_ends _ _).mono ?_; rintro e w' ⟨rfl, rfl⟩)
    go_ret
    exact ⟨rfl, rfl⟩
/-- P12, by the project's own table. -/
def chkN (n : Nat) (a b c : Int) : Int := if kMay (shA n) a = true ∧ kMay (shB n) b = true ∧ kMay (shC n) c = true then 0 else 1
def chkD (o a b c : Int) : Int := if 0 ≤ o ∧ o ≤ 22 then chkN o.toNat a b c else 1
theorem check_in_d (n : Nat) (hn : n < 23) (a b c : Int) (w : World) (hS : Shp w) :
    Calls Tryd.prog 42 #[.agg #[.int .i64 n, .int .i64 a, .int .i64 b, .int .i64 c]] w fun e w' => e = .returned (.int .i64 (chkN n a b c)) ∧ Below w.heap.size w w' := by
  have q0 := (hS.alloc (.cells #[.int .i64 n, .int .i64 a, .int .i64 b, .int .i64 c] 37)).row n hn
  obtain ⟨c0, c1, c2, c3⟩ := q0
  unfold chkN
  cases hA : kMay (shA n) a
  · rw [if_neg (by simp)]
    go_enter Tryd.func42, Tryd.ntmps42
    go_wp2_with (go_at_call 71; refine (inst_may _ _ _).mono ?_; (first | rw [hA]); rintro e w' ⟨rfl, rfl⟩)
    go_ret
    exact ⟨rfl, two _ _⟩
  · cases hB : kMay (shB n) b
    · rw [if_neg (by simp)]
      go_enter Tryd.func42, Tryd.ntmps42
      go_wp2_with (go_at_call 71; refine (inst_may _ _ _).mono ?_; (first | rw [hA] | rw [hB]); rintro e w' ⟨rfl, rfl⟩)
      go_ret
      exact ⟨rfl, two _ _⟩
    · cases hC : kMay (shC n) c
      · rw [if_neg (by simp)]
        go_enter Tryd.func42, Tryd.ntmps42
        go_wp2_with (go_at_call 71; refine (inst_may _ _ _).mono ?_; (first | rw [hA] | rw [hB] | rw [hC]); rintro e w' ⟨rfl, rfl⟩)
        go_ret
        exact ⟨rfl, two _ _⟩
      · rw [if_pos (by simp)]
        go_enter Tryd.func42, Tryd.ntmps42
        go_wp2_with (go_at_call 71; refine (inst_may _ _ _).mono ?_; (first | rw [hA] | rw [hB] | rw [hC]); rintro e w' ⟨rfl, rfl⟩)
        go_ret
        exact ⟨rfl, two _ _⟩
theorem inst_check (o a b c : Int) (w : World) (hS : Shp w) :
    Calls Tryd.prog 42 #[.agg #[.int .i64 o, .int .i64 a, .int .i64 b, .int .i64 c]] w fun e w' => e = .returned (.int .i64 (chkD o a b c)) ∧ Below w.heap.size w w' := by
  unfold chkD
  by_cases ho : 0 ≤ o ∧ o ≤ 22
  · rw [if_pos ho]
    obtain ⟨n, rfl⟩ := Int.eq_ofNat_of_zero_le ho.1
    exact check_in_d n (by omega) a b c w hS
  · rw [if_neg ho]
    by_cases h1 : o < 0
    · go_enter Tryd.func42, Tryd.ntmps42
      go_wp2
      go_ret
      exact ⟨rfl, (Below.refl _ _).alloc (Nat.le_refl _) _⟩
    · have h2 : 22 < o := by omega
      go_enter Tryd.func42, Tryd.ntmps42
      go_wp2
      go_ret
      exact ⟨rfl, (Below.refl _ _).alloc (Nat.le_refl _) _⟩
theorem sh_b : ∀ n : Nat, n < 23 → (kLo (shA n) = 0 ∧ kHi (shA n) ≤ 7) ∧ (kLo (shB n) = 0 ∧ kHi (shB n) ≤ 7) ∧ -2048 ≤ kLo (shC n) ∧ kHi (shC n) ≤ 2047 := by decide +kernel
theorem chkD_ok {o a b c : Int} (h : chkD o a b c = 0) : (0 ≤ o ∧ o ≤ 22) ∧ 0 ≤ a ∧ a ≤ 7 ∧ 0 ≤ b ∧ b ≤ 7 ∧ -2048 ≤ c ∧ c ≤ 2047 := by
  unfold chkD at h
  by_cases ho : 0 ≤ o ∧ o ≤ 22
  · rw [if_pos ho] at h
    unfold chkN at h
    obtain ⟨h1, h2, h3⟩ := sh_b o.toNat (by omega)
    by_cases hk : kMay (shA o.toNat) a = true ∧ kMay (shB o.toNat) b = true ∧ kMay (shC o.toNat) c = true
    · simp only [kMay, decide_eq_true_eq] at hk
      omega
    · rw [if_neg hk] at h; cases h
  · rw [if_neg ho] at h; cases h
theorem chkD_or (o a b c : Int) : chkD o a b c = 0 ∨ chkD o a b c = 1 := by
  unfold chkD chkN
  split
  · split <;> simp
  · simp
/-- P13. -/
def numD (o a b c : Int) : Int := o + 32 * a + 256 * b + 2048 * (c + 2048)
def packD (o a b c : Int) : Int := if chkD o a b c = 0 then numD o a b c else 0
structure ID where
  o : Int
  a : Int
  b : Int
  c : Int
  e : Int
def readD (n : Int) : ID :=
  if chkD (n % 32) (n / 32 % 8) (n / 256 % 8) (n / 2048 - 2048) = 0 then ⟨n % 32, n / 32 % 8, n / 256 % 8, n / 2048 - 2048, 0⟩ else ⟨0, 0, 0, 0, 5⟩
theorem and_31 (n : Int) : bits .and .i64 n 31 = n % 32 := by
  have e : bits .and .i64 n 31 = IntKind.i64.wrap ((BitVec.ofInt 64 n &&& BitVec.ofInt 64 31).toNat : Nat) := rfl
  have h1 : (BitVec.ofInt 64 31).toNat = 2 ^ 5 - 1 := by decide
  rw [e, BitVec.toNat_and, h1, Nat.and_two_pow_sub_one_eq_mod, BitVec.toNat_ofInt, IntKind.wrap_i64]
  have : ((2 ^ 64 : Nat) : Int) = 18446744073709551616 := by decide
  rw [this]
  omega
theorem and_7 (n : Int) : bits .and .i64 n 7 = n % 8 := by
  have e : bits .and .i64 n 7 = IntKind.i64.wrap ((BitVec.ofInt 64 n &&& BitVec.ofInt 64 7).toNat : Nat) := rfl
  have h1 : (BitVec.ofInt 64 7).toNat = 2 ^ 3 - 1 := by decide
  rw [e, BitVec.toNat_and, h1, Nat.and_two_pow_sub_one_eq_mod, BitVec.toNat_ofInt, IntKind.wrap_i64]
  have : ((2 ^ 64 : Nat) : Int) = 18446744073709551616 := by decide
  rw [this]
  omega
theorem inst_pack (o a b c : Int) (w : World) (hS : Shp w) :
    Calls Tryd.prog 21 #[.agg #[.int .i64 o, .int .i64 a, .int .i64 b, .int .i64 c]] w fun e w' => e = .returned (.tuple #[.int .i64 (packD o a b c), .int .i64 (chkD o a b c)]) ∧ Below w.heap.size w w' := by
  by_cases hc : chkD o a b c = 0
  · have hr := chkD_ok hc
    have hp : packD o a b c = o + a * 32 + b * 256 + (c + 2048) * 2048 := by unfold packD numD; rw [if_pos hc]; omega
    rw [hp, hc]
    clear hp
    go_enter Tryd.func21, Tryd.ntmps21
    go_wp2_with (go_at_call 42; refine (inst_check _ _ _ _ _ (hS.alloc _)).mono ?_; simp only [hc]; rintro e w1 ⟨rfl, hbb⟩; have B1 := (Box.new _ _ _).below hbb; have q1 := B1.cell; have hB := Below.step0 ((Below.refl _ _).alloc (Nat.le_refl _) _) hbb; clear hbb)
    go_ret2
    exact ⟨rfl, hB⟩
  · have hp : packD o a b c = 0 := by unfold packD; rw [if_neg hc]
    have hc' : (chkD o a b c == 0) = false := by simpa using hc
    rw [hp]
    clear hp hc
    go_enter Tryd.func21, Tryd.ntmps21
    go_wp2_with (go_at_call 42; refine (inst_check _ _ _ _ _ (hS.alloc _)).mono ?_; rintro e w1 ⟨rfl, hbb⟩; have B1 := (Box.new _ _ _).below hbb; have q1 := B1.cell; have hB := Below.step0 ((Below.refl _ _).alloc (Nat.le_refl _) _) hbb; clear hbb)
    go_ret2
    exact ⟨rfl, hB⟩
theorem inst_unpack (n : Int) (w : World) (hn : -9223372036854775808 ≤ n ∧ n ≤ 9223372036854775807) :
    Calls Tryd.prog 43 #[.int .i64 n] w fun e w' => e = .returned (.agg #[.int .i64 (n % 32), .int .i64 (n / 32 % 8), .int .i64 (n / 256 % 8), .int .i64 (n / 2048 - 2048)]) ∧ Below w.heap.size w w' := by
  have d1 := and_31 n
  have d2 := and_7 (n / 32)
  have d3 := and_7 (n / 256)
  go_enter Tryd.func43, Tryd.ntmps43
  go_wp2
  exact bodyPost_ret (v := .agg #[.int .i64 (n % 32), .int .i64 (n / 32 % 8), .int .i64 (n / 256 % 8), .int .i64 (n / 2048 - 2048)]) (by simp [results, Tryd.results43, go_sem]) rfl ⟨rfl, (Below.refl _ _).alloc (Nat.le_refl _) _⟩
theorem inst_read (n : Int) (w : World) (hS : Shp w) (hn : -9223372036854775808 ≤ n ∧ n ≤ 9223372036854775807) (U : ID) (hU : readD n = U) :
    Calls Tryd.prog 22 #[.int .i64 n] w fun e w' => e = .returned (.tuple #[.agg #[.int .i64 U.o, .int .i64 U.a, .int .i64 U.b, .int .i64 U.c], .int .i64 U.e]) ∧ Below w.heap.size w w' := by
  subst hU
  unfold readD
  by_cases hc : chkD (n % 32) (n / 32 % 8) (n / 256 % 8) (n / 2048 - 2048) = 0
  · rw [if_pos hc]
    go_enter Tryd.func22, Tryd.ntmps22
    go_wp2_with (first | (go_at_call 43; refine (inst_unpack _ _ hn).mono ?_; rintro e w1 ⟨rfl, hbb⟩; have B1 := (Box.new _ _ _).below hbb; have hB1 := Below.step0 ((Below.refl w.heap.size w).alloc (Nat.le_refl _) _) hbb; clear hbb) | (go_at_call 42; refine (inst_check _ _ _ _ _ ((hS.below hB1).alloc _)).mono ?_; simp only [hc]; rintro e w2 ⟨rfl, hbb⟩; have B2 := (B1.alloc _).below hbb; have q2 := B2.cell; have f2 := B2.free; have B3 := (Box.new w1 _ _).below hbb; have q3 := B3.cell; have hB := Below.step0 (hB1.alloc hB1.size _) hbb; clear hbb))
    refine bodyPost_ret (v := .tuple #[.agg #[.int .i64 (n % 32), .int .i64 (n / 32 % 8), .int .i64 (n / 256 % 8), .int .i64 (n / 2048 - 2048)], .int .i64 0]) (by simp [results, Tryd.results22, go_sem, q2]) rfl ⟨rfl, ?_⟩
    exact (((hB.setCell (by simp) _).setCell (by simp) _).setCell (by simp) _).setCell (by simp) _
  · rw [if_neg hc]
    have hc' : (chkD (n % 32) (n / 32 % 8) (n / 256 % 8) (n / 2048 - 2048) == 0) = false := by simpa using hc
    go_enter Tryd.func22, Tryd.ntmps22
    go_wp2_with (first | (go_at_call 43; refine (inst_unpack _ _ hn).mono ?_; rintro e w1 ⟨rfl, hbb⟩; have B1 := (Box.new _ _ _).below hbb; have hB1 := Below.step0 ((Below.refl w.heap.size w).alloc (Nat.le_refl _) _) hbb; clear hbb) | (go_at_call 42; refine (inst_check _ _ _ _ _ ((hS.below hB1).alloc _)).mono ?_; rintro e w2 ⟨rfl, hbb⟩; have B2 := (B1.alloc _).below hbb; have q2 := B2.cell; have f2 := B2.free; have B3 := (Box.new w1 _ _).below hbb; have q3 := B3.cell; have hB := Below.step0 (hB1.alloc hB1.size _) hbb; clear hbb))
    refine bodyPost_ret (v := .tuple #[.agg #[.int .i64 0, .int .i64 0, .int .i64 0, .int .i64 0], .int .i64 5]) (by simp [results, Tryd.results22, go_sem, q2]) rfl ⟨rfl, ?_⟩
    exact (((hB.setCell (by simp) _).setCell (by simp) _).setCell (by simp) _).setCell (by simp) _
end Go.Proofs.YthapfaohnliklaaDoor
