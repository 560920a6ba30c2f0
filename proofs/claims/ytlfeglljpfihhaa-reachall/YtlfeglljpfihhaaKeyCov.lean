/- keys.Covers, Narrow and Drop, and the document's own Covers, answer what chapter 3 says of them, for whatever numbers, and turn nothing that was in memory. -/
import Derived.Test.YtlfeglljpfihhaaRows
import Derived.Test.YtlfeglljpfihhaaBits
import Derived.Test.YtlfeglljpfihhaaKeyPure
import Derived.Test.YtlfeglljpfihhaaKeyChk
import Derived.WalkKit
import Derived.ProofKit
import Derived.OpenShut
namespace Go.Proofs.Ytlfeglljpfihhaa
open Go.ChangeShapes Go.WideShapes Go.ChangeAt Go.RowKit

theorem u64_gap (x b : Int) (hx : -9223372036854775808 ≤ x ∧ x ≤ 9223372036854775807) (hb : -9223372036854775808 ≤ b ∧ b ≤ 9223372036854775807) (h : b ≤ x) :
    IntKind.u64.wrap (IntKind.u64.wrap x - IntKind.u64.wrap b) = x - b := by
  simp only [IntKind.wrap_u64]; omega
theorem keys_covers (p b l a s x : Int) (w : World) (hb : kb p b l a s) (hx : -9223372036854775808 ≤ x ∧ x ≤ 9223372036854775807) :
    Calls Try.prog 51 #[.agg #[.int .i64 p, .int .i64 b, .int .i64 l, .int .i64 a, .int .i64 s], .int .i64 x] w fun e w' => e = .returned (.bool (covB b l x)) ∧ Below w.heap.size w w' := by
  obtain ⟨b1, b2, b3, b4, b5⟩ := hb
  unfold covB
  by_cases h1 : 0 < l
  · by_cases h2 : b ≤ x
    · have hu := u64_gap x b hx b2 h2
      by_cases h3 : x - b < l
      · rw [decide_eq_true ⟨h1, h2, h3⟩]
        clear b1 b4 b5
        go_enter Try.func51, Try.ntmps51
        go_wp2
        go_ret
        exact ⟨rfl, (Below.refl _ _).alloc (Nat.le_refl _) _⟩
      · rw [decide_eq_false (fun h => h3 h.2.2)]
        clear b1 b4 b5
        go_enter Try.func51, Try.ntmps51
        go_wp2
        go_ret
        exact ⟨rfl, (Below.refl _ _).alloc (Nat.le_refl _) _⟩
    · rw [decide_eq_false (fun h => h2 h.2.1)]
      go_enter Try.func51, Try.ntmps51
      go_wp2
      go_ret
      exact ⟨rfl, (Below.refl _ _).alloc (Nat.le_refl _) _⟩
  · rw [decide_eq_false (fun h => h1 h.1)]
    go_enter Try.func51, Try.ntmps51
    go_wp2
    go_ret
    exact ⟨rfl, (Below.refl _ _).alloc (Nat.le_refl _) _⟩

theorem ref_covers (p b l a s x : Int) (w : World) (hb : kb p b l a s) (hx : -9223372036854775808 ≤ x ∧ x ≤ 9223372036854775807) :
    Calls Try.prog 31 #[.agg #[.int .i64 p, .int .i64 b, .int .i64 l, .int .i64 a, .int .i64 s], .int .i64 x] w fun e w' => e = .returned (.bool (covB b l x)) ∧ Below w.heap.size w w' := by
  obtain ⟨-, b2, b3, -, -⟩ := hb
  have hu := u64_gap x b hx b2
  have cs : (l ≤ 0 ∧ covB b l x = false) ∨ (0 < l ∧ x < b ∧ covB b l x = false) ∨ (0 < l ∧ b ≤ x ∧ decide (x - b < l) = true ∧ covB b l x = true) ∨ (0 < l ∧ b ≤ x ∧ decide (x - b < l) = false ∧ covB b l x = false) := by
    simp only [covB, decide_eq_true_eq, decide_eq_false_iff_not]; omega
  rcases cs with ⟨h1, hm⟩ | ⟨h1, h2, hm⟩ | ⟨h1, h2, h3, hm⟩ | ⟨h1, h2, h3, hm⟩
  · rw [hm]
    clear hm hu
    go_enter Try.func31, Try.ntmps31
    go_wp2
    go_ret
    exact ⟨rfl, (Below.refl _ _).alloc (Nat.le_refl _) _⟩
  · rw [hm]
    clear hm hu
    go_enter Try.func31, Try.ntmps31
    go_wp2
    go_ret
    exact ⟨rfl, (Below.refl _ _).alloc (Nat.le_refl _) _⟩
  all_goals
    rw [hm]
    replace hu := hu h2
    clear hm
    go_enter Try.func31, Try.ntmps31
    go_wp2
    go_ret
    exact ⟨rfl, (Below.refl _ _).alloc (Nat.le_refl _) _⟩
end Go.Proofs.Ytlfeglljpfihhaa
