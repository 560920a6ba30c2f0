/- Both readings of 'has b all that a has', the program's and the document's, answer one and the same, and touch no memory. -/
import Derived.Test.YtlfeglljpfihhaaRows
import Derived.Test.YtlfeglljpfihhaaBits
import Derived.WalkKit
import Derived.ProofKit
import Derived.OpenShut
namespace Go.Proofs.Ytlfeglljpfihhaa
open Go.ChangeShapes Go.WideShapes Go.ChangeAt Go.RowKit

theorem perm_within (a b : Int) (w : World) :
    Calls Try.prog 69 #[.int .i64 a, .int .i64 b] w fun e w' => e = .returned (.bool (inB a b)) ∧ w' = w := by
  unfold inB
  go_enter Try.func69, Try.ntmps69
  go_wp2
  go_ret
  exact ⟨rfl, rfl⟩
theorem ref_within (a b : Int) (w : World) :
    Calls Try.prog 30 #[.int .i64 a, .int .i64 b] w fun e w' => e = .returned (.bool (inB a b)) ∧ w' = w := by
  go_enter Try.func30, Try.ntmps30
  go_wp2
  go_loop [6] (fun i => ∃ k : Nat, k ≤ 64 ∧ i = .int .i64 k ∧ ∀ j, j < k → bt a j = true → bt b j = true) (fun i => 64 - (intOf i).toNat)
  case atStart => exact ⟨0, Nat.zero_le _, rfl, fun j hj => absurd hj (Nat.not_lt_zero _)⟩
  case round =>
    obtain ⟨k, hk, rfl, hall⟩ := hrel
    by_cases hlt : k < 64
    · cases ha : bt a k
      · have na := bit_no a k hlt ha
        go_wp2
        go_round
        case rel =>
          refine ⟨k + 1, by omega, by go_num, fun j hj x => ?_⟩
          by_cases e : j = k
          · subst e; rw [ha] at x; cases x
          · exact hall j (by omega) x
        case measure => simp [intOf]; omega
      · have ya := bit_yes a k hlt ha
        cases hb : bt b k
        · have nb := bit_no b k hlt hb
          have hn : inB a b = false := by
            cases hx : inB a b
            · rfl
            · rw [(inB_iff a b).1 hx k hlt ha] at hb; cases hb
          clear hall
          go_wp2
          go_ret
          exact ⟨rfl, rfl⟩
        · have yb := bit_yes b k hlt hb
          go_wp2
          go_round
          case rel =>
            refine ⟨k + 1, by omega, by go_num, fun j hj x => ?_⟩
            by_cases e : j = k
            · subst e; exact hb
            · exact hall j (by omega) x
          case measure => simp [intOf]; omega
    · have hy : inB a b = true := (inB_iff a b).2 fun j hj x => hall j (by omega) x
      clear hall
      go_wp2
      go_ret
      exact ⟨rfl, rfl⟩
end Go.Proofs.Ytlfeglljpfihhaa
