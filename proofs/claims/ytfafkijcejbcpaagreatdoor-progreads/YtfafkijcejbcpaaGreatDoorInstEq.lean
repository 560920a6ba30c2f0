/- Chapter 6 by the project's own table and by the document's: the same. -/
import Derived.Test.YtfafkijcejbcpaaGreatDoorRows
import Derived.Test.YtfafkijcejbcpaaGreatDoorInstDev
import Derived.Test.YtfafkijcejbcpaaGreatDoorInstRef2
import Derived.WalkKit
import Derived.ProofKit
namespace Go.Proofs.YtfafkijcejbcpaaGreatDoor
open Go.ChangeShapes Go.WideShapes Go.ChangeAt Go.RowKit

theorem lims_sh : ∀ n : Nat, n < 23 → lims n ((wordsB n).length - 1) = (kHi (shA n), kHi (shB n), kLo (shC n), kHi (shC n)) ∧ kLo (shA n) = 0 ∧ kLo (shB n) = 0 := by decide +kernel
theorem chk_eq (o a b c : Int) : chkD o a b c = chkI o a b c := by
  unfold chkD chkI
  by_cases ho : 0 ≤ o ∧ o ≤ 22
  · rw [if_pos ho, if_pos ho]
    obtain ⟨h1, h2, h3⟩ := lims_sh o.toNat (by omega)
    unfold chkN fin
    rw [h1]
    dsimp only
    unfold fin4 kMay outB
    rw [h2, h3]
    by_cases ha : 0 ≤ a ∧ a ≤ kHi (shA o.toNat)
    · by_cases hb : 0 ≤ b ∧ b ≤ kHi (shB o.toNat)
      · by_cases hc : kLo (shC o.toNat) ≤ c ∧ c ≤ kHi (shC o.toNat)
        · rw [if_pos ⟨decide_eq_true ha, decide_eq_true hb, decide_eq_true hc⟩, decide_eq_false (by omega), decide_eq_false (by omega), decide_eq_false (by omega)]
          rfl
        · rw [if_neg (fun h => hc (of_decide_eq_true h.2.2)), decide_eq_false (by omega), decide_eq_false (by omega), decide_eq_true (by omega)]
          rfl
      · rw [if_neg (fun h => hb (of_decide_eq_true h.2.1)), decide_eq_false (by omega), decide_eq_true (show b < 0 ∨ kHi (shB o.toNat) < b by omega)]
        rfl
    · rw [if_neg (fun h => ha (of_decide_eq_true h.1)), decide_eq_true (show a < 0 ∨ kHi (shA o.toNat) < a by omega)]
      rfl
  · rw [if_neg ho, if_neg ho]
theorem pack_eq (o a b c : Int) : packD o a b c = packI o a b c := by
  unfold packD packI
  rw [chk_eq]
  rfl
theorem read_eq (n : Int) : (readD n).o = (readI n).o ∧ (readD n).a = (readI n).a ∧ (readD n).b = (readI n).b ∧ (readD n).c = (readI n).c ∧ (readD n).e = (readI n).e := by
  unfold readD readI
  rw [chk_eq]
  by_cases hn : 0 ≤ n ∧ n ≤ 8388607
  · rw [if_pos hn]
    split <;> exact ⟨rfl, rfl, rfl, rfl, rfl⟩
  · rw [if_neg hn]
    by_cases hc : chkI (n % 32) (n / 32 % 8) (n / 256 % 8) (n / 2048 - 2048) = 0
    · have := chk_ok hc
      omega
    · rw [if_neg hc]
      exact ⟨rfl, rfl, rfl, rfl, rfl⟩
end Go.Proofs.YtfafkijcejbcpaaGreatDoor
