/- custodianref.Eq over two lists of numbers: are they the same? -/
import Derived.Test.YtfafkijcejbcpaaGreatDoorRows
import Derived.Test.YtfafkijcejbcpaaGreatDoorKeyPure
import Derived.Test.YtfafkijcejbcpaaGreatDoorInstArg
import Derived.Test.YtfafkijcejbcpaaGreatDoorIntsArg
import Derived.Test.YtfafkijcejbcpaaGreatDoorProgState
import Derived.Test.YtfafkijcejbcpaaGreatDoorProgLabel
import Derived.WalkKit
import Derived.ProofKit
namespace Go.Proofs.YtfafkijcejbcpaaGreatDoor
open Go.ChangeShapes Go.WideShapes Go.ChangeAt Go.RowKit
set_option linter.unusedSimpArgs false

theorem own_ints {w : World} {base : Nat} {v : Value} {xs : List Int} {n : Nat} (hn : n = xs.length) (h : w.ownsRow base 3 1 v n (xs.map inC)) : ∃ a c, v = .slice a n c ∧ IntsAt w a xs := by
  subst hn
  rcases own_cells h with ⟨h0, _⟩ | ⟨g, cap, rfl, hg, _, hc⟩
  · obtain ⟨a, c, rfl⟩ := own_slice h
    exact ⟨a, c, rfl, .inl h0⟩
  · refine ⟨_, _, rfl, .inr ⟨g, 0, rfl, hg, fun i hi => ?_⟩⟩
    rw [Nat.zero_add]
    refine hc i _ ?_
    rw [List.getElem?_map, List.getElem?_eq_getElem hi, List.getD_eq_getElem?_getD, List.getElem?_eq_getElem hi]
    rfl
theorem drop_at {α : Type} {xs : List α} {k : Nat} (d : α) (h : k < xs.length) : xs.drop k = xs.getD k d :: xs.drop (k + 1) := by
  rw [List.drop_eq_getElem_cons h, List.getD_eq_getElem?_getD, List.getElem?_eq_getElem h]
  rfl
set_option maxRecDepth 100000 in
set_option maxHeartbeats 2000000 in
theorem ref_eq (a b : Option Addr) (c d : Nat) (xs ys : List Int) (w : World) (ha : IntsAt w a xs) (hb : IntsAt w b ys) (hm : xs.length ≤ maxLen) (hm2 : ys.length ≤ maxLen) :
    Calls Tryz.prog 6 #[.slice a xs.length c, .slice b ys.length d] w fun e w' => e = .returned (.bool (decide (xs = ys))) ∧ w' = w := by
  have m1 : (xs.length : Int) ≤ 9223372036854775807 := by unfold maxLen at hm; omega
  have m2 : (ys.length : Int) ≤ 9223372036854775807 := by unfold maxLen at hm2; omega
  by_cases hl : xs.length = ys.length
  · rw [← hl] at m2 ⊢
    go_enter Tryz.func6, Tryz.ntmps6
    go_wp2
    go_loopw [14] (fun i wr => ∃ k : Nat, k ≤ xs.length ∧ i = .int .i64 (k : Int) ∧ wr = w ∧ (xs = ys ↔ xs.drop k = ys.drop k)) (fun i _ => xs.length - (intOf i).toNat)
    case atStart => exact ⟨0, Nat.zero_le _, rfl, rfl, Iff.rfl⟩
    case round =>
      obtain ⟨k, hk, rfl, rfl, hiff⟩ := hrel
      by_cases hlt : k < xs.length
      · have gk : (k : Int) < (xs.length : Int) := by omega
        rcases ha with h0 | ⟨B1, o1, rfl, hB1, hc1⟩
        · omega
        rcases hb with h0 | ⟨B2, o2, rfl, hB2, hc2⟩
        · omega
        have d1 := hc1 k hlt
        have d2 := hc2 k (by omega)
        rw [drop_at 0 hlt, drop_at 0 (show k < ys.length by omega)] at hiff
        generalize xs.getD k 0 = x at *
        generalize ys.getD k 0 = y at *
        by_cases hxy : x = y
        · subst hxy
          have HI : Hid (xs = ys ↔ xs.drop (k + 1) = ys.drop (k + 1)) := hiff.trans ⟨fun h => (List.cons.inj h).2, fun h => by rw [h]⟩
          clear hiff hc1 hc2
          go_wp2
          go_roundw
          case rel => exact ⟨k + 1, by omega, rfl, trivial, HI.out⟩
          case measure => simp [intOf]; omega
        · have gx : (x != y) = true := by simpa using hxy
          have hne : ¬ xs = ys := fun h => hxy (List.cons.inj (hiff.1 h)).1
          have HD : Hid (decide (xs = ys) = false) := decide_eq_false hne
          clear hiff hc1 hc2 hne
          go_wp2
          go_ret
          exact ⟨by rw [HD.out]; rfl, rfl⟩
      · obtain rfl : k = xs.length := by omega
        have gk : ¬ (xs.length : Int) < (xs.length : Int) := by omega
        rw [List.drop_length, List.drop_of_length_le (by omega)] at hiff
        have HD : Hid (decide (xs = ys) = true) := decide_eq_true (hiff.2 rfl)
        clear hiff
        go_wp2
        go_ret
        exact ⟨by rw [HD.out]; rfl, rfl⟩
  · have gl : ((xs.length : Int) != (ys.length : Int)) = true := by simp; omega
    rw [decide_eq_false (fun h => hl (by rw [h]))]
    go_enter Tryz.func6, Tryz.ntmps6
    go_wp2
    go_ret
    exact ⟨rfl, rfl⟩
end Go.Proofs.YtfafkijcejbcpaaGreatDoor
