/- custodianref.Eq over two lists that hold the same: true; custodianref.MachineEq over two machines that are the same: true. -/
import Derived.Test.YtlfeglljpfihhaaRows
import Derived.Test.YtlfeglljpfihhaaKeyPure
import Derived.Test.YtlfeglljpfihhaaCellPure
import Derived.Test.YtlfeglljpfihhaaValsArg
import Derived.Test.YtlfeglljpfihhaaMemPure
import Derived.Test.YtlfeglljpfihhaaMachArg
import Derived.Test.YtlfeglljpfihhaaStepChk
import Derived.Test.YtlfeglljpfihhaaStepChk2
import Derived.Test.YtlfeglljpfihhaaMachMid
import Derived.WalkKit
import Derived.ProofKit
import Derived.OpenShut
import Derived.Deep.MidRow
import Derived.ChangeKeysEq
namespace Go.Proofs.Ytlfeglljpfihhaa
open Go.ChangeShapes Go.WideShapes Go.ChangeAt Go.RowKit
set_option linter.unusedSimpArgs false
set_option linter.unusedVariables false
set_option maxRecDepth 100000

set_option maxHeartbeats 2000000 in
theorem eq_nums (a b : Option Addr) (c d : Nat) (xs : List Int) (w : World) (ha : NumsAt w a xs) (hb : NumsAt w b xs) (hm : xs.length ≤ maxLen) :
    Calls Try.prog 15 #[.slice a xs.length c, .slice b xs.length d] w fun e w' => e = .returned (.bool true) ∧ w' = w := by
  have m1 : (xs.length : Int) ≤ 9223372036854775807 := by unfold maxLen at hm; omega
  have HA : Hid (NumsAt w a xs) := ha
  have HB : Hid (NumsAt w b xs) := hb
  clear ha hb
  go_enter Try.func15, Try.ntmps15
  go_wp2
  go_loop [14] (fun i => ∃ k : Nat, k ≤ xs.length ∧ i = .int .i64 (k : Int)) (fun i => xs.length - (intOf i).toNat)
  case atStart => exact ⟨0, Nat.zero_le _, rfl⟩
  case round =>
    obtain ⟨k, hk, rfl⟩ := hrel
    by_cases hlt : k < xs.length
    · have gk : (k : Int) < (xs.length : Int) := by omega
      obtain ⟨p, hp⟩ : ∃ p, xs[k]? = some p := ⟨_, List.getElem?_eq_getElem hlt⟩
      obtain ⟨B1, o1, e1, hB1, c0⟩ := HA.out.at hp
      obtain ⟨B2, o2, e2, hB2, d0⟩ := HB.out.at hp
      subst e1
      subst e2
      clear hp
      go_wp2
      go_round
      case rel => exact ⟨k + 1, by omega, rfl⟩
      case measure => simp [intOf]; omega
    · obtain rfl : k = xs.length := by omega
      have gk : ¬ (xs.length : Int) < (xs.length : Int) := by omega
      go_wp2
      go_ret
      exact ⟨rfl, rfl⟩

theorem regs_lit {x : MC} (h8 : x.r.length = 8) : ∃ v0 v1 v2 v3 v4 v5 v6 v7, x.r = [v0, v1, v2, v3, v4, v5, v6, v7] := by
  obtain ⟨r0, r1, r2, r3, r4, r5, r6, r7, h⟩ := list8 h8
  exact ⟨r0, r1, r2, r3, r4, r5, r6, r7, h⟩
/-- The registers, held against themselves. -/
theorem eql_regs (x : MC) (h8 : x.r.length = 8) (w : World) : (Op.equalIn 10000 26 (.agg (x.r.flatMap mvC).toArray) (.agg (x.r.flatMap mvC).toArray)).run Try.prog w = .ok true w := by
  obtain ⟨⟨i0, n0, p0, b0, l0, a0, s0⟩, ⟨i1, n1, p1, b1, l1, a1, s1⟩, ⟨i2, n2, p2, b2, l2, a2, s2⟩, ⟨i3, n3, p3, b3, l3, a3, s3⟩, ⟨i4, n4, p4, b4, l4, a4, s4⟩, ⟨i5, n5, p5, b5, l5, a5, s5⟩, ⟨i6, n6, p6, b6, l6, a6, s6⟩, ⟨i7, n7, p7, b7, l7, a7, s7⟩, h⟩ := regs_lit h8
  rw [h]
  obtain ⟨i, hi⟩ : ∃ i, Try.prog.info? 25 = some i := ⟨_, rfl⟩
  rw [show (10000 : Nat) = 9996 + 1 + 1 + 1 + 1 from rfl, run_equalIn_array w (9996 + 1 + 1 + 1) _ _ Try.underlying26 hi, cells_val]
  simp [Op.eqItems, List.range, List.range.loop, mvC, go_sem]
end Go.Proofs.Ytlfeglljpfihhaa
