/- package inst: opOf. -/
import Derived.Test.YtfafkijcejbcpaaGreatDoorRows
import Derived.Test.YtfafkijcejbcpaaGreatDoorKeyPure
import Derived.Test.YtfafkijcejbcpaaGreatDoorInstShape
import Derived.Test.YtfafkijcejbcpaaGreatDoorInstDev
import Derived.Test.YtfafkijcejbcpaaGreatDoorTextPure
import Derived.Test.YtfafkijcejbcpaaGreatDoorParsePure
import Derived.WalkKit
import Derived.ProofKit
import Derived.Deep.MidRow
namespace Go.Proofs.YtfafkijcejbcpaaGreatDoor
open Go.ChangeShapes Go.WideShapes Go.ChangeAt Go.RowKit
set_option linter.unusedSimpArgs false

theorem sh_index : ∀ (k : Nat) (_ : k < 23) (w : World), (Instr.index 93 (.agg shArr) (.int .i64 (k : Int))).run Tryz.prog w = .ok (.agg #[.string (bL (shW k)), .int .i64 (shA k), .int .i64 (shB k), .int .i64 (shC k)]) w
  | 0, _, _ => by kernel_rfl
  | 1, _, _ => by kernel_rfl
  | 2, _, _ => by kernel_rfl
  | 3, _, _ => by kernel_rfl
  | 4, _, _ => by kernel_rfl
  | 5, _, _ => by kernel_rfl
  | 6, _, _ => by kernel_rfl
  | 7, _, _ => by kernel_rfl
  | 8, _, _ => by kernel_rfl
  | 9, _, _ => by kernel_rfl
  | 10, _, _ => by kernel_rfl
  | 11, _, _ => by kernel_rfl
  | 12, _, _ => by kernel_rfl
  | 13, _, _ => by kernel_rfl
  | 14, _, _ => by kernel_rfl
  | 15, _, _ => by kernel_rfl
  | 16, _, _ => by kernel_rfl
  | 17, _, _ => by kernel_rfl
  | 18, _, _ => by kernel_rfl
  | 19, _, _ => by kernel_rfl
  | 20, _, _ => by kernel_rfl
  | 21, _, _ => by kernel_rfl
  | 22, _, _ => by kernel_rfl
  | k + 23, h, _ => absurd h (by omega)
theorem sh_range {w : World} (hS : Shp w) : w.rangeAt 1 0 (shCells shL) := fun j v hv => by
  rw [Nat.zero_add, hS.2 j]
  unfold shArr
  rw [List.getElem?_toArray]
  exact hv
theorem op_found (l : List UInt8) (k : Nat) (hk : k < 23) (h1 : shW k = l) (h2 : ∀ j, j < k → ¬ shW j = l) : opL l = k := by
  subst h1
  exact op_word k hk
theorem op_none (l : List UInt8) (h2 : ∀ j, j < 23 → ¬ shW j = l) : opL l = 23 := by
  unfold opL
  have z : shL.length = 23 := rfl
  rw [← z]
  refine List.findIdx_eq_length.2 fun r hr => ?_
  rw [decide_eq_false_iff_not]
  intro e
  obtain ⟨j, hj, he⟩ := List.mem_iff_getElem.1 hr
  have hj' : j < 23 := hj
  refine h2 j hj' ?_
  have ha := sh_at j hj'
  rw [List.getElem?_eq_getElem hj] at ha
  unfold shW
  rw [← Option.some.inj ha, he]
  exact e
theorem str_same {a b : ByteArray} (h : a = b) : (a.toList == b.toList) = true := by rw [h]; simp
theorem str_differ {a b : ByteArray} (h : ¬ a = b) : (a.toList == b.toList) = false := by
  rw [ByteArray.toList_eq, ByteArray.toList_eq, beq_eq_false_iff_ne]
  intro e
  exact h (bytes_inj e)
set_option maxHeartbeats 4000000 in
set_option maxRecDepth 100000 in
theorem inst_opof (l : List UInt8) (w : World) (hS : Shp w) :
    Calls Tryz.prog 90 #[.string (bL l)] w fun e w' => e = .returned (.int .i64 (opL l : Nat)) ∧ Below w.heap.size w w' := by
  have hR := sh_range hS
  go_enter Tryz.func90, Tryz.ntmps90
  iterate 12 go_step
  refine wpList_load_mid rfl 93 (.global 1) rfl 1 0 (by rfl) (shCells shL) _ hR Tryz.underlying93 rfl (by kernel_rfl) ?_
  have eA : (shCells shL).toArray = shArr := rfl
  rw [eA]
  have HX : Hid (∀ (k : Nat), k < 23 → ∀ w : World, (Instr.index 93 (.agg shArr) (.int .i64 (k : Int))).run Tryz.prog w = .ok (.agg #[.string (bL (shW k)), .int .i64 (shA k), .int .i64 (shB k), .int .i64 (shC k)]) w) := sh_index
  clear eA hR hS
  generalize shArr = SH at *
  go_wp2
  go_loopw [6] (fun i wr => ∃ k : Nat, k ≤ 23 ∧ i = .int .i64 (k : Int) ∧ Below w.heap.size w wr ∧ ∀ j, j < k → ¬ shW j = l) (fun i _ => 23 - (intOf i).toNat)
  case atStart => exact ⟨0, by omega, rfl, Below.refl _ _, fun j hj => by omega⟩
  case round =>
    obtain ⟨k, hk, rfl, hB, hno⟩ := hrel
    by_cases hlt : k < 23
    case neg =>
      have hk' : k = 23 := by omega
      subst hk'
      have HE : Hid (opL l = 23) := op_none l hno
      clear hno
      go_wp2
      go_ret
      exact ⟨by rw [HE.out]; rfl, hB⟩
    have ix := HX.out k hlt
    have kI : (k : Int) < 23 := by omega
    by_cases hw : shW k = l
    · have HE : Hid (opL l = k) := op_found l k hlt hw hno
      have e2 := str_same (show bL (shW k) = bL l by rw [hw])
      clear hno hw
      go_wp2
      go_ret
      exact ⟨by rw [HE.out]; rfl, hB.alloc hB.size _⟩
    · have e2 := str_differ (fun h : bL (shW k) = bL l => hw (bL_inj h))
      have hno' : ∀ j, j < k + 1 → ¬ shW j = l := fun j hj => by
        rcases Nat.lt_or_ge j k with h | h
        · exact hno j h
        · rw [show j = k by omega]; exact hw
      have HN : Hid (∀ j, j < k + 1 → ¬ shW j = l) := hno'
      clear hno hw hno'
      go_wp2
      go_roundw
      case rel => exact ⟨k + 1, by omega, by go_num, hB.alloc hB.size _, HN.out⟩
      case measure => simp [intOf]; omega
end Go.Proofs.YtfafkijcejbcpaaGreatDoor
