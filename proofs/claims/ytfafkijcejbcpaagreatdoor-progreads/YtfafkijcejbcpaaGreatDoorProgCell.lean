/- package prog: readNumber, readCell, readJump, in one def each: what chapter 7 says of a line that is a cell. -/
import Derived.Test.YtfafkijcejbcpaaGreatDoorRows
import Derived.Test.YtfafkijcejbcpaaGreatDoorKeyPure
import Derived.Test.YtfafkijcejbcpaaGreatDoorShelf
import Derived.Test.YtfafkijcejbcpaaGreatDoorInstShape
import Derived.Test.YtfafkijcejbcpaaGreatDoorInstLaid
import Derived.Test.YtfafkijcejbcpaaGreatDoorInstDev
import Derived.Test.YtfafkijcejbcpaaGreatDoorTextPure
import Derived.Test.YtfafkijcejbcpaaGreatDoorParsePure
import Derived.Test.YtfafkijcejbcpaaGreatDoorInstText
import Derived.Test.YtfafkijcejbcpaaGreatDoorInstOp
import Derived.Test.YtfafkijcejbcpaaGreatDoorInstCut
import Derived.Test.YtfafkijcejbcpaaGreatDoorInstParse2
import Derived.Test.YtfafkijcejbcpaaGreatDoorProgPure
import Derived.Test.YtfafkijcejbcpaaGreatDoorProgSmall
import Derived.WalkKit
import Derived.ProofKit
namespace Go.Proofs.YtfafkijcejbcpaaGreatDoor
open Go.ChangeShapes Go.WideShapes Go.ChangeAt Go.RowKit
set_option linter.unusedSimpArgs false

theorem prog_atoi_ok (l : List UInt8) (v : Int) (h : Lib.atoiAll l = .ok v) (w : World) (hl : l.length ≤ 140737488351232) :
    Calls Tryz.prog 75 #[.string (bL l)] w fun e w' => e = .returned (.tuple #[.int .i64 v, .nilIface]) ∧ Below w.heap.size w w' := by
  have z : (bL l).size = l.length := bL_size l
  have d : (bL l).data.toList = l := bL_list l
  refine (Tryz.strconv_Atoi_ok (bL l) (by omega) v (by rw [d]; exact h) w).mono ?_
  rintro e w' ⟨rfl, hw⟩
  refine ⟨rfl, ?_⟩
  rcases hw with rfl | ⟨t, rfl⟩
  · exact Below.refl _ _
  · exact Lib.bytesWorld_below _ _ _
theorem prog_atoi_no (l : List UInt8) (h : ∀ v, ¬ Lib.atoiAll l = .ok v) (w : World) (hE : Er w) (hl : l.length ≤ 140737488351232) :
    Calls Tryz.prog 75 #[.string (bL l)] w fun e w' => (∃ (x : Int) (N : Nat), e = .returned (.tuple #[.int .i64 x, .iface 120 (.pointer (some ⟨N, 0, none⟩))])) ∧ Below w.heap.size w w' := by
  have z : (bL l).size = l.length := bL_size l
  have d : (bL l).data.toList = l := bL_list l
  cases h1 : Lib.atoiAll l with
  | ok v => exact absurd h1 (h v)
  | «syntax» =>
    obtain ⟨⟨tp, p, hv⟩, _⟩ := hE
    refine (Tryz.strconv_Atoi_syntax_var (bL l) (by omega) (by rw [d]; exact h1) tp p w hv).mono ?_
    rintro e w' ⟨N, rfl, _, _, hB⟩
    exact ⟨⟨_, N, rfl⟩, hB⟩
  | range =>
    obtain ⟨_, tp, p, hv⟩ := hE
    refine (Tryz.strconv_Atoi_range_var (bL l) (by omega) (by rw [d]; exact h1) tp p w hv).mono ?_
    rintro e w' ⟨N, rfl, _, _, hB⟩
    exact ⟨⟨_, N, rfl⟩, hB⟩
set_option maxRecDepth 100000 in
set_option maxHeartbeats 1000000 in
theorem prog_readNumber (l : List UInt8) (w : World) (hP : Pw w) (hE : Er w) (hl : l.length ≤ 140737488351232) :
    Calls Tryz.prog 63 #[.string (bL l)] w fun e w' => e = .returned (.tuple #[.int .i64 ((numR l).getD 0), .bool (numR l).isSome]) ∧ Below w.heap.size w w' := by
  by_cases hok : ∃ v, Lib.atoiAll l = .ok v
  · obtain ⟨v, hv⟩ := hok
    have cA := prog_atoi_ok l v hv w hl
    have cN := fun w => prog_isNumber v w
    by_cases hn : -2147483648 ≤ v ∧ v ≤ 2147483647
    · have cI := fun w hP => inst_itoa v w hP (by omega)
      rw [decide_eq_true hn] at cN
      by_cases hi : Lib.itoa v = l
      · have e2 := str_same (show bL (Lib.itoa v) = bL l by rw [hi])
        rw [numR_ok hv hn hi]
        generalize bL (Lib.itoa v) = T at *
        generalize bL l = S at *
        clear hv hi hn
        go_enter Tryz.func63, Tryz.ntmps63
        go_wp2_with (first | (go_at_call 75; refine cA.mono ?_; rintro e w1 ⟨rfl, hB1⟩) | (go_at_call 76; refine (cN _).mono ?_; rintro e w' ⟨rfl, rfl⟩) | (go_at_call 77; refine (cI _ (hP.below hB1)).mono ?_; rintro e w2 ⟨rfl, hbb⟩; have hB2 := Below.step0 hB1 hbb; clear hbb))
        go_ret2
        exact ⟨rfl, hB2⟩
      · have e2 := str_differ (fun h : bL (Lib.itoa v) = bL l => hi (bL_inj h))
        rw [numR_not hv (fun h => hi h.2)]
        generalize bL (Lib.itoa v) = T at *
        generalize bL l = S at *
        clear hv hi hn
        go_enter Tryz.func63, Tryz.ntmps63
        go_wp2_with (first | (go_at_call 75; refine cA.mono ?_; rintro e w1 ⟨rfl, hB1⟩) | (go_at_call 76; refine (cN _).mono ?_; rintro e w' ⟨rfl, rfl⟩) | (go_at_call 77; refine (cI _ (hP.below hB1)).mono ?_; rintro e w2 ⟨rfl, hbb⟩; have hB2 := Below.step0 hB1 hbb; clear hbb))
        go_ret2
        exact ⟨rfl, hB2⟩
    · rw [decide_eq_false hn] at cN
      rw [numR_not hv (fun h => hn h.1)]
      generalize bL l = S at *
      clear hv hn
      go_enter Tryz.func63, Tryz.ntmps63
      go_wp2_with (first | (go_at_call 75; refine cA.mono ?_; rintro e w1 ⟨rfl, hB1⟩) | (go_at_call 76; refine (cN _).mono ?_; rintro e w' ⟨rfl, rfl⟩))
      go_ret2
      exact ⟨rfl, hB1⟩
  · have cA := prog_atoi_no l (fun v h => hok ⟨v, h⟩) w hE hl
    rw [numR_none (fun v h => hok ⟨v, h⟩)]
    generalize bL l = S at *
    clear hok
    go_enter Tryz.func63, Tryz.ntmps63
    go_wp2_with (go_at_call 75; refine cA.mono ?_; rintro e w1 ⟨⟨x, N, rfl⟩, hB1⟩)
    go_ret2
    exact ⟨rfl, hB1⟩
set_option maxRecDepth 100000 in
set_option maxHeartbeats 1000000 in
theorem prog_readCell (l : List UInt8) (w : World) (hS : Shp w) (hP : Pw w) (hE : Er w) (hl : l.length ≤ 140737488351232) :
    Calls Tryz.prog 44 #[.string (bL l)] w fun e w' => e = .returned (.tuple #[.int .i64 ((cellL l).getD 0), .bool (cellL l).isSome]) ∧ Below w.heap.size w w' := by
  have cC := Tryz.strings_CutPrefix (bL l) ⟨#[119, 111, 114, 100, 32]⟩ w
  rw [bL_list] at cC
  change Calls _ _ _ _ fun e w' => e = .returned (.tuple #[.string (bL (Lib.trimPrefix l wd)), .bool (wd.isPrefixOf l)]) ∧ w' = w at cC
  unfold cellL
  by_cases hw : wd.isPrefixOf l = true
  · rw [if_pos hw]
    have ht : Lib.trimPrefix l wd = l.drop 5 := by unfold Lib.trimPrefix Lib.hasPrefix; rw [if_pos hw]; rfl
    rw [hw, ht] at cC
    have cN := fun w hP hE => prog_readNumber (l.drop 5) w hP hE (by rw [List.length_drop]; omega)
    generalize bL (l.drop 5) = T at *
    generalize bL l = S at *
    generalize numR (l.drop 5) = R at *
    clear hw ht
    go_enter Tryz.func44, Tryz.ntmps44
    go_wp2_with (first | (go_at_call 62; refine cC.mono ?_; rintro e w' ⟨rfl, rfl⟩) | (go_at_call 63; refine (cN _ hP hE).mono ?_; rintro e w1 ⟨rfl, hB1⟩))
    go_ret2
    exact ⟨rfl, hB1⟩
  · have hw' : wd.isPrefixOf l = false := Bool.eq_false_iff.2 hw
    have ht : Lib.trimPrefix l wd = l := by unfold Lib.trimPrefix Lib.hasPrefix; rw [if_neg hw]
    rw [hw', ht] at cC
    rw [if_neg hw]
    have cP := fun w hS hP hE => inst_parse l w hS hP hE hl _ rfl
    rcases parse_cases l with ⟨h1, _⟩ | ⟨h1, h2, _⟩
    · rw [h1] at cP ⊢
      generalize bL l = S at *
      clear hw ht hw'
      go_enter Tryz.func44, Tryz.ntmps44
      go_wp2_with (first | (go_at_call 62; refine cC.mono ?_; rintro e w' ⟨rfl, rfl⟩) | (go_at_call 64; refine (cP _ hS hP hE).mono ?_; rintro e w1 ⟨rfl, hB1⟩))
      go_ret2
      exact ⟨rfl, hB1.alloc hB1.size _⟩
    · rw [if_pos h1]
      have cK := fun w hS => inst_pack (parseD l).o (parseD l).a (parseD l).b (parseD l).c w hS
      unfold packD at cK
      rw [if_pos h2, h2] at cK
      rw [h1] at cP
      generalize numD (parseD l).o (parseD l).a (parseD l).b (parseD l).c = R at *
      clear h1 h2
      generalize (parseD l).o = O at *
      generalize (parseD l).a = A at *
      generalize (parseD l).b = B at *
      generalize (parseD l).c = C at *
      generalize bL l = S at *
      clear hw ht hw'
      go_enter Tryz.func44, Tryz.ntmps44
      go_wp2_with (first | (go_at_call 62; refine cC.mono ?_; rintro e w' ⟨rfl, rfl⟩) | (go_at_call 64; refine (cP _ hS hP hE).mono ?_; rintro e w1 ⟨rfl, hB1⟩; have hb1 := hB1.alloc hB1.size (.cells #[.int .i64 O, .int .i64 A, .int .i64 B, .int .i64 C] 43)) | (go_at_call 28; refine (cK _ (hS.below hb1)).mono ?_; rintro e w2 ⟨rfl, hbb⟩; have hB2 := Below.step0 hb1 hbb; clear hbb))
      go_ret2
      exact ⟨rfl, hB2⟩
end Go.Proofs.YtfafkijcejbcpaaGreatDoor
