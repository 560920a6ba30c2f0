/- An instruction is read and parsed as it was packed and told; what is read or parsed is packed and told so; with an error all else is zero: for every input (the laid variables of the row are tied to the program's text by the card). -/
import Derived.Test.YtdambfcgiggiiaaDoorRows
import Derived.Test.YtdambfcgiggiiaaDoorCards
import Derived.Test.YtdambfcgiggiiaaDoorTie
import Derived.Test.YtdambfcgiggiiaaDoorCardBase
import Derived.Test.YtdambfcgiggiiaaDoorInstShape
import Derived.Test.YtdambfcgiggiiaaDoorInstLaid
import Derived.Test.YtdambfcgiggiiaaDoorInstArg
import Derived.ChangeMaps5
import Derived.Test.YtdambfcgiggiiaaDoorInstDev
import Derived.Test.YtdambfcgiggiiaaDoorTextPure
import Derived.Test.YtdambfcgiggiiaaDoorParsePure
import Derived.Test.YtdambfcgiggiiaaDoorInstText
import Derived.Test.YtdambfcgiggiiaaDoorInstOp
import Derived.Test.YtdambfcgiggiiaaDoorInstParse2
import Derived.WalkKit
import Derived.ProofKit
import Derived.OpenShut
import Derived.Deep.DeepHandedRow
import Derived.Deep.DeepWitnessRowRef
import Derived.Lay
import Derived.MakeChecks
import Derived.SizedLaws
import Derived.Lib.LaidTab
namespace Go.Proofs.YtdambfcgiggiiaaDoor.instBack
open Go.ChangeShapes Go.WideShapes Go.ChangeAt Go.RowKit
open Go.ChangeMaps
set_option linter.unusedVariables false
set_option linter.unusedSimpArgs false

theorem own : ownKnob Tryd.prog.godebug = none := by kernel_rfl

theorem read_num {o a b c : Int} (h : chkD o a b c = 0) : readD (numD o a b c) = ⟨o, a, b, c, 0⟩ := by
  have r := chkD_ok h
  have e1 : numD o a b c % 32 = o := by unfold numD; omega
  have e2 : numD o a b c / 32 % 8 = a := by unfold numD; omega
  have e3 : numD o a b c / 256 % 8 = b := by unfold numD; omega
  have e4 : numD o a b c / 2048 - 2048 = c := by unfold numD; omega
  unfold readD
  rw [e1, e2, e3, e4]
  exact if_pos h
theorem num_b {o a b c : Int} (h : chkD o a b c = 0) : -9223372036854775808 ≤ numD o a b c ∧ numD o a b c ≤ 9223372036854775807 := by
  have r := chkD_ok h
  unfold numD
  omega
theorem read_cases (n : Int) : readD n = ⟨0, 0, 0, 0, 5⟩ ∨ ((readD n).e = 0 ∧ chkD (readD n).o (readD n).a (readD n).b (readD n).c = 0 ∧ numD (readD n).o (readD n).a (readD n).b (readD n).c = n) := by
  unfold readD
  split
  · rename_i h
    refine Or.inr ⟨rfl, h, ?_⟩
    show numD (n % 32) (n / 32 % 8) (n / 256 % 8) (n / 2048 - 2048) = n
    unfold numD
    omega
  · exact Or.inl rfl
theorem pack_ok {o a b c : Int} (h : chkD o a b c = 0) : packD o a b c = numD o a b c := by unfold packD; rw [if_pos h]
theorem text_ok {o a b c : Int} (h : chkD o a b c = 0) : textD o a b c = textL o.toNat a b c := by unfold textD; rw [if_pos h]
theorem chk0 : chkD 0 0 0 0 = 0 := by decide
theorem word_ne : ∀ n : Nat, n < 23 → ¬ shW n = [] := by decide +kernel
theorem text_ne {o a b c : Int} (h : chkD o a b c = 0) : ¬ bL (textL o.toNat a b c) = ⟨#[]⟩ := by
  intro e
  have e2 : textL o.toNat a b c = [] := bL_inj (e.trans (show (⟨#[]⟩ : ByteArray) = bL [] from rfl))
  have r := chkD_ok h
  unfold textL at e2
  have := List.append_eq_nil_iff.1 (List.append_eq_nil_iff.1 (List.append_eq_nil_iff.1 e2).1).1
  exact word_ne o.toNat (by omega) this.1
theorem text_len2 (n : Nat) (hn : n < 23) (a b c : Int) (hb : (-1000000 < a ∧ a < 1000000) ∧ (-1000000 < b ∧ b < 1000000) ∧ -1000000 < c ∧ c < 1000000) : (textL n a b c).length ≤ 75 := by
  unfold textL
  have h0 := word_len n hn
  have h1 := tell_len (shA n) a (by omega)
  have h2 := tell_len (shB n) b (by omega)
  have h3 := tell_len (shC n) c (by omega)
  simp only [List.length_append]
  omega
set_option maxHeartbeats 4000000 in
set_option maxRecDepth 1000000 in
theorem back_nnn (a0o a0a a0b a0c a1 : Int) (a2 : ByteArray) (X K0 Q uo ua ub uc vo va vb vc : Int) (T R : ByteArray) (hK : (K0 == 0) = false) (w : World) (hS : Shp w) (hP : Pw w) (hE : Er w)
    (C1 : ∀ w : World, Shp w → Calls Tryd.prog 9 #[.agg #[.int .i64 a0o, .int .i64 a0a, .int .i64 a0b, .int .i64 a0c]] w fun e w' => e = .returned (.tuple #[.int .i64 X, .int .i64 K0]) ∧ Below w.heap.size w w')
    (C2 : ∀ w : World, Shp w → Pw w → Calls Tryd.prog 15 #[.agg #[.int .i64 a0o, .int .i64 a0a, .int .i64 a0b, .int .i64 a0c]] w fun e w' => e = .returned (.tuple #[.string T, .int .i64 K0]) ∧ Below w.heap.size w w')
    (C3 : ∀ w : World, Shp w → Calls Tryd.prog 11 #[.agg #[.int .i64 a0o, .int .i64 a0a, .int .i64 a0b, .int .i64 a0c]] w fun e w' => e = .returned (.int .i64 K0) ∧ Below w.heap.size w w')
    (C6 : ∀ w : World, Shp w → Calls Tryd.prog 13 #[.int .i64 a1] w fun e w' => e = .returned (.tuple #[.agg #[.int .i64 0, .int .i64 0, .int .i64 0, .int .i64 0], .int .i64 5]) ∧ Below w.heap.size w w')
    (C7 : ∀ w : World, Shp w → Calls Tryd.prog 9 #[.agg #[.int .i64 0, .int .i64 0, .int .i64 0, .int .i64 0]] w fun e w' => e = .returned (.tuple #[.int .i64 Q, .int .i64 0]) ∧ Below w.heap.size w w')
    (C8 : ∀ w : World, Shp w → Pw w → Er w → Calls Tryd.prog 17 #[.string a2] w fun e w' => e = .returned (.tuple #[.agg #[.int .i64 0, .int .i64 0, .int .i64 0, .int .i64 0], .int .i64 3]) ∧ Below w.heap.size w w')
    (C9 : ∀ w : World, Shp w → Pw w → Calls Tryd.prog 15 #[.agg #[.int .i64 0, .int .i64 0, .int .i64 0, .int .i64 0]] w fun e w' => e = .returned (.tuple #[.string R, .int .i64 0]) ∧ Below w.heap.size w w') :
    Calls Tryd.prog 8 #[.agg #[.int .i64 a0o, .int .i64 a0a, .int .i64 a0b, .int .i64 a0c], .int .i64 a1, .string a2] w fun e w' => e = .returned (.bool true) ∧ Below w.heap.size w w' := by
  have Bi := Box.new w #[.int .i64 a0o, .int .i64 a0a, .int .i64 a0b, .int .i64 a0c] 23
  have hB := Below.one w (.cells #[.int .i64 a0o, .int .i64 a0a, .int .i64 a0b, .int .i64 a0c] 23)
  have qBi := Bi.cell
  go_enter Tryd.func8, Tryd.ntmps8
  go_wp2_with (first | (go_at_call 9; first | (refine (C1 _ (hS.below hB)).mono ?_; clear C1; rintro e w1 ⟨rfl, hbb⟩; clear qBi; replace Bi := Bi.below hbb; replace hB := Below.step0 hB hbb; clear hbb; have qBi := Bi.cell) | (refine (C7 _ (hS.below hB)).mono ?_; clear C7; rintro e w5 ⟨rfl, hbb⟩; clear qBi qBu; replace Bi := Bi.below hbb; replace Bu := Bu.below hbb; replace hB := Below.step0 hB hbb; clear hbb; have qBi := Bi.cell; have qBu := Bu.cell)) | (go_at_call 15; first | (refine (C2 _ (hS.below hB) (hP.below hB)).mono ?_; clear C2; rintro e w2 ⟨rfl, hbb⟩; clear qBi; replace Bi := Bi.below hbb; replace hB := Below.step0 hB hbb; clear hbb; have qBi := Bi.cell) | (refine (C9 _ (hS.below hB) (hP.below hB)).mono ?_; clear C9; rintro e w7 ⟨rfl, hbb⟩; clear qBi qBu qBv; replace Bi := Bi.below hbb; replace Bu := Bu.below hbb; replace Bv := Bv.below hbb; replace hB := Below.step0 hB hbb; clear hbb; have qBi := Bi.cell; have qBu := Bu.cell; have qBv := Bv.cell)) | (go_at_call 11; first | (refine (C3 _ (hS.below hB)).mono ?_; clear C3; rintro e w3 ⟨rfl, hbb⟩; clear qBi; replace Bi := Bi.below hbb; replace hB := Below.step0 hB hbb; clear hbb; have qBi := Bi.cell)) | (go_at_call 13; first | (refine (C6 _ (hS.below hB)).mono ?_; clear C6; rintro e w4 ⟨rfl, hbb⟩; clear qBi; replace Bi := Bi.below hbb; replace hB := Below.step0 hB hbb; clear hbb; replace Bi := Bi.alloc (.cells #[.int .i64 0, .int .i64 0, .int .i64 0, .int .i64 0] 23); have Bu := Box.new w4 #[.int .i64 0, .int .i64 0, .int .i64 0, .int .i64 0] 23; replace hB := hB.alloc hB.size (.cells #[.int .i64 0, .int .i64 0, .int .i64 0, .int .i64 0] 23); have qBi := Bi.cell; have qBu := Bu.cell)) | (go_at_call 17; first | (refine (C8 _ (hS.below hB) (hP.below hB) (hE.below hB)).mono ?_; clear C8; rintro e w6 ⟨rfl, hbb⟩; clear qBi qBu; replace Bi := Bi.below hbb; replace Bu := Bu.below hbb; replace hB := Below.step0 hB hbb; clear hbb; replace Bi := Bi.alloc (.cells #[.int .i64 0, .int .i64 0, .int .i64 0, .int .i64 0] 23); replace Bu := Bu.alloc (.cells #[.int .i64 0, .int .i64 0, .int .i64 0, .int .i64 0] 23); have Bv := Box.new w6 #[.int .i64 0, .int .i64 0, .int .i64 0, .int .i64 0] 23; replace hB := hB.alloc hB.size (.cells #[.int .i64 0, .int .i64 0, .int .i64 0, .int .i64 0] 23); have qBi := Bi.cell; have qBu := Bu.cell; have qBv := Bv.cell)))
  go_ret
  exact ⟨rfl, hB⟩
set_option maxHeartbeats 4000000 in
set_option maxRecDepth 1000000 in
theorem back_nny (a0o a0a a0b a0c a1 : Int) (a2 : ByteArray) (X K0 Q uo ua ub uc vo va vb vc : Int) (T R : ByteArray) (hK : (K0 == 0) = false) (w : World) (hS : Shp w) (hP : Pw w) (hE : Er w)
    (C1 : ∀ w : World, Shp w → Calls Tryd.prog 9 #[.agg #[.int .i64 a0o, .int .i64 a0a, .int .i64 a0b, .int .i64 a0c]] w fun e w' => e = .returned (.tuple #[.int .i64 X, .int .i64 K0]) ∧ Below w.heap.size w w')
    (C2 : ∀ w : World, Shp w → Pw w → Calls Tryd.prog 15 #[.agg #[.int .i64 a0o, .int .i64 a0a, .int .i64 a0b, .int .i64 a0c]] w fun e w' => e = .returned (.tuple #[.string T, .int .i64 K0]) ∧ Below w.heap.size w w')
    (C3 : ∀ w : World, Shp w → Calls Tryd.prog 11 #[.agg #[.int .i64 a0o, .int .i64 a0a, .int .i64 a0b, .int .i64 a0c]] w fun e w' => e = .returned (.int .i64 K0) ∧ Below w.heap.size w w')
    (C6 : ∀ w : World, Shp w → Calls Tryd.prog 13 #[.int .i64 a1] w fun e w' => e = .returned (.tuple #[.agg #[.int .i64 0, .int .i64 0, .int .i64 0, .int .i64 0], .int .i64 5]) ∧ Below w.heap.size w w')
    (C7 : ∀ w : World, Shp w → Calls Tryd.prog 9 #[.agg #[.int .i64 0, .int .i64 0, .int .i64 0, .int .i64 0]] w fun e w' => e = .returned (.tuple #[.int .i64 Q, .int .i64 0]) ∧ Below w.heap.size w w')
    (C8 : ∀ w : World, Shp w → Pw w → Er w → Calls Tryd.prog 17 #[.string a2] w fun e w' => e = .returned (.tuple #[.agg #[.int .i64 vo, .int .i64 va, .int .i64 vb, .int .i64 vc], .int .i64 0]) ∧ Below w.heap.size w w')
    (C9 : ∀ w : World, Shp w → Pw w → Calls Tryd.prog 15 #[.agg #[.int .i64 vo, .int .i64 va, .int .i64 vb, .int .i64 vc]] w fun e w' => e = .returned (.tuple #[.string a2, .int .i64 0]) ∧ Below w.heap.size w w') :
    Calls Tryd.prog 8 #[.agg #[.int .i64 a0o, .int .i64 a0a, .int .i64 a0b, .int .i64 a0c], .int .i64 a1, .string a2] w fun e w' => e = .returned (.bool true) ∧ Below w.heap.size w w' := by
  have Bi := Box.new w #[.int .i64 a0o, .int .i64 a0a, .int .i64 a0b, .int .i64 a0c] 23
  have hB := Below.one w (.cells #[.int .i64 a0o, .int .i64 a0a, .int .i64 a0b, .int .i64 a0c] 23)
  have qBi := Bi.cell
  go_enter Tryd.func8, Tryd.ntmps8
  go_wp2_with (first | (go_at_call 9; first | (refine (C1 _ (hS.below hB)).mono ?_; clear C1; rintro e w1 ⟨rfl, hbb⟩; clear qBi; replace Bi := Bi.below hbb; replace hB := Below.step0 hB hbb; clear hbb; have qBi := Bi.cell) | (refine (C7 _ (hS.below hB)).mono ?_; clear C7; rintro e w5 ⟨rfl, hbb⟩; clear qBi qBu; replace Bi := Bi.below hbb; replace Bu := Bu.below hbb; replace hB := Below.step0 hB hbb; clear hbb; have qBi := Bi.cell; have qBu := Bu.cell)) | (go_at_call 15; first | (refine (C2 _ (hS.below hB) (hP.below hB)).mono ?_; clear C2; rintro e w2 ⟨rfl, hbb⟩; clear qBi; replace Bi := Bi.below hbb; replace hB := Below.step0 hB hbb; clear hbb; have qBi := Bi.cell) | (refine (C9 _ (hS.below hB) (hP.below hB)).mono ?_; clear C9; rintro e w7 ⟨rfl, hbb⟩; clear qBi qBu qBv; replace Bi := Bi.below hbb; replace Bu := Bu.below hbb; replace Bv := Bv.below hbb; replace hB := Below.step0 hB hbb; clear hbb; have qBi := Bi.cell; have qBu := Bu.cell; have qBv := Bv.cell)) | (go_at_call 11; first | (refine (C3 _ (hS.below hB)).mono ?_; clear C3; rintro e w3 ⟨rfl, hbb⟩; clear qBi; replace Bi := Bi.below hbb; replace hB := Below.step0 hB hbb; clear hbb; have qBi := Bi.cell)) | (go_at_call 13; first | (refine (C6 _ (hS.below hB)).mono ?_; clear C6; rintro e w4 ⟨rfl, hbb⟩; clear qBi; replace Bi := Bi.below hbb; replace hB := Below.step0 hB hbb; clear hbb; replace Bi := Bi.alloc (.cells #[.int .i64 0, .int .i64 0, .int .i64 0, .int .i64 0] 23); have Bu := Box.new w4 #[.int .i64 0, .int .i64 0, .int .i64 0, .int .i64 0] 23; replace hB := hB.alloc hB.size (.cells #[.int .i64 0, .int .i64 0, .int .i64 0, .int .i64 0] 23); have qBi := Bi.cell; have qBu := Bu.cell)) | (go_at_call 17; first | (refine (C8 _ (hS.below hB) (hP.below hB) (hE.below hB)).mono ?_; clear C8; rintro e w6 ⟨rfl, hbb⟩; clear qBi qBu; replace Bi := Bi.below hbb; replace Bu := Bu.below hbb; replace hB := Below.step0 hB hbb; clear hbb; replace Bi := Bi.alloc (.cells #[.int .i64 vo, .int .i64 va, .int .i64 vb, .int .i64 vc] 23); replace Bu := Bu.alloc (.cells #[.int .i64 vo, .int .i64 va, .int .i64 vb, .int .i64 vc] 23); have Bv := Box.new w6 #[.int .i64 vo, .int .i64 va, .int .i64 vb, .int .i64 vc] 23; replace hB := hB.alloc hB.size (.cells #[.int .i64 vo, .int .i64 va, .int .i64 vb, .int .i64 vc] 23); have qBi := Bi.cell; have qBu := Bu.cell; have qBv := Bv.cell)))
  go_ret
  exact ⟨rfl, hB⟩
set_option maxHeartbeats 4000000 in
set_option maxRecDepth 1000000 in
theorem back_nyn (a0o a0a a0b a0c a1 : Int) (a2 : ByteArray) (X K0 Q uo ua ub uc vo va vb vc : Int) (T R : ByteArray) (hK : (K0 == 0) = false) (w : World) (hS : Shp w) (hP : Pw w) (hE : Er w)
    (C1 : ∀ w : World, Shp w → Calls Tryd.prog 9 #[.agg #[.int .i64 a0o, .int .i64 a0a, .int .i64 a0b, .int .i64 a0c]] w fun e w' => e = .returned (.tuple #[.int .i64 X, .int .i64 K0]) ∧ Below w.heap.size w w')
    (C2 : ∀ w : World, Shp w → Pw w → Calls Tryd.prog 15 #[.agg #[.int .i64 a0o, .int .i64 a0a, .int .i64 a0b, .int .i64 a0c]] w fun e w' => e = .returned (.tuple #[.string T, .int .i64 K0]) ∧ Below w.heap.size w w')
    (C3 : ∀ w : World, Shp w → Calls Tryd.prog 11 #[.agg #[.int .i64 a0o, .int .i64 a0a, .int .i64 a0b, .int .i64 a0c]] w fun e w' => e = .returned (.int .i64 K0) ∧ Below w.heap.size w w')
    (C6 : ∀ w : World, Shp w → Calls Tryd.prog 13 #[.int .i64 a1] w fun e w' => e = .returned (.tuple #[.agg #[.int .i64 uo, .int .i64 ua, .int .i64 ub, .int .i64 uc], .int .i64 0]) ∧ Below w.heap.size w w')
    (C7 : ∀ w : World, Shp w → Calls Tryd.prog 9 #[.agg #[.int .i64 uo, .int .i64 ua, .int .i64 ub, .int .i64 uc]] w fun e w' => e = .returned (.tuple #[.int .i64 a1, .int .i64 0]) ∧ Below w.heap.size w w')
    (C8 : ∀ w : World, Shp w → Pw w → Er w → Calls Tryd.prog 17 #[.string a2] w fun e w' => e = .returned (.tuple #[.agg #[.int .i64 0, .int .i64 0, .int .i64 0, .int .i64 0], .int .i64 3]) ∧ Below w.heap.size w w')
    (C9 : ∀ w : World, Shp w → Pw w → Calls Tryd.prog 15 #[.agg #[.int .i64 0, .int .i64 0, .int .i64 0, .int .i64 0]] w fun e w' => e = .returned (.tuple #[.string R, .int .i64 0]) ∧ Below w.heap.size w w') :
    Calls Tryd.prog 8 #[.agg #[.int .i64 a0o, .int .i64 a0a, .int .i64 a0b, .int .i64 a0c], .int .i64 a1, .string a2] w fun e w' => e = .returned (.bool true) ∧ Below w.heap.size w w' := by
  have Bi := Box.new w #[.int .i64 a0o, .int .i64 a0a, .int .i64 a0b, .int .i64 a0c] 23
  have hB := Below.one w (.cells #[.int .i64 a0o, .int .i64 a0a, .int .i64 a0b, .int .i64 a0c] 23)
  have qBi := Bi.cell
  go_enter Tryd.func8, Tryd.ntmps8
  go_wp2_with (first | (go_at_call 9; first | (refine (C1 _ (hS.below hB)).mono ?_; clear C1; rintro e w1 ⟨rfl, hbb⟩; clear qBi; replace Bi := Bi.below hbb; replace hB := Below.step0 hB hbb; clear hbb; have qBi := Bi.cell) | (refine (C7 _ (hS.below hB)).mono ?_; clear C7; rintro e w5 ⟨rfl, hbb⟩; clear qBi qBu; replace Bi := Bi.below hbb; replace Bu := Bu.below hbb; replace hB := Below.step0 hB hbb; clear hbb; have qBi := Bi.cell; have qBu := Bu.cell)) | (go_at_call 15; first | (refine (C2 _ (hS.below hB) (hP.below hB)).mono ?_; clear C2; rintro e w2 ⟨rfl, hbb⟩; clear qBi; replace Bi := Bi.below hbb; replace hB := Below.step0 hB hbb; clear hbb; have qBi := Bi.cell) | (refine (C9 _ (hS.below hB) (hP.below hB)).mono ?_; clear C9; rintro e w7 ⟨rfl, hbb⟩; clear qBi qBu qBv; replace Bi := Bi.below hbb; replace Bu := Bu.below hbb; replace Bv := Bv.below hbb; replace hB := Below.step0 hB hbb; clear hbb; have qBi := Bi.cell; have qBu := Bu.cell; have qBv := Bv.cell)) | (go_at_call 11; first | (refine (C3 _ (hS.below hB)).mono ?_; clear C3; rintro e w3 ⟨rfl, hbb⟩; clear qBi; replace Bi := Bi.below hbb; replace hB := Below.step0 hB hbb; clear hbb; have qBi := Bi.cell)) | (go_at_call 13; first | (refine (C6 _ (hS.below hB)).mono ?_; clear C6; rintro e w4 ⟨rfl, hbb⟩; clear qBi; replace Bi := Bi.below hbb; replace hB := Below.step0 hB hbb; clear hbb; replace Bi := Bi.alloc (.cells #[.int .i64 uo, .int .i64 ua, .int .i64 ub, .int .i64 uc] 23); have Bu := Box.new w4 #[.int .i64 uo, .int .i64 ua, .int .i64 ub, .int .i64 uc] 23; replace hB := hB.alloc hB.size (.cells #[.int .i64 uo, .int .i64 ua, .int .i64 ub, .int .i64 uc] 23); have qBi := Bi.cell; have qBu := Bu.cell)) | (go_at_call 17; first | (refine (C8 _ (hS.below hB) (hP.below hB) (hE.below hB)).mono ?_; clear C8; rintro e w6 ⟨rfl, hbb⟩; clear qBi qBu; replace Bi := Bi.below hbb; replace Bu := Bu.below hbb; replace hB := Below.step0 hB hbb; clear hbb; replace Bi := Bi.alloc (.cells #[.int .i64 0, .int .i64 0, .int .i64 0, .int .i64 0] 23); replace Bu := Bu.alloc (.cells #[.int .i64 0, .int .i64 0, .int .i64 0, .int .i64 0] 23); have Bv := Box.new w6 #[.int .i64 0, .int .i64 0, .int .i64 0, .int .i64 0] 23; replace hB := hB.alloc hB.size (.cells #[.int .i64 0, .int .i64 0, .int .i64 0, .int .i64 0] 23); have qBi := Bi.cell; have qBu := Bu.cell; have qBv := Bv.cell)))
  go_ret
  exact ⟨rfl, hB⟩
set_option maxHeartbeats 4000000 in
set_option maxRecDepth 1000000 in
theorem back_nyy (a0o a0a a0b a0c a1 : Int) (a2 : ByteArray) (X K0 Q uo ua ub uc vo va vb vc : Int) (T R : ByteArray) (hK : (K0 == 0) = false) (w : World) (hS : Shp w) (hP : Pw w) (hE : Er w)
    (C1 : ∀ w : World, Shp w → Calls Tryd.prog 9 #[.agg #[.int .i64 a0o, .int .i64 a0a, .int .i64 a0b, .int .i64 a0c]] w fun e w' => e = .returned (.tuple #[.int .i64 X, .int .i64 K0]) ∧ Below w.heap.size w w')
    (C2 : ∀ w : World, Shp w → Pw w → Calls Tryd.prog 15 #[.agg #[.int .i64 a0o, .int .i64 a0a, .int .i64 a0b, .int .i64 a0c]] w fun e w' => e = .returned (.tuple #[.string T, .int .i64 K0]) ∧ Below w.heap.size w w')
    (C3 : ∀ w : World, Shp w → Calls Tryd.prog 11 #[.agg #[.int .i64 a0o, .int .i64 a0a, .int .i64 a0b, .int .i64 a0c]] w fun e w' => e = .returned (.int .i64 K0) ∧ Below w.heap.size w w')
    (C6 : ∀ w : World, Shp w → Calls Tryd.prog 13 #[.int .i64 a1] w fun e w' => e = .returned (.tuple #[.agg #[.int .i64 uo, .int .i64 ua, .int .i64 ub, .int .i64 uc], .int .i64 0]) ∧ Below w.heap.size w w')
    (C7 : ∀ w : World, Shp w → Calls Tryd.prog 9 #[.agg #[.int .i64 uo, .int .i64 ua, .int .i64 ub, .int .i64 uc]] w fun e w' => e = .returned (.tuple #[.int .i64 a1, .int .i64 0]) ∧ Below w.heap.size w w')
    (C8 : ∀ w : World, Shp w → Pw w → Er w → Calls Tryd.prog 17 #[.string a2] w fun e w' => e = .returned (.tuple #[.agg #[.int .i64 vo, .int .i64 va, .int .i64 vb, .int .i64 vc], .int .i64 0]) ∧ Below w.heap.size w w')
    (C9 : ∀ w : World, Shp w → Pw w → Calls Tryd.prog 15 #[.agg #[.int .i64 vo, .int .i64 va, .int .i64 vb, .int .i64 vc]] w fun e w' => e = .returned (.tuple #[.string a2, .int .i64 0]) ∧ Below w.heap.size w w') :
    Calls Tryd.prog 8 #[.agg #[.int .i64 a0o, .int .i64 a0a, .int .i64 a0b, .int .i64 a0c], .int .i64 a1, .string a2] w fun e w' => e = .returned (.bool true) ∧ Below w.heap.size w w' := by
  have Bi := Box.new w #[.int .i64 a0o, .int .i64 a0a, .int .i64 a0b, .int .i64 a0c] 23
  have hB := Below.one w (.cells #[.int .i64 a0o, .int .i64 a0a, .int .i64 a0b, .int .i64 a0c] 23)
  have qBi := Bi.cell
  go_enter Tryd.func8, Tryd.ntmps8
  go_wp2_with (first | (go_at_call 9; first | (refine (C1 _ (hS.below hB)).mono ?_; clear C1; rintro e w1 ⟨rfl, hbb⟩; clear qBi; replace Bi := Bi.below hbb; replace hB := Below.step0 hB hbb; clear hbb; have qBi := Bi.cell) | (refine (C7 _ (hS.below hB)).mono ?_; clear C7; rintro e w5 ⟨rfl, hbb⟩; clear qBi qBu; replace Bi := Bi.below hbb; replace Bu := Bu.below hbb; replace hB := Below.step0 hB hbb; clear hbb; have qBi := Bi.cell; have qBu := Bu.cell)) | (go_at_call 15; first | (refine (C2 _ (hS.below hB) (hP.below hB)).mono ?_; clear C2; rintro e w2 ⟨rfl, hbb⟩; clear qBi; replace Bi := Bi.below hbb; replace hB := Below.step0 hB hbb; clear hbb; have qBi := Bi.cell) | (refine (C9 _ (hS.below hB) (hP.below hB)).mono ?_; clear C9; rintro e w7 ⟨rfl, hbb⟩; clear qBi qBu qBv; replace Bi := Bi.below hbb; replace Bu := Bu.below hbb; replace Bv := Bv.below hbb; replace hB := Below.step0 hB hbb; clear hbb; have qBi := Bi.cell; have qBu := Bu.cell; have qBv := Bv.cell)) | (go_at_call 11; first | (refine (C3 _ (hS.below hB)).mono ?_; clear C3; rintro e w3 ⟨rfl, hbb⟩; clear qBi; replace Bi := Bi.below hbb; replace hB := Below.step0 hB hbb; clear hbb; have qBi := Bi.cell)) | (go_at_call 13; first | (refine (C6 _ (hS.below hB)).mono ?_; clear C6; rintro e w4 ⟨rfl, hbb⟩; clear qBi; replace Bi := Bi.below hbb; replace hB := Below.step0 hB hbb; clear hbb; replace Bi := Bi.alloc (.cells #[.int .i64 uo, .int .i64 ua, .int .i64 ub, .int .i64 uc] 23); have Bu := Box.new w4 #[.int .i64 uo, .int .i64 ua, .int .i64 ub, .int .i64 uc] 23; replace hB := hB.alloc hB.size (.cells #[.int .i64 uo, .int .i64 ua, .int .i64 ub, .int .i64 uc] 23); have qBi := Bi.cell; have qBu := Bu.cell)) | (go_at_call 17; first | (refine (C8 _ (hS.below hB) (hP.below hB) (hE.below hB)).mono ?_; clear C8; rintro e w6 ⟨rfl, hbb⟩; clear qBi qBu; replace Bi := Bi.below hbb; replace Bu := Bu.below hbb; replace hB := Below.step0 hB hbb; clear hbb; replace Bi := Bi.alloc (.cells #[.int .i64 vo, .int .i64 va, .int .i64 vb, .int .i64 vc] 23); replace Bu := Bu.alloc (.cells #[.int .i64 vo, .int .i64 va, .int .i64 vb, .int .i64 vc] 23); have Bv := Box.new w6 #[.int .i64 vo, .int .i64 va, .int .i64 vb, .int .i64 vc] 23; replace hB := hB.alloc hB.size (.cells #[.int .i64 vo, .int .i64 va, .int .i64 vb, .int .i64 vc] 23); have qBi := Bi.cell; have qBu := Bu.cell; have qBv := Bv.cell)))
  go_ret
  exact ⟨rfl, hB⟩
set_option maxHeartbeats 4000000 in
set_option maxRecDepth 1000000 in
theorem back_ynn (a0o a0a a0b a0c a1 : Int) (a2 : ByteArray) (X K0 Q uo ua ub uc vo va vb vc : Int) (T R : ByteArray) (hT : (T.toList == (⟨#[]⟩ : ByteArray).toList) = false) (hT2 : ¬ T.toList = []) (hT3 : (T.toList == []) = false) (w : World) (hS : Shp w) (hP : Pw w) (hE : Er w)
    (C1 : ∀ w : World, Shp w → Calls Tryd.prog 9 #[.agg #[.int .i64 a0o, .int .i64 a0a, .int .i64 a0b, .int .i64 a0c]] w fun e w' => e = .returned (.tuple #[.int .i64 X, .int .i64 0]) ∧ Below w.heap.size w w')
    (C2 : ∀ w : World, Shp w → Pw w → Calls Tryd.prog 15 #[.agg #[.int .i64 a0o, .int .i64 a0a, .int .i64 a0b, .int .i64 a0c]] w fun e w' => e = .returned (.tuple #[.string T, .int .i64 0]) ∧ Below w.heap.size w w')
    (C3 : ∀ w : World, Shp w → Calls Tryd.prog 11 #[.agg #[.int .i64 a0o, .int .i64 a0a, .int .i64 a0b, .int .i64 a0c]] w fun e w' => e = .returned (.int .i64 0) ∧ Below w.heap.size w w')
    (C4 : ∀ w : World, Shp w → Calls Tryd.prog 13 #[.int .i64 X] w fun e w' => e = .returned (.tuple #[.agg #[.int .i64 a0o, .int .i64 a0a, .int .i64 a0b, .int .i64 a0c], .int .i64 0]) ∧ Below w.heap.size w w')
    (C5 : ∀ w : World, Shp w → Pw w → Er w → Calls Tryd.prog 17 #[.string T] w fun e w' => e = .returned (.tuple #[.agg #[.int .i64 a0o, .int .i64 a0a, .int .i64 a0b, .int .i64 a0c], .int .i64 0]) ∧ Below w.heap.size w w')
    (C6 : ∀ w : World, Shp w → Calls Tryd.prog 13 #[.int .i64 a1] w fun e w' => e = .returned (.tuple #[.agg #[.int .i64 0, .int .i64 0, .int .i64 0, .int .i64 0], .int .i64 5]) ∧ Below w.heap.size w w')
    (C7 : ∀ w : World, Shp w → Calls Tryd.prog 9 #[.agg #[.int .i64 0, .int .i64 0, .int .i64 0, .int .i64 0]] w fun e w' => e = .returned (.tuple #[.int .i64 Q, .int .i64 0]) ∧ Below w.heap.size w w')
    (C8 : ∀ w : World, Shp w → Pw w → Er w → Calls Tryd.prog 17 #[.string a2] w fun e w' => e = .returned (.tuple #[.agg #[.int .i64 0, .int .i64 0, .int .i64 0, .int .i64 0], .int .i64 3]) ∧ Below w.heap.size w w')
    (C9 : ∀ w : World, Shp w → Pw w → Calls Tryd.prog 15 #[.agg #[.int .i64 0, .int .i64 0, .int .i64 0, .int .i64 0]] w fun e w' => e = .returned (.tuple #[.string R, .int .i64 0]) ∧ Below w.heap.size w w') :
    Calls Tryd.prog 8 #[.agg #[.int .i64 a0o, .int .i64 a0a, .int .i64 a0b, .int .i64 a0c], .int .i64 a1, .string a2] w fun e w' => e = .returned (.bool true) ∧ Below w.heap.size w w' := by
  have Bi := Box.new w #[.int .i64 a0o, .int .i64 a0a, .int .i64 a0b, .int .i64 a0c] 23
  have hB := Below.one w (.cells #[.int .i64 a0o, .int .i64 a0a, .int .i64 a0b, .int .i64 a0c] 23)
  have qBi := Bi.cell
  go_enter Tryd.func8, Tryd.ntmps8
  go_wp2_with (first | (go_at_call 9; first | (refine (C1 _ (hS.below hB)).mono ?_; clear C1; rintro e w1 ⟨rfl, hbb⟩; clear qBi; replace Bi := Bi.below hbb; replace hB := Below.step0 hB hbb; clear hbb; have qBi := Bi.cell) | (refine (C7 _ (hS.below hB)).mono ?_; clear C7; rintro e w7 ⟨rfl, hbb⟩; clear qBi qBx qBy qBu; replace Bi := Bi.below hbb; replace Bx := Bx.below hbb; replace By := By.below hbb; replace Bu := Bu.below hbb; replace hB := Below.step0 hB hbb; clear hbb; have qBi := Bi.cell; have qBx := Bx.cell; have qBy := By.cell; have qBu := Bu.cell)) | (go_at_call 15; first | (refine (C2 _ (hS.below hB) (hP.below hB)).mono ?_; clear C2; rintro e w2 ⟨rfl, hbb⟩; clear qBi; replace Bi := Bi.below hbb; replace hB := Below.step0 hB hbb; clear hbb; have qBi := Bi.cell) | (refine (C9 _ (hS.below hB) (hP.below hB)).mono ?_; clear C9; rintro e w9 ⟨rfl, hbb⟩; clear qBi qBx qBy qBu qBv; replace Bi := Bi.below hbb; replace Bx := Bx.below hbb; replace By := By.below hbb; replace Bu := Bu.below hbb; replace Bv := Bv.below hbb; replace hB := Below.step0 hB hbb; clear hbb; have qBi := Bi.cell; have qBx := Bx.cell; have qBy := By.cell; have qBu := Bu.cell; have qBv := Bv.cell)) | (go_at_call 11; first | (refine (C3 _ (hS.below hB)).mono ?_; clear C3; rintro e w3 ⟨rfl, hbb⟩; clear qBi; replace Bi := Bi.below hbb; replace hB := Below.step0 hB hbb; clear hbb; have qBi := Bi.cell)) | (go_at_call 13; first | (refine (C4 _ (hS.below hB)).mono ?_; clear C4; rintro e w4 ⟨rfl, hbb⟩; clear qBi; replace Bi := Bi.below hbb; replace hB := Below.step0 hB hbb; clear hbb; replace Bi := Bi.alloc (.cells #[.int .i64 a0o, .int .i64 a0a, .int .i64 a0b, .int .i64 a0c] 23); have Bx := Box.new w4 #[.int .i64 a0o, .int .i64 a0a, .int .i64 a0b, .int .i64 a0c] 23; replace hB := hB.alloc hB.size (.cells #[.int .i64 a0o, .int .i64 a0a, .int .i64 a0b, .int .i64 a0c] 23); have qBi := Bi.cell; have qBx := Bx.cell) | (refine (C6 _ (hS.below hB)).mono ?_; clear C6; rintro e w6 ⟨rfl, hbb⟩; clear qBi qBx qBy; replace Bi := Bi.below hbb; replace Bx := Bx.below hbb; replace By := By.below hbb; replace hB := Below.step0 hB hbb; clear hbb; replace Bi := Bi.alloc (.cells #[.int .i64 0, .int .i64 0, .int .i64 0, .int .i64 0] 23); replace Bx := Bx.alloc (.cells #[.int .i64 0, .int .i64 0, .int .i64 0, .int .i64 0] 23); replace By := By.alloc (.cells #[.int .i64 0, .int .i64 0, .int .i64 0, .int .i64 0] 23); have Bu := Box.new w6 #[.int .i64 0, .int .i64 0, .int .i64 0, .int .i64 0] 23; replace hB := hB.alloc hB.size (.cells #[.int .i64 0, .int .i64 0, .int .i64 0, .int .i64 0] 23); have qBi := Bi.cell; have qBx := Bx.cell; have qBy := By.cell; have qBu := Bu.cell)) | (go_at_call 17; first | (refine (C5 _ (hS.below hB) (hP.below hB) (hE.below hB)).mono ?_; clear C5; rintro e w5 ⟨rfl, hbb⟩; clear qBi qBx; replace Bi := Bi.below hbb; replace Bx := Bx.below hbb; replace hB := Below.step0 hB hbb; clear hbb; replace Bi := Bi.alloc (.cells #[.int .i64 a0o, .int .i64 a0a, .int .i64 a0b, .int .i64 a0c] 23); replace Bx := Bx.alloc (.cells #[.int .i64 a0o, .int .i64 a0a, .int .i64 a0b, .int .i64 a0c] 23); have By := Box.new w5 #[.int .i64 a0o, .int .i64 a0a, .int .i64 a0b, .int .i64 a0c] 23; replace hB := hB.alloc hB.size (.cells #[.int .i64 a0o, .int .i64 a0a, .int .i64 a0b, .int .i64 a0c] 23); have qBi := Bi.cell; have qBx := Bx.cell; have qBy := By.cell) | (refine (C8 _ (hS.below hB) (hP.below hB) (hE.below hB)).mono ?_; clear C8; rintro e w8 ⟨rfl, hbb⟩; clear qBi qBx qBy qBu; replace Bi := Bi.below hbb; replace Bx := Bx.below hbb; replace By := By.below hbb; replace Bu := Bu.below hbb; replace hB := Below.step0 hB hbb; clear hbb; replace Bi := Bi.alloc (.cells #[.int .i64 0, .int .i64 0, .int .i64 0, .int .i64 0] 23); replace Bx := Bx.alloc (.cells #[.int .i64 0, .int .i64 0, .int .i64 0, .int .i64 0] 23); replace By := By.alloc (.cells #[.int .i64 0, .int .i64 0, .int .i64 0, .int .i64 0] 23); replace Bu := Bu.alloc (.cells #[.int .i64 0, .int .i64 0, .int .i64 0, .int .i64 0] 23); have Bv := Box.new w8 #[.int .i64 0, .int .i64 0, .int .i64 0, .int .i64 0] 23; replace hB := hB.alloc hB.size (.cells #[.int .i64 0, .int .i64 0, .int .i64 0, .int .i64 0] 23); have qBi := Bi.cell; have qBx := Bx.cell; have qBy := By.cell; have qBu := Bu.cell; have qBv := Bv.cell)))
  go_ret
  exact ⟨rfl, hB⟩
set_option maxHeartbeats 4000000 in
set_option maxRecDepth 1000000 in
theorem back_yny (a0o a0a a0b a0c a1 : Int) (a2 : ByteArray) (X K0 Q uo ua ub uc vo va vb vc : Int) (T R : ByteArray) (hT : (T.toList == (⟨#[]⟩ : ByteArray).toList) = false) (hT2 : ¬ T.toList = []) (hT3 : (T.toList == []) = false) (w : World) (hS : Shp w) (hP : Pw w) (hE : Er w)
    (C1 : ∀ w : World, Shp w → Calls Tryd.prog 9 #[.agg #[.int .i64 a0o, .int .i64 a0a, .int .i64 a0b, .int .i64 a0c]] w fun e w' => e = .returned (.tuple #[.int .i64 X, .int .i64 0]) ∧ Below w.heap.size w w')
    (C2 : ∀ w : World, Shp w → Pw w → Calls Tryd.prog 15 #[.agg #[.int .i64 a0o, .int .i64 a0a, .int .i64 a0b, .int .i64 a0c]] w fun e w' => e = .returned (.tuple #[.string T, .int .i64 0]) ∧ Below w.heap.size w w')
    (C3 : ∀ w : World, Shp w → Calls Tryd.prog 11 #[.agg #[.int .i64 a0o, .int .i64 a0a, .int .i64 a0b, .int .i64 a0c]] w fun e w' => e = .returned (.int .i64 0) ∧ Below w.heap.size w w')
    (C4 : ∀ w : World, Shp w → Calls Tryd.prog 13 #[.int .i64 X] w fun e w' => e = .returned (.tuple #[.agg #[.int .i64 a0o, .int .i64 a0a, .int .i64 a0b, .int .i64 a0c], .int .i64 0]) ∧ Below w.heap.size w w')
    (C5 : ∀ w : World, Shp w → Pw w → Er w → Calls Tryd.prog 17 #[.string T] w fun e w' => e = .returned (.tuple #[.agg #[.int .i64 a0o, .int .i64 a0a, .int .i64 a0b, .int .i64 a0c], .int .i64 0]) ∧ Below w.heap.size w w')
    (C6 : ∀ w : World, Shp w → Calls Tryd.prog 13 #[.int .i64 a1] w fun e w' => e = .returned (.tuple #[.agg #[.int .i64 0, .int .i64 0, .int .i64 0, .int .i64 0], .int .i64 5]) ∧ Below w.heap.size w w')
    (C7 : ∀ w : World, Shp w → Calls Tryd.prog 9 #[.agg #[.int .i64 0, .int .i64 0, .int .i64 0, .int .i64 0]] w fun e w' => e = .returned (.tuple #[.int .i64 Q, .int .i64 0]) ∧ Below w.heap.size w w')
    (C8 : ∀ w : World, Shp w → Pw w → Er w → Calls Tryd.prog 17 #[.string a2] w fun e w' => e = .returned (.tuple #[.agg #[.int .i64 vo, .int .i64 va, .int .i64 vb, .int .i64 vc], .int .i64 0]) ∧ Below w.heap.size w w')
    (C9 : ∀ w : World, Shp w → Pw w → Calls Tryd.prog 15 #[.agg #[.int .i64 vo, .int .i64 va, .int .i64 vb, .int .i64 vc]] w fun e w' => e = .returned (.tuple #[.string a2, .int .i64 0]) ∧ Below w.heap.size w w') :
    Calls Tryd.prog 8 #[.agg #[.int .i64 a0o, .int .i64 a0a, .int .i64 a0b, .int .i64 a0c], .int .i64 a1, .string a2] w fun e w' => e = .returned (.bool true) ∧ Below w.heap.size w w' := by
  have Bi := Box.new w #[.int .i64 a0o, .int .i64 a0a, .int .i64 a0b, .int .i64 a0c] 23
  have hB := Below.one w (.cells #[.int .i64 a0o, .int .i64 a0a, .int .i64 a0b, .int .i64 a0c] 23)
  have qBi := Bi.cell
  go_enter Tryd.func8, Tryd.ntmps8
  go_wp2_with (first | (go_at_call 9; first | (refine (C1 _ (hS.below hB)).mono ?_; clear C1; rintro e w1 ⟨rfl, hbb⟩; clear qBi; replace Bi := Bi.below hbb; replace hB := Below.step0 hB hbb; clear hbb; have qBi := Bi.cell) | (refine (C7 _ (hS.below hB)).mono ?_; clear C7; rintro e w7 ⟨rfl, hbb⟩; clear qBi qBx qBy qBu; replace Bi := Bi.below hbb; replace Bx := Bx.below hbb; replace By := By.below hbb; replace Bu := Bu.below hbb; replace hB := Below.step0 hB hbb; clear hbb; have qBi := Bi.cell; have qBx := Bx.cell; have qBy := By.cell; have qBu := Bu.cell)) | (go_at_call 15; first | (refine (C2 _ (hS.below hB) (hP.below hB)).mono ?_; clear C2; rintro e w2 ⟨rfl, hbb⟩; clear qBi; replace Bi := Bi.below hbb; replace hB := Below.step0 hB hbb; clear hbb; have qBi := Bi.cell) | (refine (C9 _ (hS.below hB) (hP.below hB)).mono ?_; clear C9; rintro e w9 ⟨rfl, hbb⟩; clear qBi qBx qBy qBu qBv; replace Bi := Bi.below hbb; replace Bx := Bx.below hbb; replace By := By.below hbb; replace Bu := Bu.below hbb; replace Bv := Bv.below hbb; replace hB := Below.step0 hB hbb; clear hbb; have qBi := Bi.cell; have qBx := Bx.cell; have qBy := By.cell; have qBu := Bu.cell; have qBv := Bv.cell)) | (go_at_call 11; first | (refine (C3 _ (hS.below hB)).mono ?_; clear C3; rintro e w3 ⟨rfl, hbb⟩; clear qBi; replace Bi := Bi.below hbb; replace hB := Below.step0 hB hbb; clear hbb; have qBi := Bi.cell)) | (go_at_call 13; first | (refine (C4 _ (hS.below hB)).mono ?_; clear C4; rintro e w4 ⟨rfl, hbb⟩; clear qBi; replace Bi := Bi.below hbb; replace hB := Below.step0 hB hbb; clear hbb; replace Bi := Bi.alloc (.cells #[.int .i64 a0o, .int .i64 a0a, .int .i64 a0b, .int .i64 a0c] 23); have Bx := Box.new w4 #[.int .i64 a0o, .int .i64 a0a, .int .i64 a0b, .int .i64 a0c] 23; replace hB := hB.alloc hB.size (.cells #[.int .i64 a0o, .int .i64 a0a, .int .i64 a0b, .int .i64 a0c] 23); have qBi := Bi.cell; have qBx := Bx.cell) | (refine (C6 _ (hS.below hB)).mono ?_; clear C6; rintro e w6 ⟨rfl, hbb⟩; clear qBi qBx qBy; replace Bi := Bi.below hbb; replace Bx := Bx.below hbb; replace By := By.below hbb; replace hB := Below.step0 hB hbb; clear hbb; replace Bi := Bi.alloc (.cells #[.int .i64 0, .int .i64 0, .int .i64 0, .int .i64 0] 23); replace Bx := Bx.alloc (.cells #[.int .i64 0, .int .i64 0, .int .i64 0, .int .i64 0] 23); replace By := By.alloc (.cells #[.int .i64 0, .int .i64 0, .int .i64 0, .int .i64 0] 23); have Bu := Box.new w6 #[.int .i64 0, .int .i64 0, .int .i64 0, .int .i64 0] 23; replace hB := hB.alloc hB.size (.cells #[.int .i64 0, .int .i64 0, .int .i64 0, .int .i64 0] 23); have qBi := Bi.cell; have qBx := Bx.cell; have qBy := By.cell; have qBu := Bu.cell)) | (go_at_call 17; first | (refine (C5 _ (hS.below hB) (hP.below hB) (hE.below hB)).mono ?_; clear C5; rintro e w5 ⟨rfl, hbb⟩; clear qBi qBx; replace Bi := Bi.below hbb; replace Bx := Bx.below hbb; replace hB := Below.step0 hB hbb; clear hbb; replace Bi := Bi.alloc (.cells #[.int .i64 a0o, .int .i64 a0a, .int .i64 a0b, .int .i64 a0c] 23); replace Bx := Bx.alloc (.cells #[.int .i64 a0o, .int .i64 a0a, .int .i64 a0b, .int .i64 a0c] 23); have By := Box.new w5 #[.int .i64 a0o, .int .i64 a0a, .int .i64 a0b, .int .i64 a0c] 23; replace hB := hB.alloc hB.size (.cells #[.int .i64 a0o, .int .i64 a0a, .int .i64 a0b, .int .i64 a0c] 23); have qBi := Bi.cell; have qBx := Bx.cell; have qBy := By.cell) | (refine (C8 _ (hS.below hB) (hP.below hB) (hE.below hB)).mono ?_; clear C8; rintro e w8 ⟨rfl, hbb⟩; clear qBi qBx qBy qBu; replace Bi := Bi.below hbb; replace Bx := Bx.below hbb; replace By := By.below hbb; replace Bu := Bu.below hbb; replace hB := Below.step0 hB hbb; clear hbb; replace Bi := Bi.alloc (.cells #[.int .i64 vo, .int .i64 va, .int .i64 vb, .int .i64 vc] 23); replace Bx := Bx.alloc (.cells #[.int .i64 vo, .int .i64 va, .int .i64 vb, .int .i64 vc] 23); replace By := By.alloc (.cells #[.int .i64 vo, .int .i64 va, .int .i64 vb, .int .i64 vc] 23); replace Bu := Bu.alloc (.cells #[.int .i64 vo, .int .i64 va, .int .i64 vb, .int .i64 vc] 23); have Bv := Box.new w8 #[.int .i64 vo, .int .i64 va, .int .i64 vb, .int .i64 vc] 23; replace hB := hB.alloc hB.size (.cells #[.int .i64 vo, .int .i64 va, .int .i64 vb, .int .i64 vc] 23); have qBi := Bi.cell; have qBx := Bx.cell; have qBy := By.cell; have qBu := Bu.cell; have qBv := Bv.cell)))
  go_ret
  exact ⟨rfl, hB⟩
set_option maxHeartbeats 4000000 in
set_option maxRecDepth 1000000 in
theorem back_yyn (a0o a0a a0b a0c a1 : Int) (a2 : ByteArray) (X K0 Q uo ua ub uc vo va vb vc : Int) (T R : ByteArray) (hT : (T.toList == (⟨#[]⟩ : ByteArray).toList) = false) (hT2 : ¬ T.toList = []) (hT3 : (T.toList == []) = false) (w : World) (hS : Shp w) (hP : Pw w) (hE : Er w)
    (C1 : ∀ w : World, Shp w → Calls Tryd.prog 9 #[.agg #[.int .i64 a0o, .int .i64 a0a, .int .i64 a0b, .int .i64 a0c]] w fun e w' => e = .returned (.tuple #[.int .i64 X, .int .i64 0]) ∧ Below w.heap.size w w')
    (C2 : ∀ w : World, Shp w → Pw w → Calls Tryd.prog 15 #[.agg #[.int .i64 a0o, .int .i64 a0a, .int .i64 a0b, .int .i64 a0c]] w fun e w' => e = .returned (.tuple #[.string T, .int .i64 0]) ∧ Below w.heap.size w w')
    (C3 : ∀ w : World, Shp w → Calls Tryd.prog 11 #[.agg #[.int .i64 a0o, .int .i64 a0a, .int .i64 a0b, .int .i64 a0c]] w fun e w' => e = .returned (.int .i64 0) ∧ Below w.heap.size w w')
    (C4 : ∀ w : World, Shp w → Calls Tryd.prog 13 #[.int .i64 X] w fun e w' => e = .returned (.tuple #[.agg #[.int .i64 a0o, .int .i64 a0a, .int .i64 a0b, .int .i64 a0c], .int .i64 0]) ∧ Below w.heap.size w w')
    (C5 : ∀ w : World, Shp w → Pw w → Er w → Calls Tryd.prog 17 #[.string T] w fun e w' => e = .returned (.tuple #[.agg #[.int .i64 a0o, .int .i64 a0a, .int .i64 a0b, .int .i64 a0c], .int .i64 0]) ∧ Below w.heap.size w w')
    (C6 : ∀ w : World, Shp w → Calls Tryd.prog 13 #[.int .i64 a1] w fun e w' => e = .returned (.tuple #[.agg #[.int .i64 uo, .int .i64 ua, .int .i64 ub, .int .i64 uc], .int .i64 0]) ∧ Below w.heap.size w w')
    (C7 : ∀ w : World, Shp w → Calls Tryd.prog 9 #[.agg #[.int .i64 uo, .int .i64 ua, .int .i64 ub, .int .i64 uc]] w fun e w' => e = .returned (.tuple #[.int .i64 a1, .int .i64 0]) ∧ Below w.heap.size w w')
    (C8 : ∀ w : World, Shp w → Pw w → Er w → Calls Tryd.prog 17 #[.string a2] w fun e w' => e = .returned (.tuple #[.agg #[.int .i64 0, .int .i64 0, .int .i64 0, .int .i64 0], .int .i64 3]) ∧ Below w.heap.size w w')
    (C9 : ∀ w : World, Shp w → Pw w → Calls Tryd.prog 15 #[.agg #[.int .i64 0, .int .i64 0, .int .i64 0, .int .i64 0]] w fun e w' => e = .returned (.tuple #[.string R, .int .i64 0]) ∧ Below w.heap.size w w') :
    Calls Tryd.prog 8 #[.agg #[.int .i64 a0o, .int .i64 a0a, .int .i64 a0b, .int .i64 a0c], .int .i64 a1, .string a2] w fun e w' => e = .returned (.bool true) ∧ Below w.heap.size w w' := by
  have Bi := Box.new w #[.int .i64 a0o, .int .i64 a0a, .int .i64 a0b, .int .i64 a0c] 23
  have hB := Below.one w (.cells #[.int .i64 a0o, .int .i64 a0a, .int .i64 a0b, .int .i64 a0c] 23)
  have qBi := Bi.cell
  go_enter Tryd.func8, Tryd.ntmps8
  go_wp2_with (first | (go_at_call 9; first | (refine (C1 _ (hS.below hB)).mono ?_; clear C1; rintro e w1 ⟨rfl, hbb⟩; clear qBi; replace Bi := Bi.below hbb; replace hB := Below.step0 hB hbb; clear hbb; have qBi := Bi.cell) | (refine (C7 _ (hS.below hB)).mono ?_; clear C7; rintro e w7 ⟨rfl, hbb⟩; clear qBi qBx qBy qBu; replace Bi := Bi.below hbb; replace Bx := Bx.below hbb; replace By := By.below hbb; replace Bu := Bu.below hbb; replace hB := Below.step0 hB hbb; clear hbb; have qBi := Bi.cell; have qBx := Bx.cell; have qBy := By.cell; have qBu := Bu.cell)) | (go_at_call 15; first | (refine (C2 _ (hS.below hB) (hP.below hB)).mono ?_; clear C2; rintro e w2 ⟨rfl, hbb⟩; clear qBi; replace Bi := Bi.below hbb; replace hB := Below.step0 hB hbb; clear hbb; have qBi := Bi.cell) | (refine (C9 _ (hS.below hB) (hP.below hB)).mono ?_; clear C9; rintro e w9 ⟨rfl, hbb⟩; clear qBi qBx qBy qBu qBv; replace Bi := Bi.below hbb; replace Bx := Bx.below hbb; replace By := By.below hbb; replace Bu := Bu.below hbb; replace Bv := Bv.below hbb; replace hB := Below.step0 hB hbb; clear hbb; have qBi := Bi.cell; have qBx := Bx.cell; have qBy := By.cell; have qBu := Bu.cell; have qBv := Bv.cell)) | (go_at_call 11; first | (refine (C3 _ (hS.below hB)).mono ?_; clear C3; rintro e w3 ⟨rfl, hbb⟩; clear qBi; replace Bi := Bi.below hbb; replace hB := Below.step0 hB hbb; clear hbb; have qBi := Bi.cell)) | (go_at_call 13; first | (refine (C4 _ (hS.below hB)).mono ?_; clear C4; rintro e w4 ⟨rfl, hbb⟩; clear qBi; replace Bi := Bi.below hbb; replace hB := Below.step0 hB hbb; clear hbb; replace Bi := Bi.alloc (.cells #[.int .i64 a0o, .int .i64 a0a, .int .i64 a0b, .int .i64 a0c] 23); have Bx := Box.new w4 #[.int .i64 a0o, .int .i64 a0a, .int .i64 a0b, .int .i64 a0c] 23; replace hB := hB.alloc hB.size (.cells #[.int .i64 a0o, .int .i64 a0a, .int .i64 a0b, .int .i64 a0c] 23); have qBi := Bi.cell; have qBx := Bx.cell) | (refine (C6 _ (hS.below hB)).mono ?_; clear C6; rintro e w6 ⟨rfl, hbb⟩; clear qBi qBx qBy; replace Bi := Bi.below hbb; replace Bx := Bx.below hbb; replace By := By.below hbb; replace hB := Below.step0 hB hbb; clear hbb; replace Bi := Bi.alloc (.cells #[.int .i64 uo, .int .i64 ua, .int .i64 ub, .int .i64 uc] 23); replace Bx := Bx.alloc (.cells #[.int .i64 uo, .int .i64 ua, .int .i64 ub, .int .i64 uc] 23); replace By := By.alloc (.cells #[.int .i64 uo, .int .i64 ua, .int .i64 ub, .int .i64 uc] 23); have Bu := Box.new w6 #[.int .i64 uo, .int .i64 ua, .int .i64 ub, .int .i64 uc] 23; replace hB := hB.alloc hB.size (.cells #[.int .i64 uo, .int .i64 ua, .int .i64 ub, .int .i64 uc] 23); have qBi := Bi.cell; have qBx := Bx.cell; have qBy := By.cell; have qBu := Bu.cell)) | (go_at_call 17; first | (refine (C5 _ (hS.below hB) (hP.below hB) (hE.below hB)).mono ?_; clear C5; rintro e w5 ⟨rfl, hbb⟩; clear qBi qBx; replace Bi := Bi.below hbb; replace Bx := Bx.below hbb; replace hB := Below.step0 hB hbb; clear hbb; replace Bi := Bi.alloc (.cells #[.int .i64 a0o, .int .i64 a0a, .int .i64 a0b, .int .i64 a0c] 23); replace Bx := Bx.alloc (.cells #[.int .i64 a0o, .int .i64 a0a, .int .i64 a0b, .int .i64 a0c] 23); have By := Box.new w5 #[.int .i64 a0o, .int .i64 a0a, .int .i64 a0b, .int .i64 a0c] 23; replace hB := hB.alloc hB.size (.cells #[.int .i64 a0o, .int .i64 a0a, .int .i64 a0b, .int .i64 a0c] 23); have qBi := Bi.cell; have qBx := Bx.cell; have qBy := By.cell) | (refine (C8 _ (hS.below hB) (hP.below hB) (hE.below hB)).mono ?_; clear C8; rintro e w8 ⟨rfl, hbb⟩; clear qBi qBx qBy qBu; replace Bi := Bi.below hbb; replace Bx := Bx.below hbb; replace By := By.below hbb; replace Bu := Bu.below hbb; replace hB := Below.step0 hB hbb; clear hbb; replace Bi := Bi.alloc (.cells #[.int .i64 0, .int .i64 0, .int .i64 0, .int .i64 0] 23); replace Bx := Bx.alloc (.cells #[.int .i64 0, .int .i64 0, .int .i64 0, .int .i64 0] 23); replace By := By.alloc (.cells #[.int .i64 0, .int .i64 0, .int .i64 0, .int .i64 0] 23); replace Bu := Bu.alloc (.cells #[.int .i64 0, .int .i64 0, .int .i64 0, .int .i64 0] 23); have Bv := Box.new w8 #[.int .i64 0, .int .i64 0, .int .i64 0, .int .i64 0] 23; replace hB := hB.alloc hB.size (.cells #[.int .i64 0, .int .i64 0, .int .i64 0, .int .i64 0] 23); have qBi := Bi.cell; have qBx := Bx.cell; have qBy := By.cell; have qBu := Bu.cell; have qBv := Bv.cell)))
  go_ret
  exact ⟨rfl, hB⟩
set_option maxHeartbeats 4000000 in
set_option maxRecDepth 1000000 in
theorem back_yyy (a0o a0a a0b a0c a1 : Int) (a2 : ByteArray) (X K0 Q uo ua ub uc vo va vb vc : Int) (T R : ByteArray) (hT : (T.toList == (⟨#[]⟩ : ByteArray).toList) = false) (hT2 : ¬ T.toList = []) (hT3 : (T.toList == []) = false) (w : World) (hS : Shp w) (hP : Pw w) (hE : Er w)
    (C1 : ∀ w : World, Shp w → Calls Tryd.prog 9 #[.agg #[.int .i64 a0o, .int .i64 a0a, .int .i64 a0b, .int .i64 a0c]] w fun e w' => e = .returned (.tuple #[.int .i64 X, .int .i64 0]) ∧ Below w.heap.size w w')
    (C2 : ∀ w : World, Shp w → Pw w → Calls Tryd.prog 15 #[.agg #[.int .i64 a0o, .int .i64 a0a, .int .i64 a0b, .int .i64 a0c]] w fun e w' => e = .returned (.tuple #[.string T, .int .i64 0]) ∧ Below w.heap.size w w')
    (C3 : ∀ w : World, Shp w → Calls Tryd.prog 11 #[.agg #[.int .i64 a0o, .int .i64 a0a, .int .i64 a0b, .int .i64 a0c]] w fun e w' => e = .returned (.int .i64 0) ∧ Below w.heap.size w w')
    (C4 : ∀ w : World, Shp w → Calls Tryd.prog 13 #[.int .i64 X] w fun e w' => e = .returned (.tuple #[.agg #[.int .i64 a0o, .int .i64 a0a, .int .i64 a0b, .int .i64 a0c], .int .i64 0]) ∧ Below w.heap.size w w')
    (C5 : ∀ w : World, Shp w → Pw w → Er w → Calls Tryd.prog 17 #[.string T] w fun e w' => e = .returned (.tuple #[.agg #[.int .i64 a0o, .int .i64 a0a, .int .i64 a0b, .int .i64 a0c], .int .i64 0]) ∧ Below w.heap.size w w')
    (C6 : ∀ w : World, Shp w → Calls Tryd.prog 13 #[.int .i64 a1] w fun e w' => e = .returned (.tuple #[.agg #[.int .i64 uo, .int .i64 ua, .int .i64 ub, .int .i64 uc], .int .i64 0]) ∧ Below w.heap.size w w')
    (C7 : ∀ w : World, Shp w → Calls Tryd.prog 9 #[.agg #[.int .i64 uo, .int .i64 ua, .int .i64 ub, .int .i64 uc]] w fun e w' => e = .returned (.tuple #[.int .i64 a1, .int .i64 0]) ∧ Below w.heap.size w w')
    (C8 : ∀ w : World, Shp w → Pw w → Er w → Calls Tryd.prog 17 #[.string a2] w fun e w' => e = .returned (.tuple #[.agg #[.int .i64 vo, .int .i64 va, .int .i64 vb, .int .i64 vc], .int .i64 0]) ∧ Below w.heap.size w w')
    (C9 : ∀ w : World, Shp w → Pw w → Calls Tryd.prog 15 #[.agg #[.int .i64 vo, .int .i64 va, .int .i64 vb, .int .i64 vc]] w fun e w' => e = .returned (.tuple #[.string a2, .int .i64 0]) ∧ Below w.heap.size w w') :
    Calls Tryd.prog 8 #[.agg #[.int .i64 a0o, .int .i64 a0a, .int .i64 a0b, .int .i64 a0c], .int .i64 a1, .string a2] w fun e w' => e = .returned (.bool true) ∧ Below w.heap.size w w' := by
  have Bi := Box.new w #[.int .i64 a0o, .int .i64 a0a, .int .i64 a0b, .int .i64 a0c] 23
  have hB := Below.one w (.cells #[.int .i64 a0o, .int .i64 a0a, .int .i64 a0b, .int .i64 a0c] 23)
  have qBi := Bi.cell
  go_enter Tryd.func8, Tryd.ntmps8
  go_wp2_with (first | (go_at_call 9; first | (refine (C1 _ (hS.below hB)).mono ?_; clear C1; rintro e w1 ⟨rfl, hbb⟩; clear qBi; replace Bi := Bi.below hbb; replace hB := Below.step0 hB hbb; clear hbb; have qBi := Bi.cell) | (refine (C7 _ (hS.below hB)).mono ?_; clear C7; rintro e w7 ⟨rfl, hbb⟩; clear qBi qBx qBy qBu; replace Bi := Bi.below hbb; replace Bx := Bx.below hbb; replace By := By.below hbb; replace Bu := Bu.below hbb; replace hB := Below.step0 hB hbb; clear hbb; have qBi := Bi.cell; have qBx := Bx.cell; have qBy := By.cell; have qBu := Bu.cell)) | (go_at_call 15; first | (refine (C2 _ (hS.below hB) (hP.below hB)).mono ?_; clear C2; rintro e w2 ⟨rfl, hbb⟩; clear qBi; replace Bi := Bi.below hbb; replace hB := Below.step0 hB hbb; clear hbb; have qBi := Bi.cell) | (refine (C9 _ (hS.below hB) (hP.below hB)).mono ?_; clear C9; rintro e w9 ⟨rfl, hbb⟩; clear qBi qBx qBy qBu qBv; replace Bi := Bi.below hbb; replace Bx := Bx.below hbb; replace By := By.below hbb; replace Bu := Bu.below hbb; replace Bv := Bv.below hbb; replace hB := Below.step0 hB hbb; clear hbb; have qBi := Bi.cell; have qBx := Bx.cell; have qBy := By.cell; have qBu := Bu.cell; have qBv := Bv.cell)) | (go_at_call 11; first | (refine (C3 _ (hS.below hB)).mono ?_; clear C3; rintro e w3 ⟨rfl, hbb⟩; clear qBi; replace Bi := Bi.below hbb; replace hB := Below.step0 hB hbb; clear hbb; have qBi := Bi.cell)) | (go_at_call 13; first | (refine (C4 _ (hS.below hB)).mono ?_; clear C4; rintro e w4 ⟨rfl, hbb⟩; clear qBi; replace Bi := Bi.below hbb; replace hB := Below.step0 hB hbb; clear hbb; replace Bi := Bi.alloc (.cells #[.int .i64 a0o, .int .i64 a0a, .int .i64 a0b, .int .i64 a0c] 23); have Bx := Box.new w4 #[.int .i64 a0o, .int .i64 a0a, .int .i64 a0b, .int .i64 a0c] 23; replace hB := hB.alloc hB.size (.cells #[.int .i64 a0o, .int .i64 a0a, .int .i64 a0b, .int .i64 a0c] 23); have qBi := Bi.cell; have qBx := Bx.cell) | (refine (C6 _ (hS.below hB)).mono ?_; clear C6; rintro e w6 ⟨rfl, hbb⟩; clear qBi qBx qBy; replace Bi := Bi.below hbb; replace Bx := Bx.below hbb; replace By := By.below hbb; replace hB := Below.step0 hB hbb; clear hbb; replace Bi := Bi.alloc (.cells #[.int .i64 uo, .int .i64 ua, .int .i64 ub, .int .i64 uc] 23); replace Bx := Bx.alloc (.cells #[.int .i64 uo, .int .i64 ua, .int .i64 ub, .int .i64 uc] 23); replace By := By.alloc (.cells #[.int .i64 uo, .int .i64 ua, .int .i64 ub, .int .i64 uc] 23); have Bu := Box.new w6 #[.int .i64 uo, .int .i64 ua, .int .i64 ub, .int .i64 uc] 23; replace hB := hB.alloc hB.size (.cells #[.int .i64 uo, .int .i64 ua, .int .i64 ub, .int .i64 uc] 23); have qBi := Bi.cell; have qBx := Bx.cell; have qBy := By.cell; have qBu := Bu.cell)) | (go_at_call 17; first | (refine (C5 _ (hS.below hB) (hP.below hB) (hE.below hB)).mono ?_; clear C5; rintro e w5 ⟨rfl, hbb⟩; clear qBi qBx; replace Bi := Bi.below hbb; replace Bx := Bx.below hbb; replace hB := Below.step0 hB hbb; clear hbb; replace Bi := Bi.alloc (.cells #[.int .i64 a0o, .int .i64 a0a, .int .i64 a0b, .int .i64 a0c] 23); replace Bx := Bx.alloc (.cells #[.int .i64 a0o, .int .i64 a0a, .int .i64 a0b, .int .i64 a0c] 23); have By := Box.new w5 #[.int .i64 a0o, .int .i64 a0a, .int .i64 a0b, .int .i64 a0c] 23; replace hB := hB.alloc hB.size (.cells #[.int .i64 a0o, .int .i64 a0a, .int .i64 a0b, .int .i64 a0c] 23); have qBi := Bi.cell; have qBx := Bx.cell; have qBy := By.cell) | (refine (C8 _ (hS.below hB) (hP.below hB) (hE.below hB)).mono ?_; clear C8; rintro e w8 ⟨rfl, hbb⟩; clear qBi qBx qBy qBu; replace Bi := Bi.below hbb; replace Bx := Bx.below hbb; replace By := By.below hbb; replace Bu := Bu.below hbb; replace hB := Below.step0 hB hbb; clear hbb; replace Bi := Bi.alloc (.cells #[.int .i64 vo, .int .i64 va, .int .i64 vb, .int .i64 vc] 23); replace Bx := Bx.alloc (.cells #[.int .i64 vo, .int .i64 va, .int .i64 vb, .int .i64 vc] 23); replace By := By.alloc (.cells #[.int .i64 vo, .int .i64 va, .int .i64 vb, .int .i64 vc] 23); replace Bu := Bu.alloc (.cells #[.int .i64 vo, .int .i64 va, .int .i64 vb, .int .i64 vc] 23); have Bv := Box.new w8 #[.int .i64 vo, .int .i64 va, .int .i64 vb, .int .i64 vc] 23; replace hB := hB.alloc hB.size (.cells #[.int .i64 vo, .int .i64 va, .int .i64 vb, .int .i64 vc] 23); have qBi := Bi.cell; have qBx := Bx.cell; have qBy := By.cell; have qBu := Bu.cell; have qBv := Bv.cell)))
  go_ret
  exact ⟨rfl, hB⟩

set_option maxHeartbeats 4000000 in
set_option maxRecDepth 1000000 in
theorem walk (a0o a0a a0b a0c : Int) (a1 : Int) (a2 : ByteArray) (I0 : ib a0o a0a a0b a0c) (b1 : -9223372036854775808 ≤ a1 ∧ a1 ≤ 9223372036854775807) (z2 : a2.size ≤ maxLen) (r2 : a2.size ≤ 140737488351232) (w : World) (hS : Shp w) (m : Int) (hM : w.cell? ⟨1, 0, none⟩ = some (.int .i64 m)) (zM : 1 < w.heap.size) (hP : Pw w) (hE : Er w) :
    Calls Tryd.prog 8 #[.agg #[.int .i64 a0o, .int .i64 a0a, .int .i64 a0b, .int .i64 a0c], .int .i64 a1, .string a2] w fun e w' => e = .returned (.bool true) ∧ Below w.heap.size w w' := by
  obtain ⟨l, rfl⟩ : ∃ l, a2 = bL l := ⟨_, bL_of a2⟩
  have hl : l.length ≤ 140737488351232 := by rw [bL_size] at r2; exact r2
  have C1 := fun w hS => inst_pack a0o a0a a0b a0c w hS
  have C2 := fun w hS hP => inst_text a0o a0a a0b a0c w hS hP
  have C3 := fun w hS => inst_check a0o a0a a0b a0c w hS
  have C6 := fun w hS => inst_read a1 w hS b1 (readD a1) rfl
  have C8 := fun w hS hP hE => inst_parse l w hS hP hE hl (parseD l) rfl
  by_cases hc : chkD a0o a0a a0b a0c = 0
  · rw [pack_ok hc, hc] at C1
    rw [text_ok hc, hc] at C2
    rw [hc] at C3
    have C4 := fun w hS => inst_read (numD a0o a0a a0b a0c) w hS (num_b hc) _ (read_num hc)
    have C5 := fun w hS hP hE => inst_parse (textL a0o.toNat a0a a0b a0c) w hS hP hE (by have r := chkD_ok hc; have := text_len2 a0o.toNat (by omega) a0a a0b a0c (by omega); omega) _ (parse_text hc)
    have hT := str_differ (text_ne hc)
    have e0 : (⟨#[]⟩ : ByteArray).toList = [] := by rw [ByteArray.toList_eq]
    have hT3 : ((bL (textL a0o.toNat a0a a0b a0c)).toList == []) = false := by rw [← e0]; exact hT
    have hT2 : ¬ (bL (textL a0o.toNat a0a a0b a0c)).toList = [] := by simpa using hT3
    rcases read_cases a1 with hu | ⟨hu1, hu2, hu3⟩
    · rw [hu] at C6
      have C7 := fun w hS => inst_pack 0 0 0 0 w hS
      rw [pack_ok chk0, chk0] at C7
      rcases parse_cases l with ⟨hv, _⟩ | ⟨hv1, hv2, hv3⟩
      · rw [hv] at C8
        have C9 := fun w hS hP => inst_text 0 0 0 0 w hS hP
        rw [text_ok chk0, chk0] at C9
        exact back_ynn a0o a0a a0b a0c a1 (bL l) (numD a0o a0a a0b a0c) 0 (numD 0 0 0 0) 0 0 0 0 0 0 0 0 (bL (textL a0o.toNat a0a a0b a0c)) (bL (textL (0 : Int).toNat 0 0 0)) hT hT2 hT3 w hS hP hE C1 C2 C3 C4 C5 C6 C7 C8 C9
      · rw [hv1] at C8
        have C9 := fun w hS hP => inst_text (parseD l).o (parseD l).a (parseD l).b (parseD l).c w hS hP
        rw [text_ok hv2, hv2, hv3] at C9
        exact back_yny a0o a0a a0b a0c a1 (bL l) (numD a0o a0a a0b a0c) 0 (numD 0 0 0 0) 0 0 0 0 (parseD l).o (parseD l).a (parseD l).b (parseD l).c (bL (textL a0o.toNat a0a a0b a0c)) ⟨#[]⟩ hT hT2 hT3 w hS hP hE C1 C2 C3 C4 C5 C6 C7 C8 C9
    · rw [hu1] at C6
      have C7 := fun w hS => inst_pack (readD a1).o (readD a1).a (readD a1).b (readD a1).c w hS
      rw [pack_ok hu2, hu2, hu3] at C7
      rcases parse_cases l with ⟨hv, _⟩ | ⟨hv1, hv2, hv3⟩
      · rw [hv] at C8
        have C9 := fun w hS hP => inst_text 0 0 0 0 w hS hP
        rw [text_ok chk0, chk0] at C9
        exact back_yyn a0o a0a a0b a0c a1 (bL l) (numD a0o a0a a0b a0c) 0 0 (readD a1).o (readD a1).a (readD a1).b (readD a1).c 0 0 0 0 (bL (textL a0o.toNat a0a a0b a0c)) (bL (textL (0 : Int).toNat 0 0 0)) hT hT2 hT3 w hS hP hE C1 C2 C3 C4 C5 C6 C7 C8 C9
      · rw [hv1] at C8
        have C9 := fun w hS hP => inst_text (parseD l).o (parseD l).a (parseD l).b (parseD l).c w hS hP
        rw [text_ok hv2, hv2, hv3] at C9
        exact back_yyy a0o a0a a0b a0c a1 (bL l) (numD a0o a0a a0b a0c) 0 0 (readD a1).o (readD a1).a (readD a1).b (readD a1).c (parseD l).o (parseD l).a (parseD l).b (parseD l).c (bL (textL a0o.toNat a0a a0b a0c)) ⟨#[]⟩ hT hT2 hT3 w hS hP hE C1 C2 C3 C4 C5 C6 C7 C8 C9
  · have hK : (chkD a0o a0a a0b a0c == 0) = false := by simpa using hc
    rcases read_cases a1 with hu | ⟨hu1, hu2, hu3⟩
    · rw [hu] at C6
      have C7 := fun w hS => inst_pack 0 0 0 0 w hS
      rw [pack_ok chk0, chk0] at C7
      rcases parse_cases l with ⟨hv, _⟩ | ⟨hv1, hv2, hv3⟩
      · rw [hv] at C8
        have C9 := fun w hS hP => inst_text 0 0 0 0 w hS hP
        rw [text_ok chk0, chk0] at C9
        exact back_nnn a0o a0a a0b a0c a1 (bL l) (packD a0o a0a a0b a0c) (chkD a0o a0a a0b a0c) (numD 0 0 0 0) 0 0 0 0 0 0 0 0 (bL (textD a0o a0a a0b a0c)) (bL (textL (0 : Int).toNat 0 0 0)) hK w hS hP hE C1 C2 C3 C6 C7 C8 C9
      · rw [hv1] at C8
        have C9 := fun w hS hP => inst_text (parseD l).o (parseD l).a (parseD l).b (parseD l).c w hS hP
        rw [text_ok hv2, hv2, hv3] at C9
        exact back_nny a0o a0a a0b a0c a1 (bL l) (packD a0o a0a a0b a0c) (chkD a0o a0a a0b a0c) (numD 0 0 0 0) 0 0 0 0 (parseD l).o (parseD l).a (parseD l).b (parseD l).c (bL (textD a0o a0a a0b a0c)) ⟨#[]⟩ hK w hS hP hE C1 C2 C3 C6 C7 C8 C9
    · rw [hu1] at C6
      have C7 := fun w hS => inst_pack (readD a1).o (readD a1).a (readD a1).b (readD a1).c w hS
      rw [pack_ok hu2, hu2, hu3] at C7
      rcases parse_cases l with ⟨hv, _⟩ | ⟨hv1, hv2, hv3⟩
      · rw [hv] at C8
        have C9 := fun w hS hP => inst_text 0 0 0 0 w hS hP
        rw [text_ok chk0, chk0] at C9
        exact back_nyn a0o a0a a0b a0c a1 (bL l) (packD a0o a0a a0b a0c) (chkD a0o a0a a0b a0c) 0 (readD a1).o (readD a1).a (readD a1).b (readD a1).c 0 0 0 0 (bL (textD a0o a0a a0b a0c)) (bL (textL (0 : Int).toNat 0 0 0)) hK w hS hP hE C1 C2 C3 C6 C7 C8 C9
      · rw [hv1] at C8
        have C9 := fun w hS hP => inst_text (parseD l).o (parseD l).a (parseD l).b (parseD l).c w hS hP
        rw [text_ok hv2, hv2, hv3] at C9
        exact back_nyy a0o a0a a0b a0c a1 (bL l) (packD a0o a0a a0b a0c) (chkD a0o a0a a0b a0c) 0 (readD a1).o (readD a1).a (readD a1).b (readD a1).c (parseD l).o (parseD l).a (parseD l).b (parseD l).c (bL (textD a0o a0a a0b a0c)) ⟨#[]⟩ hK w hS hP hE C1 C2 C3 C6 C7 C8 C9

set_option maxRecDepth 1000000 in
theorem contract (H : Type) (enc : TypeId × Value → H) (W : World) (base : Nat) (args : Array Value) (ds gs : List (DataW H)) (before : List MemPlace)
    (hval : ∀ (j : Nat) t v, Tryd.f8.params[j]? = some t → args[j]? = some v → Value.okWide Tryd.prog W .any base t v)
    (hW : DataW.Whole enc Tryd.prog Tryd.f8.params.toList Rows.instBackSpec.vars false W args.toList ds gs before) (hsh : W.ShapedOpen Tryd.prog) (hz : (DataW.weightsEach Tryd.prog (Tryd.f8.params.toList ++ (OpenSpec.ofChange Rows.instBackSpec).bare.plain.varTypes Tryd.prog) (ds ++ gs)).all (· ≤ reachBytes) = true) (hL : laidMet Tryd.prog Rows.instBackRow.laid W) :
    Calls Tryd.prog 8 args W fun e W' => ∃ v, e = .returned v ∧ Rows.instBackSpec.post enc Tryd.prog Tryd.f8 false true false false W args v W' := by
  have hW' := hW
  obtain ⟨p, q, hA0, hV, rfl, hfz, hnd⟩ := hW
  have hA : DataW.TrodAll enc Tryd.prog W 0 (fun _ => true) true Tryd.f8.params.toList args.toList ds p := hA0
  rw [Tryd.params8] at hA hval
  obtain ⟨v0, vs0, d0, ds0, p0, q0, hargs, rfl, rfl, h0, r0⟩ := trodAll_cons hA
  obtain ⟨v1, vs1, d1, ds1, p1, q1, rfl, rfl, rfl, h1, r1⟩ := trodAll_cons r0
  obtain ⟨v2, vs2, d2, ds2, p2, q2, rfl, rfl, rfl, h2, r2⟩ := trodAll_cons r1
  obtain ⟨rfl, rfl, rfl⟩ := trodAll_nil r2
  obtain rfl : args = #[v0, v1, v2] := by cases args; simp_all
  obtain ⟨rfl, rfl⟩ := trodVars_none hV
  obtain ⟨a0o, a0a, a0b, a0c, rfl, rfl, rfl, w0o, w0a, w0b, w0c⟩ := open_inst (hval 0 23 v0 rfl rfl) h0
  obtain ⟨a1, rfl, rfl, rfl, w1⟩ := open_int Tryd.underlying3 (hval 1 3 v1 rfl rfl) h1
  obtain ⟨a2, rfl, rfl, rfl, z2⟩ := open_string Tryd.underlying9 (hval 2 9 v2 rfl rfl) h2
  have r2 : a2.size ≤ 140737488351232 := by
    have h := sized_string hz (j := 2) (t := 9) (by rw [Tryd.params8]; rfl) rfl
    exact Nat.le_trans (Nat.le_of_eq (Array.length_toList (xs := a2.data)).symm) (Nat.le_trans h (by decide))
  clear hA0
  obtain ⟨m, hM⟩ : ∃ m, W.cell? ⟨1, 0, none⟩ = some (.int .i64 m) := maxLen_cell W hsh
  have zM : 1 < W.heap.size := by
    rcases Nat.lt_or_ge 1 W.heap.size with h | h
    · exact h
    · rw [World.cell?] at hM; simp [Array.getElem?_eq_none h] at hM
  refine (walk a0o a0a a0b a0c a1 a2 ⟨bounds_i64 w0o, bounds_i64 w0a, bounds_i64 w0b, bounds_i64 w0c⟩ (bounds_i64 w1) z2 r2 W (shp_of_laid hL (.tail _ (.tail _ (.tail _ (.tail _ (.tail _ (.head _))))))) m hM zM (pw_of_laid hL (.tail _ (.tail _ (.head _)))) (er_of_laid hL (.tail _ (.tail _ (.tail _ (.tail _ (.head _))))) (.tail _ (.tail _ (.tail _ (.head _)))))).mono fun e W' ⟨he, bel⟩ => ?_
  subst he
  exact ⟨_, rfl, _, _, _, [], [], [], hW', trodAll_mk1 (shut_bool Tryd.underlying4 _), (trodAll_cons_mk (shut_inst w0o w0a w0b w0c) (trodAll_cons_mk (shut_int Tryd.underlying3 w1) (trodAll_cons_mk (shut_string Tryd.underlying9 z2) trodAll_mk0))), rfl, bel.frame _, fun h => by cases h⟩

theorem reads (os : Os) {H : Type} (enc : TypeId × Value → H) : ∃ places, DataW.whole enc Tryd.prog ((World.laidAll Tryd.prog os Rows.instBackRow.laid).forCall (fun _ _ => 0) ⟨#[], #[.agg #[.int .i64 0, .int .i64 0, .int .i64 0, .int .i64 0], .int .i64 0, .string ⟨#[]⟩], []⟩).memory Tryd.f8.params.toList Rows.instBackSpec.vars false (#[.agg #[.int .i64 0, .int .i64 0, .int .i64 0, .int .i64 0], .int .i64 0, .string ⟨#[]⟩] : Array Value).toList 8 = some ([.agg [.lit (.int .i64 0), .lit (.int .i64 0), .lit (.int .i64 0), .lit (.int .i64 0)], .lit (.int .i64 0), .lit (.string [])], [], places) :=
  ⟨[], by kernel_rfl⟩
theorem laid_met (os : Os) : laidMet Tryd.prog Rows.instBackRow.laid ((World.laidAll Tryd.prog os Rows.instBackRow.laid).forCall (fun _ _ => 0) ⟨#[], #[.agg #[.int .i64 0, .int .i64 0, .int .i64 0, .int .i64 0], .int .i64 0, .string ⟨#[]⟩], []⟩).memory :=
  laidMet_laidAll _ (by kernel_rfl) (by kernel_rfl)

set_option maxRecDepth 100000 in
theorem lifted (os : Os) (started : os.Started) (H : Type) (enc : TypeId × Value → H) (F : Stop.Interp) :
    ReturnsInHanded {} Tryd.checked os 8 .any ((OpenSpec.ofChange Rows.instBackSpec).preRow enc Tryd.prog Tryd.f8 Rows.instBackRow.domain false Rows.instBackRow.laid) (((OpenSpec.ofChange Rows.instBackSpec).at F).post enc Tryd.prog Tryd.f8 false true false false) := by
  obtain ⟨places, hx⟩ := reads os enc
  refine returnsInHanded_of_row (C := Tryd.checked) (s := OpenSpec.ofChange Rows.instBackSpec) own started (by kernel_rfl) Tryd.func8
    (witness_row_atRef (enc := enc) (C := Tryd.checked) false (World.laidAll Tryd.prog os Rows.instBackRow.laid) #[.agg #[.int .i64 0, .int .i64 0, .int .i64 0, .int .i64 0], .int .i64 0, .string ⟨#[]⟩] (World.laidAll_os _ _ _) (by kernel_rfl) (by kernel_rfl) (by kernel_rfl)
      (OpenSpec.preRow_of_cond 8 hx (by kernel_rfl) (fun k hk => by cases hk) (by kernel_rfl) (laid_met os))) ?_
  intro W base args ds gs before hval hW _ hcond hz hL hsh _
  exact contract H enc W base args ds gs before hval hW hsh hz hL

theorem said : Rows.InstBackSaid :=
  OpenClaim.holds_of_cond 8 Tryd.f8 rfl rfl rfl rfl rfl rfl rfl ⟨rfl, rfl, rfl, rfl, rfl⟩ rfl rfl rfl rfl rfl (by kernel_rfl) Tryd.func8 (by kernel_rfl)
    (of_decide_eq_true (by kernel_rfl)) (by unfold Func.isWrapper; first | (rw [if_pos (by decide +kernel)]; kernel_rfl) | (rw [if_neg (by decide +kernel)]; exact ⟨rfl, rfl⟩))
    (fun os started H enc _ F => by rw [OpenClaim.pre_eq_preRow]; exact lifted os started H enc F)
theorem plain (f : FuncId) (fn : Func) (hf : Tryd.pinned.checked.prog.funcNamed Rows.instBackRow.func = some f) (hfn : Tryd.pinned.checked.prog.funcs[f]? = some fn) :
    true = Tryd.pinned.checked.prog.looks [] ∧ ∀ (j : Nat) t, fn.params[j]? = some t → Tryd.pinned.checked.prog.wantsStandIn t = false := by
  obtain rfl : f = 8 := Option.some.inj ((show Tryd.prog.funcNamed Rows.instBackRow.func = some 8 by kernel_rfl).symm.trans hf) |>.symm
  obtain rfl : fn = Tryd.f8 := (Option.some.inj (Tryd.func8.symm.trans hfn)).symm
  refine ⟨by kernel_rfl, fun j t ht => ?_⟩
  rw [Tryd.params8] at ht
  have hm : t ∈ [23, 3, 9] := by simpa using Array.mem_of_getElem? ht
  have hall : ([23, 3, 9].all fun u => !Tryd.prog.wantsStandIn u) = true := by kernel_rfl
  exact (show Tryd.prog.wantsStandIn t = false by simpa using List.all_eq_true.1 hall t hm)
theorem proved : Rows.InstBackCardSaid :=
  Claim7.holds_tied_plain_at .later [] _ _ _ _ said (fun _ h => by cases h) (by kernel_rfl) (fun _ h => by cases h) instBack_row_tie rfl ⟨rfl, rfl⟩ (by kernel_rfl) rfl plain (by kernel_rfl)
#print axioms proved
end Go.Proofs.YtdambfcgiggiiaaDoor.instBack
